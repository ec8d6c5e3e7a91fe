
/-
  The walk of paciolilaw09.RuleSelf. (Made by tools/ruself.py.)
-/
import Derived.Test.YtkigdfpgdkgcaaaRuGj
import Derived.Test.YtkigdfpgdkgcaaaRuLj
import Derived.Test.YtkigdfpgdkgcaaaHeld
import Derived.Deep.CutBlock
import Derived.Deep.DeepCutAuto
namespace Go.Proofs.Ytkigdfpgdkgcaaa
open Go.RowKit
set_option maxRecDepth 100000
set_option linter.unusedVariables false
set_option linter.unusedSimpArgs false

theorem again_same (X Y : Array Value) (l f g : Int) (w : World) (x2 : X[2]? = some (.int .i64 l)) (x3 : X[3]? = some (.int .i64 f)) (y2 : Y[2]? = some (.int .i64 l)) (y3 : Y[3]? = some (.int .i64 g)) (h : (bits .andNot .i64 (bits .xor .i64 f g) 9 != 0) = false) :
    Calls Try.prog 19 #[.agg X, .agg Y] w fun e' w' => e' = .returned (.int .i64 14) ∧ Below w.heap.size w w' := by
  have r0 : Blk ((w.alloc (.cells X 36)).alloc (.cells Y 36)) w.heap.size X 36 := (Blk.new w X 36 rfl).alloc _
  have r1 : Blk ((w.alloc (.cells X 36)).alloc (.cells Y 36)) (w.heap.size + 1) Y 36 := Blk.new _ _ _ (by simp)
  have c2 := (r0.cell 2).trans x2
  have c3 := (r0.cell 3).trans x3
  have d2 := (r1.cell 2).trans y2
  have d3 := (r1.cell 3).trans y3
  have hll : (l != l) = false := by simp
  clear r0 r1 x2 x3 y2 y3
  go_enter Try.func19, Try.ntmps19
  go_wp2
  go_ret
  exact ⟨rfl, below2 w _ _⟩
theorem yields_blk {ops : Array Oper} {S : World → Prop} {op : Oper} {a : Act} (hw : Region.wanted op (yielded ops a.tmps) = true) (ty : TypeId) (x : Operand) (ho : op.op = .load ty x)
    (g : Nat) (hx : a.eval x = .pointer (some ⟨g, 0, none⟩)) (t : TypeId) (cs : Array Value) (d : TypeDesc) (hS : ∀ w, S w → Blk w g cs t)
    (hu : Try.prog.underlying ty = some d) (hd : (match d with | .struct _ | .array _ _ => true | _ => false) = true) (hi : (Try.prog.info? ty).map (·.size) = some cs.size) : YieldsIf Try.prog ops S op (.agg cs) a :=
  .inl ⟨hw, fun w hw' => by
    unfold execOp
    simp only [ho, hx, Instr.loadAt, Instr.sureAddr, Sem.run_bind, Sem.run_pure, Result.andThen_ok, run_loadVar_row (P := Try.prog) w g t ty cs (0, 0) d (hS w hw') hu (by cases d <;> simp_all) hi]⟩
theorem flag_closed (x : Int) : (bits .andNot .i64 (bits .xor .i64 (bits .andNot .i64 x 8) (bits .or .i64 x 8)) 9 != 0) = false := by
  have e : bits .xor .i64 (bits .andNot .i64 x 8) (bits .or .i64 x 8) = IntKind.i64.wrap ((8#64).toNat : Int) := by
    rw [xor_i, andNot_i, or_i, B_wrap, B_wrap]
    have : (B x &&& ~~~B 8) ^^^ (B x ||| B 8) = 8#64 := by
      show (B x &&& ~~~8#64) ^^^ (B x ||| 8#64) = 8#64
      ext i hi
      simp only [BitVec.getElem_xor, BitVec.getElem_or, BitVec.getElem_and, BitVec.getElem_not]
      cases (B x)[i] <;> cases (8#64)[i] <;> rfl
    rw [this]
  rw [e]
  decide +kernel
def SelfC (w : World) (X Y : Array Value) (u v : Value) (wc : World) : Prop := ∃ gA gB, u = .pointer (some ⟨gA, 0, none⟩) ∧ v = .pointer (some ⟨gB, 0, none⟩) ∧ Blk wc w.heap.size X 26 ∧ Blk wc (w.heap.size + 1) Y 36 ∧ Blk wc gA X 26 ∧ Blk wc gB Y 36 ∧ gA ≠ gB ∧ w.heap.size + 1 < gA ∧ w.heap.size + 1 < gB ∧ Below w.heap.size w wc
set_option maxHeartbeats 4000000 in
theorem law_self (X Y : Array Value) (f fa r l : Int) (w : World) (hsX : X.size = 16) (hsY : Y.size = 46) (hoX : X.all (·.oneCell') = true) (hoY : Y.all (·.oneCell') = true) (x12 : X[12]? = some (.int .i64 f)) (t13 t15 : Int) (x13 : X[13]? = some (.int .i64 t13)) (x15 : X[15]? = some (.int .i64 t15)) (y2 : Y[2]? = some (.int .i64 l)) (y3 : Y[3]? = some (.int .i64 fa)) (y13 : Y[13]? = some (.int .i64 r))
    (KXX : Hid (∀ w, Calls Try.prog 12 #[.agg X, .agg X] w fun e w' => e = .returned (.int .i64 14) ∧ Below w.heap.size w w'))
    (KUX : Hid (∀ w, Calls Try.prog 12 #[.agg (((X.setIfInBounds 12 (.int .i64 (bits .xor .i64 f 1))).setIfInBounds 13 (.int .i64 9)).setIfInBounds 15 (.int .i64 4)), .agg X] w fun e w' => e = .returned (.int .i64 14) ∧ Below w.heap.size w w')) :
    Calls Try.prog 8 #[.agg X, .agg Y] w fun e' w' => e' = .returned (.bool true) ∧ Below w.heap.size w w' := by
  have IX : Hid ((Try.prog.info? 26).map (·.size) = some X.size) := by show _ = _; rw [hsX]; exact info_tr
  have IY : Hid ((Try.prog.info? 36).map (·.size) = some Y.size) := by show _ = _; rw [hsY]; exact info_ac
  have SX : Hid (16 = X.size) := hsX.symm
  have SY : Hid (46 = Y.size) := hsY.symm
  have OX : Hid (X.all (·.oneCell') = true) := hoX
  have OY : Hid (Y.all (·.oneCell') = true) := hoY
  have X12 : Hid (X[12]? = some (.int .i64 f)) := x12
  have X13 : Hid (X[13]? = some (.int .i64 t13)) := x13
  have X15 : Hid (X[15]? = some (.int .i64 t15)) := x15
  have Y3 : Hid (Y[3]? = some (.int .i64 fa)) := y3
  have Y13 : Hid (Y[13]? = some (.int .i64 r)) := y13
  have IU : Hid ((Try.prog.info? 26).map (·.size) = some (((X.setIfInBounds 12 (.int .i64 (bits .xor .i64 f 1))).setIfInBounds 13 (.int .i64 9)).setIfInBounds 15 (.int .i64 4)).size) := by show _ = _; simp only [Array.size_setIfInBounds]; rw [hsX]; exact info_tr
  have IA : Hid ((Try.prog.info? 36).map (·.size) = some (Y.setIfInBounds 3 (.int .i64 (bits .andNot .i64 fa 8))).size) := by show _ = _; simp only [Array.size_setIfInBounds]; rw [hsY]; exact info_ac
  have IB : Hid ((Try.prog.info? 36).map (·.size) = some ((Y.setIfInBounds 3 (.int .i64 (bits .or .i64 fa 8))).setIfInBounds 13 (.int .i64 (wrap64 (r + 1)))).size) := by show _ = _; simp only [Array.size_setIfInBounds]; rw [hsY]; exact info_ac
  have GAB : Hid (∀ w, Calls Try.prog 19 #[.agg (Y.setIfInBounds 3 (.int .i64 (bits .andNot .i64 fa 8))), .agg ((Y.setIfInBounds 3 (.int .i64 (bits .or .i64 fa 8))).setIfInBounds 13 (.int .i64 (wrap64 (r + 1))))] w fun e w' => e = .returned (.int .i64 14) ∧ Below w.heap.size w w') := fun w =>
    again_same (Y.setIfInBounds 3 (.int .i64 (bits .andNot .i64 fa 8))) ((Y.setIfInBounds 3 (.int .i64 (bits .or .i64 fa 8))).setIfInBounds 13 (.int .i64 (wrap64 (r + 1)))) l (bits .andNot .i64 fa 8) (bits .or .i64 fa 8) w (get_set y2 (by decide)) (by simp [hsY]) (get_set (get_set y2 (by decide)) (by decide)) (get_set (by simp [hsY]) (by decide)) (flag_closed fa)
  have GAA : Hid (∀ w, Calls Try.prog 19 #[.agg (Y.setIfInBounds 3 (.int .i64 (bits .andNot .i64 fa 8))), .agg (Y.setIfInBounds 3 (.int .i64 (bits .andNot .i64 fa 8)))] w fun e w' => e = .returned (.int .i64 14) ∧ Below w.heap.size w w') := fun w =>
    again_same (Y.setIfInBounds 3 (.int .i64 (bits .andNot .i64 fa 8))) (Y.setIfInBounds 3 (.int .i64 (bits .andNot .i64 fa 8))) l (bits .andNot .i64 fa 8) (bits .andNot .i64 fa 8) w (get_set y2 (by decide)) (by simp [hsY]) (get_set y2 (by decide)) (by simp [hsY]) (by rw [xor_same]; decide +kernel)
  clear hsX hsY hoX hoY x12 x13 x15 y2 y3 y13
  go_enter Try.func8, Try.ntmps8
  go_wp2_with fail
  refine (fit9_any _).mono ?_
  rintro e' w1 ⟨rfl, hb1⟩
  have R0 : Hid (Blk w1 w.heap.size X 26) := ((Blk.new w X 26 rfl).alloc _).later hb1
  have R1 : Hid (Blk w1 (w.heap.size + 1) Y 36) := (Blk.new (w.alloc (.cells X 26)) Y 36 (by simp)).later hb1
  have B1 : Hid (Below w.heap.size w w1) := (below2 w _ _).trans (hb1.mono (by simp; omega))
  have Z1 : Hid (w.heap.size + 1 < w1.heap.size) := R1.out.lt
  clear hb1
  go_upto_region 3 with fail
  go_cut [5, 6, 9, 10] (fun u v x y wc => SelfC w X Y u v wc)
  case first =>
    refine wp_region_D (fun _ => true) (fun w' => Blk w' w.heap.size X 26 ∧ Blk w' (w.heap.size + 1) Y 36) (by kernel_rfl) ?_
    have hS : Blk w1.drew w.heap.size X 26 ∧ Blk w1.drew (w.heap.size + 1) Y 36 := ⟨R0.out.drew, R1.out.drew⟩
    have B0 : Below w.heap.size w w1.drew := B1.out.drew
    have HGv0 : w.heap.size + 1 < w1.drew.heap.size := Z1.out
    generalize w1.drew = v0 at *
    refine wpAnyD_take (i := 0) rfl (by kernel_rfl) (by kernel_rfl) (by kernel_rfl) (by kernel_rfl) (fun _ _ _ h => h) (yields_blk (by rfl) 26 _ rfl w.heap.size rfl 26 X _ (fun _ h => h.1) Try.underlying26 rfl IX.out) hS ?_
    simp only [Act.put, List.setIfInBounds_toArray, List.set_cons_zero, List.set_cons_succ]
    refine wpAnyD_take (i := 1) rfl (by kernel_rfl) (by kernel_rfl) (by kernel_rfl) (by kernel_rfl) (fun _ _ _ h => h) (yields_blk (by rfl) 36 _ rfl (w.heap.size + 1) rfl 36 Y _ (fun _ h => h.2) Try.underlying36 rfl IY.out) hS ?_
    simp only [Act.put, List.setIfInBounds_toArray, List.set_cons_zero, List.set_cons_succ]
    refine wpAnyD_all (rs := [2, 3]) (by kernel_rfl) (by simp) ?_
    refine AllD.cons (i := 2) rfl (by rfl) (fun K hK => ?_) ?_
    · skip
      try go_simp
      have hSn : Blk (v0.alloc (.cells #[.int .u64 0, .int .u64 0, .int .u64 0, .int .u64 0, .int .u64 0, .int .u64 0, .int .u64 0, .int .u64 0, .int .u64 0, .int .u64 0, .int .i64 0, .int .i64 0, .int .i64 0, .int .i64 0, .int .i64 0, .int .i64 0] 26)) w.heap.size X 26 ∧ Blk (v0.alloc (.cells #[.int .u64 0, .int .u64 0, .int .u64 0, .int .u64 0, .int .u64 0, .int .u64 0, .int .u64 0, .int .u64 0, .int .u64 0, .int .u64 0, .int .i64 0, .int .i64 0, .int .i64 0, .int .i64 0, .int .i64 0, .int .i64 0] 26)) (w.heap.size + 1) Y 36 := ⟨hS.1.alloc _, hS.2.alloc _⟩
      refine hK.out _ _ (fun _ => hSn) ?_
      clear hK K hS
      try simp only [Act.put, List.setIfInBounds_toArray, List.set_cons_zero, List.set_cons_succ]
      have RA1 : Blk (v0.alloc (.cells #[.int .u64 0, .int .u64 0, .int .u64 0, .int .u64 0, .int .u64 0, .int .u64 0, .int .u64 0, .int .u64 0, .int .u64 0, .int .u64 0, .int .i64 0, .int .i64 0, .int .i64 0, .int .i64 0, .int .i64 0, .int .i64 0] 26)) v0.heap.size #[.int .u64 0, .int .u64 0, .int .u64 0, .int .u64 0, .int .u64 0, .int .u64 0, .int .u64 0, .int .u64 0, .int .u64 0, .int .u64 0, .int .i64 0, .int .i64 0, .int .i64 0, .int .i64 0, .int .i64 0, .int .i64 0] 26 := Blk.new v0 _ _ rfl
      have B1 := B0.alloc B0.size (.cells #[.int .u64 0, .int .u64 0, .int .u64 0, .int .u64 0, .int .u64 0, .int .u64 0, .int .u64 0, .int .u64 0, .int .u64 0, .int .u64 0, .int .i64 0, .int .i64 0, .int .i64 0, .int .i64 0, .int .i64 0, .int .i64 0] 26)
      have hS := hSn
      have G0A : w.heap.size + 1 < v0.heap.size := HGv0
      have HGv1 : w.heap.size + 1 < (v0.alloc (.cells #[.int .u64 0, .int .u64 0, .int .u64 0, .int .u64 0, .int .u64 0, .int .u64 0, .int .u64 0, .int .u64 0, .int .u64 0, .int .u64 0, .int .i64 0, .int .i64 0, .int .i64 0, .int .i64 0, .int .i64 0, .int .i64 0] 26)).heap.size := by simp; omega
      clear hSn B0
      generalize v0.alloc (.cells #[.int .u64 0, .int .u64 0, .int .u64 0, .int .u64 0, .int .u64 0, .int .u64 0, .int .u64 0, .int .u64 0, .int .u64 0, .int .u64 0, .int .i64 0, .int .i64 0, .int .i64 0, .int .i64 0, .int .i64 0, .int .i64 0] 26) = v1 at *
      clear HGv0
      generalize v0.heap.size = gA at *
      refine wpAnyD_only (i := 3) rfl (by kernel_rfl) (by rfl) (fun K hK => ?_)
      try go_simp
      have hSn : Blk (v1.alloc (.cells #[.int .u64 0, .int .u64 0, .int .i64 0, .int .i64 0, .int .u64 0, .int .u64 0, .int .u64 0, .int .u64 0, .int .u64 0, .int .u64 0, .int .u64 0, .int .u64 0, .int .i64 0, .int .i64 0, .int .u8 0, .int .u8 0, .int .u8 0, .int .u8 0, .int .u8 0, .int .u8 0, .int .u8 0, .int .u8 0, .int .u8 0, .int .u8 0, .int .u8 0, .int .u8 0, .int .u8 0, .int .u8 0, .int .u8 0, .int .u8 0, .int .u8 0, .int .u8 0, .int .u8 0, .int .u8 0, .int .u8 0, .int .u8 0, .int .u8 0, .int .u8 0, .int .u8 0, .int .u8 0, .int .u8 0, .int .u8 0, .int .u8 0, .int .u8 0, .int .u8 0, .int .u8 0] 36)) w.heap.size X 26 ∧ Blk (v1.alloc (.cells #[.int .u64 0, .int .u64 0, .int .i64 0, .int .i64 0, .int .u64 0, .int .u64 0, .int .u64 0, .int .u64 0, .int .u64 0, .int .u64 0, .int .u64 0, .int .u64 0, .int .i64 0, .int .i64 0, .int .u8 0, .int .u8 0, .int .u8 0, .int .u8 0, .int .u8 0, .int .u8 0, .int .u8 0, .int .u8 0, .int .u8 0, .int .u8 0, .int .u8 0, .int .u8 0, .int .u8 0, .int .u8 0, .int .u8 0, .int .u8 0, .int .u8 0, .int .u8 0, .int .u8 0, .int .u8 0, .int .u8 0, .int .u8 0, .int .u8 0, .int .u8 0, .int .u8 0, .int .u8 0, .int .u8 0, .int .u8 0, .int .u8 0, .int .u8 0, .int .u8 0, .int .u8 0] 36)) (w.heap.size + 1) Y 36 := ⟨hS.1.alloc _, hS.2.alloc _⟩
      refine hK.out _ _ (fun _ => hSn) ?_
      clear hK K hS
      try simp only [Act.put, List.setIfInBounds_toArray, List.set_cons_zero, List.set_cons_succ]
      have RB2 : Blk (v1.alloc (.cells #[.int .u64 0, .int .u64 0, .int .i64 0, .int .i64 0, .int .u64 0, .int .u64 0, .int .u64 0, .int .u64 0, .int .u64 0, .int .u64 0, .int .u64 0, .int .u64 0, .int .i64 0, .int .i64 0, .int .u8 0, .int .u8 0, .int .u8 0, .int .u8 0, .int .u8 0, .int .u8 0, .int .u8 0, .int .u8 0, .int .u8 0, .int .u8 0, .int .u8 0, .int .u8 0, .int .u8 0, .int .u8 0, .int .u8 0, .int .u8 0, .int .u8 0, .int .u8 0, .int .u8 0, .int .u8 0, .int .u8 0, .int .u8 0, .int .u8 0, .int .u8 0, .int .u8 0, .int .u8 0, .int .u8 0, .int .u8 0, .int .u8 0, .int .u8 0, .int .u8 0, .int .u8 0] 36)) v1.heap.size #[.int .u64 0, .int .u64 0, .int .i64 0, .int .i64 0, .int .u64 0, .int .u64 0, .int .u64 0, .int .u64 0, .int .u64 0, .int .u64 0, .int .u64 0, .int .u64 0, .int .i64 0, .int .i64 0, .int .u8 0, .int .u8 0, .int .u8 0, .int .u8 0, .int .u8 0, .int .u8 0, .int .u8 0, .int .u8 0, .int .u8 0, .int .u8 0, .int .u8 0, .int .u8 0, .int .u8 0, .int .u8 0, .int .u8 0, .int .u8 0, .int .u8 0, .int .u8 0, .int .u8 0, .int .u8 0, .int .u8 0, .int .u8 0, .int .u8 0, .int .u8 0, .int .u8 0, .int .u8 0, .int .u8 0, .int .u8 0, .int .u8 0, .int .u8 0, .int .u8 0, .int .u8 0] 36 := Blk.new v1 _ _ rfl
      have RA2 := RA1.alloc (.cells #[.int .u64 0, .int .u64 0, .int .i64 0, .int .i64 0, .int .u64 0, .int .u64 0, .int .u64 0, .int .u64 0, .int .u64 0, .int .u64 0, .int .u64 0, .int .u64 0, .int .i64 0, .int .i64 0, .int .u8 0, .int .u8 0, .int .u8 0, .int .u8 0, .int .u8 0, .int .u8 0, .int .u8 0, .int .u8 0, .int .u8 0, .int .u8 0, .int .u8 0, .int .u8 0, .int .u8 0, .int .u8 0, .int .u8 0, .int .u8 0, .int .u8 0, .int .u8 0, .int .u8 0, .int .u8 0, .int .u8 0, .int .u8 0, .int .u8 0, .int .u8 0, .int .u8 0, .int .u8 0, .int .u8 0, .int .u8 0, .int .u8 0, .int .u8 0, .int .u8 0, .int .u8 0] 36)
      have B2 := B1.alloc B1.size (.cells #[.int .u64 0, .int .u64 0, .int .i64 0, .int .i64 0, .int .u64 0, .int .u64 0, .int .u64 0, .int .u64 0, .int .u64 0, .int .u64 0, .int .u64 0, .int .u64 0, .int .i64 0, .int .i64 0, .int .u8 0, .int .u8 0, .int .u8 0, .int .u8 0, .int .u8 0, .int .u8 0, .int .u8 0, .int .u8 0, .int .u8 0, .int .u8 0, .int .u8 0, .int .u8 0, .int .u8 0, .int .u8 0, .int .u8 0, .int .u8 0, .int .u8 0, .int .u8 0, .int .u8 0, .int .u8 0, .int .u8 0, .int .u8 0, .int .u8 0, .int .u8 0, .int .u8 0, .int .u8 0, .int .u8 0, .int .u8 0, .int .u8 0, .int .u8 0, .int .u8 0, .int .u8 0] 36)
      have hS := hSn
      have hAB : gA ≠ v1.heap.size := by have := RA1.lt; omega
      have G0B : w.heap.size + 1 < v1.heap.size := HGv1
      have HGv2 : w.heap.size + 1 < (v1.alloc (.cells #[.int .u64 0, .int .u64 0, .int .i64 0, .int .i64 0, .int .u64 0, .int .u64 0, .int .u64 0, .int .u64 0, .int .u64 0, .int .u64 0, .int .u64 0, .int .u64 0, .int .i64 0, .int .i64 0, .int .u8 0, .int .u8 0, .int .u8 0, .int .u8 0, .int .u8 0, .int .u8 0, .int .u8 0, .int .u8 0, .int .u8 0, .int .u8 0, .int .u8 0, .int .u8 0, .int .u8 0, .int .u8 0, .int .u8 0, .int .u8 0, .int .u8 0, .int .u8 0, .int .u8 0, .int .u8 0, .int .u8 0, .int .u8 0, .int .u8 0, .int .u8 0, .int .u8 0, .int .u8 0, .int .u8 0, .int .u8 0, .int .u8 0, .int .u8 0, .int .u8 0, .int .u8 0] 36)).heap.size := by simp; omega
      clear hSn RA1 B1
      generalize v1.alloc (.cells #[.int .u64 0, .int .u64 0, .int .i64 0, .int .i64 0, .int .u64 0, .int .u64 0, .int .u64 0, .int .u64 0, .int .u64 0, .int .u64 0, .int .u64 0, .int .u64 0, .int .i64 0, .int .i64 0, .int .u8 0, .int .u8 0, .int .u8 0, .int .u8 0, .int .u8 0, .int .u8 0, .int .u8 0, .int .u8 0, .int .u8 0, .int .u8 0, .int .u8 0, .int .u8 0, .int .u8 0, .int .u8 0, .int .u8 0, .int .u8 0, .int .u8 0, .int .u8 0, .int .u8 0, .int .u8 0, .int .u8 0, .int .u8 0, .int .u8 0, .int .u8 0, .int .u8 0, .int .u8 0, .int .u8 0, .int .u8 0, .int .u8 0, .int .u8 0, .int .u8 0, .int .u8 0] 36) = v2 at *
      clear HGv1
      generalize v1.heap.size = gB at *
      refine wpAnyD_only (i := 4) rfl (by kernel_rfl) (by rfl) (fun K hK => ?_)
      refine wp_store_row 26 _ _ rfl gA X rfl rfl 26 _ RA2 IX.out SX.out OX.out ?_
      have hSn : Blk (v2.setRow gA X) w.heap.size X 26 ∧ Blk (v2.setRow gA X) (w.heap.size + 1) Y 36 := ⟨hS.1.setRowOther _ (by omega), hS.2.setRowOther _ (by omega)⟩
      refine hK.out _ _ (fun _ => hSn) ?_
      clear hK K hS
      try simp only [Act.put, List.setIfInBounds_toArray, List.set_cons_zero, List.set_cons_succ]
      have RA3 := RA2.setRow X
      have RB3 := RB2.setRowOther X (Ne.symm hAB)
      have B3 := below_row B2 X (show w.heap.size ≤ gA by omega)
      have HGv3 : w.heap.size + 1 < (v2.setRow gA X).heap.size := by simpa [World.setRow] using HGv2
      have hS := hSn
      clear hSn RA2 RB2 B2 HGv2
      generalize v2.setRow gA X = v3 at *
      refine wpAnyD_only (i := 5) rfl (by kernel_rfl) (by rfl) (fun K hK => ?_)
      refine wp_store_row 36 _ _ rfl gB Y rfl rfl 36 _ RB3 IY.out SY.out OY.out ?_
      have hSn : Blk (v3.setRow gB Y) w.heap.size X 26 ∧ Blk (v3.setRow gB Y) (w.heap.size + 1) Y 36 := ⟨hS.1.setRowOther _ (by omega), hS.2.setRowOther _ (by omega)⟩
      refine hK.out _ _ (fun _ => hSn) ?_
      clear hK K hS
      try simp only [Act.put, List.setIfInBounds_toArray, List.set_cons_zero, List.set_cons_succ]
      have RB4 := RB3.setRow Y
      have RA4 := RA3.setRowOther Y hAB
      have B4 := below_row B3 Y (show w.heap.size ≤ gB by omega)
      have HGv4 : w.heap.size + 1 < (v3.setRow gB Y).heap.size := by simpa [World.setRow] using HGv3
      have hS := hSn
      clear hSn RB3 RA3 B3 HGv3
      generalize v3.setRow gB Y = v4 at *
      refine wpAnyD_done (by kernel_rfl) ?_ _
      go_wp2_with fail
      go_meet
      case rel => exact ⟨gA, gB, rfl, rfl, hS.1, hS.2, RA4, RB4, hAB, G0A, G0B, B4⟩
    refine AllD.cons (i := 3) rfl (by rfl) (fun K hK => ?_) AllD.nil
    try go_simp
    have hSn : Blk (v0.alloc (.cells #[.int .u64 0, .int .u64 0, .int .i64 0, .int .i64 0, .int .u64 0, .int .u64 0, .int .u64 0, .int .u64 0, .int .u64 0, .int .u64 0, .int .u64 0, .int .u64 0, .int .i64 0, .int .i64 0, .int .u8 0, .int .u8 0, .int .u8 0, .int .u8 0, .int .u8 0, .int .u8 0, .int .u8 0, .int .u8 0, .int .u8 0, .int .u8 0, .int .u8 0, .int .u8 0, .int .u8 0, .int .u8 0, .int .u8 0, .int .u8 0, .int .u8 0, .int .u8 0, .int .u8 0, .int .u8 0, .int .u8 0, .int .u8 0, .int .u8 0, .int .u8 0, .int .u8 0, .int .u8 0, .int .u8 0, .int .u8 0, .int .u8 0, .int .u8 0, .int .u8 0, .int .u8 0] 36)) w.heap.size X 26 ∧ Blk (v0.alloc (.cells #[.int .u64 0, .int .u64 0, .int .i64 0, .int .i64 0, .int .u64 0, .int .u64 0, .int .u64 0, .int .u64 0, .int .u64 0, .int .u64 0, .int .u64 0, .int .u64 0, .int .i64 0, .int .i64 0, .int .u8 0, .int .u8 0, .int .u8 0, .int .u8 0, .int .u8 0, .int .u8 0, .int .u8 0, .int .u8 0, .int .u8 0, .int .u8 0, .int .u8 0, .int .u8 0, .int .u8 0, .int .u8 0, .int .u8 0, .int .u8 0, .int .u8 0, .int .u8 0, .int .u8 0, .int .u8 0, .int .u8 0, .int .u8 0, .int .u8 0, .int .u8 0, .int .u8 0, .int .u8 0, .int .u8 0, .int .u8 0, .int .u8 0, .int .u8 0, .int .u8 0, .int .u8 0] 36)) (w.heap.size + 1) Y 36 := ⟨hS.1.alloc _, hS.2.alloc _⟩
    refine hK.out _ _ (fun _ => hSn) ?_
    clear hK K hS
    try simp only [Act.put, List.setIfInBounds_toArray, List.set_cons_zero, List.set_cons_succ]
    have RB5 : Blk (v0.alloc (.cells #[.int .u64 0, .int .u64 0, .int .i64 0, .int .i64 0, .int .u64 0, .int .u64 0, .int .u64 0, .int .u64 0, .int .u64 0, .int .u64 0, .int .u64 0, .int .u64 0, .int .i64 0, .int .i64 0, .int .u8 0, .int .u8 0, .int .u8 0, .int .u8 0, .int .u8 0, .int .u8 0, .int .u8 0, .int .u8 0, .int .u8 0, .int .u8 0, .int .u8 0, .int .u8 0, .int .u8 0, .int .u8 0, .int .u8 0, .int .u8 0, .int .u8 0, .int .u8 0, .int .u8 0, .int .u8 0, .int .u8 0, .int .u8 0, .int .u8 0, .int .u8 0, .int .u8 0, .int .u8 0, .int .u8 0, .int .u8 0, .int .u8 0, .int .u8 0, .int .u8 0, .int .u8 0] 36)) v0.heap.size #[.int .u64 0, .int .u64 0, .int .i64 0, .int .i64 0, .int .u64 0, .int .u64 0, .int .u64 0, .int .u64 0, .int .u64 0, .int .u64 0, .int .u64 0, .int .u64 0, .int .i64 0, .int .i64 0, .int .u8 0, .int .u8 0, .int .u8 0, .int .u8 0, .int .u8 0, .int .u8 0, .int .u8 0, .int .u8 0, .int .u8 0, .int .u8 0, .int .u8 0, .int .u8 0, .int .u8 0, .int .u8 0, .int .u8 0, .int .u8 0, .int .u8 0, .int .u8 0, .int .u8 0, .int .u8 0, .int .u8 0, .int .u8 0, .int .u8 0, .int .u8 0, .int .u8 0, .int .u8 0, .int .u8 0, .int .u8 0, .int .u8 0, .int .u8 0, .int .u8 0, .int .u8 0] 36 := Blk.new v0 _ _ rfl
    have B5 := B0.alloc B0.size (.cells #[.int .u64 0, .int .u64 0, .int .i64 0, .int .i64 0, .int .u64 0, .int .u64 0, .int .u64 0, .int .u64 0, .int .u64 0, .int .u64 0, .int .u64 0, .int .u64 0, .int .i64 0, .int .i64 0, .int .u8 0, .int .u8 0, .int .u8 0, .int .u8 0, .int .u8 0, .int .u8 0, .int .u8 0, .int .u8 0, .int .u8 0, .int .u8 0, .int .u8 0, .int .u8 0, .int .u8 0, .int .u8 0, .int .u8 0, .int .u8 0, .int .u8 0, .int .u8 0, .int .u8 0, .int .u8 0, .int .u8 0, .int .u8 0, .int .u8 0, .int .u8 0, .int .u8 0, .int .u8 0, .int .u8 0, .int .u8 0, .int .u8 0, .int .u8 0, .int .u8 0, .int .u8 0] 36)
    have hS := hSn
    have G0B : w.heap.size + 1 < v0.heap.size := HGv0
    have HGv5 : w.heap.size + 1 < (v0.alloc (.cells #[.int .u64 0, .int .u64 0, .int .i64 0, .int .i64 0, .int .u64 0, .int .u64 0, .int .u64 0, .int .u64 0, .int .u64 0, .int .u64 0, .int .u64 0, .int .u64 0, .int .i64 0, .int .i64 0, .int .u8 0, .int .u8 0, .int .u8 0, .int .u8 0, .int .u8 0, .int .u8 0, .int .u8 0, .int .u8 0, .int .u8 0, .int .u8 0, .int .u8 0, .int .u8 0, .int .u8 0, .int .u8 0, .int .u8 0, .int .u8 0, .int .u8 0, .int .u8 0, .int .u8 0, .int .u8 0, .int .u8 0, .int .u8 0, .int .u8 0, .int .u8 0, .int .u8 0, .int .u8 0, .int .u8 0, .int .u8 0, .int .u8 0, .int .u8 0, .int .u8 0, .int .u8 0] 36)).heap.size := by simp; omega
    clear hSn B0
    generalize v0.alloc (.cells #[.int .u64 0, .int .u64 0, .int .i64 0, .int .i64 0, .int .u64 0, .int .u64 0, .int .u64 0, .int .u64 0, .int .u64 0, .int .u64 0, .int .u64 0, .int .u64 0, .int .i64 0, .int .i64 0, .int .u8 0, .int .u8 0, .int .u8 0, .int .u8 0, .int .u8 0, .int .u8 0, .int .u8 0, .int .u8 0, .int .u8 0, .int .u8 0, .int .u8 0, .int .u8 0, .int .u8 0, .int .u8 0, .int .u8 0, .int .u8 0, .int .u8 0, .int .u8 0, .int .u8 0, .int .u8 0, .int .u8 0, .int .u8 0, .int .u8 0, .int .u8 0, .int .u8 0, .int .u8 0, .int .u8 0, .int .u8 0, .int .u8 0, .int .u8 0, .int .u8 0, .int .u8 0] 36) = v5 at *
    clear HGv0
    generalize v0.heap.size = gB at *
    refine wpAnyD_only (i := 2) rfl (by kernel_rfl) (by rfl) (fun K hK => ?_)
    try go_simp
    have hSn : Blk (v5.alloc (.cells #[.int .u64 0, .int .u64 0, .int .u64 0, .int .u64 0, .int .u64 0, .int .u64 0, .int .u64 0, .int .u64 0, .int .u64 0, .int .u64 0, .int .i64 0, .int .i64 0, .int .i64 0, .int .i64 0, .int .i64 0, .int .i64 0] 26)) w.heap.size X 26 ∧ Blk (v5.alloc (.cells #[.int .u64 0, .int .u64 0, .int .u64 0, .int .u64 0, .int .u64 0, .int .u64 0, .int .u64 0, .int .u64 0, .int .u64 0, .int .u64 0, .int .i64 0, .int .i64 0, .int .i64 0, .int .i64 0, .int .i64 0, .int .i64 0] 26)) (w.heap.size + 1) Y 36 := ⟨hS.1.alloc _, hS.2.alloc _⟩
    refine hK.out _ _ (fun _ => hSn) ?_
    clear hK K hS
    try simp only [Act.put, List.setIfInBounds_toArray, List.set_cons_zero, List.set_cons_succ]
    have RA6 : Blk (v5.alloc (.cells #[.int .u64 0, .int .u64 0, .int .u64 0, .int .u64 0, .int .u64 0, .int .u64 0, .int .u64 0, .int .u64 0, .int .u64 0, .int .u64 0, .int .i64 0, .int .i64 0, .int .i64 0, .int .i64 0, .int .i64 0, .int .i64 0] 26)) v5.heap.size #[.int .u64 0, .int .u64 0, .int .u64 0, .int .u64 0, .int .u64 0, .int .u64 0, .int .u64 0, .int .u64 0, .int .u64 0, .int .u64 0, .int .i64 0, .int .i64 0, .int .i64 0, .int .i64 0, .int .i64 0, .int .i64 0] 26 := Blk.new v5 _ _ rfl
    have RB6 := RB5.alloc (.cells #[.int .u64 0, .int .u64 0, .int .u64 0, .int .u64 0, .int .u64 0, .int .u64 0, .int .u64 0, .int .u64 0, .int .u64 0, .int .u64 0, .int .i64 0, .int .i64 0, .int .i64 0, .int .i64 0, .int .i64 0, .int .i64 0] 26)
    have B6 := B5.alloc B5.size (.cells #[.int .u64 0, .int .u64 0, .int .u64 0, .int .u64 0, .int .u64 0, .int .u64 0, .int .u64 0, .int .u64 0, .int .u64 0, .int .u64 0, .int .i64 0, .int .i64 0, .int .i64 0, .int .i64 0, .int .i64 0, .int .i64 0] 26)
    have hS := hSn
    have hBA : gB ≠ v5.heap.size := by have := RB5.lt; omega
    have G0A : w.heap.size + 1 < v5.heap.size := HGv5
    have HGv6 : w.heap.size + 1 < (v5.alloc (.cells #[.int .u64 0, .int .u64 0, .int .u64 0, .int .u64 0, .int .u64 0, .int .u64 0, .int .u64 0, .int .u64 0, .int .u64 0, .int .u64 0, .int .i64 0, .int .i64 0, .int .i64 0, .int .i64 0, .int .i64 0, .int .i64 0] 26)).heap.size := by simp; omega
    clear hSn RB5 B5
    generalize v5.alloc (.cells #[.int .u64 0, .int .u64 0, .int .u64 0, .int .u64 0, .int .u64 0, .int .u64 0, .int .u64 0, .int .u64 0, .int .u64 0, .int .u64 0, .int .i64 0, .int .i64 0, .int .i64 0, .int .i64 0, .int .i64 0, .int .i64 0] 26) = v6 at *
    clear HGv5
    generalize v5.heap.size = gA at *
    refine wpAnyD_only (i := 4) rfl (by kernel_rfl) (by rfl) (fun K hK => ?_)
    refine wp_store_row 26 _ _ rfl gA X rfl rfl 26 _ RA6 IX.out SX.out OX.out ?_
    have hSn : Blk (v6.setRow gA X) w.heap.size X 26 ∧ Blk (v6.setRow gA X) (w.heap.size + 1) Y 36 := ⟨hS.1.setRowOther _ (by omega), hS.2.setRowOther _ (by omega)⟩
    refine hK.out _ _ (fun _ => hSn) ?_
    clear hK K hS
    try simp only [Act.put, List.setIfInBounds_toArray, List.set_cons_zero, List.set_cons_succ]
    have RA7 := RA6.setRow X
    have RB7 := RB6.setRowOther X hBA
    have B7 := below_row B6 X (show w.heap.size ≤ gA by omega)
    have HGv7 : w.heap.size + 1 < (v6.setRow gA X).heap.size := by simpa [World.setRow] using HGv6
    have hS := hSn
    clear hSn RA6 RB6 B6 HGv6
    generalize v6.setRow gA X = v7 at *
    refine wpAnyD_only (i := 5) rfl (by kernel_rfl) (by rfl) (fun K hK => ?_)
    refine wp_store_row 36 _ _ rfl gB Y rfl rfl 36 _ RB7 IY.out SY.out OY.out ?_
    have hSn : Blk (v7.setRow gB Y) w.heap.size X 26 ∧ Blk (v7.setRow gB Y) (w.heap.size + 1) Y 36 := ⟨hS.1.setRowOther _ (by omega), hS.2.setRowOther _ (by omega)⟩
    refine hK.out _ _ (fun _ => hSn) ?_
    clear hK K hS
    try simp only [Act.put, List.setIfInBounds_toArray, List.set_cons_zero, List.set_cons_succ]
    have RB8 := RB7.setRow Y
    have RA8 := RA7.setRowOther Y (Ne.symm hBA)
    have B8 := below_row B7 Y (show w.heap.size ≤ gB by omega)
    have HGv8 : w.heap.size + 1 < (v7.setRow gB Y).heap.size := by simpa [World.setRow] using HGv7
    have hS := hSn
    clear hSn RB7 RA7 B7 HGv7
    generalize v7.setRow gB Y = v8 at *
    refine wpAnyD_done (by kernel_rfl) ?_ _
    go_wp2_with fail
    go_meet
    case rel => exact ⟨gA, gB, rfl, rfl, hS.1, hS.2, RA8, RB8, (Ne.symm hBA), G0A, G0B, B8⟩
  case rest =>
    obtain ⟨gA, gB, rfl, rfl, r0, r1, rA, rB, nAB, zA, zB, b⟩ := hcut
    have nBA : gB ≠ gA := Ne.symm nAB
    have n0A : w.heap.size ≠ gA := by omega
    have n0B : w.heap.size ≠ gB := by omega
    have n01 : w.heap.size ≠ w.heap.size + 1 := by omega
    have n1A : w.heap.size + 1 ≠ gA := by omega
    have n1B : w.heap.size + 1 ≠ gB := by omega
    have nA1 : gA ≠ w.heap.size + 1 := by omega
    have nB1 : gB ≠ w.heap.size + 1 := by omega
    have R0F : Hid (Blk ((((((wc.setCell ⟨gA, 12, none⟩ (.int .i64 (bits .xor .i64 f 1))).setCell ⟨gA, 13, none⟩ (.int .i64 9)).setCell ⟨gA, 15, none⟩ (.int .i64 4)).setCell ⟨gB, 3, none⟩ (.int .i64 (bits .or .i64 fa 8))).setCell ⟨(w.heap.size + 1), 3, none⟩ (.int .i64 (bits .andNot .i64 fa 8))).setCell ⟨gB, 13, none⟩ (.int .i64 (wrap64 (r + 1)))) w.heap.size X 26) := ((((((r0.setOther (a := ⟨gA, 12, none⟩) (.int .i64 (bits .xor .i64 f 1)) n0A).setOther (a := ⟨gA, 13, none⟩) (.int .i64 9) n0A).setOther (a := ⟨gA, 15, none⟩) (.int .i64 4) n0A).setOther (a := ⟨gB, 3, none⟩) (.int .i64 (bits .or .i64 fa 8)) n0B).setOther (a := ⟨(w.heap.size + 1), 3, none⟩) (.int .i64 (bits .andNot .i64 fa 8)) n01).setOther (a := ⟨gB, 13, none⟩) (.int .i64 (wrap64 (r + 1))) n0B)
    have RAF : Hid (Blk ((((((wc.setCell ⟨gA, 12, none⟩ (.int .i64 (bits .xor .i64 f 1))).setCell ⟨gA, 13, none⟩ (.int .i64 9)).setCell ⟨gA, 15, none⟩ (.int .i64 4)).setCell ⟨gB, 3, none⟩ (.int .i64 (bits .or .i64 fa 8))).setCell ⟨(w.heap.size + 1), 3, none⟩ (.int .i64 (bits .andNot .i64 fa 8))).setCell ⟨gB, 13, none⟩ (.int .i64 (wrap64 (r + 1)))) gA (((X.setIfInBounds 12 (.int .i64 (bits .xor .i64 f 1))).setIfInBounds 13 (.int .i64 9)).setIfInBounds 15 (.int .i64 4)) 26) := ((((((rA.set 12 (.int .i64 (bits .xor .i64 f 1))).set 13 (.int .i64 9)).set 15 (.int .i64 4)).setOther (a := ⟨gB, 3, none⟩) (.int .i64 (bits .or .i64 fa 8)) nAB).setOther (a := ⟨(w.heap.size + 1), 3, none⟩) (.int .i64 (bits .andNot .i64 fa 8)) nA1).setOther (a := ⟨gB, 13, none⟩) (.int .i64 (wrap64 (r + 1))) nAB)
    have R1F : Hid (Blk ((((((wc.setCell ⟨gA, 12, none⟩ (.int .i64 (bits .xor .i64 f 1))).setCell ⟨gA, 13, none⟩ (.int .i64 9)).setCell ⟨gA, 15, none⟩ (.int .i64 4)).setCell ⟨gB, 3, none⟩ (.int .i64 (bits .or .i64 fa 8))).setCell ⟨(w.heap.size + 1), 3, none⟩ (.int .i64 (bits .andNot .i64 fa 8))).setCell ⟨gB, 13, none⟩ (.int .i64 (wrap64 (r + 1)))) (w.heap.size + 1) (Y.setIfInBounds 3 (.int .i64 (bits .andNot .i64 fa 8))) 36) := ((((((r1.setOther (a := ⟨gA, 12, none⟩) (.int .i64 (bits .xor .i64 f 1)) n1A).setOther (a := ⟨gA, 13, none⟩) (.int .i64 9) n1A).setOther (a := ⟨gA, 15, none⟩) (.int .i64 4) n1A).setOther (a := ⟨gB, 3, none⟩) (.int .i64 (bits .or .i64 fa 8)) n1B).set 3 (.int .i64 (bits .andNot .i64 fa 8))).setOther (a := ⟨gB, 13, none⟩) (.int .i64 (wrap64 (r + 1))) n1B)
    have RBF : Hid (Blk ((((((wc.setCell ⟨gA, 12, none⟩ (.int .i64 (bits .xor .i64 f 1))).setCell ⟨gA, 13, none⟩ (.int .i64 9)).setCell ⟨gA, 15, none⟩ (.int .i64 4)).setCell ⟨gB, 3, none⟩ (.int .i64 (bits .or .i64 fa 8))).setCell ⟨(w.heap.size + 1), 3, none⟩ (.int .i64 (bits .andNot .i64 fa 8))).setCell ⟨gB, 13, none⟩ (.int .i64 (wrap64 (r + 1)))) gB ((Y.setIfInBounds 3 (.int .i64 (bits .or .i64 fa 8))).setIfInBounds 13 (.int .i64 (wrap64 (r + 1)))) 36) := ((((((rB.setOther (a := ⟨gA, 12, none⟩) (.int .i64 (bits .xor .i64 f 1)) nBA).setOther (a := ⟨gA, 13, none⟩) (.int .i64 9) nBA).setOther (a := ⟨gA, 15, none⟩) (.int .i64 4) nBA).set 3 (.int .i64 (bits .or .i64 fa 8))).setOther (a := ⟨(w.heap.size + 1), 3, none⟩) (.int .i64 (bits .andNot .i64 fa 8)) nB1).set 13 (.int .i64 (wrap64 (r + 1))))
    have BF : Hid (Below w.heap.size w ((((((wc.setCell ⟨gA, 12, none⟩ (.int .i64 (bits .xor .i64 f 1))).setCell ⟨gA, 13, none⟩ (.int .i64 9)).setCell ⟨gA, 15, none⟩ (.int .i64 4)).setCell ⟨gB, 3, none⟩ (.int .i64 (bits .or .i64 fa 8))).setCell ⟨(w.heap.size + 1), 3, none⟩ (.int .i64 (bits .andNot .i64 fa 8))).setCell ⟨gB, 13, none⟩ (.int .i64 (wrap64 (r + 1))))) := ((((((b.setCell (p := ⟨gA, 12, none⟩) (show w.heap.size ≤ gA by omega) (.int .i64 (bits .xor .i64 f 1))).setCell (p := ⟨gA, 13, none⟩) (show w.heap.size ≤ gA by omega) (.int .i64 9)).setCell (p := ⟨gA, 15, none⟩) (show w.heap.size ≤ gA by omega) (.int .i64 4)).setCell (p := ⟨gB, 3, none⟩) (show w.heap.size ≤ gB by omega) (.int .i64 (bits .or .i64 fa 8))).setCell (p := ⟨(w.heap.size + 1), 3, none⟩) (show w.heap.size ≤ (w.heap.size + 1) by omega) (.int .i64 (bits .andNot .i64 fa 8))).setCell (p := ⟨gB, 13, none⟩) (show w.heap.size ≤ gB by omega) (.int .i64 (wrap64 (r + 1))))
    have cA12 := (rA.cell 12).trans X12.out
    have cA13 := (rA.cell 13).trans X13.out
    have cA15 := (rA.cell 15).trans X15.out
    have fA12 := rA.frozen 12
    have fA13 := rA.frozen 13
    have fA15 := rA.frozen 15
    have cB3 := (rB.cell 3).trans Y3.out
    have cB13 := (rB.cell 13).trans Y13.out
    have fB3 := rB.frozen 3
    have fB13 := rB.frozen 13
    have c13 := (r1.cell 3).trans Y3.out
    have f13 := r1.frozen 3
    clear r0 r1 rA rB b
    go_upto_region 9 with fail
    generalize ((((((wc.setCell ⟨gA, 12, none⟩ (.int .i64 (bits .xor .i64 f 1))).setCell ⟨gA, 13, none⟩ (.int .i64 9)).setCell ⟨gA, 15, none⟩ (.int .i64 4)).setCell ⟨gB, 3, none⟩ (.int .i64 (bits .or .i64 fa 8))).setCell ⟨(w.heap.size + 1), 3, none⟩ (.int .i64 (bits .andNot .i64 fa 8))).setCell ⟨gB, 13, none⟩ (.int .i64 (wrap64 (r + 1)))) = w4 at *
    clear cA12 cA13 cA15 fA12 fA13 fA15 cB3 cB13 fB3 fB13 c13 f13
    go_wp2_with (refine wpList_load_row rfl 26 _ rfl w.heap.size rfl 26 X (0, 0) _ R0F.out Try.underlying26 rfl IX.out ?_)
    refine (KXX.out _).mono ?_
    rintro e' w5 ⟨rfl, hb⟩
    have R05 : Hid (Blk w5 w.heap.size X 26) := R0F.out.later hb
    have RA5 : Hid (Blk w5 gA (((X.setIfInBounds 12 (.int .i64 (bits .xor .i64 f 1))).setIfInBounds 13 (.int .i64 9)).setIfInBounds 15 (.int .i64 4)) 26) := RAF.out.later hb
    have R15 : Hid (Blk w5 (w.heap.size + 1) (Y.setIfInBounds 3 (.int .i64 (bits .andNot .i64 fa 8))) 36) := R1F.out.later hb
    have RB5 : Hid (Blk w5 gB ((Y.setIfInBounds 3 (.int .i64 (bits .or .i64 fa 8))).setIfInBounds 13 (.int .i64 (wrap64 (r + 1)))) 36) := RBF.out.later hb
    have B5 : Hid (Below w.heap.size w w5) := BF.out.trans (hb.mono BF.out.size)
    clear hb
    go_wp2_with (refine wpList_wr rfl (wp_load_row 26 _ rfl gA rfl 26 (((X.setIfInBounds 12 (.int .i64 (bits .xor .i64 f 1))).setIfInBounds 13 (.int .i64 9)).setIfInBounds 15 (.int .i64 4)) (0, 0) _ RA5.out Try.underlying26 rfl IU.out ?_); refine stopR ?_)
    unfold StopR
    go_wp2_with (refine wpList_wr rfl (wp_load_row 26 _ rfl w.heap.size rfl 26 X (0, 0) _ R05.out Try.underlying26 rfl IX.out ?_))
    refine (KUX.out _).mono ?_
    rintro e' w6 ⟨rfl, hb⟩
    have R16 : Hid (Blk w6 (w.heap.size + 1) (Y.setIfInBounds 3 (.int .i64 (bits .andNot .i64 fa 8))) 36) := R15.out.later hb
    have RB6 : Hid (Blk w6 gB ((Y.setIfInBounds 3 (.int .i64 (bits .or .i64 fa 8))).setIfInBounds 13 (.int .i64 (wrap64 (r + 1)))) 36) := RB5.out.later hb
    have B6 : Hid (Below w.heap.size w w6) := B5.out.trans (hb.mono B5.out.size)
    clear hb
    go_wp2_with (refine wpList_wr rfl (wp_load_row 36 _ rfl (w.heap.size + 1) rfl 36 (Y.setIfInBounds 3 (.int .i64 (bits .andNot .i64 fa 8))) (0, 0) _ R16.out Try.underlying36 rfl IA.out ?_); refine stopR ?_)
    unfold StopR
    go_wp2_with (refine wpList_wr rfl (wp_load_row 36 _ rfl gB rfl 36 ((Y.setIfInBounds 3 (.int .i64 (bits .or .i64 fa 8))).setIfInBounds 13 (.int .i64 (wrap64 (r + 1)))) (0, 0) _ RB6.out Try.underlying36 rfl IB.out ?_))
    refine (GAB.out _).mono ?_
    rintro e' w7 ⟨rfl, hb⟩
    have R17 : Hid (Blk w7 (w.heap.size + 1) (Y.setIfInBounds 3 (.int .i64 (bits .andNot .i64 fa 8))) 36) := R16.out.later hb
    have B7 : Hid (Below w.heap.size w w7) := B6.out.trans (hb.mono B6.out.size)
    clear hb
    go_wp2_with (refine wpList_wr rfl (wp_load_row 36 _ rfl (w.heap.size + 1) rfl 36 (Y.setIfInBounds 3 (.int .i64 (bits .andNot .i64 fa 8))) (0, 0) _ R17.out Try.underlying36 rfl IA.out ?_))
    refine (GAA.out _).mono ?_
    rintro e' w8 ⟨rfl, hb⟩
    have B8 := B7.out.trans (hb.mono B7.out.size)
    clear hb
    go_wp2
    go_ret
    exact ⟨rfl, B8⟩
end Go.Proofs.Ytkigdfpgdkgcaaa
