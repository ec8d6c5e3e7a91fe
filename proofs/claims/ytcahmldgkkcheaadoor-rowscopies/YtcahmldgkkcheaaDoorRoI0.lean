
/-
  The walk of RowsLeaves: it returns true, for any two rows, and turns nothing that was there.
-/
import Derived.Test.YtcahmldgkkcheaaDoorRoH
import Derived.Test.YtcahmldgkkcheaaDoorClC
import Derived.BigRegion
import Derived.Deep.DeepCutAuto
set_option maxRecDepth 100000
namespace Go.Proofs.YtcahmldgkkcheaaDoor
open Go.RowKit
set_option linter.unusedVariables false
set_option linter.unusedSimpArgs false

/-- A row with its time and its event cut. -/
def cutR (a : Rc) : Rc := { a with tm := bits .and .i64 a.tm 65535, ev := bits .and .i64 a.ev 255 }
theorem cutR_tame {a : Rc} (h : a.ok) : Tame (cutR a) ∧ (cutR a).tm < 65536 := by
  obtain ⟨k, hk, e⟩ := and_65535 a.tm
  obtain ⟨m, hm, e2⟩ := and_255 a.ev
  have ht : (cutR a).tm = (k : Int) := e
  have he : (cutR a).ev = (m : Int) := e2
  exact ⟨⟨h.w0, h.w1, h.w2, h.w3, h.w4, h.w5, by rw [ht]; omega, by rw [ht]; omega, by rw [he]; omega, by rw [he]; omega⟩, by rw [ht]; omega⟩
theorem below_t {T : Nat} {w wd wn : World} (h : Below w.heap.size w wd) (hT : w.heap.size ≤ T) (hs : TStep T wd wn) : Below w.heap.size w wn :=
  TStep.below h (TStep.mk hs.os hs.tape hs.output hs.size (fun k o hk hsafe => hs.block k o hk (hsafe.imp (fun h' => Nat.lt_of_lt_of_le h' hT) id)))
theorem cutR_cs (a : Rc) : (a.cs.setIfInBounds 2 (.int .i64 (bits .and .i64 a.tm 65535))).setIfInBounds 3 (.int .i64 (bits .and .i64 a.ev 255)) = (cutR a).cs := by simp [Rc.cs, cutR]
theorem rc_guard : Tryd.prog.eqGuardType Tryd.prog.depth 34 = false := by kernel_rfl
theorem rc_eqg (x y : Operand) (xs ys : Array Value) (w : World) : (eqGuard .eql 34 x y (.agg xs) (.agg ys)).run Tryd.prog w = .ok () w := run_eqGuard_agg w .eql _ x y xs ys rc_guard
theorem rc_eqT (a b : Rc) (t : Bool) (h : t = true ↔ a = b) (w : World) : (Op.equalIn 10000 34 (.agg a.cs) (.agg b.cs)).run Tryd.prog w = .ok t w := by
  obtain ⟨t', e, h'⟩ := rc_eq a b w
  have : t' = t := by
    cases t <;> cases t' <;> simp_all
  rw [e, this]
theorem hash_in' (l m : List Nat) (hl : l.length = 32) (hm : m.length = 32) (w : World) : (Op.equalIn 10000 42 (.agg (bytesL l)) (.agg (bytesL m))).run Tryd.prog w = .ok (decide (l = m)) w := by
  obtain ⟨i, hi, _⟩ := info_u8'
  rw [run_equalIn_array w 9999 (bytesL l) (bytesL m) Tryd.underlying42 hi, cells_u8]
  have h := run_eqItems_u8 9998 l m w (List.range 32) (fun j hj => by rw [hl, hm]; simpa using hj)
  rw [h, ← hl, all_range_eq l m (by omega)]
theorem TpAt.w8' {w : World} {base T : Nat} {N : List (List Nat)} (h : TpAt w base (.pointer (some ⟨T, 0, none⟩)) N) : ∀ l ∈ N, W8 l := by
  rcases h with h | ⟨_, _, _, _, _, _, _, h8⟩
  · cases h
  · exact h8
theorem rc_bin (a b : Rc) (t : Bool) (h : t = true ↔ a = b) (w : World) : (binOp .eql 34 (.agg a.cs) (.agg b.cs)).run Tryd.prog w = .ok (.bool t) w := by
  rw [run_eql_struct, rc_eqT a b t h w]
  rfl
theorem wpList_eql_row {ops : Array Oper} {rest : List Oper} {o : Oper} {a : Act} {w : World} {Q : Exit → Act → World → Prop} (hgd : o.guard = none) (x y : Operand) (ty : TypeId) (ho : o.op = .binOp .eql 34 x y ty) (ka kb : Array Value) (t : Bool)
    (hx : a.eval x = .agg ka) (hy : a.eval y = .agg kb) (hrun : ∀ w, (binOp .eql 34 (.agg ka) (.agg kb)).run Tryd.prog w = .ok (.bool t) w) (h : wpList Tryd.prog ops Q rest (a.put o.dst (.bool t)) w) : wpList Tryd.prog ops Q (o :: rest) a w :=
  wpList_plain hgd fun _ hK => by
    unfold Oper.wp execOp
    simp only [ho, hx, hy, Sem.run_bind, run_eqGuard_agg w .eql 34 x y ka kb rc_guard, Result.andThen_ok, hrun w, Sem.run_pure]
    exact hK _ _ h
theorem hash_guard : Tryd.prog.eqGuardType Tryd.prog.depth 42 = false := by kernel_rfl
theorem wpList_bin_row {ops : Array Oper} {rest : List Oper} {o : Oper} {a : Act} {w : World} {Q : Exit → Act → World → Prop} (hgd : o.guard = none) (op : BinOp) (T : TypeId) (x y : Operand) (ty : TypeId) (ho : o.op = .binOp op T x y ty) (ka kb : Array Value) (t : Bool)
    (hx : a.eval x = .agg ka) (hy : a.eval y = .agg kb) (hg : Tryd.prog.eqGuardType Tryd.prog.depth T = false) (hrun : ∀ w, (binOp op T (.agg ka) (.agg kb)).run Tryd.prog w = .ok (.bool t) w) (h : wpList Tryd.prog ops Q rest (a.put o.dst (.bool t)) w) : wpList Tryd.prog ops Q (o :: rest) a w :=
  wpList_plain hgd fun _ hK => by
    unfold Oper.wp execOp
    simp only [ho, hx, hy, Sem.run_bind, run_eqGuard_agg w op T x y ka kb hg, Result.andThen_ok, hrun w, Sem.run_pure]
    exact hK _ _ h
/-- What stands behind the two leaves. -/
def LfC (w : World) (A B : Rc) (T : Nat) (u v : Value) (wc : World) : Prop := ∃ g6 g7, u = .pointer (some ⟨g6, 0, none⟩) ∧ v = .pointer (some ⟨g7, 0, none⟩) ∧ Row wc g6 (bytesL (hsh (msgL (rowBy A)))) 42 ∧ Row wc g7 (bytesL (hsh (msgL (rowBy B)))) 42 ∧ TpAt wc T (.pointer (some ⟨T, 0, none⟩)) ([] ++ [msgL (rowBy A)] ++ [msgL (rowBy B)]) ∧ Row wc w.heap.size A.cs 34 ∧ Row wc (w.heap.size + 1) B.cs 34 ∧ Below w.heap.size w wc









structure BoxP (p : Prop) : Prop where
  out : p

structure SumCut (G : Prop) where
  p_A : Prop
  p_B : Prop
  out : BoxP p_A → BoxP p_B → G

set_option maxHeartbeats 4000000 in
noncomputable def roIPack : SumCut (∀ (a : Rc), ∀ (b : Rc), ∀ (w : World), a.ok → b.ok → Tab w → Calls Tryd.prog 8 #[.agg a.cs, .agg b.cs] w fun e w' => e = .returned (.bool true) ∧ Below w.heap.size w w') := by
  apply SumCut.mk
  case out =>
    intro q_A q_B a b w ha hb ht
    have HT : Hid (Tab w) := ht
    have HA : Hid (a.ok ∧ b.ok) := ⟨ha, hb⟩
    have b2 := below2 w (.cells a.cs 34) (.cells b.cs 34)
    have r0 : Row ((w.alloc (.cells a.cs 34)).alloc (.cells b.cs 34)) w.heap.size a.cs 34 := (Row.new w a.cs 34 rfl).alloc _
    have r1 : Row ((w.alloc (.cells a.cs 34)).alloc (.cells b.cs 34)) (w.heap.size + 1) b.cs 34 := Row.new _ _ _ (by simp)
    clear ht ha hb
    go_enter Tryd.func8, Tryd.ntmps8
    go_wp2_with fail
    refine (fit10_any _ (HT.out.later b2)).mono ?_
    rintro e w1 ⟨rfl, hb1⟩
    have B1 : Hid (Below w.heap.size w w1) := chain b2 hb1
    have R0 : Hid (Row w1 w.heap.size a.cs 34) := r0.later hb1
    have R1 : Hid (Row w1 (w.heap.size + 1) b.cs 34) := r1.later hb1
    clear b2 r0 r1 hb1
    have c2 : w1.cell? ⟨w.heap.size, 2, none⟩ = some (.int .i64 a.tm) := (R0.out.cell 2).trans rfl
    have c3 : w1.cell? ⟨w.heap.size, 3, none⟩ = some (.int .i64 a.ev) := (R0.out.cell 3).trans rfl
    have d2 : w1.cell? ⟨w.heap.size + 1, 2, none⟩ = some (.int .i64 b.tm) := (R1.out.cell 2).trans rfl
    have d3 : w1.cell? ⟨w.heap.size + 1, 3, none⟩ = some (.int .i64 b.ev) := (R1.out.cell 3).trans rfl
    have f2 := R0.out.frozen 2
    have f3 := R0.out.frozen 3
    have g2 := R1.out.frozen 2
    have g3 := R1.out.frozen 3
    have zl := R1.out.lt
    go_upto_region 3 with fail
    go_region
    have q0 := (R0.out.set 2 (.int .i64 (bits .and .i64 a.tm 65535))).set 3 (.int .i64 (bits .and .i64 a.ev 255))
    rw [cutR_cs] at q0
    have q1 := (((R1.out.setOther (a := ⟨w.heap.size, 2, none⟩) (.int .i64 (bits .and .i64 a.tm 65535)) (by show w.heap.size + 1 ≠ w.heap.size; omega)).setOther (a := ⟨w.heap.size, 3, none⟩) (.int .i64 (bits .and .i64 a.ev 255)) (by show w.heap.size + 1 ≠ w.heap.size; omega)).set 2 (.int .i64 (bits .and .i64 b.tm 65535))).set 3 (.int .i64 (bits .and .i64 b.ev 255))
    rw [cutR_cs] at q1
    have R02 : Hid (Row ((((w1.setCell ⟨w.heap.size, 2, none⟩ (.int .i64 (bits .and .i64 a.tm 65535))).setCell ⟨w.heap.size, 3, none⟩ (.int .i64 (bits .and .i64 a.ev 255))).setCell ⟨w.heap.size + 1, 2, none⟩ (.int .i64 (bits .and .i64 b.tm 65535))).setCell ⟨w.heap.size + 1, 3, none⟩ (.int .i64 (bits .and .i64 b.ev 255))).drew w.heap.size (cutR a).cs 34) := Row.drew ((q0.setOther (a := ⟨w.heap.size + 1, 2, none⟩) _ (by show w.heap.size ≠ w.heap.size + 1; omega)).setOther (a := ⟨w.heap.size + 1, 3, none⟩) _ (by show w.heap.size ≠ w.heap.size + 1; omega))
    have R12 : Hid (Row ((((w1.setCell ⟨w.heap.size, 2, none⟩ (.int .i64 (bits .and .i64 a.tm 65535))).setCell ⟨w.heap.size, 3, none⟩ (.int .i64 (bits .and .i64 a.ev 255))).setCell ⟨w.heap.size + 1, 2, none⟩ (.int .i64 (bits .and .i64 b.tm 65535))).setCell ⟨w.heap.size + 1, 3, none⟩ (.int .i64 (bits .and .i64 b.ev 255))).drew (w.heap.size + 1) (cutR b).cs 34) := Row.drew q1
    have B2 : Hid (Below w.heap.size w ((((w1.setCell ⟨w.heap.size, 2, none⟩ (.int .i64 (bits .and .i64 a.tm 65535))).setCell ⟨w.heap.size, 3, none⟩ (.int .i64 (bits .and .i64 a.ev 255))).setCell ⟨w.heap.size + 1, 2, none⟩ (.int .i64 (bits .and .i64 b.tm 65535))).setCell ⟨w.heap.size + 1, 3, none⟩ (.int .i64 (bits .and .i64 b.ev 255))).drew) := ((((B1.out.setCell (p := ⟨w.heap.size, 2, none⟩) (Nat.le_refl _) _).setCell (p := ⟨w.heap.size, 3, none⟩) (Nat.le_refl _) _).setCell (p := ⟨w.heap.size + 1, 2, none⟩) (Nat.le_succ _) _).setCell (p := ⟨w.heap.size + 1, 3, none⟩) (Nat.le_succ _) _).drew
    go_upto_region 4 with fail
    generalize ((((w1.setCell ⟨w.heap.size, 2, none⟩ (.int .i64 (bits .and .i64 a.tm 65535))).setCell ⟨w.heap.size, 3, none⟩ (.int .i64 (bits .and .i64 a.ev 255))).setCell ⟨w.heap.size + 1, 2, none⟩ (.int .i64 (bits .and .i64 b.tm 65535))).setCell ⟨w.heap.size + 1, 3, none⟩ (.int .i64 (bits .and .i64 b.ev 255))).drew = w2 at *
    clear c2 c3 d2 d3 f2 f3 g2 g3 q0 q1 R0 R1 B1 zl
    have HTA : Hid (Tame (cutR a) ∧ Tame (cutR b)) := ⟨(cutR_tame HA.out.1).1, (cutR_tame HA.out.2).1⟩
    have HTM : Hid ((cutR a).tm < 65536 ∧ (cutR b).tm < 65536) := ⟨(cutR_tame HA.out.1).2, (cutR_tame HA.out.2).2⟩
    go_upto_region 5 with fail
    have r5 := Row.new w2 #[.slice none 0 0] 40 rfl
    have B3 : Hid (Below w.heap.size w (w2.alloc (.cells #[.slice none 0 0] 40))) := B2.out.alloc B2.out.size _
    have htp0 : TpAt (w2.alloc (.cells #[.slice none 0 0] 40)) w2.heap.size (.pointer (some ⟨w2.heap.size, 0, none⟩)) [] := TpAt.new (w := w2.alloc (.cells #[.slice none 0 0] 40)) (w' := w2.alloc (.cells #[.slice none 0 0] 40)) r5 (Nat.le_refl _)
    have HTP0 : Hid (TpAt (w2.alloc (.cells #[.slice none 0 0] 40)) w2.heap.size (.pointer (some ⟨w2.heap.size, 0, none⟩)) []) := htp0
    have GT : Hid (w.heap.size ≤ w2.heap.size ∧ 0 < w2.heap.size) := ⟨B2.out.size, Nat.lt_of_lt_of_le HT.out.pos B2.out.size⟩
    have HGT : Hid (w2.heap.size ≤ (w2.alloc (.cells #[.slice none 0 0] 40)).heap.size) := by show _ ≤ _; simp
    have R03 : Hid (Row (w2.alloc (.cells #[.slice none 0 0] 40)) w.heap.size (cutR a).cs 34) := R02.out.alloc _
    have R13 : Hid (Row (w2.alloc (.cells #[.slice none 0 0] 40)) (w.heap.size + 1) (cutR b).cs 34) := R12.out.alloc _
    have HLT : Hid (w.heap.size + 1 < (w2.alloc (.cells #[.slice none 0 0] 40)).heap.size) := R13.out.lt
    clear r5 htp0 R02 R12 B2
    generalize w2.alloc (.cells #[.slice none 0 0] 40) = w3 at *
    generalize w2.heap.size = T at *
    have iA := info_rc (cutR a)
    have iB := info_rc (cutR b)
    have HAB : Hid ((Tryd.prog.info? 42).map (·.size) = some (bytesL (hsh (msgL (rowBy (cutR a))))).size ∧ (bytesL (List.replicate 32 0)).size = (bytesL (hsh (msgL (rowBy (cutR a))))).size ∧ (Tryd.prog.info? 42).map (·.size) = some (bytesL (hsh (msgL (rowBy (cutR b))))).size ∧ (bytesL (List.replicate 32 0)).size = (bytesL (hsh (msgL (rowBy (cutR b))))).size) := ⟨info_h32 (hsh_32 _), z32_size (hsh_32 _), info_h32 (hsh_32 _), z32_size (hsh_32 _)⟩
    go_cut [6, 7] (fun u v wc => LfC w (cutR a) (cutR b) T u v wc)
    case first =>
      rename_i iq1 iq2 iq3 iq4 iq5 iq6 iq7
      revert a b w HT HA iq1 w1 w2 HTA HTM iq2 iq3 w3 B3 R03 R13 HLT T GT HTP0 HGT iA iB HAB iq4 iq5 iq6 iq7
      exact q_A.out
    case rest =>
      rename_i iq1 iq2 iq3
      revert a b w HT HA iq1 w1 w2 HTA HTM iq2 iq3 w3 B3 R03 R13 HLT T GT HTP0 HGT iA iB HAB wc u6 u7 u8 u9 u10 u11 u12 u13 u14 u15 u16 u17 u18 u19 u20 u21 u22 u23 u24 u25 u26 u27 u28 u29 u30 u31 u32 u33 u34 u35 u36 u37 u38 u39 u40 u41 u42 u43 u44 u45 u46 hcut
      exact q_B.out
  
end Go.Proofs.YtcahmldgkkcheaaDoor
