
/-
  The walk of WireAccounts.
-/
import Derived.Test.YtekpkbmelhgneaaWiAe
import Derived.Test.YtekpkbmelhgneaaWiL1
import Derived.Test.YtekpkbmelhgneaaHeld
import Derived.Deep.DeepCutAuto
import Derived.Deep.CutBlock
namespace Go.Proofs.Ytekpkbmelhgneaa
open Go.RowKit
set_option maxRecDepth 100000
set_option linter.unusedSimpArgs false
set_option linter.unusedVariables false

/-- An account, a row as they are handed in. -/
structure AqI where
  hi : Nat
  lo : Nat
  led : Int
  fl : Int
  h1 : Nat
  l1 : Nat
  h2 : Nat
  l2 : Nat
  h3 : Nat
  l3 : Nat
  h4 : Nat
  l4 : Nat
  tm : Int
  un : Int
  t : List Nat
def AqI.cs (a : AqI) : Array Value := #[.int .u64 a.hi, .int .u64 a.lo, .int .i64 a.led, .int .i64 a.fl, .int .u64 a.h1, .int .u64 a.l1, .int .u64 a.h2, .int .u64 a.l2, .int .u64 a.h3, .int .u64 a.l3, .int .u64 a.h4, .int .u64 a.l4, .int .i64 a.tm, .int .i64 a.un] ++ bytesL a.t
structure AqI.ok (a : AqI) : Prop where
  w0 : Word64 (a.hi, a.lo)
  w1 : Word64 (a.h1, a.l1)
  w2 : Word64 (a.h2, a.l2)
  w3 : Word64 (a.h3, a.l3)
  w4 : Word64 (a.h4, a.l4)
  len : a.t.length = 32
  w8 : W8 a.t
def AqI.tame (a : AqI) : Aq := ⟨a.hi, a.lo, low 4294967296 a.led, low 65536 a.fl, a.h1, a.l1, a.h2, a.l2, a.h3, a.l3, a.h4, a.l4, low 281474976710656 a.tm, low 281474976710656 a.un⟩
structure RwI where
  h0 : Nat
  l0 : Nat
  tm : Int
  rs : Int
  h1 : Nat
  l1 : Nat
  h2 : Nat
  l2 : Nat
  h3 : Nat
  l3 : Nat
  h4 : Nat
  l4 : Nat
  h5 : Nat
  l5 : Nat
def RwI.cs (a : RwI) : Array Value := #[.int .u64 a.h0, .int .u64 a.l0, .int .i64 a.tm, .int .i64 a.rs, .int .u64 a.h1, .int .u64 a.l1, .int .u64 a.h2, .int .u64 a.l2, .int .u64 a.h3, .int .u64 a.l3, .int .u64 a.h4, .int .u64 a.l4, .int .u64 a.h5, .int .u64 a.l5]
structure RwI.ok (a : RwI) : Prop where
  w0 : Word64 (a.h0, a.l0)
  w1 : Word64 (a.h1, a.l1)
  w2 : Word64 (a.h2, a.l2)
  w3 : Word64 (a.h3, a.l3)
  w4 : Word64 (a.h4, a.l4)
  w5 : Word64 (a.h5, a.l5)
def RwI.tame (a : RwI) : Rw := ⟨a.h0, a.l0, low 281474976710656 a.tm, (low 65536 a.rs : Int) - 1, a.h1, a.l1, a.h2, a.l2, a.h3, a.l3, a.h4, a.l4, a.h5, a.l5⟩
theorem AqI.set (a : AqI) : (((a.cs.setIfInBounds 2 (.int .i64 (low 4294967296 a.led : Nat))).setIfInBounds 3 (.int .i64 (low 65536 a.fl : Nat))).setIfInBounds 12 (.int .i64 (low 281474976710656 a.tm : Nat))).setIfInBounds 13 (.int .i64 (low 281474976710656 a.un : Nat)) = a.tame.cells a.t := by
  simp [AqI.cs, AqI.tame, Aq.cells, bytesL]
theorem RwI.set (a : RwI) : (a.cs.setIfInBounds 2 (.int .i64 (low 281474976710656 a.tm : Nat))).setIfInBounds 3 (.int .i64 ((low 65536 a.rs : Int) - 1)) = a.tame.cells := by
  simp [RwI.cs, RwI.tame, Rw.cells]
theorem low_mask {x m : Int} {n : Nat} (hn : 0 < n) (h : bits .and .i64 x m = x % (n : Int)) : bits .and .i64 x m = (low n x : Nat) := h.trans (low_eq n hn x)

theorem app14 (p q : Array Value) (i : Nat) (h : i < p.size) : (p ++ q)[i]? = p[i]? := Array.getElem?_append_left h
def accL (a : Aq) (t : List Nat) : List Nat := accB a.hi a.lo a.led a.fl a.h1 a.l1 a.h2 a.l2 a.h3 a.l3 a.h4 a.l4 a.tm a.un t
def rowL (a : Rw) : List Nat := rowB a.h0 a.l0 a.tm a.rs a.h1 a.l1 a.h2 a.l2 a.h3 a.l3 a.h4 a.l4 a.h5 a.l5
theorem accL_len (a : Aq) (t : List Nat) (h : t.length = 32) : (accL a t).length = 130 := by simp [accL, accB, acB_len, numB_len, intB_len, h]
theorem rowL_len (a : Rw) : (rowL a).length = 104 := rowB_len ..
theorem acB_w8 (hi lo : Nat) (led fl : Int) : W8 (acB hi lo led fl) := by
  unfold acB
  exact ((numB_w8 _).append (intB_w8 _ _)).append (intB_w8 _ _)
theorem accL_w8 (a : Aq) (t : List Nat) (h : W8 t) : W8 (accL a t) :=
  (acB_w8 _ _ _ _).append ((numB_w8 _).append ((numB_w8 _).append ((numB_w8 _).append ((numB_w8 _).append ((intB_w8 _ _).append ((intB_w8 _ _).append h))))))
theorem rowL_w8 (a : Rw) : W8 (rowL a) :=
  (numB_w8 _).append ((intB_w8 _ _).append ((intB_w8 _ _).append ((numB_w8 _).append ((numB_w8 _).append ((numB_w8 _).append ((numB_w8 _).append (numB_w8 _)))))))
set_option maxHeartbeats 2000000 in
theorem wacc2 (a : Aq) (t : List Nat) (ht : t.length = 32) (h8 : W8 t) (h0 : Word64 (a.hi, a.lo)) (h1 : Word64 (a.h1, a.l1)) (h2 : Word64 (a.h2, a.l2)) (h3 : Word64 (a.h3, a.l3)) (h4 : Word64 (a.h4, a.l4)) (w : World) :
    Calls Try.prog 17 #[.agg (a.cells t)] w fun e w' => ∃ v', e = .returned v' ∧ Own w' w.heap.size v' (accL a t) ∧ Below w.heap.size w w' := by
  refine wacc_any (a.cells t) (a.size t ht) a.hi a.lo a.led a.fl a.h1 a.l1 a.h2 a.l2 a.h3 a.l3 a.h4 a.l4 a.tm a.un t ht h8 h0 h1 h2 h3 h4 ?_ ?_ ?_ ?_ ?_ ?_ ?_ ?_ ?_ ?_ ?_ ?_ ?_ ?_ ?_ w
  case refine_15 =>
    intro j hj
    unfold Aq.cells
    rw [Array.getElem?_append_right (by simp)]
    simp only [List.size_toArray, List.length_cons, List.length_nil]
    rw [show 14 + j - (0 + 1 + 1 + 1 + 1 + 1 + 1 + 1 + 1 + 1 + 1 + 1 + 1 + 1 + 1) = j by omega]
    exact bytesL_at t j (by omega)
  all_goals exact app14 _ _ _ (by simp)
set_option maxHeartbeats 2000000 in
theorem wrow2 (a : Rw) (h0 : Word64 (a.h0, a.l0)) (h1 : Word64 (a.h1, a.l1)) (h2 : Word64 (a.h2, a.l2)) (h3 : Word64 (a.h3, a.l3)) (h4 : Word64 (a.h4, a.l4)) (h5 : Word64 (a.h5, a.l5)) (r0 : -1 ≤ a.rs) (r1 : a.rs ≤ 65534) (w : World) :
    Calls Try.prog 18 #[.agg a.cells] w fun e w' => ∃ v', e = .returned v' ∧ Own w' w.heap.size v' (rowL a) ∧ Below w.heap.size w w' :=
  wrow_any a.cells a.h0 a.l0 a.tm a.rs a.h1 a.l1 a.h2 a.l2 a.h3 a.l3 a.h4 a.l4 a.h5 a.l5 h0 h1 h2 h3 h4 h5 rfl rfl rfl rfl rfl rfl rfl rfl rfl rfl rfl rfl rfl rfl r0 r1 w
theorem yields_row {ops : Array Oper} {S : World → Prop} {op : Oper} {a : Act} (hw : Region.wanted op (yielded ops a.tmps) = true) (ty : TypeId) (x : Operand) (ho : op.op = .load ty x)
    (g : Nat) (hx : a.eval x = .pointer (some ⟨g, 0, none⟩)) (t : TypeId) (cs : Array Value) (d : TypeDesc) (hS : ∀ w, S w → Row w g cs t)
    (hu : Try.prog.underlying ty = some d) (hd : (match d with | .struct _ | .array _ _ => true | _ => false) = true) (hi : (Try.prog.info? ty).map (·.size) = some cs.size) : YieldsIf Try.prog ops S op (.agg cs) a :=
  .inl ⟨hw, fun w hw' => by
    unfold execOp
    simp only [ho, hx, Instr.loadAt, Instr.sureAddr, Sem.run_bind, Sem.run_pure, Result.andThen_ok, run_loadVar_row (P := Try.prog) w g t ty cs (0, 0) d (hS w hw') hu (by cases d <;> simp_all) hi]⟩
set_option maxHeartbeats 8000000 in
theorem accounts_walk (a : AqI) (x : RwI) (w : World) (ha : a.ok) (hx : x.ok) :
    Calls Try.prog 5 #[.agg a.cs, .agg x.cs] w fun e w' => e = .returned (.bool true) ∧ Below w.heap.size w w' := by
  have B0 := below2 w (.cells a.cs 42) (.cells x.cs 44)
  have rA0 : Row ((w.alloc (.cells a.cs 42)).alloc (.cells x.cs 44)) w.heap.size a.cs 42 := (Row.new w a.cs 42 rfl).alloc _
  have rX0 : Row ((w.alloc (.cells a.cs 42)).alloc (.cells x.cs 44)) (w.heap.size + 1) x.cs 44 := Row.new _ _ _ (by simp)
  go_enter Try.func5, Try.ntmps5
  go_wp2_with (go_at_call 11; refine stop ?_)
  refine (fit_any _).mono ?_
  rintro e w1 ⟨rfl, hb1⟩
  have rA := rA0.later hb1
  have rX := rX0.later hb1
  have B1 := chain B0 hb1
  clear rA0 rX0 B0 hb1
  have m1 := low_mask (by decide) (mask32 a.led)
  have m2 := low_mask (by decide) (mask16 a.fl)
  have m3 := low_mask (by decide) (mask48 a.tm)
  have m4 := low_mask (by decide) (mask48 a.un)
  have m5 := low_mask (by decide) (mask48 x.tm)
  have m6 := low_mask (by decide) (mask16 x.rs)
  have hl6 := low_lt 65536 (by decide) x.rs
  have c2 : w1.cell? ⟨w.heap.size, 2, none⟩ = some (.int .i64 a.led) := by rw [rA.cell]; exact app14 _ _ 2 (by simp)
  have c3 : w1.cell? ⟨w.heap.size, 3, none⟩ = some (.int .i64 a.fl) := by rw [rA.cell]; exact app14 _ _ _ (by simp)
  have c12 : w1.cell? ⟨w.heap.size, 12, none⟩ = some (.int .i64 a.tm) := by rw [rA.cell]; exact app14 _ _ _ (by simp)
  have c13 : w1.cell? ⟨w.heap.size, 13, none⟩ = some (.int .i64 a.un) := by rw [rA.cell]; exact app14 _ _ _ (by simp)
  have x2 : w1.cell? ⟨w.heap.size + 1, 2, none⟩ = some (.int .i64 x.tm) := by rw [rX.cell]; simp [RwI.cs]
  have x3 : w1.cell? ⟨w.heap.size + 1, 3, none⟩ = some (.int .i64 x.rs) := by rw [rX.cell]; simp [RwI.cs]
  have f2 := rA.frozen 2
  have f3 := rA.frozen 3
  have f12 := rA.frozen 12
  have f13 := rA.frozen 13
  have g2 := rX.frozen 2
  have g3 := rX.frozen 3
  have rA2 := (((rA.set 2 (.int .i64 (low 4294967296 a.led : Nat))).set 3 (.int .i64 (low 65536 a.fl : Nat))).set 12 (.int .i64 (low 281474976710656 a.tm : Nat))).set 13 (.int .i64 (low 281474976710656 a.un : Nat))
  rw [AqI.set] at rA2
  have rX2 := ((((rX.setOther (a := ⟨w.heap.size, 2, none⟩) (.int .i64 (low 4294967296 a.led : Nat)) (by simp)).setOther (a := ⟨w.heap.size, 3, none⟩) (.int .i64 (low 65536 a.fl : Nat)) (by simp)).setOther (a := ⟨w.heap.size, 12, none⟩) (.int .i64 (low 281474976710656 a.tm : Nat)) (by simp)).setOther (a := ⟨w.heap.size, 13, none⟩) (.int .i64 (low 281474976710656 a.un : Nat)) (by simp))
  have rX3 := (rX2.set 2 (.int .i64 (low 281474976710656 x.tm : Nat))).set 3 (.int .i64 ((low 65536 x.rs : Int) - 1))
  rw [RwI.set] at rX3
  have rA3 := (rA2.setOther (a := ⟨w.heap.size + 1, 2, none⟩) (.int .i64 (low 281474976710656 x.tm : Nat)) (by simp)).setOther (a := ⟨w.heap.size + 1, 3, none⟩) (.int .i64 ((low 65536 x.rs : Int) - 1)) (by simp)
  have B3 := (((((B1.setCell (p := ⟨w.heap.size, 2, none⟩) (Nat.le_refl _) (.int .i64 (low 4294967296 a.led : Nat))).setCell (p := ⟨w.heap.size, 3, none⟩) (Nat.le_refl _) (.int .i64 (low 65536 a.fl : Nat))).setCell (p := ⟨w.heap.size, 12, none⟩) (Nat.le_refl _) (.int .i64 (low 281474976710656 a.tm : Nat))).setCell (p := ⟨w.heap.size, 13, none⟩) (Nat.le_refl _) (.int .i64 (low 281474976710656 a.un : Nat))).setCell (p := ⟨w.heap.size + 1, 2, none⟩) (Nat.le_succ _) (.int .i64 (low 281474976710656 x.tm : Nat))).setCell (p := ⟨w.heap.size + 1, 3, none⟩) (Nat.le_succ _) (.int .i64 ((low 65536 x.rs : Int) - 1))
  clear rA2 rX2 rA rX B1
  have HL : Hid _ := hl6
  have b6 : (low 65536 x.rs : Int) < 65536 := by omega
  have b60 : (0 : Int) ≤ (low 65536 x.rs : Int) := by omega
  clear hl6
  go_upto_region 5 with fail
  generalize (((((w1.setCell ⟨w.heap.size, 2, none⟩ (.int .i64 (low 4294967296 a.led : Nat))).setCell ⟨w.heap.size, 3, none⟩ (.int .i64 (low 65536 a.fl : Nat))).setCell ⟨w.heap.size, 12, none⟩ (.int .i64 (low 281474976710656 a.tm : Nat))).setCell ⟨w.heap.size, 13, none⟩ (.int .i64 (low 281474976710656 a.un : Nat))).setCell ⟨w.heap.size + 1, 2, none⟩ (.int .i64 (low 281474976710656 x.tm : Nat))).setCell ⟨w.heap.size + 1, 3, none⟩ (.int .i64 ((low 65536 x.rs : Int) - 1)) = w3 at *
  clear c2 c3 c12 c13 x2 x3 f2 f3 f12 f13 g2 g3 m1 m2 m3 m4 m5 m6
  have hA1 : Word64 (a.tame.hi, a.tame.lo) := ha.w0
  have hA2 : Word64 (a.tame.h1, a.tame.l1) := ha.w1
  have hA3 : Word64 (a.tame.h2, a.tame.l2) := ha.w2
  have hA4 : Word64 (a.tame.h3, a.tame.l3) := ha.w3
  have hA5 : Word64 (a.tame.h4, a.tame.l4) := ha.w4
  have hX1 : Word64 (x.tame.h0, x.tame.l0) := hx.w0
  have hX2 : Word64 (x.tame.h1, x.tame.l1) := hx.w1
  have hX3 : Word64 (x.tame.h2, x.tame.l2) := hx.w2
  have hX4 : Word64 (x.tame.h3, x.tame.l3) := hx.w3
  have hX5 : Word64 (x.tame.h4, x.tame.l4) := hx.w4
  have hX6 : Word64 (x.tame.h5, x.tame.l5) := hx.w5
  have r0 : -1 ≤ x.tame.rs := by show -1 ≤ (low 65536 x.rs : Int) - 1; omega
  have r1 : x.tame.rs ≤ 65534 := by show (low 65536 x.rs : Int) - 1 ≤ 65534; omega
  have t0 : x.tame.tm < 281474976710656 := low_lt 281474976710656 (by decide) x.tm
  have n1 : a.tame.led < 4294967296 := low_lt 4294967296 (by decide) a.led
  have n2 : a.tame.fl < 65536 := low_lt 65536 (by decide) a.fl
  have n3 : a.tame.tm < 281474976710656 := low_lt 281474976710656 (by decide) a.tm
  have n4 : a.tame.un < 281474976710656 := low_lt 281474976710656 (by decide) a.un
  have hat := ha.len
  have ha8 := ha.w8
  clear HL b6 b60
  generalize a.tame = A at *
  generalize x.tame = X at *
  generalize a.t = t at *
  have hia : (Try.prog.info? 42).map (·.size) = some (A.cells t).size := by rw [A.size t hat]; exact info_acc
  have hix : (Try.prog.info? 44).map (·.size) = some X.cells.size := info_row
  have hla := accL_len A t hat
  have hlx := rowL_len X
  have hwa := accL_w8 A t ha8
  have hwx := rowL_w8 X
  obtain ⟨Ab, hAb⟩ : ∃ g, g = w.heap.size := ⟨_, rfl⟩
  refine wp_region_D (fun i => i != 4) (fun w' : World => Row w' w.heap.size (A.cells t) 42 ∧ Row w' (w.heap.size + 1) X.cells 44) (by kernel_rfl) ?_
  have hS : (fun w' : World => Row w' w.heap.size (A.cells t) 42 ∧ Row w' (w.heap.size + 1) X.cells 44) w3.drew := ⟨rA3, rX3⟩
  have B4 : Below w.heap.size w w3.drew := B3.drew
  clear rA3 rX3 B3
  generalize w3.drew = w4 at *
  have zA : w.heap.size + 1 < w4.heap.size := hS.2.lt
  refine wpAnyD_take (i := 0) rfl (by kernel_rfl) (by kernel_rfl) (by kernel_rfl) (by kernel_rfl) (fun _ _ _ h => h) (yields_row (by rfl) 42 _ rfl w.heap.size rfl 42 (A.cells t) _ (fun _ h => h.1) Try.underlying42 rfl hia) hS ?_
  simp only [Act.put, List.setIfInBounds_toArray, List.set_cons_zero, List.set_cons_succ]
  refine wpAnyD_take (i := 2) rfl (by kernel_rfl) (by kernel_rfl) (by kernel_rfl) (by kernel_rfl) (fun _ _ _ h => h) (yields_row (by rfl) 44 _ rfl (w.heap.size + 1) rfl 44 X.cells _ (fun _ h => h.2) Try.underlying44 rfl hix) hS ?_
  simp only [Act.put, List.setIfInBounds_toArray, List.set_cons_zero, List.set_cons_succ]
  refine wpAnyD_only (i := 1) rfl (by kernel_rfl) (by rfl) (fun K hK => ?_)
  go_simp
  refine (wacc2 A t hat ha8 hA1 hA2 hA3 hA4 hA5 w4).mono ?_
  rintro e w5 ⟨v5, rfl, own5, hb5⟩
  have B5 := chain B4 hb5
  try dsimp only
  have hSn := (⟨hS.1.later hb5, hS.2.later hb5⟩ : (fun w' : World => Row w' w.heap.size (A.cells t) 42 ∧ Row w' (w.heap.size + 1) X.cells 44) w5)
  refine hK.out _ _ (fun _ => hSn) ?_
  clear hK K hS
  have hS := hSn
  clear hSn
  try simp only [Act.put, List.setIfInBounds_toArray, List.set_cons_zero, List.set_cons_succ]
  refine wpAnyD_only (i := 3) rfl (by kernel_rfl) (by rfl) (fun K hK => ?_)
  go_simp
  refine (wrow2 X hX1 hX2 hX3 hX4 hX5 hX6 r0 r1 w5).mono ?_
  rintro e w6 ⟨v6, rfl, own6, hb6⟩
  have B6 := chain B5 hb6
  have own56 : Own w6 w4.heap.size v5 (accL A t) := ownsRow_later own5 hb6
  try dsimp only
  have hSn := (⟨hS.1.later hb6, hS.2.later hb6⟩ : (fun w' : World => Row w' w.heap.size (A.cells t) 42 ∧ Row w' (w.heap.size + 1) X.cells 44) w6)
  refine hK.out _ _ (fun _ => hSn) ?_
  clear hK K hS
  have hS := hSn
  clear hSn
  try simp only [Act.put, List.setIfInBounds_toArray, List.set_cons_zero, List.set_cons_succ]
  have hb46 : w4.heap.size ≤ w6.heap.size := Nat.le_trans hb5.size hb6.size
  obtain ⟨v7, w7, run7, own7, gr7, _, mv7⟩ := append_bytes w6 w4.heap.size 32 v5 _ own56 v6 _ (own6.bytes hwx (by rw [hlx]; decide)) (by rw [hla, hlx]; decide) hb46
  have hgr : Below w4.heap.size w6 w7 := ⟨gr7.os, gr7.tape, gr7.output, gr7.size, fun k hk => gr7.block k (by omega) (fun e => by have := (own56.lt k e.symm).1; omega)⟩
  refine wpAnyD_only (i := 4) rfl (by kernel_rfl) (by rfl) (fun K hK => ?_)
  refine Lib.wp_append_run _ _ _ _ _ rfl _ _ rfl rfl _ _ run7 ?_
  refine hK.out _ _ (fun hh => by cases hh) ?_
  clear hK K
  try simp only [Act.put, List.setIfInBounds_toArray, List.set_cons_zero, List.set_cons_succ]
  have hS7 : (fun w' : World => Row w' w.heap.size (A.cells t) 42 ∧ Row w' (w.heap.size + 1) X.cells 44) w7 := ⟨(hgr.block _ (by omega)).trans hS.1, (hgr.block _ zA).trans hS.2⟩
  clear hS
  have hS := hS7
  clear hS7
  have B7 : Below w.heap.size w w7 := B6.trans (hgr.mono B4.size)
  have hbv : BytesAt w7 v7 (accL A t ++ rowL X) := own7.bytes (hwa.append hwx) (by rw [List.length_append, hla, hlx]; decide)
  clear own5 own6 own56 own7 gr7 mv7 run7 hgr hb46 hb5 hb6 B4 B5 B6
  obtain ⟨p7, n7, c7, hv7, hn7⟩ := (show ∃ p n c, v7 = .slice p n c ∧ n = (accL A t ++ rowL X).length from by
    obtain ⟨_, _, p, c, e, _⟩ := hbv
    exact ⟨p, _, c, e, rfl⟩)
  subst hv7
  clear hn7
  refine' wpAnyD_take (i := 5) (v := _) rfl (by kernel_rfl) (by kernel_rfl) (by kernel_rfl) (by kernel_rfl) (fun _ _ _ h => h) (Or.inl ⟨by rfl, ?hy1⟩) hS ?re1
  case hy1 => (intro w hSw; (try dsimp only at hSw); go_simp; (try with_reducible rfl))
  simp only [Act.put, List.setIfInBounds_toArray, List.set_cons_zero, List.set_cons_succ]
  refine wpAnyD_done (by kernel_rfl) ?_ _
  go_wp2_with (go_at_call 19; refine stop ?_)
  refine (new_any _ _ w7 hbv (by rw [List.length_append, hla, hlx]; decide)).mono ?_
  rintro e w8 ⟨R, D, rfl, hR, hD, rd8, hb8⟩
  have B8 := chain B7 hb8
  have rA8 := hS.1.later hb8
  have rX8 := hS.2.later hb8
  have hz7 := hS.2.lt
  obtain ⟨e1, e2, e3⟩ := rAq_bytes A t (rowL X) hA1 hA2 hA3 hA4 hA5 n1 n2 n3 n4 hat
  obtain ⟨e4, e5⟩ := rRw_bytes X.h0 X.l0 X.tm X.rs X.h1 X.l1 X.h2 X.l2 X.h3 X.l3 X.h4 X.l4 X.h5 X.l5 [] hX1 hX2 hX3 hX4 hX5 hX6 t0 r0 r1
  rw [List.append_nil] at e4 e5
  have hsa := acc_same A t hat
  have hsx := row_same X
  clear hS hbv hb8 B7
  go_wp2_with fail
  refine wp_region_D (fun _ => true) (fun w' : World => Row w' w.heap.size (A.cells t) 42 ∧ Row w' (w.heap.size + 1) X.cells 44) (by kernel_rfl) ?_
  have hS : (fun w' : World => Row w' w.heap.size (A.cells t) 42 ∧ Row w' (w.heap.size + 1) X.cells 44) w8.drew := ⟨rA8, rX8⟩
  have B9 : Below w.heap.size w w8.drew := B8.drew
  have rd9 := rd8.drew
  clear rA8 rX8 B8 rd8
  generalize w8.drew = w9 at *
  refine' wpAnyD_take (i := 0) (v := _) rfl (by kernel_rfl) (by kernel_rfl) (by kernel_rfl) (by kernel_rfl) (fun _ _ _ h => h) (Or.inl ⟨by rfl, ?hy2⟩) hS ?re2
  case hy2 => (intro w hSw; (try dsimp only at hSw); go_simp; (try with_reducible rfl))
  simp only [Act.put, List.setIfInBounds_toArray, List.set_cons_zero, List.set_cons_succ]
  refine wpAnyD_take (i := 2) rfl (by kernel_rfl) (by kernel_rfl) (by kernel_rfl) (by kernel_rfl) (fun _ _ _ h => h) (yields_row (by rfl) 42 _ rfl w.heap.size rfl 42 (A.cells t) _ (fun _ h => h.1) Try.underlying42 rfl hia) hS ?_
  simp only [Act.put, List.setIfInBounds_toArray, List.set_cons_zero, List.set_cons_succ]
  refine wpAnyD_only (i := 1) rfl (by kernel_rfl) (by rfl) (fun K hK => ?_)
  go_simp
  refine (readAcc_any w9 R D _ rd9).mono ?_
  rintro e w10 ⟨rfl, rd10, el10⟩
  have e1' : rAq (accL A t ++ rowL X, false) = A := e1
  have e2' : rAqH (accL A t ++ rowL X, false) = t := e2
  have e3' : rAqS (accL A t ++ rowL X, false) = (rowL X, false) := e3
  rw [e1', e2']
  rw [e3'] at rd10
  have B10 : Below w.heap.size w w10 := B9.trans (el10.below B9.size (by omega))
  try dsimp only
  have hSn := (⟨hS.1.else el10 (by omega), hS.2.else el10 (by omega)⟩ : (fun w' : World => Row w' w.heap.size (A.cells t) 42 ∧ Row w' (w.heap.size + 1) X.cells 44) w10)
  refine hK.out _ _ (fun _ => hSn) ?_
  clear hK K hS
  have hS := hSn
  clear hSn
  try simp only [Act.put, List.setIfInBounds_toArray, List.set_cons_zero, List.set_cons_succ]
  refine' wpAnyD_take (i := 3) (v := _) rfl (by kernel_rfl) (by kernel_rfl) (by kernel_rfl) (by kernel_rfl) (fun _ _ _ h => h) (Or.inl ⟨by rfl, ?hy3⟩) hS ?re3
  case hy3 => (intro w hSw; (try dsimp only at hSw); go_simp; (try with_reducible rfl))
  simp only [Act.put, List.setIfInBounds_toArray, List.set_cons_zero, List.set_cons_succ]
  refine' wpAnyD_take (i := 4) (v := _) rfl (by kernel_rfl) (by kernel_rfl) (by kernel_rfl) (by kernel_rfl) (fun _ _ _ h => h) (Or.inl ⟨by rfl, ?hy4⟩) hS ?re4
  case hy4 => (intro w hSw; (try dsimp only at hSw); go_simp; (try with_reducible rfl))
  simp only [Act.put, List.setIfInBounds_toArray, List.set_cons_zero, List.set_cons_succ]
  refine' wpAnyD_take (i := 5) (v := _) rfl (by kernel_rfl) (by kernel_rfl) (by kernel_rfl) (by kernel_rfl) (fun _ _ _ h => h) (Or.inl ⟨by rfl, ?hy5⟩) hS ?re5
  case hy5 => (intro w hSw; (try dsimp only at hSw); go_simp; (try with_reducible rfl))
  simp only [Act.put, List.setIfInBounds_toArray, List.set_cons_zero, List.set_cons_succ]
  refine wpAnyD_only (i := 6) rfl (by kernel_rfl) (by rfl) (fun K hK => ?_)
  go_simp
  refine (done_any w10 R D _ rd10).mono ?_
  rintro e w' ⟨rfl, hw'⟩
  obtain rfl := hw'.symm
  rw [show (!(rowL X, false).2 && (rowL X, false).1.length == 0) = false by rw [hlx]; rfl]
  try dsimp only
  have hSn := hS
  refine hK.out _ _ (fun _ => hSn) ?_
  clear hK K hS
  have hS := hSn
  clear hSn
  try simp only [Act.put, List.setIfInBounds_toArray, List.set_cons_zero, List.set_cons_succ]
  refine' wpAnyD_take (i := 7) (v := _) rfl (by kernel_rfl) (by kernel_rfl) (by kernel_rfl) (by kernel_rfl) (fun _ _ _ h => h) (Or.inl ⟨by rfl, ?hy6⟩) hS ?re6
  case hy6 => (intro w hSw; (try dsimp only at hSw); go_simp; (try with_reducible rfl))
  simp only [Act.put, List.setIfInBounds_toArray, List.set_cons_zero, List.set_cons_succ]
  refine' wpAnyD_take (i := 8) (v := _) rfl (by kernel_rfl) (by kernel_rfl) (by kernel_rfl) (by kernel_rfl) (fun _ _ _ h => h) (Or.inl ⟨by rfl, ?hy7⟩) hS ?re7
  case hy7 => (intro w hSw; (try dsimp only at hSw); go_simp; (try with_reducible rfl))
  simp only [Act.put, List.setIfInBounds_toArray, List.set_cons_zero, List.set_cons_succ]
  refine' wpAnyD_take (i := 9) (v := _) rfl (by kernel_rfl) (by kernel_rfl) (by kernel_rfl) (by kernel_rfl) (fun _ _ _ h => h) (Or.inl ⟨by rfl, ?hy8⟩) hS ?re8
  case hy8 => (intro w hSw; (try dsimp only at hSw); go_simp; (try with_reducible rfl))
  simp only [Act.put, List.setIfInBounds_toArray, List.set_cons_zero, List.set_cons_succ]
  refine' wpAnyD_take (i := 10) (v := _) rfl (by kernel_rfl) (by kernel_rfl) (by kernel_rfl) (by kernel_rfl) (fun _ _ _ h => h) (Or.inl ⟨by rfl, ?hy9⟩) hS ?re9
  case hy9 => (intro w hSw; (try dsimp only at hSw); go_simp; (try with_reducible rfl))
  simp only [Act.put, List.setIfInBounds_toArray, List.set_cons_zero, List.set_cons_succ]
  refine wpAnyD_take (i := 12) rfl (by kernel_rfl) (by kernel_rfl) (by kernel_rfl) (by kernel_rfl) (fun _ _ _ h => h) (yields_row (by rfl) 44 _ rfl (w.heap.size + 1) rfl 44 X.cells _ (fun _ h => h.2) Try.underlying44 rfl hix) hS ?_
  simp only [Act.put, List.setIfInBounds_toArray, List.set_cons_zero, List.set_cons_succ]
  refine wpAnyD_only (i := 11) rfl (by kernel_rfl) (by rfl) (fun K hK => ?_)
  go_simp
  refine (readRow_any w10 R D _ rd10).mono ?_
  rintro e w11 ⟨rfl, rd11, el11⟩
  have e4' : rRw (rowL X, false) = X := e4
  have e5' : rRwS (rowL X, false) = ([], false) := e5
  rw [e4']
  rw [e5'] at rd11
  have B11 : Below w.heap.size w w11 := B10.trans (el11.below B10.size (by omega))
  try dsimp only
  have hSn := (⟨hS.1.else el11 (by omega), hS.2.else el11 (by omega)⟩ : (fun w' : World => Row w' w.heap.size (A.cells t) 42 ∧ Row w' (w.heap.size + 1) X.cells 44) w11)
  refine hK.out _ _ (fun _ => hSn) ?_
  clear hK K hS
  have hS := hSn
  clear hSn
  try simp only [Act.put, List.setIfInBounds_toArray, List.set_cons_zero, List.set_cons_succ]
  refine' wpAnyD_take (i := 13) (v := _) rfl (by kernel_rfl) (by kernel_rfl) (by kernel_rfl) (by kernel_rfl) (fun _ _ _ h => h) (Or.inl ⟨by rfl, ?hy10⟩) hS ?re10
  case hy10 => (intro w hSw; (try dsimp only at hSw); go_simp; (try with_reducible rfl))
  simp only [Act.put, List.setIfInBounds_toArray, List.set_cons_zero, List.set_cons_succ]
  refine' wpAnyD_take (i := 14) (v := _) rfl (by kernel_rfl) (by kernel_rfl) (by kernel_rfl) (by kernel_rfl) (fun _ _ _ h => h) (Or.inl ⟨by rfl, ?hy11⟩) hS ?re11
  case hy11 => (intro w hSw; (try dsimp only at hSw); go_simp; (try with_reducible rfl))
  simp only [Act.put, List.setIfInBounds_toArray, List.set_cons_zero, List.set_cons_succ]
  refine' wpAnyD_take (i := 15) (v := _) rfl (by kernel_rfl) (by kernel_rfl) (by kernel_rfl) (by kernel_rfl) (fun _ _ _ h => h) (Or.inl ⟨by rfl, ?hy12⟩) hS ?re12
  case hy12 => (intro w hSw; (try dsimp only at hSw); go_simp; (try with_reducible rfl))
  simp only [Act.put, List.setIfInBounds_toArray, List.set_cons_zero, List.set_cons_succ]
  refine' wpAnyD_take (i := 16) (v := _) rfl (by kernel_rfl) (by kernel_rfl) (by kernel_rfl) (by kernel_rfl) (fun _ _ _ h => h) (Or.inl ⟨by rfl, ?hy13⟩) hS ?re13
  case hy13 => (intro w hSw; (try dsimp only at hSw); go_simp; (try with_reducible rfl))
  simp only [Act.put, List.setIfInBounds_toArray, List.set_cons_zero, List.set_cons_succ]
  refine wpAnyD_only (i := 17) rfl (by kernel_rfl) (by rfl) (fun K hK => ?_)
  go_simp
  refine (done_any w11 R D _ rd11).mono ?_
  rintro e w' ⟨rfl, hw'⟩
  obtain rfl := hw'.symm
  rw [show (!(([] : List Nat), false).2 && (([] : List Nat), false).1.length == 0) = true from rfl]
  try dsimp only
  have hSn := hS
  refine hK.out _ _ (fun _ => hSn) ?_
  clear hK K hS
  have hS := hSn
  clear hSn
  try simp only [Act.put, List.setIfInBounds_toArray, List.set_cons_zero, List.set_cons_succ]
  refine' wpAnyD_take (i := 18) (v := _) rfl (by kernel_rfl) (by kernel_rfl) (by kernel_rfl) (by kernel_rfl) (fun _ _ _ h => h) (Or.inl ⟨by rfl, ?hy14⟩) hS ?re14
  case hy14 => (intro w hSw; (try dsimp only at hSw); go_simp; (try with_reducible rfl))
  simp only [Act.put, List.setIfInBounds_toArray, List.set_cons_zero, List.set_cons_succ]
  refine' wpAnyD_take (i := 19) (v := _) rfl (by kernel_rfl) (by kernel_rfl) (by kernel_rfl) (by kernel_rfl) (fun _ _ _ h => h) (Or.inl ⟨by rfl, ?hy15⟩) hS ?re15
  case hy15 => (intro w hSw; (try dsimp only at hSw); go_simp; (try with_reducible rfl))
  simp only [Act.put, List.setIfInBounds_toArray, List.set_cons_zero, List.set_cons_succ]
  refine' wpAnyD_take (i := 20) (v := _) rfl (by kernel_rfl) (by kernel_rfl) (by kernel_rfl) (by kernel_rfl) (fun _ _ _ h => h) (Or.inl ⟨by rfl, ?hy16⟩) hS ?re16
  case hy16 => (intro w hSw; (try dsimp only at hSw); go_simp; (try with_reducible rfl))
  simp only [Act.put, List.setIfInBounds_toArray, List.set_cons_zero, List.set_cons_succ]
  refine wpAnyD_only (i := 21) rfl (by kernel_rfl) (by rfl) (fun K hK => ?_)
  go_simp
  refine (bad_any w11 R D _ rd11).mono ?_
  rintro e w' ⟨rfl, hw'⟩
  obtain rfl := hw'.symm
  try dsimp only
  have hSn := hS
  refine hK.out _ _ (fun _ => hSn) ?_
  clear hK K hS
  have hS := hSn
  clear hSn
  try simp only [Act.put, List.setIfInBounds_toArray, List.set_cons_zero, List.set_cons_succ]
  refine' wpAnyD_take (i := 22) (v := _) rfl (by kernel_rfl) (by kernel_rfl) (by kernel_rfl) (by kernel_rfl) (fun _ _ _ h => h) (Or.inl ⟨by rfl, ?hy17⟩) hS ?re17
  case hy17 => (intro w hSw; (try dsimp only at hSw); go_simp; (try with_reducible rfl))
  simp only [Act.put, List.setIfInBounds_toArray, List.set_cons_zero, List.set_cons_succ]
  refine' wpAnyD_take (i := 23) (v := _) rfl (by kernel_rfl) (by kernel_rfl) (by kernel_rfl) (by kernel_rfl) (fun _ _ _ h => h) (Or.inl ⟨by rfl, ?hy18⟩) hS ?re18
  case hy18 => (intro w hSw; (try dsimp only at hSw); go_simp; (try with_reducible rfl))
  simp only [Act.put, List.setIfInBounds_toArray, List.set_cons_zero, List.set_cons_succ]
  refine' wpAnyD_take (i := 24) (v := _) rfl (by kernel_rfl) (by kernel_rfl) (by kernel_rfl) (by kernel_rfl) (fun _ _ _ h => h) (Or.inl ⟨by rfl, ?hy19⟩) hS ?re19
  case hy19 => (intro w hSw; (try dsimp only at hSw); go_simp; (try with_reducible rfl))
  simp only [Act.put, List.setIfInBounds_toArray, List.set_cons_zero, List.set_cons_succ]
  refine wpAnyD_take (i := 25) rfl (by kernel_rfl) (by kernel_rfl) (by kernel_rfl) (by kernel_rfl) (fun _ _ _ h => h) (yields_row (by rfl) 42 _ rfl w.heap.size rfl 42 (A.cells t) _ (fun _ h => h.1) Try.underlying42 rfl hia) hS ?_
  simp only [Act.put, List.setIfInBounds_toArray, List.set_cons_zero, List.set_cons_succ]
  refine wpAnyD_only (i := 26) rfl (by kernel_rfl) (by rfl) (fun K hK => ?_)
  go_simp
  refine (wacc2 A t hat ha8 hA1 hA2 hA3 hA4 hA5 w11).mono ?_
  rintro e w12 ⟨v12, rfl, own12, hb12⟩
  obtain ⟨p12, n12, c12, rfl, hn12⟩ := own12.form
  rw [hla] at hn12
  subst hn12
  have B12 := chain B11 hb12
  try dsimp only
  have hSn := (⟨hS.1.later hb12, hS.2.later hb12⟩ : (fun w' : World => Row w' w.heap.size (A.cells t) 42 ∧ Row w' (w.heap.size + 1) X.cells 44) w12)
  refine hK.out _ _ (fun _ => hSn) ?_
  clear hK K hS
  have hS := hSn
  clear hSn
  try simp only [Act.put, List.setIfInBounds_toArray, List.set_cons_zero, List.set_cons_succ]
  refine' wpAnyD_take (i := 27) (v := _) rfl (by kernel_rfl) (by kernel_rfl) (by kernel_rfl) (by kernel_rfl) (fun _ _ _ h => h) (Or.inl ⟨by rfl, ?hy20⟩) hS ?re20
  case hy20 => (intro w hSw; (try dsimp only at hSw); go_simp; (try with_reducible rfl))
  simp only [Act.put, List.setIfInBounds_toArray, List.set_cons_zero, List.set_cons_succ]
  refine' wpAnyD_take (i := 28) (v := _) rfl (by kernel_rfl) (by kernel_rfl) (by kernel_rfl) (by kernel_rfl) (fun _ _ _ h => h) (Or.inl ⟨by rfl, ?hy21⟩) hS ?re21
  case hy21 => (intro w hSw; (try dsimp only at hSw); go_simp; (try with_reducible rfl))
  simp only [Act.put, List.setIfInBounds_toArray, List.set_cons_zero, List.set_cons_succ]
  refine' wpAnyD_take (i := 29) (v := _) rfl (by kernel_rfl) (by kernel_rfl) (by kernel_rfl) (by kernel_rfl) (fun _ _ _ h => h) (Or.inl ⟨by rfl, ?hy22⟩) hS ?re22
  case hy22 => (intro w hSw; (try dsimp only at hSw); go_simp; (try with_reducible rfl))
  simp only [Act.put, List.setIfInBounds_toArray, List.set_cons_zero, List.set_cons_succ]
  refine' wpAnyD_take (i := 30) (v := _) rfl (by kernel_rfl) (by kernel_rfl) (by kernel_rfl) (by kernel_rfl) (fun _ _ _ h => h) (Or.inl ⟨by rfl, ?hy23⟩) hS ?re23
  case hy23 => (intro w hSw; (try dsimp only at hSw); go_simp; (try with_reducible rfl))
  simp only [Act.put, List.setIfInBounds_toArray, List.set_cons_zero, List.set_cons_succ]
  refine wpAnyD_take (i := 31) rfl (by kernel_rfl) (by kernel_rfl) (by kernel_rfl) (by kernel_rfl) (fun _ _ _ h => h) (yields_row (by rfl) 44 _ rfl (w.heap.size + 1) rfl 44 X.cells _ (fun _ h => h.2) Try.underlying44 rfl hix) hS ?_
  simp only [Act.put, List.setIfInBounds_toArray, List.set_cons_zero, List.set_cons_succ]
  refine wpAnyD_only (i := 32) rfl (by kernel_rfl) (by rfl) (fun K hK => ?_)
  go_simp
  refine (wrow2 X hX1 hX2 hX3 hX4 hX5 hX6 r0 r1 w12).mono ?_
  rintro e w13 ⟨v13, rfl, own13, hb13⟩
  obtain ⟨p13, n13, c13, rfl, hn13⟩ := own13.form
  rw [hlx] at hn13
  subst hn13
  have B13 := chain B12 hb13
  try dsimp only
  have hSn := (⟨hS.1.later hb13, hS.2.later hb13⟩ : (fun w' : World => Row w' w.heap.size (A.cells t) 42 ∧ Row w' (w.heap.size + 1) X.cells 44) w13)
  refine hK.out _ _ (fun _ => hSn) ?_
  clear hK K hS
  have hS := hSn
  clear hSn
  try simp only [Act.put, List.setIfInBounds_toArray, List.set_cons_zero, List.set_cons_succ]
  refine' wpAnyD_take (i := 33) (v := _) rfl (by kernel_rfl) (by kernel_rfl) (by kernel_rfl) (by kernel_rfl) (fun _ _ _ h => h) (Or.inl ⟨by rfl, ?hy24⟩) hS ?re24
  case hy24 => (intro w hSw; (try dsimp only at hSw); go_simp; (try with_reducible rfl))
  simp only [Act.put, List.setIfInBounds_toArray, List.set_cons_zero, List.set_cons_succ]
  refine' wpAnyD_take (i := 34) (v := _) rfl (by kernel_rfl) (by kernel_rfl) (by kernel_rfl) (by kernel_rfl) (fun _ _ _ h => h) (Or.inl ⟨by rfl, ?hy25⟩) hS ?re25
  case hy25 => (intro w hSw; (try dsimp only at hSw); go_simp; (try with_reducible rfl))
  simp only [Act.put, List.setIfInBounds_toArray, List.set_cons_zero, List.set_cons_succ]
  refine' wpAnyD_take (i := 35) (v := _) rfl (by kernel_rfl) (by kernel_rfl) (by kernel_rfl) (by kernel_rfl) (fun _ _ _ h => h) (Or.inl ⟨by rfl, ?hy26⟩) hS ?re26
  case hy26 => (intro w hSw; (try dsimp only at hSw); go_simp; (try with_reducible rfl))
  simp only [Act.put, List.setIfInBounds_toArray, List.set_cons_zero, List.set_cons_succ]
  refine' wpAnyD_take (i := 36) (v := _) rfl (by kernel_rfl) (by kernel_rfl) (by kernel_rfl) (by kernel_rfl) (fun _ _ _ h => h) (Or.inl ⟨by rfl, ?hy27⟩) hS ?re27
  case hy27 => (intro w hSw; (try dsimp only at hSw); go_simp; (try with_reducible rfl))
  simp only [Act.put, List.setIfInBounds_toArray, List.set_cons_zero, List.set_cons_succ]
  refine wpAnyD_done (by kernel_rfl) ?_ _
  go_wp2
  go_ret
  exact ⟨rfl, B13⟩
end Go.Proofs.Ytekpkbmelhgneaa
