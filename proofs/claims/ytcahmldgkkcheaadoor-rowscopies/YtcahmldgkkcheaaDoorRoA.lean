
/-
  Package rows: rows of an account as they lie in memory; List's Add, Len, At.
-/
import Derived.Test.YtcahmldgkkcheaaDoorHiF
import Derived.Test.YtcahmldgkkcheaaDoorHeld
import Derived.Deep.CutBlock
import Derived.Deep.DeepCutAuto
set_option maxRecDepth 100000
namespace Go.Proofs.YtcahmldgkkcheaaDoor
open Go.RowKit
set_option linter.unusedVariables false
set_option linter.unusedSimpArgs false

/-- A row of an account. -/
structure Rc where
  h0 : Nat
  l0 : Nat
  tm : Int
  ev : Int
  h1 : Nat
  l1 : Nat
  h2 : Nat
  l2 : Nat
  h3 : Nat
  l3 : Nat
  h4 : Nat
  l4 : Nat
  h5 : Nat
  l5 : Nat
def Rc.cs (a : Rc) : Array Value := #[.int .u64 a.h0, .int .u64 a.l0, .int .i64 a.tm, .int .i64 a.ev, .int .u64 a.h1, .int .u64 a.l1, .int .u64 a.h2, .int .u64 a.l2, .int .u64 a.h3, .int .u64 a.l3, .int .u64 a.h4, .int .u64 a.l4, .int .u64 a.h5, .int .u64 a.l5]
def Rc.z : Rc := ⟨0, 0, 0, 0, 0, 0, 0, 0, 0, 0, 0, 0, 0, 0⟩
theorem Rc.size (a : Rc) : a.cs.size = 14 := rfl
theorem Rc.one (a : Rc) : a.cs.all (·.oneCell') = true := by simp [Rc.cs, Value.oneCell']
def P64 (h l : Nat) : Prop := h < 18446744073709551616 ∧ l < 18446744073709551616
structure Rc.ok (a : Rc) : Prop where
  w0 : P64 a.h0 a.l0
  w1 : P64 a.h1 a.l1
  w2 : P64 a.h2 a.l2
  w3 : P64 a.h3 a.l3
  w4 : P64 a.h4 a.l4
  w5 : P64 a.h5 a.l5
  t0 : -9223372036854775808 ≤ a.tm
  t1 : a.tm ≤ 9223372036854775807
  e0 : -9223372036854775808 ≤ a.ev
  e1 : a.ev ≤ 9223372036854775807
theorem Rc.z_ok : Rc.z.ok := by
  refine ⟨?_, ?_, ?_, ?_, ?_, ?_, ?_, ?_, ?_, ?_⟩ <;> simp [P64, Rc.z]
theorem info_rc (a : Rc) : (Tryd.prog.info? 34).map (·.size) = some a.cs.size := by rw [a.size]; kernel_rfl
theorem info_rcl (a : Rc) : (Tryd.prog.info? 34).map (·.size) = some a.cs.toList.length := by rw [Array.length_toList]; exact info_rc a
theorem rc_z : (Tryd.prog.info? 34).map (fun i => (i.zero, i.size, i.bytes)) = some (some (.agg Rc.z.cs), 14, 112) := by kernel_rfl
/-- The cells of rows, one behind the other. -/
def rC (L : List Rc) : List Value := L.flatMap fun a => a.cs.toList
theorem rC_cons (a : Rc) (L : List Rc) : rC (a :: L) = a.cs.toList ++ rC L := rfl
theorem rC_snoc (L : List Rc) (a : Rc) : rC (L ++ [a]) = rC L ++ a.cs.toList := by simp [rC]
theorem rC_at : ∀ (L : List Rc) (i j : Nat), i < L.length → j < 14 → (rC L)[i * 14 + j]? = (L.getD i Rc.z).cs[j]?
  | [], i, j, hi, _ => by simp at hi
  | a :: L, 0, j, _, hj => by
    rw [rC_cons, List.getElem?_append_left (by rw [Array.length_toList, a.size]; omega)]
    simp
  | a :: L, i + 1, j, hi, hj => by
    rw [rC_cons, List.getElem?_append_right (by rw [Array.length_toList, a.size]; omega), Array.length_toList, a.size, show (i + 1) * 14 + j - 14 = i * 14 + j by omega, rC_at L i j (by simpa using hi) hj]
    simp
/-- Rows as they are handed in. -/
structure RowsAt (w : World) (v : Value) (L : List Rc) : Prop where
  ok : ∀ a ∈ L, a.ok
  len : L.length ≤ maxLen
  ex : ∃ p c, v = .slice p L.length c ∧ ∀ i, i < L.length → ∃ g off, p = some ⟨g, off, none⟩ ∧ g < w.heap.size ∧ w.rangeAt g (off + i * 14) (L.getD i Rc.z).cs.toList
theorem rangeAt_below {w w' : World} {g o : Nat} {cs : List Value} (h : w.rangeAt g o cs) (hg : g < w.heap.size) (hb : Below w.heap.size w w') : w'.rangeAt g o cs := fun j v hv => (hb.cell (p := ⟨g, o + j, none⟩) hg).trans (h j v hv)
theorem RowsAt.later {w w' : World} {v : Value} {L : List Rc} (h : RowsAt w v L) (hb : Below w.heap.size w w') : RowsAt w' v L := by
  obtain ⟨h1, h2, p, c, e, h3⟩ := h
  refine ⟨h1, h2, p, c, e, fun i hi => ?_⟩
  obtain ⟨g, off, e, hg, hr⟩ := h3 i hi
  exact ⟨g, off, e, Nat.lt_of_lt_of_le hg hb.size, rangeAt_below hr hg hb⟩
/-- A list of rows, of the call's own. -/
structure LsV (w : World) (base b : Nat) (v : Value) (L : List Rc) : Prop where
  row : Row w b #[v] 56
  own : w.ownsRow base 34 14 v L.length (rC L)
  ge : base ≤ b
def LsAt (w : World) (base b : Nat) (L : List Rc) : Prop := ∃ v, LsV w base b v L
theorem LsV.later {w w' : World} {base b : Nat} {v : Value} {L : List Rc} (h : LsV w base b v L) (hb : Below w.heap.size w w') : LsV w' base b v L := ⟨h.row.later hb, ownsRowN_later h.own hb, h.ge⟩
theorem LsAt.later {w w' : World} {base b : Nat} {L : List Rc} (h : LsAt w base b L) (hb : Below w.heap.size w w') : LsAt w' base b L := let ⟨v, h⟩ := h; ⟨v, h.later hb⟩
theorem LsV.form {w : World} {base b : Nat} {v : Value} {L : List Rc} (h : LsV w base b v L) : ∃ p c, v = .slice p L.length c := by
  obtain ⟨p, n, c, e, rfl⟩ := ownsRowN_form h.own
  exact ⟨p, c, e⟩
theorem LsV.at {w : World} {base b : Nat} {p : Option Addr} {n c : Nat} {L : List Rc} (h : LsV w base b (.slice p n c) L) {i : Nat} (hi : i < L.length) : ∃ g, p = some ⟨g, 0, none⟩ ∧ g < w.heap.size ∧ n ≤ c ∧ w.rangeAt g (i * 14) (L.getD i Rc.z).cs.toList := by
  obtain ⟨hlen, ⟨e, h0⟩ | ⟨g, cap, cur, e, hb, hg, h1, h2, h3, h4⟩⟩ := h.own
  · omega
  · cases e
    refine ⟨g, rfl, (Array.getElem?_eq_some_iff.1 hg).1, h1, fun j v hv => ?_⟩
    have hj : j < 14 := by
      have := (List.getElem?_eq_some_iff.1 hv).1
      rw [Array.length_toList, Rc.size] at this
      exact this
    have hr : Row w g cur 34 := hg
    rw [hr.cell, ← hv, Array.getElem?_toList, ← rC_at L i j hi hj, ← h4, List.getElem?_take, if_pos (by omega), Array.getElem?_toList]
theorem ls_new (w : World) {b : Nat} (hb : b = w.heap.size) (base : Nat) (h : base ≤ b) : LsAt (w.alloc (.cells #[.slice none 0 0] 56)) base b [] :=
  ⟨.slice none 0 0, Row.new w _ _ hb, World.ownsRow_nil _ _ _ _, h⟩
theorem yields_row {ops : Array Oper} {S : World → Prop} {op : Oper} {a : Act} (hw : Region.wanted op (yielded ops a.tmps) = true) (ty : TypeId) (x : Operand) (ho : op.op = .load ty x)
    (g : Nat) (hx : a.eval x = .pointer (some ⟨g, 0, none⟩)) (t : TypeId) (cs : Array Value) (d : TypeDesc) (hS : ∀ w, S w → Row w g cs t)
    (hu : Tryd.prog.underlying ty = some d) (hd : (match d with | .struct _ | .array _ _ => true | _ => false) = true) (hi : (Tryd.prog.info? ty).map (·.size) = some cs.size) : YieldsIf Tryd.prog ops S op (.agg cs) a :=
  .inl ⟨hw, fun w hw' => by
    unfold execOp
    simp only [ho, hx, Instr.loadAt, Instr.sureAddr, Sem.run_bind, Sem.run_pure, Result.andThen_ok, run_loadVar_row (P := Tryd.prog) w g t ty cs (0, 0) d (hS w hw') hu (by cases d <;> simp_all) hi]⟩
theorem ownsRow_ne {w : World} {base sz : Nat} {e t : TypeId} {v : Value} {ns : List Value} {n T : Nat} {cs : Array Value} (h : w.ownsRow base e sz v n ns) (hr : Row w T cs t) (hne : e ≠ t) : v.ownBlock ≠ some T := by
  intro hh
  obtain ⟨_, ⟨rfl, _⟩ | ⟨g, cap, cur, rfl, _, hg, _⟩⟩ := h
  · cases hh
  · simp [Value.ownBlock] at hh
    subst hh
    unfold Row at hr
    rw [hg] at hr
    cases hr
    exact hne rfl
theorem ownsRow_ge {w : World} {base sz : Nat} {e : TypeId} {v : Value} {ns : List Value} {n k : Nat} (h : w.ownsRow base e sz v n ns) (hk : v.ownBlock = some k) : base ≤ k ∧ k < w.heap.size := by
  obtain ⟨_, ⟨rfl, _⟩ | ⟨g, cap, cur, rfl, hb, hg, _⟩⟩ := h
  · cases hk
  · simp [Value.ownBlock] at hk
    subst hk
    exact ⟨hb, (Array.getElem?_eq_some_iff.1 hg).1⟩
/-- All but the list, and rows of accounts, lies as it lay. -/
def RStep (w w' : World) (b : Nat) : Prop := ∀ (k : Nat) (cs : Array Value) (t : TypeId) (f : Nat × Nat), w.heap[k]? = some (Obj.cells cs t f) → t ≠ 34 → k ≠ b → w'.heap[k]? = some (Obj.cells cs t f)
theorem RStep.row {w w' : World} {b g : Nat} {cs : Array Value} {t : TypeId} (h : RStep w w' b) (hr : Row w g cs t) (h1 : t ≠ 34) (h2 : g ≠ b) : Row w' g cs t := h g cs t _ hr h1 h2
set_option maxHeartbeats 4000000 in
theorem ladd_any (w : World) (base b : Nat) (L : List Rc) (r : Rc) (h : LsAt w base b L) (hb : base ≤ w.heap.size) (hl : L.length ≤ 1000) :
    Calls Tryd.prog 21 #[.pointer (some ⟨b, 0, none⟩), .agg r.cs] w fun e w' => e = .returned (.tuple #[]) ∧ LsAt w' base b (L ++ [r]) ∧ Below base w w' ∧ RStep w w' b := by
  obtain ⟨v, h⟩ := h
  obtain ⟨p, c, rfl⟩ := h.form
  have HH : Hid (LsV w base b (.slice p L.length c) L) := h
  have HBW : Hid (base ≤ w.heap.size) := hb
  have ic := info_rc r
  have i1 := r.one
  have isz := r.size
  have HRC : Hid (∃ cs, r.cs = cs) := ⟨_, rfl⟩
  obtain ⟨cs, hcs⟩ := HRC.out
  have HCS : Hid (r.cs = cs) := hcs
  rw [hcs] at ic i1 isz ⊢
  clear HRC hcs h hb
  have r0 : Row (w.alloc (.cells cs 34)) w.heap.size cs 34 := Row.new w cs _ rfl
  have b0 := below1 w (.cells cs 34)
  go_enter Tryd.func21, Tryd.ntmps21
  go_upto_region 1 with fail
  refine wp_region_D (fun i => i != 10) (fun w' : World => w'.cell? ⟨b, 0, none⟩ = some (.slice p L.length c) ∧ Row w' w.heap.size cs 34) (by kernel_rfl) ?_
  have hr1 : Row (w.alloc (.cells cs 34)).drew b #[.slice p L.length c] 56 := HH.out.row.later (below1 w _).drew
  have hS : (fun w' : World => w'.cell? ⟨b, 0, none⟩ = some (.slice p L.length c) ∧ Row w' w.heap.size cs 34) (w.alloc (.cells cs 34)).drew := ⟨hr1.cell 0, r0⟩
  have B2 : Below w.heap.size w (w.alloc (.cells cs 34)).drew := b0.drew
  have ho2 := ownsRowN_later HH.out.own B2
  have hs2 : w.heap.size < (w.alloc (.cells cs 34)).drew.heap.size := by show _ < (w.alloc _).heap.size; simp
  clear r0 b0
  generalize (w.alloc (.cells cs 34)).drew = w2 at *
  refine' wpAnyD_take (i := 0) (v := _) rfl (by kernel_rfl) (by kernel_rfl) (by kernel_rfl) (by kernel_rfl) (fun _ _ _ h => h) (Or.inl ⟨by rfl, ?hy1⟩) hS ?re1
  case hy1 => (intro w hSw; (try dsimp only at hSw); go_simp; (try with_reducible rfl))
  simp only [Act.put, List.setIfInBounds_toArray, List.set_cons_zero, List.set_cons_succ]
  refine' wpAnyD_take (i := 1) (v := _) rfl (by kernel_rfl) (by kernel_rfl) (by kernel_rfl) (by kernel_rfl) (fun _ _ _ h => h) (Or.inl ⟨by rfl, ?hy2⟩) hS ?re2
  case hy2 => (intro w hSw; (try dsimp only at hSw); go_simp; (try with_reducible rfl))
  simp only [Act.put, List.setIfInBounds_toArray, List.set_cons_zero, List.set_cons_succ]
  refine' wpAnyD_take (i := 2) (v := _) rfl (by kernel_rfl) (by kernel_rfl) (by kernel_rfl) (by kernel_rfl) (fun _ _ _ h => h) (Or.inl ⟨by rfl, ?hy3⟩) hS ?re3
  case hy3 => (intro w hSw; (try dsimp only at hSw); go_simp; (try with_reducible rfl))
  simp only [Act.put, List.setIfInBounds_toArray, List.set_cons_zero, List.set_cons_succ]
  refine' wpAnyD_take (i := 3) (v := _) rfl (by kernel_rfl) (by kernel_rfl) (by kernel_rfl) (by kernel_rfl) (fun _ _ _ h => h) (Or.inl ⟨by rfl, ?hy4⟩) hS ?re4
  case hy4 => (intro w hSw; (try dsimp only at hSw); go_simp; (try with_reducible rfl))
  simp only [Act.put, List.setIfInBounds_toArray, List.set_cons_zero, List.set_cons_succ]
  refine' wpAnyD_take (i := 4) (v := _) rfl (by kernel_rfl) (by kernel_rfl) (by kernel_rfl) (by kernel_rfl) (fun _ _ _ h => h) (Or.inl ⟨by rfl, ?hy5⟩) hS ?re5
  case hy5 => (intro w hSw; (try dsimp only at hSw); go_simp; (try with_reducible rfl))
  simp only [Act.put, List.setIfInBounds_toArray, List.set_cons_zero, List.set_cons_succ]
  refine wpAnyD_take (i := 5) rfl (by kernel_rfl) (by kernel_rfl) (by kernel_rfl) (by kernel_rfl) (fun _ _ _ h => h) (yields_row (by rfl) 34 _ rfl w.heap.size rfl 34 cs _ (fun _ h => h.2) Tryd.underlying34 rfl ic) hS ?_
  simp only [Act.put, List.setIfInBounds_toArray, List.set_cons_zero, List.set_cons_succ]
  obtain ⟨v5, w5, run5, own5, gr5, mv5⟩ := append_two (t := 22) (by kernel_rfl) rc_z (by rfl) (by decide) (by decide) w2 base 22 _ _ _ ho2 cs isz i1 (by omega) (by have := HBW.out; omega) _ rfl
  refine wpAnyD_only (i := 6) rfl (by kernel_rfl) (by rfl) (fun K hK => ?_)
  go_simp
  rw [lay_all _ cs _ isz rfl]
  have ha2 := heap_alloc_old w2 (.cells cs 34) hr1.lt
  try dsimp only
  have hSn := (⟨(World.cell?_of_block (a := ⟨b, 0, none⟩) ha2).trans hS.1, hS.2.alloc _⟩ : (fun w' : World => w'.cell? ⟨b, 0, none⟩ = some (.slice p L.length c) ∧ Row w' w.heap.size cs 34) (w2.alloc (.cells cs 34)))
  refine hK.out _ _ (fun _ => hSn) ?_
  clear hK K hS
  have hS := hSn
  clear hSn
  try simp only [Act.put, List.setIfInBounds_toArray, List.set_cons_zero, List.set_cons_succ]
  have nb := ownsRow_ne ho2 hr1 (by decide)
  have blk : ∀ j, j < w2.heap.size → (Value.slice p L.length c).ownBlock ≠ some j → w5.heap[j]? = w2.heap[j]? := fun j hj hne => (gr5.block j (by simp; omega) (fun e => hne e.symm)).trans (heap_alloc_old w2 _ hj)
  have hsz5 : w2.heap.size ≤ w5.heap.size := by have := gr5.size; simp at this; omega
  have n2 : (Value.slice p L.length c).ownBlock ≠ some w.heap.size := fun e => by have := (ownsRow_ge HH.out.own e).2; omega
  refine wpAnyD_only (i := 7) rfl (by kernel_rfl) (by rfl) (fun K hK => ?_)
  refine Lib.wp_append_run _ _ _ _ _ rfl _ _ rfl rfl _ _ run5 ?_
  have r5 : Row w5 b #[.slice p L.length c] 56 := (blk b hr1.lt nb).trans hr1
  try dsimp only
  have hSn := (⟨r5.cell 0, (blk w.heap.size hs2 n2).trans ((heap_alloc_old w2 _ hs2).symm.trans hS.2)⟩ : (fun w' : World => w'.cell? ⟨b, 0, none⟩ = some (.slice p L.length c) ∧ Row w' w.heap.size cs 34) w5)
  refine hK.out _ _ (fun _ => hSn) ?_
  clear hK K hS
  have hS := hSn
  clear hSn
  try simp only [Act.put, List.setIfInBounds_toArray, List.set_cons_zero, List.set_cons_succ]
  refine' wpAnyD_take (i := 8) (v := _) rfl (by kernel_rfl) (by kernel_rfl) (by kernel_rfl) (by kernel_rfl) (fun _ _ _ h => h) (Or.inl ⟨by rfl, ?hy6⟩) hS ?re6
  case hy6 => (intro w hSw; (try dsimp only at hSw); go_simp; (try with_reducible rfl))
  simp only [Act.put, List.setIfInBounds_toArray, List.set_cons_zero, List.set_cons_succ]
  refine' wpAnyD_take (i := 9) (v := _) rfl (by kernel_rfl) (by kernel_rfl) (by kernel_rfl) (by kernel_rfl) (fun _ _ _ h => h) (Or.inl ⟨by rfl, ?hy7⟩) hS ?re7
  case hy7 => (intro w hSw; (try dsimp only at hSw); go_simp; (try with_reducible rfl))
  simp only [Act.put, List.setIfInBounds_toArray, List.set_cons_zero, List.set_cons_succ]
  have f5 := r5.frozen 0
  have c5 := r5.cell 0
  simp only [List.getElem?_toArray, List.getElem?_cons_zero] at c5
  obtain ⟨p5, n5, cc5, rfl, hn5⟩ := ownsRowN_form own5
  subst hn5
  refine wpAnyD_only (i := 10) rfl (by kernel_rfl) (by rfl) (fun K hK => ?_)
  go_simp
  refine hK.out _ _ (fun hh => by cases hh) ?_
  clear hK K
  try simp only [Act.put, List.setIfInBounds_toArray, List.set_cons_zero, List.set_cons_succ]
  refine wpAnyD_done (by kernel_rfl) ?_ _
  have B5 : Below base w w5 := (B2.mono HBW.out).trans ⟨gr5.os, gr5.tape, gr5.output, hsz5, fun k hk => blk k (by have := HBW.out; omega) (fun e => by have := (ownsRow_ge HH.out.own e).1; omega)⟩
  have hrs : RStep w (w5.setCell ⟨b, 0, none⟩ (.slice p5 (L.length + 1) cc5)) b := fun k cs' t f hk h1 h2 => by
    have hkl := (Array.getElem?_eq_some_iff.1 hk).1
    refine (heap_setCell_other w5 ⟨b, 0, none⟩ k _ h2).trans ((blk k (by omega) (fun e => ?_)).trans ((B2.block k hkl).trans hk))
    obtain ⟨_, ⟨e2, _⟩ | ⟨g, cap, cur, e2, _, hg, _⟩⟩ := HH.out.own
    · rw [e2] at e; cases e
    · rw [e2] at e
      simp [Value.ownBlock] at e
      subst e
      rw [hk] at hg
      cases hg
      exact h1 rfl
  have hfin : LsAt (w5.setCell ⟨b, 0, none⟩ (.slice p5 (L.length + 1) cc5)) base b (L ++ [r]) ∧ Below base w (w5.setCell ⟨b, 0, none⟩ (.slice p5 (L.length + 1) cc5)) := by
    refine ⟨⟨.slice p5 (L.length + 1) cc5, r5.set 0 _, ?_, HH.out.ge⟩, B5.setCell (p := ⟨b, 0, none⟩) HH.out.ge _⟩
    rw [List.length_append, List.length_singleton, rC_snoc, HCS.out]
    exact ownsRowN_keep own5 (fun k _ _ hk => heap_setCell_other w5 ⟨b, 0, none⟩ k _ (fun e => ownsRow_ne own5 r5 (by decide) (by rw [hk]; exact congrArg some e)))
  clear c5 f5 r5
  go_wp2
  go_end0
  exact ⟨rfl, hfin.1, hfin.2, hrs⟩
set_option maxHeartbeats 2000000 in
theorem lslen_any (w : World) (base b : Nat) (L : List Rc) (h : LsAt w base b L) : Calls Tryd.prog 12 #[.pointer (some ⟨b, 0, none⟩)] w fun e w' => e = .returned (.int .i64 (L.length : Nat)) ∧ w' = w := by
  obtain ⟨v, h⟩ := h
  obtain ⟨p, c, rfl⟩ := h.form
  have c0 := h.row.cell 0
  simp only [List.getElem?_toArray, List.getElem?_cons_zero] at c0
  go_enter Tryd.func12, Tryd.ntmps12
  go_wp2
  go_ret
  exact ⟨rfl, rfl⟩
set_option maxHeartbeats 2000000 in
theorem lsat_any (w : World) (base b : Nat) (L : List Rc) (i : Nat) (hi : i < L.length) (hl : L.length ≤ 1000) (h : LsAt w base b L) : Calls Tryd.prog 13 #[.pointer (some ⟨b, 0, none⟩), .int .i64 (i : Nat)] w fun e w' => e = .returned (.agg (L.getD i Rc.z).cs) ∧ Below w.heap.size w w' := by
  obtain ⟨v, h⟩ := h
  obtain ⟨p, c, rfl⟩ := h.form
  obtain ⟨g, rfl, hg, hnc, hr⟩ := h.at hi
  have c0 := (h.row.cell 0)
  simp only [List.getElem?_toArray, List.getElem?_cons_zero] at c0
  generalize L.getD i Rc.z = a at *
  have i0 : (0 : Int) ≤ (i : Int) := by omega
  have i1 : (i : Int) < (L.length : Int) := by omega
  have l1 : (L.length : Int) ≤ 1000 := by omega
  have hb1 := below1 w (.cells #[.int .u64 0, .int .u64 0, .int .i64 0, .int .i64 0, .int .u64 0, .int .u64 0, .int .u64 0, .int .u64 0, .int .u64 0, .int .u64 0, .int .u64 0, .int .u64 0, .int .u64 0, .int .u64 0] 34)
  have hbl := h.row.lt
  go_enter Tryd.func13, Tryd.ntmps13
  have hr1 := rangeAt_below hr hg hb1
  have rz := Row.new w #[.int .u64 0, .int .u64 0, .int .i64 0, .int .i64 0, .int .u64 0, .int .u64 0, .int .u64 0, .int .u64 0, .int .u64 0, .int .u64 0, .int .u64 0, .int .u64 0, .int .u64 0, .int .u64 0] 34 rfl
  have ia := info_rc a
  have ial := info_rcl a
  have oa := a.one
  have za : Hid ((14 : Nat) = a.cs.size) := rfl
  go_upto_region 3 with fail
  go_wp2_with (first | (refine wpList_load_mid rfl 34 _ rfl g (i * 14) rfl a.cs.toList _ hr1 Tryd.underlying34 rfl ial ?_; refine stop ?_) | (refine wpList_store_row rfl 34 _ _ rfl w.heap.size a.cs rfl rfl 34 _ rz ia za.out oa ?_))
  refine bodyPost_ret (v := .agg a.cs) (results_cell_row Tryd.results13 _ _ w.heap.size 34 a.cs (0, 0) _ ?hp ?hg Tryd.underlying34 rfl ia) rfl ⟨rfl, Below.row hb1 _ (Nat.le_refl _)⟩
  case hp => rfl
  case hg => exact rz.setRow _
end Go.Proofs.YtcahmldgkkcheaaDoor
