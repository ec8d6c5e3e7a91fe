
/-
  DiskRuns: one more call that waits; what is sure; from round to round.
-/
import Derived.Test.YtkamagicnemppaaDkO0
namespace Go.Proofs.Ytkamagicnemppaa
open Go.RowKit
set_option maxRecDepth 100000
set_option linter.unusedVariables false
set_option linter.unusedSimpArgs false

theorem info_call3 : (Try.prog.info? 32).map (fun i => (i.zero, i.size, i.bytes)) = some (some (.agg #[.int .i64 0, .int .i64 0, .slice none 0 0, .int .u64 0, .int .i64 0, .int .i64 0]), 6, 64) := by kernel_rfl
theorem own_ownN {w : World} {b c sz sz' : Nat} {e e' : TypeId} {v u : Value} {xs ys : List Value} {n m : Nat} (h : w.ownsRow b e sz v n xs) (k : w.ownsRow c e' sz' u m ys) (hne : e ≠ e') : ∀ j, v.ownBlock = some j → u.ownBlock ≠ some j := by
  intro j hj
  obtain ⟨_, ⟨rfl, _⟩ | ⟨g, cap, cur, rfl, _, hg, _⟩⟩ := h
  · cases hj
  · have : g = j := by simpa [Value.ownBlock] using hj
    subst this
    exact ownN_ne (T := g) (cs := cur) k hg (fun e => hne e.symm)
theorem RunR.grow {w wr w5 : World} {L : List CIn} {R S M k : Nat} {uw u5 v : Value} {d : Dk} {wl : List CIn} {c : CIn} (h : RunR w wr L R S M k uw v d wl) (hc : WaitOk L c)
    (gr : (wr.alloc (.cells c.cs 32)).grownBy w5 uw.ownBlock) (own : w5.ownsRow w.heap.size 32 6 u5 (wl.length + 1) (cC wl ++ c.cs.toList)) :
    Mine w w5 R S v d ∧ RunW w w5 L M u5 d.F (wl ++ [c]) ∧ (∀ j, j < wr.heap.size → uw.ownBlock ≠ some j → w5.heap[j]? = wr.heap[j]?) := by
  have blk : ∀ j, j < wr.heap.size → uw.ownBlock ≠ some j → w5.heap[j]? = wr.heap[j]? := fun j hj hne => (gr.block j (by simp; omega) (fun e => hne e.symm)).trans (heap_alloc_old wr _ hj)
  have hsz : wr.heap.size ≤ w5.heap.size := by have := gr.size; simp at this; omega
  have hd := h.dk.dk
  have hbel : Below w.heap.size w w5 := h.dk.below.trans ⟨gr.os, gr.tape, gr.output, hsz, fun j hj => blk j (Nat.lt_of_lt_of_le hj h.dk.below.size) (fun e => by have := (h.own.own.lt j e).1; omega)⟩
  refine ⟨⟨hd.keep (blk R hd.row.lt (ownN_ne h.own.own hd.row (by decide))) (blk S hd.sure.lt (ownN_ne h.own.own hd.sure (by decide))) (fun j hj => blk j (hd.vlt hj) (own_ownN hd.own h.own.own (by decide) j hj)), hbel, h.dk.hR, h.dk.hS, h.dk.hv⟩, ⟨(blk M h.own.row.lt (ownN_ne h.own.own h.own.row (by decide))).trans h.own.row, h.own.hM, by rw [cC_snoc, List.length_append]; exact own, fun x hx => ?_⟩, blk⟩
  rcases List.mem_append.1 hx with hx | hx
  · exact h.own.each x hx
  · obtain rfl := List.mem_singleton.1 hx
    exact hc
theorem lef_put {d : Dk} (at0 : Nat) (b : List Nat) (h : d.lef ≠ 0) (hl : d.left ≤ 9223372036854775807) : (d.put at0 b).lef = max (d.lef - 1) (min d.lef 0) := by
  unfold Dk.lef Dk.put at *
  dsimp only
  cases h1 : d.armed with
  | false => simp only [Bool.false_eq_true, if_false]; omega
  | true =>
    rw [h1] at h
    simp only [if_true] at h ⊢
    omega
theorem lef_down {d : Dk} : d.down = decide (d.lef = 0) := by
  unfold Dk.down Dk.lef
  cases d.armed with
  | false => simp
  | true =>
    by_cases h : d.left = 0
    · simp [h]
    · simp [h]
theorem lef_bound {d : Dk} (h : d.Ok) : -1 ≤ d.lef ∧ d.lef ≤ 9223372036854775807 := by
  have := h.ll
  unfold Dk.lef
  split <;> omega
theorem setCells_row (b : Nat) : ∀ (vs : List Value) (o : Nat) (w : World) (C : Array Value) (t : TypeId), Row w b C t → o + vs.length ≤ C.size →
    Row (w.setCells b o vs) b (C.toList.take o ++ vs ++ C.toList.drop (o + vs.length)).toArray t
  | [], o, w, C, t, h, _ => by simpa [World.setCells] using h
  | x :: l, o, w, C, t, h, hl => by
    rw [List.length_cons] at hl
    rw [World.setCells]
    have h1 := setCells_row b l (o + 1) _ _ t (h.set o x) (by simp; omega)
    have e := list_seg_step C.toList o x l (by simp; omega)
    have e2 : (C.setIfInBounds o x).toList.take (o + 1) ++ l ++ (C.setIfInBounds o x).toList.drop (o + 1 + l.length) = C.toList.take o ++ x :: l ++ C.toList.drop (o + (x :: l).length) := by
      simpa [Array.toList_setIfInBounds, Nat.add_assoc, Nat.add_comm 1] using e
    rw [e2] at h1
    exact h1
theorem setCells_other (b : Nat) : ∀ (vs : List Value) (o : Nat) (w : World) (k : Nat), k ≠ b → (w.setCells b o vs).heap[k]? = w.heap[k]?
  | [], o, w, k, _ => rfl
  | x :: l, o, w, k, hk => by
    rw [World.setCells]
    exact (setCells_other b l (o + 1) _ k hk).trans (heap_setCell_other w ⟨b, o, none⟩ k x hk)
theorem setCells_size (b : Nat) : ∀ (vs : List Value) (o : Nat) (w : World), (w.setCells b o vs).heap.size = w.heap.size ∧ (w.setCells b o vs).os = w.os ∧ (w.setCells b o vs).tape = w.tape ∧ (w.setCells b o vs).output = w.output
  | [], o, w => ⟨rfl, rfl, rfl, rfl⟩
  | x :: l, o, w => by
    rw [World.setCells]
    obtain ⟨h1, h2, h3, h4⟩ := setCells_size b l (o + 1) (w.setCell ⟨b, o, none⟩ x)
    exact ⟨h1.trans (by simp [World.setCell]), h2, h3, h4⟩
/-- The law's own sectors, one laid anew. -/
theorem RunW.lay {w wr : World} {L : List CIn} {M : Nat} {uw : Value} {F : List Nat} {wl : List CIn} (h : RunW w wr L M uw F wl) {a : Nat} {P : List Nat} (hF : F.length = 64 * 6) (ha : a < 6) (hP : P.length = 64) :
    RunW w (wr.setCells M (a * 64) (bytesL P).toList) L M uw (settle F a P 64) wl ∧ Else M wr (wr.setCells M (a * 64) (bytesL P).toList) := by
  have hl : (bytesL P).toList.length = 64 := by rw [Array.length_toList, bytesL_size, hP]
  have hr := setCells_row M (bytesL P).toList (a * 64) wr _ _ h.row (by rw [hl, bytesL_size, hF]; omega)
  have e : ((bytesL F).toList.take (a * 64) ++ (bytesL P).toList ++ (bytesL F).toList.drop (a * 64 + (bytesL P).toList.length)).toArray = bytesL (settle F a P 64) := by
    rw [hl]
    simp only [bytesL, settle, List.map_append, List.map_take, List.map_drop, Nat.mul_comm 64 a]
    rw [List.take_of_length_le (l := P.map _) (by rw [List.length_map, hP]; exact Nat.le_refl _)]
  rw [e] at hr
  obtain ⟨s1, s2, s3, s4⟩ := setCells_size M (bytesL P).toList (a * 64) wr
  refine ⟨⟨hr, h.hM, ownsRow_keep h.own fun k _ _ hk => setCells_other M _ _ wr k (fun e => ownN_ne h.own h.row (by decide) (e ▸ hk)), h.each⟩, ⟨s2, s3, s4, Nat.le_of_eq s1.symm, fun k _ hk => setCells_other M _ _ wr k hk⟩⟩
theorem Mine.else {w0 w w' : World} {R S M : Nat} {v : Value} {d : Dk} (h : Mine w0 w R S v d) {cs : Array Value} (hr : Row w M cs 27) (hM : w0.heap.size ≤ M) (he : Else M w w') : Mine w0 w' R S v d :=
  ⟨h.dk.keep (he.block R h.dk.row.lt (h.dk.row.ne hr (by decide))) (he.block S h.dk.sure.lt (h.dk.sure.ne hr (by decide))) (fun k hk => he.block k (h.dk.vlt hk) (fun e => ownN_ne h.dk.own hr (by decide) (e ▸ hk))), h.below.trans (he.below h.below.size hM), h.hR, h.hS, h.hv⟩
theorem there_row {w : World} {b : Nat} {C : Array Value} {t : TypeId} (h : Row w b C t) (o n : Nat) (hn : o + n ≤ C.size) : w.there b o n := fun j hj =>
  ⟨by rw [h.cell, Array.getElem?_eq_getElem (by omega)]; rfl, h.frozen _⟩
/-- copy(m[a][:n], s[:n]). -/
theorem run_copy_m {w wr : World} {L : List CIn} {M : Nat} {uw : Value} {F : List Nat} {wl : List CIn} (h : RunW w wr L M uw F wl) {a gs n : Nat} {P : List Nat} (hF : F.length = 64 * 6) (ha : a < 6) (hP : P.length = 64) (hn : n ≤ 64) (hg : Row wr gs (bytesL P) 26) (ty : TypeId) :
    ∃ nn w', (Builtin.copy_ #[28, 28] ty #[.slice (some ⟨M, a * 64, none⟩) n 64, .slice (some ⟨gs, 0, none⟩) n 64]).run Try.prog wr = .ok nn w' ∧ RunW w w' L M uw (settle F a P n) wl ∧ Else M wr w' := by
  have hcs : ((P.take n).map fun y : Nat => Value.int .u8 (y : Int)).length = n := by rw [List.length_map, List.length_take]; omega
  have hrun := run_copy_row (P := Try.prog) wr 28 28 ty 5 M (a * 64) n 64 ⟨gs, 0, none⟩ n 64 (bytesL F) 27 ((P.take n).map fun y : Nat => Value.int .u8 (y : Int)) under_bytes info_byte h.row (by rw [hcs]; exact (Nat.min_self n).symm) (fun j v hj => by
      have hj' : j < n := by
        have := (List.getElem?_eq_some_iff.1 hj).1
        rwa [hcs] at this
      rw [Addr.add_lit, hg.cell, ← hj, Nat.zero_add]
      simp [bytesL, List.getElem?_take, hj']) (by rw [hcs, bytesL_size]; omega) (fun v hv => by
      obtain ⟨y, _, rfl⟩ := List.mem_map.1 hv
      rfl)
  have e : ((bytesL F).toList.take (a * 64) ++ ((P.take n).map fun y : Nat => Value.int .u8 (y : Int)) ++ (bytesL F).toList.drop (a * 64 + ((P.take n).map fun y : Nat => Value.int .u8 (y : Int)).length)).toArray = bytesL (settle F a P n) := by
    rw [hcs]
    simp only [bytesL, settle, List.map_append, List.map_take, List.map_drop, Nat.mul_comm 64 a]
  rw [e] at hrun
  refine ⟨_, _, hrun, ⟨h.row.setRow _, h.hM, ownsRow_keep h.own fun k _ _ hk => setRow_other wr M k _ (fun e => ownN_ne h.own h.row (by decide) (e ▸ hk)), h.each⟩, ⟨rfl, rfl, rfl, by simp [World.setRow], fun k _ hk => setRow_other wr M k _ hk⟩⟩
theorem down_lef (d : Dk) : d.down = (d.lef == 0) := by
  rw [lef_down]
  rfl
/-- m holds sector a. -/
theorem RunW.sec {w wr : World} {L : List CIn} {M : Nat} {uw : Value} {F : List Nat} {wl : List CIn} (h : RunW w wr L M uw F wl) {a : Nat} (hF : F.length = 64 * 6) (ha : a < 6) : wr.rangeAt M (a * 64) (bytesL (sec F a)).toList := by
  rw [Nat.mul_comm a 64]
  intro j u hu
  have hl := sec_len (n := 6) hF ha
  have hj : j < 64 := by
    have := (List.getElem?_eq_some_iff.1 hu).1
    rwa [Array.length_toList, bytesL_size, hl] at this
  rw [Array.getElem?_toList, bytesL_at _ _ (by omega)] at hu
  rw [h.row.cell, bytesL_at _ _ (by omega), ← hu, sec_getD _ _ _ hj]
end Go.Proofs.Ytkamagicnemppaa
