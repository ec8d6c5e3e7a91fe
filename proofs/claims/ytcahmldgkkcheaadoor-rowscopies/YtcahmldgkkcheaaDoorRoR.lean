
/-
  Package rows: slices.Clone of rows; Copy.
-/
import Derived.Test.YtcahmldgkkcheaaDoorRoP
set_option maxRecDepth 100000
namespace Go.Proofs.YtcahmldgkkcheaaDoor
open Go.RowKit
set_option linter.unusedVariables false
set_option linter.unusedSimpArgs false

theorem rown_made (w : World) (base : Nat) (hb : base ≤ w.heap.size) : (w.alloc (.cells #[] 34)).ownsRow base 34 14 (.slice (some ⟨w.heap.size, 0, none⟩) 0 0) 0 [] :=
  ⟨rfl, Or.inr ⟨w.heap.size, 0, #[], rfl, hb, heap_alloc_new w _, Nat.le_refl _, Nat.zero_le _, rfl, rfl⟩⟩
theorem rC_len (L : List Rc) : (rC L).length = L.length * 14 := by
  induction L with
  | nil => rfl
  | cons a L ih => rw [rC_cons, List.length_append, Array.length_toList, a.size, ih, List.length_cons]; omega
theorem rC_one (L : List Rc) : ∀ u ∈ rC L, u.oneCell' = true := by
  intro u hu
  unfold rC at hu
  obtain ⟨a, _, hu⟩ := List.mem_flatMap.1 hu
  have := a.one
  rw [Array.all_eq_true_iff_forall_mem] at this
  exact this u (by simpa using hu)
/-- append of rows to a slice of the call's own. -/
theorem append_rows (w : World) (base : Nat) (v : Value) (n : Nat) (xs : List Value) (hown : w.ownsRow base 34 14 v n xs) (g : Nat) (c : Nat) (L : List Rc) (hr : w.rangeAt g 0 (rC L)) (hn : n ≤ 1000) (hl : L.length ≤ 1000) (hb : base ≤ w.heap.size) :
    ∃ v' w', (Builtin.append_ #[22, 22] 22 #[v, .slice (some ⟨g, 0, none⟩) L.length c]).run Tryd.prog w = .ok v' w' ∧ w'.ownsRow base 34 14 v' (n + L.length) (xs ++ rC L) ∧ w.grownBy w' v.ownBlock := by
  obtain ⟨i, hi, z0, z1, z2⟩ := info_some rc_z
  have hb63 : (n + L.length) * i.bytes ≤ 140737488355328 := by rw [z2]; omega
  obtain ⟨v', w', h1, h2, h3, _⟩ := run_append_own_at (P := Tryd.prog) w base 22 22 34 i _ 14 i.bytes (by kernel_rfl) hi z0 z1 rfl rfl (by decide) v n xs hown ⟨g, 0, none⟩ L.length c (rC L) (rC_len L)
    (fun j u hu => by rw [show (⟨g, 0, none⟩ : Addr).add j = ⟨g, 0 + j, none⟩ from Addr.add_lit ..]; exact hr j u hu) (rC_one L) (by unfold maxLen; omega) hb63 hb
  exact ⟨v', w', h1, h2, h3⟩
set_option maxHeartbeats 1000000 in
theorem rclone_any (w : World) (base : Nat) (v : Value) (L : List Rc) (h : w.ownsRow base 34 14 v L.length (rC L)) (hl : L.length ≤ 1000) :
    Calls Tryd.prog 33 #[v] w fun e w' => ∃ v', e = .returned v' ∧ w'.ownsRow w.heap.size 34 14 v' L.length (rC L) ∧ Below w.heap.size w w' := by
  obtain ⟨hlen, ⟨rfl, h0⟩ | ⟨g, cap, cur, rfl, hb, hg, h1, h2, h3, h4⟩⟩ := id h
  · have hq := fun w => Go.run_eql_slice_nil (P := Tryd.prog) w 22 34 none 0 0 (by kernel_rfl)
    obtain rfl : L = [] := List.eq_nil_of_length_eq_zero (by simpa using h0)
    simp only [Option.isNone_none] at hq
    go_enter Tryd.func33, Tryd.ntmps33
    go_wp2
    go_ret
    exact ⟨_, rfl, World.ownsRow_nil _ _ _ _, Below.refl _ _⟩
  · have hq := fun w => Go.run_eql_slice_nil (P := Tryd.prog) w 22 34 (some ⟨g, 0, none⟩) L.length cap (by kernel_rfl)
    have hr : w.rangeAt g 0 (rC L) := fun j u hu => by
      have hr : Row w g cur 34 := hg
      have hj : j < L.length * 14 := by rw [← rC_len]; exact (List.getElem?_eq_some_iff.1 hu).1
      rw [hr.cell, Nat.zero_add, ← hu, ← h4, List.getElem?_take, if_pos hj, Array.getElem?_toList]
    have hgl := (Array.getElem?_eq_some_iff.1 hg).1
    obtain ⟨v1, w1, run1, own1, gr1⟩ := append_rows (w.alloc (.cells #[] 34)) w.heap.size (.slice (some ⟨w.heap.size, 0, none⟩) 0 0) 0 [] (rown_made w _ (Nat.le_refl _)) g cap L (rangeAt_below hr hgl (below1 w _)) (by omega) hl (by simp)
    have hb1 : Below w.heap.size w w1 := below_grown (below1 w _) (by simp) gr1 (fun k hk => by simp [Value.ownBlock] at hk; omega)
    rw [Nat.zero_add, List.nil_append] at own1
    simp only [Option.isNone_some] at hq
    clear hr gr1 h2 h3 h4 h1 hg hb hlen h
    generalize rC L = rcl at *
    generalize L.length = n at *
    go_enter Tryd.func33, Tryd.ntmps33
    go_wp2_with (at_builtin; refine Lib.wpList_append_run _ rfl _ _ _ _ rfl _ _ rfl rfl _ _ run1 ?_)
    go_ret
    exact ⟨_, rfl, own1, hb1⟩
set_option maxHeartbeats 1000000 in
theorem rcopy_any (w : World) (bx b : Nat) (L : List Rc) (h : LsAt w bx b L) (hl : L.length ≤ 1000) :
    Calls Tryd.prog 20 #[.pointer (some ⟨b, 0, none⟩)] w fun e w' => ∃ b', e = .returned (.pointer (some ⟨b', 0, none⟩)) ∧ w.heap.size ≤ b' ∧ LsAt w' w.heap.size b' L ∧ Below w.heap.size w w' := by
  obtain ⟨v, h⟩ := h
  obtain ⟨p, c, rfl⟩ := h.form
  have c0 := h.row.cell 0
  simp only [List.getElem?_toArray, List.getElem?_cons_zero] at c0
  have HO : Hid (w.ownsRow bx 34 14 (.slice p L.length c) L.length (rC L)) := h.own
  have HL : Hid (L.length ≤ 1000) := hl
  clear h hl
  go_enter Tryd.func20, Tryd.ntmps20
  go_wp2_with fail
  refine (rclone_any w bx _ L HO.out HL.out).mono ?_
  rintro e w1 ⟨v1, rfl, ho1, hb1⟩
  obtain ⟨p1, n1, c1, rfl, hn1⟩ := ownsRowN_form ho1
  subst hn1
  have hls : LsAt (w1.alloc (.cells #[.slice p1 L.length c1] 56)) w.heap.size w1.heap.size L := ⟨_, Row.new w1 _ _ rfl, ownsRowN_later ho1 (below1 w1 _), hb1.size⟩
  have hbl := chainA hb1 (.cells #[.slice p1 L.length c1] 56)
  have hsz := hb1.size
  clear ho1 hb1 c0
  go_wp2
  go_ret
  exact ⟨_, rfl, hsz, hls, hbl⟩
end Go.Proofs.YtcahmldgkkcheaaDoor
