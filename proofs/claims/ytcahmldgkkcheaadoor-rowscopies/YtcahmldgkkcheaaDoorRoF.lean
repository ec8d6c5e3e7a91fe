
/-
  The walk of RowsEnds: it returns true, for any rows and cut, and turns nothing that was there.
-/
import Derived.Test.YtcahmldgkkcheaaDoorRoE
set_option maxRecDepth 100000
namespace Go.Proofs.YtcahmldgkkcheaaDoor
open Go.RowKit
set_option linter.unusedVariables false
set_option linter.unusedSimpArgs false

theorem lst_tm : ∀ (L : List Rc) (t : Int), ∀ a ∈ lst t L, a.tm ≤ t + 4 * L.length
  | [], t, a, h => by cases h
  | b :: L, t, a, h => by
    obtain ⟨k, hk, e⟩ := and_3 b.tm
    rw [List.length_cons]
    rcases List.mem_cons.1 h with rfl | h
    · show t + (1 + bits .and .i64 b.tm 3) ≤ _
      rw [e]; omega
    · have := lst_tm L _ a h
      rw [e] at this
      omega
theorem tw_all : ∀ (L : List Rc) (p : Rc → Bool), (∀ a ∈ L, p a = true) → (L.takeWhile p).length = L.length
  | [], p, h => rfl
  | a :: L, p, h => by
    rw [List.takeWhile_cons, if_pos (h a (by simp)), List.length_cons, List.length_cons, tw_all L p fun b hb => h b (by simp [hb])]
theorem tw_none (L : List Rc) (p : Rc → Bool) (h : ∀ a ∈ L, p a = false) : (L.takeWhile p).length = 0 := by
  cases L with
  | nil => rfl
  | cons a L => rw [List.takeWhile_cons, if_neg (by rw [h a (by simp)]; simp)]; rfl
theorem spanF_zero (M : List Rc) (f : Int) (h : ∀ a ∈ M, f ≤ a.tm) : spanF M f = 0 := tw_none M _ fun a ha => by have := h a ha; simp; omega
/-- What lies up to a time, and what lies behind it, are all. -/
theorem spans_all (M : List Rc) (c : Int) (hr : Rise M) (h0 : ∀ a ∈ M, 0 ≤ a.tm) (h1 : ∀ a ∈ M, a.tm ≤ 1099511627776) (hl : M.length ≤ 100) :
    spanF M 0 = 0 ∧ spanF M (c + 1) = spanC M 0 c 100 ∧ spanC M 0 c 100 + spanC M (c + 1) 1099511627776 100 = M.length := by
  have e0 := spanF_zero M 0 h0
  have ec : (fun a : Rc => decide (a.tm < c + 1)) = fun a => decide (a.tm ≤ c) := by
    funext a
    exact decide_eq_decide.2 (by omega)
  have e1 : spanF M (c + 1) = (M.takeWhile fun a => decide (a.tm ≤ c)).length := by unfold spanF; rw [ec]
  have hle := tw_le M (fun a => decide (a.tm ≤ c))
  have e2 : spanC M 0 c 100 = (M.takeWhile fun a => decide (a.tm ≤ c)).length := by
    unfold spanC
    rw [e0, List.drop_zero]
    omega
  refine ⟨e0, by rw [e1, e2], ?_⟩
  unfold spanC at *
  rw [e0, List.drop_zero, tw_all (M.drop (spanF M (c + 1))) _ (fun a ha => by have := h1 a (List.mem_of_mem_drop ha); simpa using this), List.length_drop, e1]
  omega
theorem span_none (M : List Rc) (c : Int) : spanC M c (c - 1) 100 = 0 := by
  have h : ((M.drop (spanF M c)).takeWhile fun a => decide (a.tm ≤ c - 1)).length = 0 := by
    rcases Nat.eq_zero_or_pos ((M.drop (spanF M c)).takeWhile fun a => decide (a.tm ≤ c - 1)).length with h | h
    · exact h
    · exfalso
      have h1 := tw_yes _ _ 0 h
      have h2 := tw_le (M.drop (spanF M c)) (fun a => decide (a.tm ≤ c - 1))
      rw [List.length_drop] at h2
      have h3 := tw_no M (fun a => decide (a.tm < c)) (by show spanF M c < _; omega)
      rw [getD_drop, Nat.add_zero] at h1
      have h4 : (M.getD (spanF M c) Rc.z).tm ≤ c - 1 := of_decide_eq_true h1
      have h5 : ¬ (M.getD (spanF M c) Rc.z).tm < c := of_decide_eq_false h3
      omega
  unfold spanC
  rw [h]
  omega
theorem span_zero (M : List Rc) (f t : Int) : spanC M f t 0 = 0 ∧ spanC M f t (-3) = 0 := by
  unfold spanC
  simp
set_option maxHeartbeats 4000000 in
theorem ends_walk (v0 : Value) (L : List Rc) (cut : Int) (w : World) (hL : RowsAt w v0 L) (l0 : -9223372036854775808 ≤ cut) (l1 : cut ≤ 9223372036854775807) (ht : Tab w) :
    Calls Tryd.prog 6 #[v0, .int .i64 cut] w fun e w' => e = .returned (.bool true) ∧ Below w.heap.size w w' := by
  obtain ⟨hok, hlm, p0, c0, rfl, _⟩ := id hL
  have HL : Hid (RowsAt w (.slice p0 L.length c0) L) := hL
  have HT : Hid (Tab w) := ht
  unfold maxLen at hlm
  have n0 : (0 : Int) ≤ (L.length : Int) := by omega
  have n1 : (L.length : Int) ≤ 9223372036854775807 := by omega
  obtain ⟨c, hc, ec⟩ := and_255 cut
  have c0 : (0 : Int) ≤ (c : Int) := by omega
  have c1 : (c : Int) ≤ 255 := by omega
  clear hL ht hok hlm
  go_enter Tryd.func6, Tryd.ntmps6
  go_wp2_with fail
  refine (fit10_any _ HT.out).mono ?_
  rintro e w1 ⟨rfl, hb1⟩
  have B1 : Hid (Below w.heap.size w w1) := hb1
  clear hb1
  by_cases h40 : L.length ≤ 40
  · have n40 : (L.length : Int) ≤ 40 := by omega
    have H40 : Hid (L.length ≤ 40) := h40
    clear h40 n1
    go_wp2_with fail
    refine (list_any w1 _ L (HL.out.later B1.out) H40.out).mono ?_
    rintro e w2 ⟨rfl, hls, hb2⟩
    obtain ⟨M, hM⟩ : ∃ M, lst 0 L = M := ⟨_, rfl⟩
    rw [hM] at hls
    have HM : Hid (M.length = L.length ∧ Rise M ∧ (∀ a ∈ M, 0 < a.tm) ∧ ∀ a ∈ M, a.tm ≤ 160) := by
      rw [← hM]
      exact ⟨lst_len L 0, (lst_rise L 0).1, (lst_rise L 0).2, fun a ha => by have := lst_tm L 0 a ha; have := H40.out; omega⟩
    have HLS : Hid (LsAt w2 w1.heap.size w1.heap.size M) := hls
    have B2 : Hid (Below w.heap.size w w2) := B1.out.trans (hb2.mono B1.out.size)
    clear hM hls hb2
    have HML : Hid (M.length ≤ 1000) := by show _ ≤ _; have := HM.out.1; have := H40.out; omega
    have HA : Hid (spanF M 0 = 0 ∧ spanF M ((c : Int) + 1) = spanC M 0 c 100 ∧ spanC M 0 c 100 + spanC M ((c : Int) + 1) 1099511627776 100 = M.length) :=
      spans_all M c HM.out.2.1 (fun a ha => by have := HM.out.2.2.1 a ha; omega) (fun a ha => by have := HM.out.2.2.2 a ha; omega) (by have := HM.out.1; have := H40.out; omega)
    have HZ : Hid (spanC M c ((c : Int) - 1) 100 = 0 ∧ spanC M 0 1099511627776 0 = 0 ∧ spanC M 0 1099511627776 (-3) = 0) := ⟨span_none M c, (span_zero M _ _).1, (span_zero M _ _).2⟩
    go_wp2_with fail
    refine (span_any w2 w1.heap.size w1.heap.size M 0 c 100 HLS.out HML.out (by omega) (by omega)).mono ?_
    rintro e w3 ⟨rfl, hw3⟩
    obtain rfl := hw3
    rw [HA.out.1]
    go_wp2_with fail
    refine (span_any w3 w1.heap.size w1.heap.size M (c + 1) 1099511627776 100 HLS.out HML.out (by omega) (by omega)).mono ?_
    rintro e w4 ⟨rfl, hw4⟩
    obtain rfl := hw4
    rw [HA.out.2.1]
    have hsum := HA.out.2.2
    rw [HM.out.1] at hsum
    generalize spanC M 0 c 100 = A at *
    generalize spanC M ((c : Int) + 1) 1099511627776 100 = B at *
    have a0 : (0 : Int) ≤ (A : Int) := by omega
    have b0 : (0 : Int) ≤ (B : Int) := by omega
    have s0 : (A : Int) + (B : Int) = (L.length : Int) := by omega
    have HS0 : Hid ((A : Int) + (B : Int) = (L.length : Int)) := s0
    have a1 : (A : Int) ≤ 40 := by omega
    have b1 : (B : Int) ≤ 40 := by omega
    clear hsum s0
    go_wp2_with fail
    refine (span_any w4 w1.heap.size w1.heap.size M c ((c : Int) - 1) 100 HLS.out HML.out (by omega) (by omega)).mono ?_
    rintro e w5 ⟨rfl, hw5⟩
    obtain rfl := hw5
    rw [HZ.out.1]
    go_wp2_with fail
    refine (span_any w5 w1.heap.size w1.heap.size M 0 1099511627776 0 HLS.out HML.out (by omega) (by omega)).mono ?_
    rintro e w6 ⟨rfl, hw6⟩
    obtain rfl := hw6
    rw [HZ.out.2.1]
    go_wp2_with fail
    refine (span_any w6 w1.heap.size w1.heap.size M 0 1099511627776 (-3) HLS.out HML.out (by omega) (by omega)).mono ?_
    rintro e w7 ⟨rfl, hw7⟩
    obtain rfl := hw7
    rw [HZ.out.2.2]
    have s1 := HS0.out
    go_wp2
    go_ret
    exact ⟨rfl, B2.out⟩
  · have n40 : (40 : Int) < (L.length : Int) := by omega
    go_wp2
    go_ret
    exact ⟨rfl, B1.out⟩
end Go.Proofs.YtcahmldgkkcheaaDoor
