
/-
  Growth out of each elder tree, and what Grown says of it: of the elder tree's own root yes; of another one no, unless hashes clash.
-/
import Derived.Test.YtepohpniflmblaaDoorHiX0
import Derived.Test.YtepohpniflmblaaDoorHiJ
set_option maxRecDepth 100000
namespace Go.Proofs.YtepohpniflmblaaDoor
open Go.RowKit
set_option linter.unusedVariables false
set_option linter.unusedSimpArgs false

/-- What a Grown of some root says. -/
def GrAny (m n : Nat) (own young : List Nat) (NA : List (List Nat)) (old : List Nat) (base : Nat) (tv : Value) (N : List (List Nat)) (w : World) (e : Ending) (w' : World) : Prop :=
  ∃ (r : Bool) (M : List (List Nat)), e = .returned (.bool r) ∧ (r = true → old ≠ own → ClN (M ++ NA)) ∧ M.length ≤ 12 ∧ (∀ l ∈ M, l.length ≤ 1000) ∧ TpAt w' base tv (N ++ M) ∧ TStep base w w'
theorem grownN_six {m n : Nat} (hm : 0 < m) (hmn : m ≤ n) (hn : n ≤ 64) (old : List Nat) (P : List (List Nat)) : (grownN m n old P).length ≤ 12 := by
  have hw := way_steps 6 (m - 1) true 0 n (Nat.zero_le _) (by omega) (by omega)
  unfold grownN
  split
  · have := grwN_len (wayL (m - 1) true 0 n).2 (othG (wayL (m - 1) true 0 n).1 P) (fstG (wayL (m - 1) true 0 n).1 old P) (wayL (m - 1) true 0 n).2.length
    omega
  · simp
theorem grows_growth (m : Nat) (A : List (List Nat)) (v : Value) (w : World) (hA : ∀ y ∈ A, H32 y) (h64 : A.length ≤ 64) (hm : m ≤ A.length) (hv : HsAt w v A) (ht : Tab w) :
    Calls Tryd.prog 22 #[.pointer none, .int .i64 (m : Nat), v] w fun e w' => ∃ p n c P, e = .returned (.tuple #[.slice p n c, .bool true]) ∧ HsAt w' (.slice p n c) P ∧ Below w.heap.size w w' ∧
      (∀ wr, HsAt wr (.slice p n c) P → Tab wr → 0 < wr.heap.size → Calls Tryd.prog 23 #[.pointer none, .int .i64 (m : Nat), .int .i64 (A.length : Nat), .agg (bytesL (rootL (A.take m))), .agg (bytesL (rootL A)), .slice p n c] wr fun e w' => e = .returned (.bool true) ∧ Below wr.heap.size wr w') ∧
      (∀ wr old base tv N, H32 old → HsAt wr (.slice p n c) P → Tab wr → 0 < base → base ≤ wr.heap.size → TpAt wr base tv N → N.length + 128 ≤ 1000 →
        Calls Tryd.prog 23 #[tv, .int .i64 (m : Nat), .int .i64 (A.length : Nat), .agg (bytesL old), .agg (bytesL (rootL A)), .slice p n c] wr (GrAny m A.length (rootL (A.take m)) (rootL A) (rootN A) old base tv N wr)) := by
  have hT : ∀ y ∈ A.take m, H32 y := fun z hz => hA z (List.mem_of_mem_take hz)
  have h1 : H32 (rootL (A.take m)) := root_32 _ _ (Nat.le_refl _) hT
  have h2 : H32 (rootL A) := root_32 _ _ (Nat.le_refl _) hA
  by_cases h0 : m = 0
  · subst h0
    refine (growth_none v A w 0 (Or.inl rfl) h64 hv).mono ?_
    rintro e w' ⟨rfl, rfl⟩
    have hn := fun (wr : World) => HsAt.nil wr 0 (Nat.zero_le _) none
    refine ⟨none, 0, 0, [], rfl, hn _, Below.refl _ _, fun wr hp ht' hpos => ?_, fun wr old base tv N ho hp ht' hb0 hb htp hN => ?_⟩
    · refine (grown_none A.length _ _ _ [] wr.heap.size (.pointer none) [] wr h64 h1 h2 hp ht' hpos (Nat.le_refl _) (TpAt.nil _ _ _) (by simp)).mono ?_
      rintro e w'' ⟨rfl, _, hs⟩
      refine ⟨?_, TStep.below (Below.refl _ _) hs⟩
      by_cases hA0 : 0 < A.length
      · simp [hA0]
      · obtain rfl : A = [] := List.eq_nil_of_length_eq_zero (by omega)
        simp
    · refine (grown_none A.length old _ _ [] base tv N wr h64 ho h2 hp ht' hb0 hb htp (by omega)).mono ?_
      rintro e w'' ⟨rfl, htp', hs⟩
      refine ⟨_, _, rfl, fun hr hne => ?_, ?_, ?_, htp', hs⟩
      · rw [List.take_zero] at hne
        simp only [Bool.and_eq_true, decide_eq_true_eq] at hr
        exact absurd hr.2.1 hne
      · simp [rootN_nil]
      · intro l hl
        simp only [List.length_nil, if_true, rootN_nil, List.mem_singleton] at hl
        subst hl
        simp
  · have hm0 : 0 < m := Nat.pos_of_ne_zero h0
    by_cases hmn : m = A.length
    · subst hmn
      refine (growth_none v A w A.length (Or.inr rfl) h64 hv).mono ?_
      rintro e w' ⟨rfl, rfl⟩
      refine ⟨none, 0, 0, [], rfl, HsAt.nil _ 0 (Nat.zero_le _) none, Below.refl _ _, fun wr hp ht' hpos => ?_, fun wr old base tv N ho hp ht' hb0 hb htp hN => ?_⟩
      · refine (grown_same A.length _ _ _ [] (.pointer none) wr hm0 h64 h1 h2 hp).mono ?_
        rintro e w'' ⟨rfl, hb⟩
        exact ⟨by simp, hb⟩
      · refine (grown_same A.length old _ _ [] tv wr hm0 h64 ho h2 hp).mono ?_
        rintro e w'' ⟨rfl, hbb⟩
        refine ⟨_, [], rfl, fun hr hne => ?_, by simp, by simp, by rw [List.append_nil]; exact htp.later hbb, TStep.of hbb⟩
        rw [List.take_length] at hne
        simp only [Bool.and_eq_true, decide_eq_true_eq] at hr
        exact absurd hr.2 hne
    · have hlt : m < A.length := by omega
      refine (growth_any m v A w hm0 hlt h64 hv ht).mono ?_
      rintro e w' ⟨u, rfl, ho, hb⟩
      obtain ⟨p, n, c, rfl, hn⟩ := ownsRowN_form ho
      subst hn
      refine ⟨p, _, c, _, rfl, ho.hs (growL_32 hA), hb, fun wr hp ht' hpos => ?_, fun wr old base tv N ho hp ht' hb0 hb htp hN => ?_⟩
      · refine (grown_any m A.length _ _ _ _ wr.heap.size (.pointer none) [] wr hm0 hlt h64 h1 h2 hp ht' hpos (Nat.le_refl _) (TpAt.nil _ _ _) (by simp)).mono ?_
        rintro e w'' ⟨⟨r, rfl, hr⟩, _, hs⟩
        have := hr.2 (grown_true hm0 hm)
        subst this
        exact ⟨rfl, TStep.below (Below.refl _ _) hs⟩
      · refine (grown_any m A.length old _ _ _ base tv N wr hm0 hlt h64 ho h2 hp ht' hb0 hb htp hN).mono ?_
        rintro e w'' ⟨⟨r, rfl, hr⟩, htp', hs⟩
        refine ⟨r, _, rfl, fun hrt hne => ?_, grownN_six hm0 hm h64 _ _, grownN_short ho (growL_32 hA), htp', hs⟩
        rcases grown_own hA hm0 hm ho (growL_32 hA) (hr.1 hrt) with hc | q
        · exact hc
        · exact absurd q hne
end Go.Proofs.YtepohpniflmblaaDoor
