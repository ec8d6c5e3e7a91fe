
/-
  Package rows: Span; the law's own list; its anchor.
-/
import Derived.Test.YtcahmldgkkcheaaDoorRoA
set_option maxRecDepth 100000
namespace Go.Proofs.YtcahmldgkkcheaaDoor
open Go.RowKit
set_option linter.unusedVariables false
set_option linter.unusedSimpArgs false

/-- The place of the first row whose time is from or later. -/
def spanF (L : List Rc) (f : Int) : Nat := (L.takeWhile fun a => decide (a.tm < f)).length
/-- How many from there on have times up to t, no more than a limit. -/
def spanC (L : List Rc) (f t lim : Int) : Nat := min lim.toNat ((L.drop (spanF L f)).takeWhile fun a => decide (a.tm ≤ t)).length
theorem tw_le (L : List Rc) (p : Rc → Bool) : (L.takeWhile p).length ≤ L.length := (List.takeWhile_prefix p).length_le
theorem tw_yes : ∀ (L : List Rc) (p : Rc → Bool) (k : Nat), k < (L.takeWhile p).length → p (L.getD k Rc.z) = true
  | [], p, k, h => by simp at h
  | a :: L, p, k, h => by
    rw [List.takeWhile_cons] at h
    split at h
    · rename_i ha
      match k with
      | 0 => simpa using ha
      | k + 1 => simpa using tw_yes L p k (by simpa using h)
    · simp at h
theorem tw_no : ∀ (L : List Rc) (p : Rc → Bool), (L.takeWhile p).length < L.length → p (L.getD (L.takeWhile p).length Rc.z) = false
  | [], p, h => by simp at h
  | a :: L, p, h => by
    rw [List.takeWhile_cons] at h ⊢
    split
    · rename_i ha
      rw [if_pos ha] at h
      simpa using tw_no L p (by simpa using h)
    · rename_i ha
      simpa using ha
theorem span_le (L : List Rc) (f t lim : Int) : spanF L f ≤ L.length ∧ spanF L f + spanC L f t lim ≤ L.length := by
  have h1 : spanF L f ≤ L.length := tw_le _ _
  have h2 : ((L.drop (spanF L f)).takeWhile fun a => decide (a.tm ≤ t)).length ≤ L.length - spanF L f := by
    have := tw_le (L.drop (spanF L f)) (fun a => decide (a.tm ≤ t))
    rwa [List.length_drop] at this
  unfold spanC
  exact ⟨h1, by omega⟩
theorem getD_drop (L : List Rc) (n k : Nat) : (L.drop n).getD k Rc.z = L.getD (n + k) Rc.z := by simp [List.getD, List.getElem?_drop]
set_option maxHeartbeats 4000000 in
theorem span_any (w : World) (base b : Nat) (L : List Rc) (f t lim : Int) (h : LsAt w base b L) (hl : L.length ≤ 1000) (l0 : -9223372036854775808 ≤ lim) (l1 : lim ≤ 9223372036854775807) :
    Calls Tryd.prog 11 #[.pointer (some ⟨b, 0, none⟩), .int .i64 f, .int .i64 t, .int .i64 lim] w fun e w' => e = .returned (.tuple #[.int .i64 (spanF L f : Nat), .int .i64 (spanC L f t lim : Nat)]) ∧ w' = w := by
  obtain ⟨v, h⟩ := h
  obtain ⟨p, c, rfl⟩ := h.form
  have HH : Hid (LsV w base b (.slice p L.length c) L) := h
  have c0 := h.row.cell 0
  simp only [List.getElem?_toArray, List.getElem?_cons_zero] at c0
  have n0 : (0 : Int) ≤ (L.length : Int) := by omega
  have n1 : (L.length : Int) ≤ 1000 := by omega
  obtain ⟨F, hF⟩ : ∃ F, spanF L f = F := ⟨_, rfl⟩
  obtain ⟨C, hC⟩ : ∃ C, spanC L f t lim = C := ⟨_, rfl⟩
  have HF : Hid (F ≤ L.length ∧ F + C ≤ L.length ∧ (∀ k, k < F → (L.getD k Rc.z).tm < f) ∧ (F < L.length → f ≤ (L.getD F Rc.z).tm)) := by
    have hs := span_le L f t lim
    rw [hF, hC] at hs
    refine ⟨hs.1, hs.2, fun k hk => ?_, fun hlt => ?_⟩
    · rw [← hF] at hk
      exact of_decide_eq_true (tw_yes L _ k hk)
    · rw [← hF] at hlt ⊢
      exact Int.not_lt.1 (of_decide_eq_false (tw_no L _ hlt))
  have HC : Hid ((∀ k, k < C → (k : Int) < lim ∧ (L.getD (F + k) Rc.z).tm ≤ t) ∧ (lim ≤ (C : Int) ∨ L.length ≤ F + C ∨ t < (L.getD (F + C) Rc.z).tm)) := by
    have hd := tw_le (L.drop F) (fun a => decide (a.tm ≤ t))
    rw [List.length_drop] at hd
    have hCe : C = min lim.toNat ((L.drop F).takeWhile fun a => decide (a.tm ≤ t)).length := by rw [← hC, ← hF]; rfl
    refine ⟨fun k hk => ⟨by omega, ?_⟩, ?_⟩
    · have := tw_yes (L.drop F) (fun a => decide (a.tm ≤ t)) k (by omega)
      rw [getD_drop] at this
      exact of_decide_eq_true this
    · by_cases c1 : lim.toNat ≤ ((L.drop F).takeWhile fun a => decide (a.tm ≤ t)).length
      · left; omega
      · by_cases c2 : ((L.drop F).takeWhile fun a => decide (a.tm ≤ t)).length < (L.drop F).length
        · right; right
          have := tw_no (L.drop F) (fun a => decide (a.tm ≤ t)) c2
          rw [getD_drop] at this
          have hCT : C = ((L.drop F).takeWhile fun a => decide (a.tm ≤ t)).length := by omega
          rw [hCT]
          exact Int.not_le.1 (of_decide_eq_false this)
        · right; left
          rw [List.length_drop] at c2
          omega
  rw [hF, hC]
  clear hF hC h
  have f0 : (0 : Int) ≤ (F : Int) := by omega
  have f1 : (F : Int) ≤ (L.length : Int) := by have := HF.out.1; omega
  have cc0 : (0 : Int) ≤ (C : Int) := by omega
  have cc1 : (C : Int) ≤ (L.length : Int) := by have := HF.out.2.1; omega
  go_enter Tryd.func11, Tryd.ntmps11
  go_wp2
  go_loopw [10] (fun i wr => wr = w ∧ ∃ k : Nat, k ≤ F ∧ i = .int .i64 k) (fun i _ => F - (intOf i).toNat)
  case atStart => exact ⟨rfl, 0, Nat.zero_le _, rfl⟩
  case round =>
    obtain ⟨rfl, k, hk, rfl⟩ := hrel
    have k0 : (0 : Int) ≤ (k : Int) := by omega
    have k1 : (k : Int) ≤ (F : Int) := by omega
    by_cases hlt : k < L.length
    · have k2 : (k : Int) < (L.length : Int) := by omega
      obtain ⟨g, rfl, hg, hnc, hr⟩ := HH.out.at hlt
      have ctm : wr.cell? ⟨g, k * 14 + 2, none⟩ = some (.int .i64 (L.getD k Rc.z).tm) := hr 2 _ rfl
      have HY := (show Hid _ from HF.out.2.2.1 k)
      have HN := (show Hid _ from HF.out.2.2.2)
      clear hr
      by_cases hkF : k < F
      · have hlf := HY.out hkF
        generalize (L.getD k Rc.z).tm = x at *
        have hlb : (decide (x < f)) = true := decide_eq_true hlf
        have HKF : Hid (k < F) := hkF
        clear hkF hk
        go_wp2
        go_roundw
        case rel => exact ⟨by first | rfl | trivial, k + 1, HKF.out, by go_num⟩
        case measure => simp [intOf]; have := HKF.out; omega
      · have hkE : k = F := by omega
        subst hkE
        have hlf := HN.out hlt
        generalize (L.getD k Rc.z).tm = x at *
        have hlb : (decide (x < f)) = false := decide_eq_false (by omega)
        clear HY HN hlf
        go_wp2
        go_loopw [11] (fun i w2 => w2 = wr ∧ ∃ m : Nat, m ≤ C ∧ i = .int .i64 m) (fun i _ => C - (intOf i).toNat)
        case atStart => exact ⟨rfl, 0, Nat.zero_le _, rfl⟩
        case round =>
          obtain ⟨rfl, m, hm, rfl⟩ := hrel
          have m0 : (0 : Int) ≤ (m : Int) := by omega
          have m1 : (m : Int) ≤ (C : Int) := by omega
          have HMC : Hid (m ≤ C) := hm
          have HFC : Hid (k + C ≤ L.length) := HF.out.2.1
          have s1 : (k : Int) + (m : Int) ≤ (L.length : Int) := by have := HFC.out; have := HMC.out; omega
          by_cases hb1 : (m : Int) < lim
          · have hb1' : (decide ((m : Int) < lim)) = true := decide_eq_true hb1
            by_cases hb2 : k + m < L.length
            · have hb2' : (k : Int) + (m : Int) < (L.length : Int) := by omega
              obtain ⟨g2, eg, hg2, hnc2, hr2⟩ := HH.out.at hb2
              cases eg
              have ctm2 : wr.cell? ⟨g, (k + m) * 14 + 2, none⟩ = some (.int .i64 (L.getD (k + m) Rc.z).tm) := hr2 2 _ rfl
              have HYC : Hid (m < C → (L.getD (k + m) Rc.z).tm ≤ t) := fun h => (HC.out.1 m h).2
              have HNC : Hid (m = C → t < (L.getD (k + m) Rc.z).tm) := fun h => by
                rcases HC.out.2 with h1 | h1 | h1
                · rw [← h] at h1; omega
                · rw [← h] at h1; omega
                · rw [← h] at h1; exact h1
              have HB2 : Hid (k + m < L.length) := hb2
              clear hr2 hb1 hb2 hm
              generalize (L.getD (k + m) Rc.z).tm = y at *
              by_cases hb3 : y ≤ t
              · have HMLT : Hid (m < C) := by
                  show _ < _
                  rcases Nat.lt_or_ge m C with h | h
                  · exact h
                  · have h3 := HNC.out (by have := HMC.out; omega); omega
                have hb3' : (decide (y ≤ t)) = true := decide_eq_true hb3
                clear hb3
                go_wp2
                go_roundw
                case rel => exact ⟨by first | rfl | trivial, m + 1, HMLT.out, by go_num⟩
                case measure => simp [intOf]; have := HMLT.out; omega
              · have HME : Hid (m = C) := by
                  show _ = _
                  rcases Nat.lt_or_ge m C with h | h
                  · have h3 := HYC.out h; omega
                  · have := HMC.out; omega
                have hb3' : (decide (y ≤ t)) = false := decide_eq_false hb3
                clear hb3
                have := HME.out
                subst this
                go_wp2
                exact bodyPost_ret (v := .tuple #[.int .i64 (k : Nat), .int .i64 (m : Nat)]) (by simp [results, Tryd.results11, go_sem]) rfl ⟨rfl, rfl⟩
            · have hb2' : (L.length : Int) ≤ (k : Int) + (m : Int) := by omega
              have HME : Hid (m = C) := by show _ = _; have := HFC.out; have := HMC.out; omega
              clear hb1 hb2 hm
              have := HME.out
              subst this
              go_wp2
              exact bodyPost_ret (v := .tuple #[.int .i64 (k : Nat), .int .i64 (m : Nat)]) (by simp [results, Tryd.results11, go_sem]) rfl ⟨rfl, rfl⟩
          · have hb1' : (decide ((m : Int) < lim)) = false := decide_eq_false hb1
            have HME : Hid (m = C) := by
              show _ = _
              rcases Nat.lt_or_ge m C with h | h
              · have h3 := (HC.out.1 m h).1; omega
              · have := HMC.out; omega
            clear hb1 hm
            have := HME.out
            subst this
            go_wp2
            exact bodyPost_ret (v := .tuple #[.int .i64 (k : Nat), .int .i64 (m : Nat)]) (by simp [results, Tryd.results11, go_sem]) rfl ⟨rfl, rfl⟩
    · have hkE : k = F := by have := HF.out.1; omega
      have k2 : (L.length : Int) ≤ (k : Int) := by omega
      subst hkE
      go_wp2
      have hC0 : C = 0 := by have := HF.out.2.1; omega
      go_loopw [11] (fun i w2 => w2 = wr ∧ i = .int .i64 0) (fun i _ => 1)
      case atStart => exact ⟨rfl, rfl⟩
      case round =>
        obtain ⟨rfl, rfl⟩ := hrel
        by_cases hb1 : (0 : Int) < lim
        · have hb1' : (decide ((0 : Int) < lim)) = true := decide_eq_true hb1
          subst hC0
          go_wp2
          exact bodyPost_ret (v := .tuple #[.int .i64 (k : Nat), .int .i64 0]) (by simp [results, Tryd.results11, go_sem]) rfl ⟨rfl, rfl⟩
        · have hb1' : (decide ((0 : Int) < lim)) = false := decide_eq_false hb1
          subst hC0
          go_wp2
          exact bodyPost_ret (v := .tuple #[.int .i64 (k : Nat), .int .i64 0]) (by simp [results, Tryd.results11, go_sem]) rfl ⟨rfl, rfl⟩
end Go.Proofs.YtcahmldgkkcheaaDoor
