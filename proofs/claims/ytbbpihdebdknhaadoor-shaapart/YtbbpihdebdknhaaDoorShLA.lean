/-
  The walk of ShaApart: for all bytes.
-/
import Derived.Test.YtbbpihdebdknhaaDoorShE
namespace Go.Proofs.YtbbpihdebdknhaaDoor
open Go.RowKit

set_option maxHeartbeats 400000 in
set_option maxRecDepth 100000 in
theorem apart_walk (va : Value) (A : List Nat) (vb : Value) (B : List Nat) (w : World) (hA : BytesAt w va A) (ra : A.length ≤ 140737488351232) (hB : BytesAt w vb B) (rb : B.length ≤ 140737488351232) (ht : Tab w) :
    Calls Tryd.prog 5 #[va, vb] w fun e w' => e = .returned (.bool true) ∧ Below w.heap.size w w' := by
  obtain ⟨a8, am, pa, ca, rfl, _⟩ := id hA
  obtain ⟨b8, bm, pb, cb, rfl, _⟩ := id hB
  have r0 : (A.length : Int) ≤ 140737488351232 := by omega
  have r1 : (B.length : Int) ≤ 140737488351232 := by omega
  clear am bm
  have g0 : (0 : Int) ≤ (A.length : Int) := by omega
  have g1 : (0 : Int) ≤ (B.length : Int) := by omega
  by_cases h2 : 2000 < (A.length : Int) + (B.length : Int)
  · go_enter Tryd.func5, Tryd.ntmps5
    go_wp2_with (go_at_call 8; refine stop ?_)
    refine (fit_any w ht).mono ?_
    rintro e w1 ⟨rfl, hbw1⟩
    go_wp2
    go_ret
    exact ⟨rfl, hbw1⟩
  have h2' : (A.length : Int) + (B.length : Int) ≤ 2000 := by omega
  go_enter Tryd.func5, Tryd.ntmps5
  go_wp2_with (go_at_call 8; refine stop ?_)
  refine (fit_any w ht).mono ?_
  rintro e w1 ⟨rfl, hbw1⟩
  have hA1 := hA.later hbw1
  have hB1 := hB.later hbw1
  have ht1 := ht.later hbw1
  have cvA := conv_str hA1
  have cvB := conv_str hB1
  by_cases hAB : A = B
  · subst hAB
    have hsame1 := hash_same (hashF KW A) (hash_len _)
    generalize hH1 : hashF KW A = H1 at *
    have HH1 : Hid (hashF KW A = H1) := hH1
    clear hH1
    go_wp2_with (go_at_call 9; refine stop ?_)
    refine (of_eq _ [A] A H1 _ (parts1 w1 22 hA1 1) (by simp) (by omega) (ht1.later (below1 _ _)) HH1.out).mono ?_
    rintro e w7 ⟨rfl, hb7⟩
    have hbw7 := chain (chainA hbw1 (.cells #[.slice pa A.length ca] 22)) hb7
    have hB7 := hB.later hbw7
    have ht7 := ht.later hbw7
    clear hb7 hbw1 hA1 hB1 ht1
    go_wp2_with (go_at_call 9; refine stop ?_)
    refine (of_eq _ [A] A H1 _ (parts1 w7 22 hB7 1) (by simp) (by omega) (ht7.later (below1 _ _)) HH1.out).mono ?_
    rintro e w8 ⟨rfl, hb8⟩
    have hbw1 := chain (chainA hbw7 (.cells #[.slice pb A.length cb] 22)) hb8
    have hA1 := hA.later hbw1
    have hB1 := hB.later hbw1
    have ht1 := ht.later hbw1
    clear hb8 hbw7 hB7 ht7
    go_wp2_with (go_at_call 9; refine stop ?_)
    have hsame := hash_same (hashF KW (A ++ A)) (hash_len _)
    generalize hHH : hashF KW (A ++ A) = H at *
    have HH : Hid (hashF KW (A ++ A) = H) := hHH
    clear hHH
    refine (of_eq _ [A, A] (A ++ A) H _ (parts2 w8 22 hA1 hB1 2) (by simp) (by simp; omega) (ht1.later (below1 _ _)) HH.out).mono ?_
    rintro e w2 ⟨rfl, hb2⟩
    have hbw2 := chain (chainA hbw1 (.cells #[.slice pa A.length ca, .slice pb A.length cb] 22)) hb2
    have hA2 := hA.later hbw2
    have hB2 := hB.later hbw2
    have ht2 := ht.later hbw2
    obtain ⟨v1, u1, run1, own1, gr1, _⟩ := append_bytes w2 w2.heap.size 22 (.slice none 0 0) [] (World.ownsRow_nil _ _ _ _) _ A hA2 (by simp; omega) (Nat.le_refl _)
    have hbu1 : Below w2.heap.size w2 u1 := below_grown (Below.refl _ _) (Nat.le_refl _) gr1 (fun k h => by cases h)
    obtain ⟨v2, u2, run2, own2, gr2, _⟩ := append_bytes u1 w2.heap.size 22 v1 _ own1 _ A (hB2.later hbu1) (by simp; omega) hbu1.size
    have hbu2 : Below w2.heap.size w2 u2 := below_grown hbu1 hbu1.size gr2 (fun j hj => (own1.lt j hj).1)
    have hv2 := own2.bytes (l := [] ++ A ++ A) (by intro x hx; simp at hx; exact a8 x hx) (by simp [maxLen]; omega)
    obtain ⟨p2, n2, c2, rfl, hn2⟩ := own2.form
    have HN2 : Hid (n2 = ([] ++ A ++ A).length) := hn2
    have hbw3 : Below w.heap.size w u2 := chain hbw2 hbu2
    clear hn2 own1 own2 gr1 gr2 hbu1 hbu2
    clear cvA cvB
    go_wp2_with (at_builtin; refine wpList_append_w _ (by rfl) _ _ _ _ rfl _ _ rfl rfl _ _ run1 ?_; refine stop ?_)
    unfold Stop
    clear run1
    go_wp2_with (at_builtin; refine wpList_append_w _ (by rfl) _ _ _ _ rfl _ _ rfl rfl _ _ run2 ?_; refine stop ?_)
    unfold Stop
    clear run2
    go_wp2_with (go_at_call 9; refine stop ?_)
    refine (of_eq _ [[] ++ A ++ A] (A ++ A) H _ (parts1 u2 22 hv2 1) (by simp) (by simp; omega) ((ht.later hbw3).later (below1 _ _)) HH.out).mono ?_
    rintro e w4 ⟨rfl, hb4⟩
    have hbw4 := chain (chainA hbw3 (.cells #[.slice p2 n2 c2] 22)) hb4
    have hA4 := hA.later hbw4
    have hB4 := hB.later hbw4
    have ht4 := ht.later hbw4
    clear hb4 hbw3 hv2
    go_wp2_with (go_at_call 9; refine stop ?_)
    refine (of_eq _ [A, [], A] (A ++ A) H _ (parts3 w4 22 hA4 (BytesAt.nil _) hB4 3) (by simp) (by simp; omega) (ht4.later (below1 _ _)) HH.out).mono ?_
    rintro e w5 ⟨rfl, hb5⟩
    have hbw5 := chain (chainA hbw4 (.cells #[.slice pa A.length ca, .slice none 0 0, .slice pb A.length cb] 22)) hb5
    have hA5 := hA.later hbw5
    have hB5 := hB.later hbw5
    have ht5 := ht.later hbw5
    clear hb5 hbw4 hA4 hB4 ht4
    go_wp2_with (go_at_call 9; refine stop ?_)
    refine (of_eq _ [A, A] (A ++ A) H _ (parts2 w5 22 hA5 hB5 2) (by simp) (by simp; omega) (ht5.later (below1 _ _)) HH.out).mono ?_
    rintro e w6 ⟨rfl, hb6⟩
    have hbw6 := chain (chainA hbw5 (.cells #[.slice pa A.length ca, .slice pb A.length cb] 22)) hb6
    clear hb6 hbw5 hA5 hB5 ht5
    go_wp2
    go_ret
    exact ⟨rfl, hbw6⟩
  · have hne := strL_ne a8 b8 hAB
    go_wp2_with (go_at_call 9; refine stop ?_)
    have hsame := hash_same (hashF KW (A ++ B)) (hash_len _)
    generalize hHH : hashF KW (A ++ B) = H at *
    have HH : Hid (hashF KW (A ++ B) = H) := hHH
    clear hHH
    refine (of_eq _ [A, B] (A ++ B) H _ (parts2 w1 22 hA1 hB1 2) (by simp) (by simp; omega) (ht1.later (below1 _ _)) HH.out).mono ?_
    rintro e w2 ⟨rfl, hb2⟩
    have hbw2 := chain (chainA hbw1 (.cells #[.slice pa A.length ca, .slice pb B.length cb] 22)) hb2
    have hA2 := hA.later hbw2
    have hB2 := hB.later hbw2
    have ht2 := ht.later hbw2
    obtain ⟨v1, u1, run1, own1, gr1, _⟩ := append_bytes w2 w2.heap.size 22 (.slice none 0 0) [] (World.ownsRow_nil _ _ _ _) _ A hA2 (by simp; omega) (Nat.le_refl _)
    have hbu1 : Below w2.heap.size w2 u1 := below_grown (Below.refl _ _) (Nat.le_refl _) gr1 (fun k h => by cases h)
    obtain ⟨v2, u2, run2, own2, gr2, _⟩ := append_bytes u1 w2.heap.size 22 v1 _ own1 _ B (hB2.later hbu1) (by simp; omega) hbu1.size
    have hbu2 : Below w2.heap.size w2 u2 := below_grown hbu1 hbu1.size gr2 (fun j hj => (own1.lt j hj).1)
    have hv2 := own2.bytes (l := [] ++ A ++ B) (by intro x hx; simp at hx; rcases hx with hx | hx; exact a8 x hx; exact b8 x hx) (by simp [maxLen]; omega)
    obtain ⟨p2, n2, c2, rfl, hn2⟩ := own2.form
    have HN2 : Hid (n2 = ([] ++ A ++ B).length) := hn2
    have hbw3 : Below w.heap.size w u2 := chain hbw2 hbu2
    clear hn2 own1 own2 gr1 gr2 hbu1 hbu2
    clear cvA cvB
    go_wp2_with (at_builtin; refine wpList_append_w _ (by rfl) _ _ _ _ rfl _ _ rfl rfl _ _ run1 ?_; refine stop ?_)
    unfold Stop
    clear run1
    go_wp2_with (at_builtin; refine wpList_append_w _ (by rfl) _ _ _ _ rfl _ _ rfl rfl _ _ run2 ?_; refine stop ?_)
    unfold Stop
    clear run2
    go_wp2_with (go_at_call 9; refine stop ?_)
    refine (of_eq _ [[] ++ A ++ B] (A ++ B) H _ (parts1 u2 22 hv2 1) (by simp) (by simp; omega) ((ht.later hbw3).later (below1 _ _)) HH.out).mono ?_
    rintro e w4 ⟨rfl, hb4⟩
    have hbw4 := chain (chainA hbw3 (.cells #[.slice p2 n2 c2] 22)) hb4
    have hA4 := hA.later hbw4
    have hB4 := hB.later hbw4
    have ht4 := ht.later hbw4
    clear hb4 hbw3 hv2
    go_wp2_with (go_at_call 9; refine stop ?_)
    refine (of_eq _ [A, [], B] (A ++ B) H _ (parts3 w4 22 hA4 (BytesAt.nil _) hB4 3) (by simp) (by simp; omega) (ht4.later (below1 _ _)) HH.out).mono ?_
    rintro e w5 ⟨rfl, hb5⟩
    have hbw5 := chain (chainA hbw4 (.cells #[.slice pa A.length ca, .slice none 0 0, .slice pb B.length cb] 22)) hb5
    have hA5 := hA.later hbw5
    have hB5 := hB.later hbw5
    have ht5 := ht.later hbw5
    clear hb5 hbw4 hA4 hB4 ht4
    go_wp2_with (go_at_call 9; refine stop ?_)
    refine (of_eq _ [A, B] (A ++ B) H _ (parts2 w5 22 hA5 hB5 2) (by simp) (by simp; omega) (ht5.later (below1 _ _)) HH.out).mono ?_
    rintro e w6 ⟨rfl, hb6⟩
    have hbw6 := chain (chainA hbw5 (.cells #[.slice pa A.length ca, .slice pb B.length cb] 22)) hb6
    clear hb6 hbw5 hA5 hB5 ht5
    go_wp2
    go_ret
    exact ⟨rfl, hbw6⟩
end Go.Proofs.YtbbpihdebdknhaaDoor
