
/-
  Requests and their bytes: plain mathematics. What is told is read again, whatever stands behind; what is read, and nothing left, is what was told.
-/
import Derived.Test.YtekpkbmelhgneaaWiG
namespace Go.Proofs.Ytekpkbmelhgneaa
set_option maxRecDepth 100000

theorem low64 (x : Nat) (h : x < 18446744073709551616) : ((x : Int) % 18446744073709551616).toNat = x := by
  rw [Int.emod_eq_of_lt (by omega) (by omega)]
  simp
theorem rTake_app {n : Nat} (l m : List Nat) (h : l.length = n) : rTake n (l ++ m, false) = l := by
  rw [rTake_yes rfl (by simp; omega), ← h]
  simp
theorem rDrop_app {n : Nat} (l m : List Nat) (h : l.length = n) : rDrop n (l ++ m, false) = (m, false) := by
  rw [rDrop_yes rfl (by simp; omega), ← h]
  simp
theorem rI_int (n x : Nat) (m : List Nat) (h : x < 256 ^ n) (hn : n ≤ 8) : rI n (intB n (x : Nat) ++ m, false) = x := by
  have h8 : 256 ^ n ≤ 256 ^ 8 := Nat.pow_le_pow_right (by decide) hn
  have e8 : (256 : Nat) ^ 8 = 18446744073709551616 := by decide
  rw [rI, rTake_app _ _ (intB_len _ _), intB, low64 x (by omega), be_enc_lt h]
theorem rD_int (n : Nat) (x : Int) (m : List Nat) : rDrop n (intB n x ++ m, false) = (m, false) := rDrop_app _ _ (intB_len _ _)
theorem rD_num (x : Nat × Nat) (m : List Nat) : rDrop 16 (numB x ++ m, false) = (m, false) := rDrop_app _ _ (numB_len _)
theorem rHi_num (x y : Nat) (m : List Nat) (h : Word64 (x, y)) : rHi (numB (x, y) ++ m, false) = x := by
  rw [rHi, rTake_app _ _ (numB_len _), numB, List.take_append_of_le_length (by rw [enc_len]; exact Nat.le_refl _), List.take_of_length_le (by rw [enc_len]; exact Nat.le_refl _), be_enc_lt h.1]
theorem rLo_num (x y : Nat) (m : List Nat) (h : Word64 (x, y)) : rLo (numB (x, y) ++ m, false) = y := by
  rw [rLo, rTake_app _ _ (numB_len _), numB, List.drop_append_of_le_length (by rw [enc_len]; exact Nat.le_refl _), List.drop_of_length_le (by rw [enc_len]; exact Nat.le_refl _), List.nil_append, be_enc_lt h.2]
theorem rAc_bytes (a : Ac) (m : List Nat) (h : a.fits) : rAc (a.bytes ++ m, false) = a ∧ rAcS (a.bytes ++ m, false) = (m, false) := by
  obtain ⟨h1, h2, h3⟩ := h
  unfold rAc rAcS Ac.bytes acB
  simp only [List.append_assoc]
  rw [rHi_num _ _ _ h1, rLo_num _ _ _ h1, rD_num, rI_int 4 _ _ h2 (by decide), rD_int, rI_int 2 _ _ h3 (by decide), rD_int]
  exact ⟨rfl, rfl⟩
theorem rTr_bytes (a : Tr) (m : List Nat) (h : a.fits) : rTr (a.bytes ++ m, false) = a ∧ rTrS (a.bytes ++ m, false) = (m, false) := by
  obtain ⟨⟨h1, h2, h3, h4, h5⟩, h6, h7, h8⟩ := h
  unfold rTr rTrS Tr.bytes trB
  simp only [List.append_assoc]
  rw [rHi_num _ _ _ h1, rLo_num _ _ _ h1, rD_num, rHi_num _ _ _ h2, rLo_num _ _ _ h2, rD_num, rHi_num _ _ _ h3, rLo_num _ _ _ h3, rD_num, rHi_num _ _ _ h4, rLo_num _ _ _ h4, rD_num, rHi_num _ _ _ h5, rLo_num _ _ _ h5, rD_num, rI_int 4 _ _ h6 (by decide), rD_int, rI_int 4 _ _ h7 (by decide), rD_int, rI_int 2 _ _ h8 (by decide), rD_int]
  exact ⟨rfl, rfl⟩
theorem itS_succ' (f : List Nat × Bool → List Nat × Bool) : ∀ n s, itS f (n + 1) s = itS f n (f s)
  | 0, _ => rfl
  | n + 1, s => by rw [itS, itS_succ' f n s]; rfl
theorem evs_succ' {α : Type} (g : List Nat × Bool → α) (f : List Nat × Bool → List Nat × Bool) : ∀ n s, evs g f (n + 1) s = g s :: evs g f n (f s)
  | 0, _ => rfl
  | n + 1, s => by rw [evs, evs_succ' g f n s, itS_succ' f n s]; rfl
theorem evs_bytes {α : Type} (g : List Nat × Bool → α) (f : List Nat × Bool → List Nat × Bool) (b : α → List Nat) : ∀ (L : List α) (m : List Nat), (∀ a ∈ L, ∀ m, g (b a ++ m, false) = a ∧ f (b a ++ m, false) = (m, false)) →
    evs g f L.length (L.flatMap b ++ m, false) = L ∧ itS f L.length (L.flatMap b ++ m, false) = (m, false)
  | [], m, _ => ⟨rfl, rfl⟩
  | a :: L, m, h => by
    obtain ⟨h1, h2⟩ := h a (by simp) (L.flatMap b ++ m)
    obtain ⟨h3, h4⟩ := evs_bytes g f b L m fun x hx => h x (by simp [hx])
    rw [List.length_cons, evs_succ', itS_succ', List.flatMap_cons, List.append_assoc, h1, h2, h3, h4]
    exact ⟨rfl, rfl⟩

/-- What is told is read again. -/
theorem rF_bytes (q : Rq) (hg : q.good) (m : List Nat) : rF (q.bytes ++ m, false) = (q, 0, (m, false)) := by
  rcases hg with ⟨L, rfl, hL, hf⟩ | ⟨L, rfl, hL, hf⟩ | ⟨x, rfl, hx⟩ | ⟨k, hi, lo, rfl, hk, hw⟩ | ⟨k, hi, lo, fr, to, lim, rfl, hk, hw, h1, h2, h3⟩ | ⟨fr, to, rfl, h1, h2⟩
  · obtain ⟨e1, e2⟩ := evs_bytes rAc rAcS Ac.bytes L m fun a ha m => rAc_bytes a m (hf a ha)
    have eb : Rq.bytes ⟨1, L, [], 0, 0, 0, 0, 0⟩ = intB 1 ((1 : Nat) : Int) ++ (intB 1 (L.length : Nat) ++ L.flatMap Ac.bytes) := rfl
    rw [eb]
    simp only [List.append_assoc]
    unfold rF
    rw [rI_int 1 1 _ (by decide) (by decide), rD_int, rI_int 1 _ _ (show L.length < 256 ^ 1 by omega) (by decide), rD_int, if_pos rfl, if_neg (by omega), e1, e2]
  · obtain ⟨e1, e2⟩ := evs_bytes rTr rTrS Tr.bytes L m fun a ha m => rTr_bytes a m (hf a ha)
    have eb : Rq.bytes ⟨2, [], L, 0, 0, 0, 0, 0⟩ = intB 1 ((2 : Nat) : Int) ++ (intB 1 (L.length : Nat) ++ L.flatMap Tr.bytes) := rfl
    rw [eb]
    simp only [List.append_assoc]
    unfold rF
    rw [rI_int 1 2 _ (by decide) (by decide), rD_int, rI_int 1 _ _ (show L.length < 256 ^ 1 by omega) (by decide), rD_int, if_neg (by decide), if_pos rfl, if_neg (by omega), e1, e2]
  · have eb : Rq.bytes ⟨3, [], [], 0, 0, x, 0, 0⟩ = intB 1 ((3 : Nat) : Int) ++ intB 4 (x : Nat) := rfl
    rw [eb]
    simp only [List.append_assoc]
    unfold rF
    rw [rI_int 1 3 _ (by decide) (by decide), rD_int, rI_int 4 _ _ hx (by decide), rD_int, if_neg (by decide), if_neg (by decide), if_pos rfl]
  · have hk8 : k < 256 ^ 1 := by rcases hk with rfl | rfl | rfl <;> decide
    have eb : Rq.bytes ⟨k, [], [], hi, lo, 0, 0, 0⟩ = intB 1 (k : Nat) ++ numB (hi, lo) := by
      unfold Rq.bytes Rq.body
      dsimp only
      rw [if_neg (by omega), if_neg (by omega), if_neg (by omega), if_pos hk]
    rw [eb]
    simp only [List.append_assoc]
    unfold rF
    rw [rI_int 1 k _ hk8 (by decide), rD_int, rHi_num _ _ _ hw, rLo_num _ _ _ hw, rD_num, if_neg (by omega), if_neg (by omega), if_neg (by omega), if_pos hk]
  · have hk8 : k < 256 ^ 1 := by rcases hk with rfl | rfl <;> decide
    have eb : Rq.bytes ⟨k, [], [], hi, lo, fr, to, lim⟩ = intB 1 (k : Nat) ++ (numB (hi, lo) ++ (intB 6 (fr : Nat) ++ intB 6 (to : Nat)) ++ intB 1 (lim : Nat)) := by
      unfold Rq.bytes Rq.body
      dsimp only
      rw [if_neg (by omega), if_neg (by omega), if_neg (by omega), if_neg (by omega), if_pos hk]
    rw [eb]
    simp only [List.append_assoc]
    unfold rF
    rw [rI_int 1 k _ hk8 (by decide), rD_int, rHi_num _ _ _ hw, rLo_num _ _ _ hw, rD_num, rI_int 6 _ _ h1 (by decide), rD_int, rI_int 6 _ _ h2 (by decide), rD_int, rI_int 1 _ _ h3 (by decide), rD_int, if_neg (by omega), if_neg (by omega), if_neg (by omega), if_neg (by omega), if_pos hk]
  · have eb : Rq.bytes ⟨9, [], [], 0, 0, fr, to, 0⟩ = intB 1 ((9 : Nat) : Int) ++ (intB 4 (fr : Nat) ++ intB 4 (to : Nat)) := rfl
    rw [eb]
    simp only [List.append_assoc]
    unfold rF
    rw [rI_int 1 9 _ (by decide) (by decide), rD_int, rI_int 4 _ _ h1 (by decide), rD_int, rI_int 4 _ _ h2 (by decide), rD_int, if_neg (by decide), if_neg (by decide), if_neg (by decide), if_neg (by decide), if_neg (by decide), if_pos rfl]
theorem parse_bytes (q : Rq) (hg : q.good) : parse q.bytes = (q, 0) := by
  have h := rF_bytes q hg []
  rw [List.append_nil] at h
  unfold parse
  rw [h]
  rfl
theorem parse_more (q : Rq) (hg : q.good) (x : Nat) (m : List Nat) : (parse (q.bytes ++ x :: m)).2 = 1 := by
  unfold parse
  rw [rF_bytes q hg]
  rfl

/-- Backwards: what a reader was that isn't bad now. -/
theorem drop_back {n : Nat} {s : List Nat × Bool} (h : (rDrop n s).2 = false) : s.2 = false ∧ s.1 = rTake n s ++ (rDrop n s).1 ∧ (rTake n s).length = n := by
  by_cases hc : s.2 = false ∧ n ≤ s.1.length
  · rw [rTake_yes hc.1 hc.2, rDrop_yes hc.1 hc.2]
    exact ⟨hc.1, (List.take_append_drop _ _).symm, by simp; omega⟩
  · unfold rDrop at h
    rw [if_neg hc] at h
    cases h
theorem intB_rI {n : Nat} {s : List Nat × Bool} (h8 : W8 s.1) (hl : (rTake n s).length = n) (hn : n ≤ 8) : intB n (rI n s : Nat) = rTake n s := by
  have h := be_lt _ (rTake_w8 (n := n) h8)
  rw [hl] at h
  have h8' : 256 ^ n ≤ 256 ^ 8 := Nat.pow_le_pow_right (by decide) hn
  have e8 : (256 : Nat) ^ 8 = 18446744073709551616 := by decide
  unfold intB rI
  rw [low64 _ (by omega)]
  have e := enc_be _ (rTake_w8 (n := n) h8)
  rw [hl] at e
  exact e
theorem rI_lt {n : Nat} {s : List Nat × Bool} (h8 : W8 s.1) (hl : (rTake n s).length = n) : rI n s < 256 ^ n := by
  have h := be_lt _ (rTake_w8 (n := n) h8)
  rw [hl] at h
  exact h
theorem numB_rN {s : List Nat × Bool} (h8 : W8 s.1) (hl : (rTake 16 s).length = 16) : numB (rHi s, rLo s) = rTake 16 s ∧ Word64 (rHi s, rLo s) := by
  have w8 := rTake_w8 (n := 16) h8
  have l1 : ((rTake 16 s).take 8).length = 8 := by simp; omega
  have l2 : ((rTake 16 s).drop 8).length = 8 := by simp; omega
  have e1 := enc_be _ (w8.take 8)
  have e2 := enc_be _ (w8.drop 8)
  rw [l1] at e1
  rw [l2] at e2
  have b1 := be_lt _ (w8.take 8)
  have b2 := be_lt _ (w8.drop 8)
  rw [l1] at b1
  rw [l2] at b2
  refine ⟨?_, b1, b2⟩
  unfold numB rHi rLo
  dsimp only
  rw [e1, e2, List.take_append_drop]
theorem drop_w8 {n : Nat} {s : List Nat × Bool} (h8 : W8 s.1) : W8 (rDrop n s).1 := by
  unfold rDrop
  split
  · exact h8.drop n
  · exact h8
theorem rAc_back {s : List Nat × Bool} (h8 : W8 s.1) (h : (rAcS s).2 = false) : s.2 = false ∧ s.1 = (rAc s).bytes ++ (rAcS s).1 ∧ (rAc s).fits ∧ W8 (rAcS s).1 := by
  unfold rAcS at h
  obtain ⟨a3, b3, c3⟩ := drop_back h
  obtain ⟨a2, b2, c2⟩ := drop_back a3
  obtain ⟨a1, b1, c1⟩ := drop_back a2
  have w1 := drop_w8 (n := 16) h8
  have w2 := drop_w8 (n := 4) w1
  have w3 := drop_w8 (n := 2) w2
  obtain ⟨n1, n2⟩ := numB_rN h8 c1
  refine ⟨a1, ?_, ⟨n2, rI_lt w1 c2, rI_lt w2 c3⟩, w3⟩
  unfold Ac.bytes acB rAc rAcS
  dsimp only
  rw [n1, intB_rI w1 c2 (by decide), intB_rI w2 c3 (by decide), List.append_assoc, List.append_assoc, ← b3, ← b2, ← b1]
theorem rTr_back {s : List Nat × Bool} (h8 : W8 s.1) (h : (rTrS s).2 = false) : s.2 = false ∧ s.1 = (rTr s).bytes ++ (rTrS s).1 ∧ (rTr s).fits ∧ W8 (rTrS s).1 := by
  unfold rTrS at h
  obtain ⟨a8, b8, c8⟩ := drop_back h
  obtain ⟨a7, b7, c7⟩ := drop_back a8
  obtain ⟨a6, b6, c6⟩ := drop_back a7
  obtain ⟨a5, b5, c5⟩ := drop_back a6
  obtain ⟨a4, b4, c4⟩ := drop_back a5
  obtain ⟨a3, b3, c3⟩ := drop_back a4
  obtain ⟨a2, b2, c2⟩ := drop_back a3
  obtain ⟨a1, b1, c1⟩ := drop_back a2
  have w1 := drop_w8 (n := 16) h8
  have w2 := drop_w8 (n := 16) w1
  have w3 := drop_w8 (n := 16) w2
  have w4 := drop_w8 (n := 16) w3
  have w5 := drop_w8 (n := 16) w4
  have w6 := drop_w8 (n := 4) w5
  have w7 := drop_w8 (n := 4) w6
  have w8 := drop_w8 (n := 2) w7
  obtain ⟨n1, m1⟩ := numB_rN h8 c1
  obtain ⟨n2, m2⟩ := numB_rN w1 c2
  obtain ⟨n3, m3⟩ := numB_rN w2 c3
  obtain ⟨n4, m4⟩ := numB_rN w3 c4
  obtain ⟨n5, m5⟩ := numB_rN w4 c5
  refine ⟨a1, ?_, ⟨⟨m1, m2, m3, m4, m5⟩, rI_lt w5 c6, rI_lt w6 c7, rI_lt w7 c8⟩, w8⟩
  unfold Tr.bytes trB rTr rTrS
  dsimp only
  rw [n1, n2, n3, n4, n5, intB_rI w5 c6 (by decide), intB_rI w6 c7 (by decide), intB_rI w7 c8 (by decide)]
  simp only [List.append_assoc]
  rw [← b8, ← b7, ← b6, ← b5, ← b4, ← b3, ← b2, ← b1]
theorem evs_back {α : Type} (g : List Nat × Bool → α) (f : List Nat × Bool → List Nat × Bool) (b : α → List Nat) (P : α → Prop) (hw : ∀ s, W8 s.1 → W8 (f s).1) (hb : ∀ s, W8 s.1 → (f s).2 = false → s.2 = false ∧ s.1 = b (g s) ++ (f s).1 ∧ P (g s)) :
    ∀ n s, W8 s.1 → (itS f n s).2 = false → s.2 = false ∧ s.1 = (evs g f n s).flatMap b ++ (itS f n s).1 ∧ ∀ a ∈ evs g f n s, P a
  | 0, s, h8, h => ⟨h, rfl, fun _ h => by cases h⟩
  | n + 1, s, h8, h => by
    rw [itS_succ'] at h
    obtain ⟨h1, h2, h3⟩ := evs_back g f b P hw hb n (f s) (hw s h8) h
    obtain ⟨k1, k2, k3⟩ := hb s h8 h1
    rw [itS_succ', evs_succ', List.flatMap_cons, List.append_assoc, ← h2]
    exact ⟨k1, k2, fun a ha => by rcases List.mem_cons.1 ha with rfl | ha; exact k3; exact h3 a ha⟩

/-- What is read, and nothing left, is what was told. -/
theorem parse_sound (l : List Nat) (h8 : W8 l) (h : (parse l).2 = 0) : (parse l).1.good ∧ (parse l).1.bytes = l := by
  obtain ⟨q, E, s, hF⟩ : ∃ q E s, rF (l, false) = (q, E, s) := ⟨_, _, _, rfl⟩
  unfold parse at h ⊢
  rw [hF] at h ⊢
  dsimp only at h ⊢
  by_cases hE : E = 0
  · subst hE
    rw [if_pos rfl] at h ⊢
    cases hD : rDone s with
    | false => rw [hD] at h; simp at h
    | true =>
      rw [if_pos rfl]
      dsimp only
      have hs : s = ([], false) := by
        obtain ⟨m, bd⟩ := s
        unfold rDone at hD
        cases bd with
        | true => simp at hD
        | false => simp at hD; rw [hD]
      subst hs
      clear hD h
      have w1 : W8 (rDrop 1 (l, false)).1 := drop_w8 (n := 1) (s := (l, false)) h8
      have w2 := drop_w8 (n := 1) w1
      have one : ∀ {x : List Nat}, (rDrop 1 (l, false)).2 = false → (rDrop 1 (l, false)).1 = x → intB 1 (rI 1 (l, false) : Nat) ++ x = l := fun {x} h1 h2 => by
        obtain ⟨_, b1, c1⟩ := drop_back h1
        rw [intB_rI h8 c1 (by decide), ← h2]
        exact b1.symm
      unfold rF at hF
      by_cases h1 : rI 1 (l, false) = 1
      · rw [if_pos h1] at hF
        by_cases hc : 8 < rI 1 (rDrop 1 (l, false))
        · rw [if_pos hc] at hF; cases hF
        · rw [if_neg hc] at hF
          obtain ⟨hq, hs⟩ := Prod.mk.inj hF
          obtain ⟨_, hs⟩ := Prod.mk.inj hs
          obtain ⟨a1, b1, c1⟩ := evs_back rAc rAcS Ac.bytes Ac.fits (fun s h => drop_w8 (drop_w8 (drop_w8 h))) (fun s h k => by obtain ⟨x1, x2, x3, _⟩ := rAc_back h k; exact ⟨x1, x2, x3⟩) (rI 1 (rDrop 1 (l, false))) (rDrop 1 (rDrop 1 (l, false))) w2 (by rw [hs])
          rw [hs, List.append_nil] at b1
          obtain ⟨a2, b2, c2⟩ := drop_back a1
          have hl := evs_len rAc rAcS (rI 1 (rDrop 1 (l, false))) (rDrop 1 (rDrop 1 (l, false)))
          subst hq
          refine ⟨Or.inl ⟨_, rfl, by rw [hl]; omega, c1⟩, ?_⟩
          have hh := one a2 b2
          rw [h1, ← intB_rI w1 c2 (by decide), b1] at hh
          rw [show Rq.bytes _ = intB 1 ((1 : Nat) : Int) ++ (intB 1 ((evs rAc rAcS (rI 1 (rDrop 1 (l, false))) (rDrop 1 (rDrop 1 (l, false)))).length : Nat) ++ (evs rAc rAcS (rI 1 (rDrop 1 (l, false))) (rDrop 1 (rDrop 1 (l, false)))).flatMap Ac.bytes) from rfl, hl]
          exact hh
      rw [if_neg h1] at hF
      by_cases h2 : rI 1 (l, false) = 2
      · rw [if_pos h2] at hF
        by_cases hc : 8 < rI 1 (rDrop 1 (l, false))
        · rw [if_pos hc] at hF; cases hF
        · rw [if_neg hc] at hF
          obtain ⟨hq, hs⟩ := Prod.mk.inj hF
          obtain ⟨_, hs⟩ := Prod.mk.inj hs
          obtain ⟨a1, b1, c1⟩ := evs_back rTr rTrS Tr.bytes Tr.fits (fun s h => drop_w8 (drop_w8 (drop_w8 (drop_w8 (drop_w8 (drop_w8 (drop_w8 (drop_w8 h)))))))) (fun s h k => by obtain ⟨x1, x2, x3, _⟩ := rTr_back h k; exact ⟨x1, x2, x3⟩) (rI 1 (rDrop 1 (l, false))) (rDrop 1 (rDrop 1 (l, false))) w2 (by rw [hs])
          rw [hs, List.append_nil] at b1
          obtain ⟨a2, b2, c2⟩ := drop_back a1
          have hl := evs_len rTr rTrS (rI 1 (rDrop 1 (l, false))) (rDrop 1 (rDrop 1 (l, false)))
          subst hq
          refine ⟨Or.inr (Or.inl ⟨_, rfl, by rw [hl]; omega, c1⟩), ?_⟩
          have hh := one a2 b2
          rw [h2, ← intB_rI w1 c2 (by decide), b1] at hh
          rw [show Rq.bytes _ = intB 1 ((2 : Nat) : Int) ++ (intB 1 ((evs rTr rTrS (rI 1 (rDrop 1 (l, false))) (rDrop 1 (rDrop 1 (l, false)))).length : Nat) ++ (evs rTr rTrS (rI 1 (rDrop 1 (l, false))) (rDrop 1 (rDrop 1 (l, false)))).flatMap Tr.bytes) from rfl, hl]
          exact hh
      rw [if_neg h2] at hF
      by_cases h3 : rI 1 (l, false) = 3
      · rw [if_pos h3] at hF
        obtain ⟨hq, hs⟩ := Prod.mk.inj hF
        obtain ⟨_, hs⟩ := Prod.mk.inj hs
        obtain ⟨a2, b2, c2⟩ := drop_back (n := 4) (s := rDrop 1 (l, false)) (by rw [hs])
        rw [hs, List.append_nil] at b2
        subst hq
        refine ⟨Or.inr (Or.inr (Or.inl ⟨_, rfl, rI_lt w1 c2⟩)), ?_⟩
        have hh := one a2 b2
        rw [h3, ← intB_rI w1 c2 (by decide)] at hh
        exact hh
      rw [if_neg h3] at hF
      by_cases h4 : rI 1 (l, false) = 4 ∨ rI 1 (l, false) = 5 ∨ rI 1 (l, false) = 7
      · rw [if_pos h4] at hF
        obtain ⟨hq, hs⟩ := Prod.mk.inj hF
        obtain ⟨_, hs⟩ := Prod.mk.inj hs
        obtain ⟨a2, b2, c2⟩ := drop_back (n := 16) (s := rDrop 1 (l, false)) (by rw [hs])
        rw [hs, List.append_nil] at b2
        obtain ⟨n1, n2⟩ := numB_rN w1 c2
        have hh := one a2 b2
        rw [← n1] at hh
        subst hq
        refine ⟨Or.inr (Or.inr (Or.inr (Or.inl ⟨_, _, _, rfl, h4, n2⟩))), ?_⟩
        unfold Rq.bytes Rq.body
        dsimp only
        rw [if_neg (by omega), if_neg (by omega), if_neg (by omega), if_pos h4]
        exact hh
      rw [if_neg h4] at hF
      by_cases h6 : rI 1 (l, false) = 6 ∨ rI 1 (l, false) = 8
      · rw [if_pos h6] at hF
        obtain ⟨hq, hs⟩ := Prod.mk.inj hF
        obtain ⟨_, hs⟩ := Prod.mk.inj hs
        have w3 := drop_w8 (n := 16) w1
        have w4 := drop_w8 (n := 6) w3
        have w5 := drop_w8 (n := 6) w4
        obtain ⟨a5, b5, c5⟩ := drop_back (n := 1) (s := rDrop 6 (rDrop 6 (rDrop 16 (rDrop 1 (l, false))))) (by rw [hs])
        rw [hs, List.append_nil] at b5
        obtain ⟨a4, b4, c4⟩ := drop_back a5
        obtain ⟨a3, b3, c3⟩ := drop_back a4
        obtain ⟨a2, b2, c2⟩ := drop_back a3
        obtain ⟨n1, n2⟩ := numB_rN w1 c2
        have hh := one a2 b2
        rw [b3, b4, b5, ← n1, ← intB_rI w3 c3 (by decide), ← intB_rI w4 c4 (by decide), ← intB_rI w5 c5 (by decide)] at hh
        subst hq
        refine ⟨Or.inr (Or.inr (Or.inr (Or.inr (Or.inl ⟨_, _, _, _, _, _, rfl, h6, n2, rI_lt w3 c3, rI_lt w4 c4, rI_lt w5 c5⟩)))), ?_⟩
        unfold Rq.bytes Rq.body
        dsimp only
        rw [if_neg (by omega), if_neg (by omega), if_neg (by omega), if_neg (by omega), if_pos h6]
        simp only [List.append_assoc]
        exact hh
      rw [if_neg h6] at hF
      by_cases h9 : rI 1 (l, false) = 9
      · rw [if_pos h9] at hF
        obtain ⟨hq, hs⟩ := Prod.mk.inj hF
        obtain ⟨_, hs⟩ := Prod.mk.inj hs
        have w3 := drop_w8 (n := 4) w1
        obtain ⟨a3, b3, c3⟩ := drop_back (n := 4) (s := rDrop 4 (rDrop 1 (l, false))) (by rw [hs])
        rw [hs, List.append_nil] at b3
        obtain ⟨a2, b2, c2⟩ := drop_back a3
        have hh := one a2 b2
        rw [b3, h9, ← intB_rI w1 c2 (by decide), ← intB_rI w3 c3 (by decide)] at hh
        subst hq
        refine ⟨Or.inr (Or.inr (Or.inr (Or.inr (Or.inr ⟨_, _, rfl, rI_lt w1 c2, rI_lt w3 c3⟩)))), ?_⟩
        exact hh
      rw [if_neg h9] at hF
      cases hF
  · rw [if_neg hE] at h
    exact absurd h hE
theorem good_w8 (q : Rq) : W8 q.bytes := by
  have wi := intB_w8
  have wn := numB_w8
  have wf : ∀ {α : Type} (f : α → List Nat) (hf : ∀ a, W8 (f a)) (L : List α), W8 (L.flatMap f) := fun f hf L x hx => by
    obtain ⟨a, _, hx⟩ := List.mem_flatMap.1 hx
    exact hf a x hx
  unfold Rq.bytes Rq.body
  refine (wi _ _).append ?_
  split
  · exact (wi _ _).append (wf _ (fun a => ((wn _).append (wi _ _)).append (wi _ _)) _)
  · split
    · exact (wi _ _).append (wf _ (fun a => (((wn _).append ((wn _).append ((wn _).append ((wn _).append (wn _))))).append ((wi _ _).append (wi _ _))).append (wi _ _)) _)
    · split
      · exact wi _ _
      · split
        · exact wn _
        · split
          · exact ((wn _).append ((wi _ _).append (wi _ _))).append (wi _ _)
          · exact (wi _ _).append (wi _ _)
/-- What is cut short is no request. -/
theorem parse_less (q : Rq) (hg : q.good) (l : List Nat) (x : Nat) (h : q.bytes = l ++ [x]) : (parse l).2 ≠ 0 := by
  intro h0
  have w := good_w8 q
  rw [h] at w
  obtain ⟨g1, g2⟩ := parse_sound l (fun y hy => w y (by simp [hy])) h0
  have e := parse_more _ g1 x []
  rw [g2, ← h, parse_bytes q hg] at e
  cases e
theorem bytes_inj (a b : Rq) (ha : a.good) (hb : b.good) (h : a.bytes = b.bytes) : a = b := by
  have e := parse_bytes a ha
  rw [h, parse_bytes b hb] at e
  exact (Prod.mk.inj e).1.symm
end Go.Proofs.Ytekpkbmelhgneaa
