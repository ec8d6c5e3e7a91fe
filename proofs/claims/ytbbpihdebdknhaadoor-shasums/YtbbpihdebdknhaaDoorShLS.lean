/-
  The walk of ShaSums, for all bytes and every cut: under the contract of the reference's Sum.
-/
import Derived.Test.YtbbpihdebdknhaaDoorShE
namespace Go.Proofs.YtbbpihdebdknhaaDoor
open Go.RowKit

/-- What the reference's Sum does. -/
def SumC : Prop := ∀ (mv : Value) (m : List Nat) (w : World), BytesAt w mv m → m.length ≤ 100000 →
  Calls Tryd.prog 10 #[mv] w fun e w' => e = .returned (.agg (bytesL (hashF KW m))) ∧ Below w.heap.size w w'

theorem BytesAt.front {w : World} {p : Option Addr} {n c : Nat} {l : List Nat} (h : BytesAt w (.slice p n c) l) (k : Nat) (hk : k ≤ n) (c' : Nat) : BytesAt w (.slice p k c') (l.take k) := by
  obtain ⟨h1, h2, p', c1, e, h⟩ := h
  cases e
  have hl : (l.take k).length = k := by rw [List.length_take]; omega
  refine ⟨fun x hx => h1 x (List.take_subset _ _ hx), by omega, p, c', by rw [hl], fun i hi => ?_⟩
  obtain ⟨b, off, e, h3, h4⟩ := h i (by omega)
  refine ⟨b, off, e, h3, ?_⟩
  rw [h4]
  simp only [List.getD, List.getElem?_take]
  rw [if_pos (by omega)]
theorem BytesAt.back {w : World} {p : Option Addr} {n c : Nat} {l : List Nat} (h : BytesAt w (.slice p n c) l) (k : Nat) (hk : k ≤ n) (p' : Option Addr) (c' m : Nat) (hm : m = n - k)
    (hp : k < n → ∀ b off, p = some ⟨b, off, none⟩ → p' = some ⟨b, off + k, none⟩) : BytesAt w (.slice p' m c') (l.drop k) := by
  subst hm
  obtain ⟨h1, h2, p0, c1, e, h⟩ := h
  cases e
  have hl : (l.drop k).length = l.length - k := List.length_drop
  refine ⟨fun x hx => h1 x (List.drop_subset _ _ hx), by omega, p', c', by rw [hl], fun i hi => ?_⟩
  obtain ⟨b, off, e, h3, h4⟩ := h (k + i) (by omega)
  refine ⟨b, off + k, hp (by omega) b off e, h3, ?_⟩
  rw [Nat.add_assoc, h4]
  simp only [List.getD, List.getElem?_drop]

theorem cut_num (cut : Int) (n : Nat) (hn : n ≤ 600) : ∃ k : Nat, k ≤ n ∧ (wrap64 (wrap64 (cut.tmod ((n : Int) + 1) + n) + 1)).tmod ((n : Int) + 1) = (k : Int) := by
  have h1 := Int.tmod_lt_of_pos cut (show 0 < (n : Int) + 1 by omega)
  have h2 := Int.lt_tmod_of_pos cut (show 0 < (n : Int) + 1 by omega)
  generalize cut.tmod ((n : Int) + 1) = c at *
  have e1 : wrap64 (c + n) = c + n := by unfold wrap64; omega
  have e2 : wrap64 (c + n + 1) = c + n + 1 := by unfold wrap64; omega
  rw [e1, e2, Int.tmod_eq_emod_of_nonneg (by omega)]
  have h3 := Int.emod_nonneg (c + n + 1) (show ((n : Int) + 1) ≠ 0 by omega)
  have h4 := Int.emod_lt_of_pos (c + n + 1) (show 0 < (n : Int) + 1 by omega)
  exact ⟨((c + n + 1) % ((n : Int) + 1)).toNat, by omega, by omega⟩

set_option maxHeartbeats 1000000 in
set_option maxRecDepth 100000 in
theorem sums_walk (hsum : SumC) (va : Value) (l : List Nat) (cut : Int) (w : World) (hA : BytesAt w va l) (_ra : l.length ≤ 140737488351232) (hcap : ∀ p n c, va = .slice p n c → n ≤ c) (_c0 : -9223372036854775808 ≤ cut) (_c1 : cut ≤ 9223372036854775807) (ht : Tab w) :
    Calls Tryd.prog 3 #[va, .int .i64 cut] w fun e w' => e = .returned (.bool true) ∧ Below w.heap.size w w' := by
  obtain ⟨a8, am, pa, ca, rfl, hca⟩ := id hA
  have hcn := hcap _ _ _ rfl
  clear hcap
  have g0 : (0 : Int) ≤ (l.length : Int) := by omega
  unfold maxLen at am
  have g1 : (l.length : Int) ≤ 9223372036854775807 := by omega
  by_cases h6 : 600 < (l.length : Int)
  · go_enter Tryd.func3, Tryd.ntmps3
    go_wp2_with (go_at_call 8; refine stop ?_)
    refine (fit_any w ht).mono ?_
    rintro e w1 ⟨rfl, hbw1⟩
    go_wp2
    go_ret
    exact ⟨rfl, hbw1⟩
  have g2 : (l.length : Int) ≤ 600 := by omega
  clear g1 am
  generalize hn : l.length = n at *
  have HN : Hid (l.length = n) := hn
  clear hn
  have HA : Hid (BytesAt w (.slice pa n ca) l) := hA
  clear hA hca
  go_enter Tryd.func3, Tryd.ntmps3
  go_wp2_with (go_at_call 8; refine stop ?_)
  refine (fit_any w ht).mono ?_
  rintro e w1 ⟨rfl, hbw1⟩
  obtain ⟨k, hkn, hk⟩ := cut_num cut n (by omega)
  have hsame := hash_same (hashF KW l) (hash_len _)
  have hlen := hash_len l
  generalize hHH : hashF KW l = H at *
  have HH : Hid (hashF KW l = H) := hHH
  clear hHH
  have hsz : (Tryd.prog.info? 25).map (·.size) = some (bytesL H).size := by rw [bytesL_size, hlen]; exact info_hash
  go_wp2_with (go_at_call 9; refine stop ?_)
  refine (of_eq _ [l] l H _ (parts1 w1 22 (HA.out.later hbw1) 1) (by simp) (by rw [HN.out]; omega) ((ht.later hbw1).later (below1 _ _)) HH.out).mono ?_
  rintro e w2 ⟨rfl, hb2⟩
  have hbw2 := chain (chainA hbw1 (.cells #[.slice pa n ca] 22)) hb2
  clear hb2 hbw1
  go_wp2_with (refine wpList_store_row rfl 25 _ _ rfl w2.heap.size (bytesL H) rfl rfl 25 _ (heap_alloc_new w2 _) hsz (by rw [bytesL_size, hlen]; rfl) (bytesL_one _) ?_; refine stop ?_)
  unfold Stop
  rw [zeros32b]
  have hrow := Row.setRow (Row.new w2 (bytesL (List.replicate 32 0)) 25 rfl) (bytesL H)
  have hbw4 := Below.row (chainA hbw2 (.cells (bytesL (List.replicate 32 0)) 25)) (g := w2.heap.size) (bytesL H) hbw2.size
  generalize (w2.alloc (.cells (bytesL (List.replicate 32 0)) 25)).setRow w2.heap.size (bytesL H) = w4 at *
  generalize w2.heap.size = hb at *
  have k0 : (0 : Int) ≤ (k : Int) := by omega
  have k1 : (k : Int) ≤ (n : Int) := by omega
  have q0 : (k : Int) ≤ (ca : Int) := by omega
  have q1 : k ≤ ca := by omega
  cases pa with
  | none =>
    have hn0 : n = 0 := by
      rcases Nat.eq_zero_or_pos n with h | h
      · exact h
      · obtain ⟨_, _, p', c', e, hh⟩ := HA.out
        cases e
        obtain ⟨_, _, e, _⟩ := hh 0 h
        cases e
    subst hn0
    obtain rfl : k = 0 := by omega
    go_wp2_with fail
    refine wp_region_D (fun _ => true) (fun w' => Row w' hb (bytesL H) 25 ∧ Below w.heap.size w w') (by kernel_rfl) ?_
    have hS : Row w4.drew hb (bytesL H) 25 ∧ Below w.heap.size w w4.drew := ⟨hrow, hbw4.drew⟩
    refine' wpAnyD_take (i := 0) (v := .agg (bytesL H)) rfl (by kernel_rfl) (by kernel_rfl) (by kernel_rfl) (by kernel_rfl) (fun _ _ _ h => h) (Or.inl ⟨by rfl, ?hyAx⟩) hS ?reAx
    case hyAx => (intro w' hSw; exact exec_load_row rfl hb rfl 25 (bytesL H) _ hSw.1 Tryd.underlying25 rfl hsz)
    simp only [Act.put, List.setIfInBounds_toArray, List.set_cons_zero, List.set_cons_succ]
    refine' wpAnyD_take (i := 1) (v := _) rfl (by kernel_rfl) (by kernel_rfl) (by kernel_rfl) (by kernel_rfl) (fun _ _ _ h => h) (Or.inl ⟨by rfl, ?hy1⟩) hS ?re1
    case hy1 => (intro w hSw; (try dsimp only at hSw); go_simp; (try with_reducible rfl))
    simp only [Act.put, List.setIfInBounds_toArray, List.set_cons_zero, List.set_cons_succ]
    refine wpAnyD_only (i := 2) rfl (by kernel_rfl) (by rfl) (fun K hK => ?_)
    go_simp
    refine (hsum _ l _ (HA.out.later hS.2) (by rw [HN.out]; omega)).mono ?_
    rw [HH.out]
    rintro e w5 ⟨rfl, hb5⟩
    try dsimp only
    have hSn := And.intro (hS.1.later hb5) (chain hS.2 hb5)
    refine hK.out _ _ (fun _ => hSn) ?_
    clear hK K hS
    have hS := hSn
    clear hSn
    try simp only [Act.put, List.setIfInBounds_toArray, List.set_cons_zero, List.set_cons_succ]
    clear hb5
    have hS5 := hS
    refine' wpAnyD_take (i := 3) (v := _) rfl (by kernel_rfl) (by kernel_rfl) (by kernel_rfl) (by kernel_rfl) (fun _ _ _ h => h) (Or.inl ⟨by rfl, ?hy2⟩) hS ?re2
    case hy2 => (intro w hSw; (try dsimp only at hSw); go_simp; (try with_reducible rfl))
    simp only [Act.put, List.setIfInBounds_toArray, List.set_cons_zero, List.set_cons_succ]
    refine' wpAnyD_take (i := 4) (v := _) rfl (by kernel_rfl) (by kernel_rfl) (by kernel_rfl) (by kernel_rfl) (fun _ _ _ h => h) (Or.inl ⟨by rfl, ?hy3⟩) hS ?re3
    case hy3 => (intro w hSw; (try dsimp only at hSw); go_simp; (try with_reducible rfl))
    simp only [Act.put, List.setIfInBounds_toArray, List.set_cons_zero, List.set_cons_succ]
    refine' wpAnyD_take (i := 5) (v := _) rfl (by kernel_rfl) (by kernel_rfl) (by kernel_rfl) (by kernel_rfl) (fun _ _ _ h => h) (Or.inl ⟨by rfl, ?hy4⟩) hS ?re4
    case hy4 => (intro w hSw; (try dsimp only at hSw); go_simp; (try with_reducible rfl))
    simp only [Act.put, List.setIfInBounds_toArray, List.set_cons_zero, List.set_cons_succ]
    refine' wpAnyD_take (i := 6) (v := _) rfl (by kernel_rfl) (by kernel_rfl) (by kernel_rfl) (by kernel_rfl) (fun _ _ _ h => h) (Or.inl ⟨by rfl, ?hy5⟩) hS ?re5
    case hy5 => (intro w hSw; (try dsimp only at hSw); go_simp; (try with_reducible rfl))
    simp only [Act.put, List.setIfInBounds_toArray, List.set_cons_zero, List.set_cons_succ]
    refine' wpAnyD_take (i := 7) (v := _) rfl (by kernel_rfl) (by kernel_rfl) (by kernel_rfl) (by kernel_rfl) (fun _ _ _ h => h) (Or.inl ⟨by rfl, ?hy6⟩) hS ?re6
    case hy6 => (intro w hSw; (try dsimp only at hSw); go_simp; (try with_reducible rfl))
    simp only [Act.put, List.setIfInBounds_toArray, List.set_cons_zero, List.set_cons_succ]
    refine' wpAnyD_take (i := 8) (v := _) rfl (by kernel_rfl) (by kernel_rfl) (by kernel_rfl) (by kernel_rfl) (fun _ _ _ h => h) (Or.inl ⟨by rfl, ?hy7⟩) hS ?re7
    case hy7 => (intro w hSw; (try dsimp only at hSw); go_simp; (try with_reducible rfl))
    simp only [Act.put, List.setIfInBounds_toArray, List.set_cons_zero, List.set_cons_succ]
    refine' wpAnyD_take (i := 9) (v := _) rfl (by kernel_rfl) (by kernel_rfl) (by kernel_rfl) (by kernel_rfl) (fun _ _ _ h => h) (Or.inl ⟨by rfl, ?hy8⟩) hS ?re8
    case hy8 => (intro w hSw; (try dsimp only at hSw); go_simp; (try with_reducible rfl))
    simp only [Act.put, List.setIfInBounds_toArray, List.set_cons_zero, List.set_cons_succ]
    refine' wpAnyD_take (i := 10) (v := _) rfl (by kernel_rfl) (by kernel_rfl) (by kernel_rfl) (by kernel_rfl) (fun _ _ _ h => h) (Or.inl ⟨by rfl, ?hy9⟩) hS ?re9
    case hy9 => (intro w hSw; (try dsimp only at hSw); go_simp; (try with_reducible rfl))
    simp only [Act.put, List.setIfInBounds_toArray, List.set_cons_zero, List.set_cons_succ]
    refine' wpAnyD_take (i := 13) (v := .agg (bytesL H)) rfl (by kernel_rfl) (by kernel_rfl) (by kernel_rfl) (by kernel_rfl) (fun _ _ _ h => h) (Or.inl ⟨by rfl, ?hyBx⟩) hS ?reBx
    case hyBx => (intro w' hSw; exact exec_load_row rfl hb rfl 25 (bytesL H) _ hSw.1 Tryd.underlying25 rfl hsz)
    simp only [Act.put, List.setIfInBounds_toArray, List.set_cons_zero, List.set_cons_succ]
    refine wpAnyD_only (i := 11) rfl (by kernel_rfl) (by rfl) (fun K hK => ?_)
    go_simp
    try dsimp only
    have hSn := And.intro (hS.1.alloc (.cells #[.slice none 0 ca, .slice none 0 0, .slice none 0 ca] 22)) (hS.2.alloc hS.2.size (.cells #[.slice none 0 ca, .slice none 0 0, .slice none 0 ca] 22))
    refine hK.out _ _ (fun _ => hSn) ?_
    clear hK K hS
    have hS := hSn
    clear hSn
    try simp only [Act.put, List.setIfInBounds_toArray, List.set_cons_zero, List.set_cons_succ]
    have hbq := HA.out.later hS5.2
    refine wpAnyD_only (i := 12) rfl (by kernel_rfl) (by rfl) (fun K hK => ?_)
    go_simp
    refine (of_eq _ [l.take (0), [], l.drop (0)] l H _ (parts3 w5 22 (hbq.front (0) hkn _) (BytesAt.nil _) (hbq.back (0) hkn _ _ _ (by omega) (fun h => absurd h (by omega))) 3) (by simp) (by rw [HN.out]; omega) (ht.later hS.2) HH.out).mono ?_
    rintro e w6 ⟨rfl, hb6⟩
    try dsimp only
    have hSn := And.intro (hS.1.later hb6) (chain hS.2 hb6)
    refine hK.out _ _ (fun _ => hSn) ?_
    clear hK K hS
    have hS := hSn
    clear hSn
    try simp only [Act.put, List.setIfInBounds_toArray, List.set_cons_zero, List.set_cons_succ]
    clear hb6
    refine' wpAnyD_take (i := 14) (v := _) rfl (by kernel_rfl) (by kernel_rfl) (by kernel_rfl) (by kernel_rfl) (fun _ _ _ h => h) (Or.inl ⟨by rfl, ?hy10⟩) hS ?re10
    case hy10 => (intro w hSw; (try dsimp only at hSw); go_simp; (try with_reducible rfl))
    simp only [Act.put, List.setIfInBounds_toArray, List.set_cons_zero, List.set_cons_succ]
    refine' wpAnyD_take (i := 15) (v := _) rfl (by kernel_rfl) (by kernel_rfl) (by kernel_rfl) (by kernel_rfl) (fun _ _ _ h => h) (Or.inl ⟨by rfl, ?hy11⟩) hS ?re11
    case hy11 => (intro w hSw; (try dsimp only at hSw); go_simp; (try with_reducible rfl))
    simp only [Act.put, List.setIfInBounds_toArray, List.set_cons_zero, List.set_cons_succ]
    refine' wpAnyD_take (i := 16) (v := _) rfl (by kernel_rfl) (by kernel_rfl) (by kernel_rfl) (by kernel_rfl) (fun _ _ _ h => h) (Or.inl ⟨by rfl, ?hy12⟩) hS ?re12
    case hy12 => (intro w hSw; (try dsimp only at hSw); go_simp; (try with_reducible rfl))
    simp only [Act.put, List.setIfInBounds_toArray, List.set_cons_zero, List.set_cons_succ]
    refine wpAnyD_done (by kernel_rfl) ?_ _
    have hfin := hS.2
    clear hS hS5 hbq
    go_wp2
    go_ret
    exact ⟨rfl, hfin⟩
  | some a =>
    obtain ⟨ab, ao, asp⟩ := a
    by_cases hck : ca = k
    · subst hck
      obtain rfl : n = ca := by omega
      go_wp2_with fail
      refine wp_region_D (fun _ => true) (fun w' => Row w' hb (bytesL H) 25 ∧ Below w.heap.size w w') (by kernel_rfl) ?_
      have hS : Row w4.drew hb (bytesL H) 25 ∧ Below w.heap.size w w4.drew := ⟨hrow, hbw4.drew⟩
      refine' wpAnyD_take (i := 0) (v := .agg (bytesL H)) rfl (by kernel_rfl) (by kernel_rfl) (by kernel_rfl) (by kernel_rfl) (fun _ _ _ h => h) (Or.inl ⟨by rfl, ?hyAy⟩) hS ?reAy
      case hyAy => (intro w' hSw; exact exec_load_row rfl hb rfl 25 (bytesL H) _ hSw.1 Tryd.underlying25 rfl hsz)
      simp only [Act.put, List.setIfInBounds_toArray, List.set_cons_zero, List.set_cons_succ]
      refine' wpAnyD_take (i := 1) (v := _) rfl (by kernel_rfl) (by kernel_rfl) (by kernel_rfl) (by kernel_rfl) (fun _ _ _ h => h) (Or.inl ⟨by rfl, ?hy13⟩) hS ?re13
      case hy13 => (intro w hSw; (try dsimp only at hSw); go_simp; (try with_reducible rfl))
      simp only [Act.put, List.setIfInBounds_toArray, List.set_cons_zero, List.set_cons_succ]
      refine wpAnyD_only (i := 2) rfl (by kernel_rfl) (by rfl) (fun K hK => ?_)
      go_simp
      refine (hsum _ l _ (HA.out.later hS.2) (by rw [HN.out]; omega)).mono ?_
      rw [HH.out]
      rintro e w5 ⟨rfl, hb5⟩
      try dsimp only
      have hSn := And.intro (hS.1.later hb5) (chain hS.2 hb5)
      refine hK.out _ _ (fun _ => hSn) ?_
      clear hK K hS
      have hS := hSn
      clear hSn
      try simp only [Act.put, List.setIfInBounds_toArray, List.set_cons_zero, List.set_cons_succ]
      clear hb5
      have hS5 := hS
      refine' wpAnyD_take (i := 3) (v := _) rfl (by kernel_rfl) (by kernel_rfl) (by kernel_rfl) (by kernel_rfl) (fun _ _ _ h => h) (Or.inl ⟨by rfl, ?hy14⟩) hS ?re14
      case hy14 => (intro w hSw; (try dsimp only at hSw); go_simp; (try with_reducible rfl))
      simp only [Act.put, List.setIfInBounds_toArray, List.set_cons_zero, List.set_cons_succ]
      refine' wpAnyD_take (i := 4) (v := _) rfl (by kernel_rfl) (by kernel_rfl) (by kernel_rfl) (by kernel_rfl) (fun _ _ _ h => h) (Or.inl ⟨by rfl, ?hy15⟩) hS ?re15
      case hy15 => (intro w hSw; (try dsimp only at hSw); go_simp; (try with_reducible rfl))
      simp only [Act.put, List.setIfInBounds_toArray, List.set_cons_zero, List.set_cons_succ]
      refine' wpAnyD_take (i := 5) (v := _) rfl (by kernel_rfl) (by kernel_rfl) (by kernel_rfl) (by kernel_rfl) (fun _ _ _ h => h) (Or.inl ⟨by rfl, ?hy16⟩) hS ?re16
      case hy16 => (intro w hSw; (try dsimp only at hSw); go_simp; (try with_reducible rfl))
      simp only [Act.put, List.setIfInBounds_toArray, List.set_cons_zero, List.set_cons_succ]
      refine' wpAnyD_take (i := 6) (v := _) rfl (by kernel_rfl) (by kernel_rfl) (by kernel_rfl) (by kernel_rfl) (fun _ _ _ h => h) (Or.inl ⟨by rfl, ?hy17⟩) hS ?re17
      case hy17 => (intro w hSw; (try dsimp only at hSw); go_simp; (try with_reducible rfl))
      simp only [Act.put, List.setIfInBounds_toArray, List.set_cons_zero, List.set_cons_succ]
      refine' wpAnyD_take (i := 7) (v := _) rfl (by kernel_rfl) (by kernel_rfl) (by kernel_rfl) (by kernel_rfl) (fun _ _ _ h => h) (Or.inl ⟨by rfl, ?hy18⟩) hS ?re18
      case hy18 => (intro w hSw; (try dsimp only at hSw); go_simp; (try with_reducible rfl))
      simp only [Act.put, List.setIfInBounds_toArray, List.set_cons_zero, List.set_cons_succ]
      refine' wpAnyD_take (i := 8) (v := _) rfl (by kernel_rfl) (by kernel_rfl) (by kernel_rfl) (by kernel_rfl) (fun _ _ _ h => h) (Or.inl ⟨by rfl, ?hy19⟩) hS ?re19
      case hy19 => (intro w hSw; (try dsimp only at hSw); go_simp; (try with_reducible rfl))
      simp only [Act.put, List.setIfInBounds_toArray, List.set_cons_zero, List.set_cons_succ]
      refine' wpAnyD_take (i := 9) (v := _) rfl (by kernel_rfl) (by kernel_rfl) (by kernel_rfl) (by kernel_rfl) (fun _ _ _ h => h) (Or.inl ⟨by rfl, ?hy20⟩) hS ?re20
      case hy20 => (intro w hSw; (try dsimp only at hSw); go_simp; (try with_reducible rfl))
      simp only [Act.put, List.setIfInBounds_toArray, List.set_cons_zero, List.set_cons_succ]
      refine' wpAnyD_take (i := 10) (v := _) rfl (by kernel_rfl) (by kernel_rfl) (by kernel_rfl) (by kernel_rfl) (fun _ _ _ h => h) (Or.inl ⟨by rfl, ?hy21⟩) hS ?re21
      case hy21 => (intro w hSw; (try dsimp only at hSw); go_simp; (try with_reducible rfl))
      simp only [Act.put, List.setIfInBounds_toArray, List.set_cons_zero, List.set_cons_succ]
      refine' wpAnyD_take (i := 13) (v := .agg (bytesL H)) rfl (by kernel_rfl) (by kernel_rfl) (by kernel_rfl) (by kernel_rfl) (fun _ _ _ h => h) (Or.inl ⟨by rfl, ?hyBy⟩) hS ?reBy
      case hyBy => (intro w' hSw; exact exec_load_row rfl hb rfl 25 (bytesL H) _ hSw.1 Tryd.underlying25 rfl hsz)
      simp only [Act.put, List.setIfInBounds_toArray, List.set_cons_zero, List.set_cons_succ]
      refine wpAnyD_only (i := 11) rfl (by kernel_rfl) (by rfl) (fun K hK => ?_)
      go_simp
      try dsimp only
      have hSn := And.intro (hS.1.alloc (.cells #[.slice (some ⟨ab, ao, asp⟩) n n, .slice none 0 0, .slice (some ⟨ab, ao, asp⟩) 0 0] 22)) (hS.2.alloc hS.2.size (.cells #[.slice (some ⟨ab, ao, asp⟩) n n, .slice none 0 0, .slice (some ⟨ab, ao, asp⟩) 0 0] 22))
      refine hK.out _ _ (fun _ => hSn) ?_
      clear hK K hS
      have hS := hSn
      clear hSn
      try simp only [Act.put, List.setIfInBounds_toArray, List.set_cons_zero, List.set_cons_succ]
      have hbq := HA.out.later hS5.2
      refine wpAnyD_only (i := 12) rfl (by kernel_rfl) (by rfl) (fun K hK => ?_)
      go_simp
      refine (of_eq _ [l.take (n), [], l.drop (n)] l H _ (parts3 w5 22 (hbq.front (n) hkn _) (BytesAt.nil _) (hbq.back (n) hkn _ _ _ (by omega) (fun h => absurd h (by omega))) 3) (by simp) (by rw [HN.out]; omega) (ht.later hS.2) HH.out).mono ?_
      rintro e w6 ⟨rfl, hb6⟩
      try dsimp only
      have hSn := And.intro (hS.1.later hb6) (chain hS.2 hb6)
      refine hK.out _ _ (fun _ => hSn) ?_
      clear hK K hS
      have hS := hSn
      clear hSn
      try simp only [Act.put, List.setIfInBounds_toArray, List.set_cons_zero, List.set_cons_succ]
      clear hb6
      refine' wpAnyD_take (i := 14) (v := _) rfl (by kernel_rfl) (by kernel_rfl) (by kernel_rfl) (by kernel_rfl) (fun _ _ _ h => h) (Or.inl ⟨by rfl, ?hy22⟩) hS ?re22
      case hy22 => (intro w hSw; (try dsimp only at hSw); go_simp; (try with_reducible rfl))
      simp only [Act.put, List.setIfInBounds_toArray, List.set_cons_zero, List.set_cons_succ]
      refine' wpAnyD_take (i := 15) (v := _) rfl (by kernel_rfl) (by kernel_rfl) (by kernel_rfl) (by kernel_rfl) (fun _ _ _ h => h) (Or.inl ⟨by rfl, ?hy23⟩) hS ?re23
      case hy23 => (intro w hSw; (try dsimp only at hSw); go_simp; (try with_reducible rfl))
      simp only [Act.put, List.setIfInBounds_toArray, List.set_cons_zero, List.set_cons_succ]
      refine' wpAnyD_take (i := 16) (v := _) rfl (by kernel_rfl) (by kernel_rfl) (by kernel_rfl) (by kernel_rfl) (fun _ _ _ h => h) (Or.inl ⟨by rfl, ?hy24⟩) hS ?re24
      case hy24 => (intro w hSw; (try dsimp only at hSw); go_simp; (try with_reducible rfl))
      simp only [Act.put, List.setIfInBounds_toArray, List.set_cons_zero, List.set_cons_succ]
      refine wpAnyD_done (by kernel_rfl) ?_ _
      have hfin := hS.2
      clear hS hS5 hbq
      go_wp2
      go_ret
      exact ⟨rfl, hfin⟩
    · go_wp2_with fail
      refine wp_region_D (fun _ => true) (fun w' => Row w' hb (bytesL H) 25 ∧ Below w.heap.size w w') (by kernel_rfl) ?_
      have hS : Row w4.drew hb (bytesL H) 25 ∧ Below w.heap.size w w4.drew := ⟨hrow, hbw4.drew⟩
      refine' wpAnyD_take (i := 0) (v := .agg (bytesL H)) rfl (by kernel_rfl) (by kernel_rfl) (by kernel_rfl) (by kernel_rfl) (fun _ _ _ h => h) (Or.inl ⟨by rfl, ?hyAz⟩) hS ?reAz
      case hyAz => (intro w' hSw; exact exec_load_row rfl hb rfl 25 (bytesL H) _ hSw.1 Tryd.underlying25 rfl hsz)
      simp only [Act.put, List.setIfInBounds_toArray, List.set_cons_zero, List.set_cons_succ]
      refine' wpAnyD_take (i := 1) (v := _) rfl (by kernel_rfl) (by kernel_rfl) (by kernel_rfl) (by kernel_rfl) (fun _ _ _ h => h) (Or.inl ⟨by rfl, ?hy25⟩) hS ?re25
      case hy25 => (intro w hSw; (try dsimp only at hSw); go_simp; (try with_reducible rfl))
      simp only [Act.put, List.setIfInBounds_toArray, List.set_cons_zero, List.set_cons_succ]
      refine wpAnyD_only (i := 2) rfl (by kernel_rfl) (by rfl) (fun K hK => ?_)
      go_simp
      refine (hsum _ l _ (HA.out.later hS.2) (by rw [HN.out]; omega)).mono ?_
      rw [HH.out]
      rintro e w5 ⟨rfl, hb5⟩
      try dsimp only
      have hSn := And.intro (hS.1.later hb5) (chain hS.2 hb5)
      refine hK.out _ _ (fun _ => hSn) ?_
      clear hK K hS
      have hS := hSn
      clear hSn
      try simp only [Act.put, List.setIfInBounds_toArray, List.set_cons_zero, List.set_cons_succ]
      clear hb5
      have hS5 := hS
      refine' wpAnyD_take (i := 3) (v := _) rfl (by kernel_rfl) (by kernel_rfl) (by kernel_rfl) (by kernel_rfl) (fun _ _ _ h => h) (Or.inl ⟨by rfl, ?hy26⟩) hS ?re26
      case hy26 => (intro w hSw; (try dsimp only at hSw); go_simp; (try with_reducible rfl))
      simp only [Act.put, List.setIfInBounds_toArray, List.set_cons_zero, List.set_cons_succ]
      refine' wpAnyD_take (i := 4) (v := _) rfl (by kernel_rfl) (by kernel_rfl) (by kernel_rfl) (by kernel_rfl) (fun _ _ _ h => h) (Or.inl ⟨by rfl, ?hy27⟩) hS ?re27
      case hy27 => (intro w hSw; (try dsimp only at hSw); go_simp; (try with_reducible rfl))
      simp only [Act.put, List.setIfInBounds_toArray, List.set_cons_zero, List.set_cons_succ]
      refine' wpAnyD_take (i := 5) (v := _) rfl (by kernel_rfl) (by kernel_rfl) (by kernel_rfl) (by kernel_rfl) (fun _ _ _ h => h) (Or.inl ⟨by rfl, ?hy28⟩) hS ?re28
      case hy28 => (intro w hSw; (try dsimp only at hSw); go_simp; (try with_reducible rfl))
      simp only [Act.put, List.setIfInBounds_toArray, List.set_cons_zero, List.set_cons_succ]
      refine' wpAnyD_take (i := 6) (v := _) rfl (by kernel_rfl) (by kernel_rfl) (by kernel_rfl) (by kernel_rfl) (fun _ _ _ h => h) (Or.inl ⟨by rfl, ?hy29⟩) hS ?re29
      case hy29 => (intro w hSw; (try dsimp only at hSw); go_simp; (try with_reducible rfl))
      simp only [Act.put, List.setIfInBounds_toArray, List.set_cons_zero, List.set_cons_succ]
      refine' wpAnyD_take (i := 7) (v := _) rfl (by kernel_rfl) (by kernel_rfl) (by kernel_rfl) (by kernel_rfl) (fun _ _ _ h => h) (Or.inl ⟨by rfl, ?hy30⟩) hS ?re30
      case hy30 => (intro w hSw; (try dsimp only at hSw); go_simp; (try with_reducible rfl))
      simp only [Act.put, List.setIfInBounds_toArray, List.set_cons_zero, List.set_cons_succ]
      refine' wpAnyD_take (i := 8) (v := _) rfl (by kernel_rfl) (by kernel_rfl) (by kernel_rfl) (by kernel_rfl) (fun _ _ _ h => h) (Or.inl ⟨by rfl, ?hy31⟩) hS ?re31
      case hy31 => (intro w hSw; (try dsimp only at hSw); go_simp; (try with_reducible rfl))
      simp only [Act.put, List.setIfInBounds_toArray, List.set_cons_zero, List.set_cons_succ]
      refine' wpAnyD_take (i := 9) (v := _) rfl (by kernel_rfl) (by kernel_rfl) (by kernel_rfl) (by kernel_rfl) (fun _ _ _ h => h) (Or.inl ⟨by rfl, ?hy32⟩) hS ?re32
      case hy32 => (intro w hSw; (try dsimp only at hSw); go_simp; (try with_reducible rfl))
      simp only [Act.put, List.setIfInBounds_toArray, List.set_cons_zero, List.set_cons_succ]
      refine' wpAnyD_take (i := 10) (v := _) rfl (by kernel_rfl) (by kernel_rfl) (by kernel_rfl) (by kernel_rfl) (fun _ _ _ h => h) (Or.inl ⟨by rfl, ?hy33⟩) hS ?re33
      case hy33 => (intro w hSw; (try dsimp only at hSw); go_simp; (try with_reducible rfl))
      simp only [Act.put, List.setIfInBounds_toArray, List.set_cons_zero, List.set_cons_succ]
      refine' wpAnyD_take (i := 13) (v := .agg (bytesL H)) rfl (by kernel_rfl) (by kernel_rfl) (by kernel_rfl) (by kernel_rfl) (fun _ _ _ h => h) (Or.inl ⟨by rfl, ?hyBz⟩) hS ?reBz
      case hyBz => (intro w' hSw; exact exec_load_row rfl hb rfl 25 (bytesL H) _ hSw.1 Tryd.underlying25 rfl hsz)
      simp only [Act.put, List.setIfInBounds_toArray, List.set_cons_zero, List.set_cons_succ]
      refine wpAnyD_only (i := 11) rfl (by kernel_rfl) (by rfl) (fun K hK => ?_)
      go_simp
      try dsimp only
      have hSn := And.intro (hS.1.alloc (.cells #[.slice (some ⟨ab, ao, asp⟩) k ca, .slice none 0 0, .slice (some ((⟨ab, ao, asp⟩ : Addr).add k)) (n - k) (ca - k)] 22)) (hS.2.alloc hS.2.size (.cells #[.slice (some ⟨ab, ao, asp⟩) k ca, .slice none 0 0, .slice (some ((⟨ab, ao, asp⟩ : Addr).add k)) (n - k) (ca - k)] 22))
      refine hK.out _ _ (fun _ => hSn) ?_
      clear hK K hS
      have hS := hSn
      clear hSn
      try simp only [Act.put, List.setIfInBounds_toArray, List.set_cons_zero, List.set_cons_succ]
      have hbq := HA.out.later hS5.2
      refine wpAnyD_only (i := 12) rfl (by kernel_rfl) (by rfl) (fun K hK => ?_)
      go_simp
      refine (of_eq _ [l.take (k), [], l.drop (k)] l H _ (parts3 w5 22 (hbq.front (k) hkn _) (BytesAt.nil _) (hbq.back (k) hkn _ _ _ (by omega) (fun h b off e => by cases e; exact congrArg some (Addr.add_lit ..))) 3) (by simp) (by rw [HN.out]; omega) (ht.later hS.2) HH.out).mono ?_
      rintro e w6 ⟨rfl, hb6⟩
      try dsimp only
      have hSn := And.intro (hS.1.later hb6) (chain hS.2 hb6)
      refine hK.out _ _ (fun _ => hSn) ?_
      clear hK K hS
      have hS := hSn
      clear hSn
      try simp only [Act.put, List.setIfInBounds_toArray, List.set_cons_zero, List.set_cons_succ]
      clear hb6
      refine' wpAnyD_take (i := 14) (v := _) rfl (by kernel_rfl) (by kernel_rfl) (by kernel_rfl) (by kernel_rfl) (fun _ _ _ h => h) (Or.inl ⟨by rfl, ?hy34⟩) hS ?re34
      case hy34 => (intro w hSw; (try dsimp only at hSw); go_simp; (try with_reducible rfl))
      simp only [Act.put, List.setIfInBounds_toArray, List.set_cons_zero, List.set_cons_succ]
      refine' wpAnyD_take (i := 15) (v := _) rfl (by kernel_rfl) (by kernel_rfl) (by kernel_rfl) (by kernel_rfl) (fun _ _ _ h => h) (Or.inl ⟨by rfl, ?hy35⟩) hS ?re35
      case hy35 => (intro w hSw; (try dsimp only at hSw); go_simp; (try with_reducible rfl))
      simp only [Act.put, List.setIfInBounds_toArray, List.set_cons_zero, List.set_cons_succ]
      refine' wpAnyD_take (i := 16) (v := _) rfl (by kernel_rfl) (by kernel_rfl) (by kernel_rfl) (by kernel_rfl) (fun _ _ _ h => h) (Or.inl ⟨by rfl, ?hy36⟩) hS ?re36
      case hy36 => (intro w hSw; (try dsimp only at hSw); go_simp; (try with_reducible rfl))
      simp only [Act.put, List.setIfInBounds_toArray, List.set_cons_zero, List.set_cons_succ]
      refine wpAnyD_done (by kernel_rfl) ?_ _
      have hfin := hS.2
      clear hS hS5 hbq
      go_wp2
      go_ret
      exact ⟨rfl, hfin⟩
end Go.Proofs.YtbbpihdebdknhaaDoor
