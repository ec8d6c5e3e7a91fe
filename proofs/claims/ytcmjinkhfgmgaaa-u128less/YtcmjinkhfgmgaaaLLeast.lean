/-
  The walk of paciolilaw01.U128Least: it returns true, for every slice of numbers, and turns nothing that was there.
-/
import Derived.Test.YtcmjinkhfgmgaaaLeast
import Derived.Deep.RegionHeld3
namespace Go.Proofs.Ytcmjinkhfgmgaaa
open Go.RowKit

theorem LeastOf.among {H L : Nat → Int} {n : Nat} {mh ml : Int} (h : LeastOf H L n mh ml) (hw : ∀ i, i < n → Word (H i) ∧ Word (L i)) (hn : 0 < n) : ∃ i, i < n ∧ H i = mh ∧ L i = ml := by
  obtain ⟨w1, w2, a, b⟩ := h
  rcases b with ⟨e1, e2⟩ | ⟨i, hi, e1, e2⟩
  · have h0 := a 0 hn
    have k := hw 0 hn
    refine ⟨0, hn, ?_⟩
    obtain ⟨⟨_, _⟩, ⟨_, _⟩⟩ := k
    omega
  · exact ⟨i, hi, e1.symm, e2.symm⟩

theorem NumsIn.words {w : World} {a : Option Addr} {n : Nat} {H L : Nat → Int} (h : Nums w a n H L) : ∀ i, i < n → Word (H i) ∧ Word (L i) := fun i hi => by
  obtain ⟨_, _, _, _, _, _, h1, h2⟩ := h.2 i hi; exact ⟨h1, h2⟩

/-- A slice of numbers, later. -/
theorem NumsIn.later {w w' : World} {a : Option Addr} {n : Nat} {H L : Nat → Int} (h : Nums w a n H L) (hb : Below w.heap.size w w') : Nums w' a n H L :=
  ⟨h.1, fun i hi => by
    obtain ⟨b, off, e, z, c0, c1, k0, k1⟩ := h.2 i hi
    exact ⟨b, off, e, Nat.lt_of_lt_of_le z hb.size, (hb.cell (p := ⟨b, off + i * 2, none⟩) z).trans c0, (hb.cell (p := ⟨b, off + i * 2 + 1, none⟩) z).trans c1, k0, k1⟩⟩

theorem one_later {w w1 w2 : World} {s : Nat} {sh sl : Int} (h : w1.cell? ⟨s, 0, none⟩ = some (.int .u64 sh) ∧ w1.cell? ⟨s, 1, none⟩ = some (.int .u64 sl) ∧ Below w.heap.size w w1 ∧ s < w1.heap.size)
    (hb : Below w1.heap.size w1 w2) : w2.cell? ⟨s, 0, none⟩ = some (.int .u64 sh) ∧ w2.cell? ⟨s, 1, none⟩ = some (.int .u64 sl) ∧ Below w.heap.size w w2 ∧ s < w2.heap.size := by
  obtain ⟨s0, s1, bel, zs⟩ := h
  exact ⟨(hb.cell (p := ⟨s, 0, none⟩) zs).trans s0, (hb.cell (p := ⟨s, 1, none⟩) zs).trans s1, chain bel hb, Nat.lt_of_lt_of_le zs hb.size⟩

set_option maxRecDepth 100000 in
set_option maxHeartbeats 4000000 in
theorem law_least (a : Option Addr) (n cap : Nat) (H L : Nat → Int) (w : World) (hn : Nums w a n H L) :
    Calls Try.prog 7 #[.slice a n cap] w fun e w' => e = .returned (.bool true) ∧ Below w.heap.size w w' := by
  have hm := hn.1
  unfold maxLen at hm
  have HN : Hid (Nums w a n H L) := hn
  clear hn
  by_cases h100 : (100 : Int) < (n : Int)
  · go_enter Try.func7, Try.ntmps7
    go_wp2_with fail
    refine (fit_any _).mono ?_
    rintro e w1 ⟨rfl, hb1⟩
    go_wp2
    go_ret
    exact ⟨rfl, hb1⟩
  · go_enter Try.func7, Try.ntmps7
    go_wp2_with fail
    refine (fit_any _).mono ?_
    rintro e w1 ⟨rfl, hb1⟩
    go_wp2_with fail
    refine (least_any a n cap H L w1 (NumsIn.later HN.out hb1)).mono ?_
    rintro e w2 ⟨mh, ml, rfl, hl0, hb2⟩
    have hl : Hid (LeastOf H L n mh ml) := hl0
    have bel2 := chain hb1 hb2
    clear hl0 hb1 hb2
    by_cases h0 : n = 0
    · subst h0
      obtain ⟨rfl, rfl⟩ : mh = 18446744073709551615 ∧ ml = 18446744073709551615 := by
        rcases hl.out.2.2.2 with h | ⟨i, hi, _⟩
        · exact h
        · omega
      go_wp2_with fail
      go_region_held3 (fun w' => w'.cell? ⟨w2.heap.size, 0, none⟩ = some (.int .u64 18446744073709551615) ∧ w'.cell? ⟨w2.heap.size, 1, none⟩ = some (.int .u64 18446744073709551615) ∧ Below w.heap.size w w' ∧ w2.heap.size < w'.heap.size)
        (first | exact ⟨World.cell?_alloc_new .., World.cell?_alloc_new .., (chainA bel2 _).drew, by simp⟩ | exact (one_later (by assumption) (by assumption)))
        (first | (go_at_call 24; refine (max_any _).mono ?_; rintro e w' ⟨rfl, hb⟩))
      rename_i w3 hb3 hS3
      go_wp2
      refine wp_loop_rounds 1 ?_
      rw [rounds_succ]
      go_wp2
      go_ret
      exact ⟨rfl, hS3.2.2.1⟩
    · have hne : ((n : Int) == 0) = false := by simp; omega
      go_wp2_with fail
      go_region
      go_wp2_with fail
      have HA : Hid (∃ i, i < n ∧ H i = mh ∧ L i = ml) := hl.out.among (NumsIn.words HN.out) (by omega)
      go_loopw [4, 24] (fun inn i wr => ∃ k : Nat, k ≤ n ∧ i = .int .i64 k ∧ ∃ b : Bool, inn = .bool b ∧ Hid (b = true ↔ ∃ i, i < k ∧ H i = mh ∧ L i = ml) ∧ NumAt wr w2.heap.size mh ml ∧ Below w.heap.size w wr)
        (fun _ i _ => n - (intOf i).toNat)
      case atStart =>
        refine ⟨0, Nat.zero_le _, rfl, false, rfl, ?_, ⟨by simp, World.cell?_alloc_new .., World.cell?_alloc_new ..⟩, (chainA bel2 _).drew⟩
        show _ ↔ _
        simp
      case round =>
        obtain ⟨k, hk, rfl, b, rfl, hb, ⟨hz, q0, q1⟩, bel⟩ := hrel
        by_cases hlt : k < n
        · obtain ⟨bb, off, rfl, hbb, c0, c1, u1, u2⟩ := HN.out.2 k hlt
          have d0 := (bel.cell (p := ⟨bb, off + k * 2, none⟩) hbb).trans c0
          have d1 := (bel.cell (p := ⟨bb, off + k * 2 + 1, none⟩) hbb).trans c1
          clear c0 c1
          go_wp2_with fail
          refine (compare_any (H k) (L k) mh ml _).mono ?_
          rintro e w3 ⟨rfl, hb3⟩
          have NE := (NumAt.new wr (H k) (L k) 27).later hb3
          have bl := chain (below1 wr (.cells #[.int .u64 (H k), .int .u64 (L k)] 27)) hb3
          obtain ⟨zE, E0, E1⟩ := NE
          have NX := (show NumAt wr w2.heap.size mh ml from ⟨hz, q0, q1⟩).later bl
          have bel3 := chain bel bl
          clear hz q0 q1 bl hb3 bel d0 d1
          obtain ⟨zX, X0, X1⟩ := NX
          have hcmp : ¬ cmp2 (H k) (L k) mh ml < 0 := by
            rw [cmp2_num _ _ _ _ u1 u2 hl.out.1 hl.out.2.1, cmpI_lt]
            have := hl.out.2.2.1 k hlt; omega
          have HK : Hid (∀ b' : Bool, b' = (b || (H k == mh && L k == ml)) → (b' = true ↔ ∃ i, i < k + 1 ∧ H i = mh ∧ L i = ml)) := by
            rintro b' rfl
            simp only [Bool.or_eq_true, Bool.and_eq_true, beq_iff_eq]
            rw [hb.out]
            constructor
            · rintro (⟨i, hi, e⟩ | e)
              · exact ⟨i, by omega, e⟩
              · exact ⟨k, by omega, e⟩
            · rintro ⟨i, hi, e⟩
              by_cases ik : i = k
              · subst ik; exact .inr e
              · exact .inl ⟨i, by omega, e⟩
          obtain ⟨b1, b2, e1, e2⟩ : ∃ b1 b2, (H k == mh) = b1 ∧ (L k == ml) = b2 := ⟨_, _, rfl, rfl⟩
          cases b <;> cases b1 <;> cases b2
          all_goals
            go_wp2
            go_roundw
            case rel => exact ⟨k + 1, by omega, by go_num, _, rfl, HK.out _ (by simp [e1, e2]), ⟨zX, X0, X1⟩, bel3⟩
            case measure => simp [intOf]; omega
        · obtain rfl : k = n := by omega
          obtain rfl : b = true := hb.out.2 HA.out
          go_wp2
          go_ret
          exact ⟨rfl, bel⟩
end Go.Proofs.Ytcmjinkhfgmgaaa
