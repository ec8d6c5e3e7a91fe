/-
  u128.Least: of any numbers the least one; the greatest one of none. For every slice of numbers.
-/
import Derived.Test.YtcmjinkhfgmgaaaOrd
namespace Go.Proofs.Ytcmjinkhfgmgaaa
open Go.RowKit

/-- (mh, ml) is the least one of the first k numbers, or the greatest one. -/
def LeastOf (H L : Nat → Int) (k : Nat) (mh ml : Int) : Prop :=
  Word mh ∧ Word ml ∧ (∀ i, i < k → mh * 18446744073709551616 + ml ≤ H i * 18446744073709551616 + L i) ∧ ((mh = 18446744073709551615 ∧ ml = 18446744073709551615) ∨ ∃ i, i < k ∧ mh = H i ∧ ml = L i)

theorem LeastOf.keep {H L : Nat → Int} {k : Nat} {mh ml : Int} (h : LeastOf H L k mh ml) (hl : mh * 18446744073709551616 + ml ≤ H k * 18446744073709551616 + L k) : LeastOf H L (k + 1) mh ml := by
  obtain ⟨w1, w2, a, b⟩ := h
  refine ⟨w1, w2, fun i hi => ?_, ?_⟩
  · by_cases e : i = k
    · subst e; exact hl
    · exact a i (by omega)
  · rcases b with b | ⟨i, hi, e⟩
    · exact .inl b
    · exact .inr ⟨i, by omega, e⟩
theorem LeastOf.take {H L : Nat → Int} {k : Nat} {mh ml : Int} (h : LeastOf H L k mh ml) (hw : Word (H k) ∧ Word (L k)) (hl : H k * 18446744073709551616 + L k ≤ mh * 18446744073709551616 + ml) : LeastOf H L (k + 1) (H k) (L k) := by
  obtain ⟨w1, w2, a, b⟩ := h
  refine ⟨hw.1, hw.2, fun i hi => ?_, .inr ⟨k, by omega, rfl, rfl⟩⟩
  by_cases e : i = k
  · subst e; exact Int.le_refl _
  · have := a i (by omega); omega

/-- Numbers of two words are one just if their words are. -/
theorem words_eq {a b c d : Int} (h1 : Word a) (h2 : Word b) (h3 : Word c) (h4 : Word d) (h : a * 18446744073709551616 + b = c * 18446744073709551616 + d) : a = c ∧ b = d := by
  obtain ⟨_, _⟩ := h1; obtain ⟨_, _⟩ := h2; obtain ⟨_, _⟩ := h3; obtain ⟨_, _⟩ := h4; omega

set_option maxRecDepth 100000 in
set_option maxHeartbeats 2000000 in
theorem least_any (a : Option Addr) (n cap : Nat) (H L : Nat → Int) (w : World) (hn : Nums w a n H L) :
    Calls Try.prog 23 #[.slice a n cap] w fun e w' => ∃ mh ml, e = .returned (.agg #[.int .u64 mh, .int .u64 ml]) ∧ LeastOf H L n mh ml ∧ Below w.heap.size w w' := by
  obtain ⟨hm, hc⟩ := hn
  unfold maxLen at hm
  have HC : Hid (∀ i, i < n → ∃ b off, a = some ⟨b, off, none⟩ ∧ b < w.heap.size ∧ w.cell? ⟨b, off + i * 2, none⟩ = some (.int .u64 (H i)) ∧ w.cell? ⟨b, off + i * 2 + 1, none⟩ = some (.int .u64 (L i)) ∧ Word (H i) ∧ Word (L i)) := hc
  clear hc
  go_enter Try.func23, Try.ntmps23
  go_wp2_with fail
  refine (max_any _).mono ?_
  rintro e w1 ⟨rfl, hb1⟩
  have hz1 := hb1.size
  simp at hz1
  go_wp2_with fail
  go_loopw [9] (fun i wr => ∃ k : Nat, k ≤ n ∧ i = .int .i64 k ∧ ∃ mh ml : Int, Hid (LeastOf H L k mh ml) ∧ NumAt wr w1.heap.size mh ml ∧ wr.frozen? ⟨w1.heap.size, 0, none⟩ = false ∧ wr.frozen? ⟨w1.heap.size, 1, none⟩ = false ∧
      wr.cell? ⟨w.heap.size, 0, none⟩ = some (.int .u64 0) ∧ wr.cell? ⟨w.heap.size, 1, none⟩ = some (.int .u64 0) ∧ wr.frozen? ⟨w.heap.size, 0, none⟩ = false ∧ wr.frozen? ⟨w.heap.size, 1, none⟩ = false ∧ Below w.heap.size w wr)
    (fun i _ => n - (intOf i).toNat)
  case atStart =>
    refine ⟨0, Nat.zero_le _, rfl, 18446744073709551615, 18446744073709551615, ⟨word_max, word_max, fun i hi => absurd hi (by omega), .inl ⟨rfl, rfl⟩⟩, NumAt.new _ _ _ _, by simp, by simp, ?_, ?_, ?_, ?_, chainA (chain (below1 _ _) hb1) _⟩
    · rw [World.cell?_alloc_past _ _ _ (by omega), hb1.cell (p := ⟨w.heap.size, 0, none⟩) (by simp)]; simp
    · rw [World.cell?_alloc_past _ _ _ (by omega), hb1.cell (p := ⟨w.heap.size, 1, none⟩) (by simp)]; simp
    · rw [World.frozen?_alloc_past _ _ _ (by omega), hb1.frozen (p := ⟨w.heap.size, 0, none⟩) (by simp)]; simp
    · rw [World.frozen?_alloc_past _ _ _ (by omega), hb1.frozen (p := ⟨w.heap.size, 1, none⟩) (by simp)]; simp
  case round =>
    obtain ⟨k, hk, rfl, mh, ml, hl, ⟨hz, q0, q1⟩, f0, f1, r0, r1, g0, g1, bel⟩ := hrel
    have hz' : w.heap.size < wr.heap.size := by omega
    by_cases hlt : k < n
    · obtain ⟨b, off, rfl, hb, c0, c1, u1, u2⟩ := HC.out k hlt
      have d0 := (bel.cell (p := ⟨b, off + k * 2, none⟩) hb).trans c0
      have d1 := (bel.cell (p := ⟨b, off + k * 2 + 1, none⟩) hb).trans c1
      clear c0 c1
      go_wp2_with fail
      refine (compare_any (H k) (L k) mh ml _).mono ?_
      rintro e w2 ⟨rfl, hb2⟩
      have NE := (NumAt.new wr (H k) (L k) 27).later hb2
      have bl := chain (below1 wr (.cells #[.int .u64 (H k), .int .u64 (L k)] 27)) hb2
      obtain ⟨zE, E0, E1⟩ := NE
      have p0 := (bl.cell (p := ⟨w1.heap.size, 0, none⟩) hz).trans q0
      have p1 := (bl.cell (p := ⟨w1.heap.size, 1, none⟩) hz).trans q1
      have k0 := (bl.frozen (p := ⟨w1.heap.size, 0, none⟩) hz).trans f0
      have k1 := (bl.frozen (p := ⟨w1.heap.size, 1, none⟩) hz).trans f1
      have s0 := (bl.cell (p := ⟨w.heap.size, 0, none⟩) hz').trans r0
      have s1 := (bl.cell (p := ⟨w.heap.size, 1, none⟩) hz').trans r1
      have t0 := (bl.frozen (p := ⟨w.heap.size, 0, none⟩) hz').trans g0
      have t1 := (bl.frozen (p := ⟨w.heap.size, 1, none⟩) hz').trans g1
      have zz := bl.size
      have bel2 := chain bel bl
      clear bl hb2 d0 d1 q0 q1 f0 f1 r0 r1 g0 g1 bel
      have HE : Hid (cmp2 (H k) (L k) mh ml < 0 ↔ H k * 18446744073709551616 + L k < mh * 18446744073709551616 + ml) := by
        show _ ↔ _; rw [cmp2_num _ _ _ _ u1 u2 hl.out.1 hl.out.2.1]; exact cmpI_lt _ _
      have hne : ¬ w.heap.size = w1.heap.size := by omega
      by_cases hcmp : cmp2 (H k) (L k) mh ml < 0
      · have HT : Hid (LeastOf H L (k + 1) (H k) (L k)) := hl.out.take ⟨u1, u2⟩ (by have := HE.out.1 hcmp; omega)
        go_wp2
        go_roundw
        case rel =>
          refine ⟨k + 1, by omega, by go_num, H k, L k, HT, ⟨by simp [World.setCell]; omega, ?_, ?_⟩, ?_, ?_, ?_, ?_, ?_, ?_, ?_⟩
          · simp [go_sem, *]
          · simp [go_sem, *]
          · simp [go_sem, *]
          · simp [go_sem, *]
          · simp [go_sem, *]
          · simp [go_sem, *]
          · simp [go_sem, *]
          · simp [go_sem, *]
          · exact (bel2.setCell (by simp; omega) _).setCell (by simp; omega) _
        case measure => simp [intOf]; omega
      · have HT : Hid (LeastOf H L (k + 1) mh ml) := hl.out.keep (by have := HE.out; omega)
        go_wp2
        go_roundw
        case rel => exact ⟨k + 1, by omega, by go_num, mh, ml, HT, ⟨by omega, p0, p1⟩, k0, k1, s0, s1, t0, t1, bel2⟩
        case measure => simp [intOf]; omega
    · obtain rfl : k = n := by omega
      go_wp2
      refine bodyPost_ret (v := .agg #[.int .u64 mh, .int .u64 ml]) (by simp [results, Try.results23, go_sem, *]) rfl ⟨mh, ml, rfl, hl.out, (bel.setCell (by simp) _).setCell (by simp) _⟩
end Go.Proofs.Ytcmjinkhfgmgaaa
