
/-
  The walk of paciolilaw09.RuleTransfers: its ways joined.
-/
import Derived.Test.YtkigdfpgdkgcaaaRuD1
import Derived.Test.YtkigdfpgdkgcaaaRuD2
import Derived.Test.YtkigdfpgdkgcaaaRuD3
namespace Go.Proofs.Ytkigdfpgdkgcaaa
open Go.RowKit
set_option maxRecDepth 100000
set_option linter.unusedVariables false
set_option linter.unusedSimpArgs false

theorem law_transfers (a0 a1 a2 a3 a4 a5 a6 a7 a8 a9 a10 a11 a12 a13 a14 a15 : Int) (w : World) (h : Word a0 ∧ Word a1 ∧ Word a2 ∧ Word a3 ∧ Word a4 ∧ Word a5 ∧ Word a6 ∧ Word a7 ∧ Word a8 ∧ Word a9 ∧ (-9223372036854775808 ≤ a10 ∧ a10 ≤ 9223372036854775807) ∧ (-9223372036854775808 ≤ a11 ∧ a11 ≤ 9223372036854775807) ∧ (-9223372036854775808 ≤ a12 ∧ a12 ≤ 9223372036854775807) ∧ (-9223372036854775808 ≤ a13 ∧ a13 ≤ 9223372036854775807) ∧ (-9223372036854775808 ≤ a14 ∧ a14 ≤ 9223372036854775807) ∧ (-9223372036854775808 ≤ a15 ∧ a15 ≤ 9223372036854775807)) :
    Calls Try.prog 3 #[.agg #[.int .u64 a0, .int .u64 a1, .int .u64 a2, .int .u64 a3, .int .u64 a4, .int .u64 a5, .int .u64 a6, .int .u64 a7, .int .u64 a8, .int .u64 a9, .int .i64 a10, .int .i64 a11, .int .i64 a12, .int .i64 a13, .int .i64 a14, .int .i64 a15]] w fun e w' => e = .returned (.bool true) ∧ Below w.heap.size w w' := by
  obtain ⟨_, _, _, _, _, _, _, _, _, _, _, _, ⟨lo, hi⟩, _⟩ := h
  obtain ⟨b1, b2, b3, b4, b5, b6, hf⟩ := fl_some a12
  obtain ⟨z, hz⟩ : ∃ z, (a0 == 0 && a1 == 0) = z := ⟨_, rfl⟩
  obtain ⟨q, hq⟩ : ∃ q, (a8 == 0 && a9 == 0) = q := ⟨_, rfl⟩
  obtain ⟨s, hs⟩ : ∃ s, (a8 == a0 && a9 == a1) = s := ⟨_, rfl⟩
  obtain ⟨t, ht⟩ : ∃ t, (a10 != 0) = t := ⟨_, rfl⟩
  have KT0 : ∀ w, Calls Try.prog 11 #[.agg #[.int .u64 a0, .int .u64 a1, .int .u64 a2, .int .u64 a3, .int .u64 a4, .int .u64 a5, .int .u64 a6, .int .u64 a7, .int .u64 a8, .int .u64 a9, .int .i64 a10, .int .i64 a11, .int .i64 a12, .int .i64 a13, .int .i64 a14, .int .i64 a15]] w fun e w' => e = .returned (.int .i64 (tkV z q s t b1 b2 b3 b4 b5 b6)) ∧ Below w.heap.size w w' := fun w => transfer_any z q s t b1 b2 b3 b4 b5 b6 a0 a1 a2 a3 a4 a5 a6 a7 a8 a9 a10 a11 a12 a13 a14 a15 w ⟨hz, hq, hs, ht, hf⟩
  have ez := num_eql a0 a1 0 0 z hz
  have e1 := num_eql a8 a9 0 0 q hq
  have e2 := num_neq a8 a9 0 0 q hq
  have e3 := num_eql a8 a9 a0 a1 s hs
  obtain ⟨h1, ⟨k, hk, hk16, h2⟩, h3, h4, h5, h6⟩ := hf
  have KB : Hid (∀ w, Calls Try.prog 10 #[.int .i64 (k : Nat)] w fun e w' => e = .returned (.int .i64 (pop4 k)) ∧ w' = w) := fun w => lbits_any k hk16 w
  have h2' : decide ((1 : Int) < (pop4 k : Int)) = b2 := by rw [← h2]; apply decide_eq_decide.2; omega
  have p3 : decide (0 < bits .and .i64 a12 192) = b3 := (gt_mask a12 192 (by decide)).trans h3
  have p5 : decide (0 < bits .and .i64 a12 48) = !b5 := (gt_mask a12 48 (by decide)).trans (show (bits .and .i64 a12 48 != 0) = !b5 by rw [← h5]; rfl)
  have p6 : decide (0 < bits .and .i64 a12 12) = !b6 := (gt_mask a12 12 (by decide)).trans (show (bits .and .i64 a12 12 != 0) = !b6 by rw [← h6]; rfl)
  cases z
  · rcases Int.lt_or_le a12 0 with hlt | hge
    · have hb := out_255 a12 lo hi (Or.inl hlt)
      rw [hb] at h1
      subst h1
      exact tr_lo a0 a1 a2 a3 a4 a5 a6 a7 a8 a9 a10 a11 a12 a13 a14 a15 _ _ w KT0 KB ez (decide_eq_true hlt)
    · have g0 : decide (a12 < 0) = false := decide_eq_false (by omega)
      rcases Int.lt_or_le 255 a12 with hgt | hle
      · have hb := out_255 a12 lo hi (Or.inr hgt)
        rw [hb] at h1
        subst h1
        exact tr_hi a0 a1 a2 a3 a4 a5 a6 a7 a8 a9 a10 a11 a12 a13 a14 a15 _ _ w KT0 KB ez g0 (decide_eq_true hgt)
      · have g1 : decide (255 < a12) = false := decide_eq_false (by omega)
        have hb := in_255 a12 hge hle
        rw [hb] at h1
        subst h1
        cases b2
        · cases b3 <;> cases b4
          · cases b5
            · cases b6
              · exact tr_c2bad a0 a1 a2 a3 a4 a5 a6 a7 a8 a9 a10 a11 a12 a13 a14 a15 _ _ w KT0 KB ez g0 g1 hk h2' p3 h4 p5 p6 h6
              · cases q
                · exact tr_c22q a0 a1 a2 a3 a4 a5 a6 a7 a8 a9 a10 a11 a12 a13 a14 a15 _ _ w KT0 KB ez g0 g1 hk h2' p3 h4 p5 p6 h6 e1 e2
                · cases t
                  · exact tr_c22t a0 a1 a2 a3 a4 a5 a6 a7 a8 a9 a10 a11 a12 a13 a14 a15 _ _ w KT0 KB ez g0 g1 hk h2' p3 h4 p5 p6 h6 e1 e2 ht
                  · exact tr_c22u a0 a1 a2 a3 a4 a5 a6 a7 a8 a9 a10 a11 a12 a13 a14 a15 _ _ w KT0 KB ez g0 g1 hk h2' p3 h4 p5 p6 h6 e1 e2 ht
            · cases b6
              · cases q
                · cases s
                  · cases t
                    · exact tr_c21t a0 a1 a2 a3 a4 a5 a6 a7 a8 a9 a10 a11 a12 a13 a14 a15 _ _ w KT0 KB ez g0 g1 hk h2' p3 h4 p5 p6 h6 e1 e2 e3 ht
                    · exact tr_c21u a0 a1 a2 a3 a4 a5 a6 a7 a8 a9 a10 a11 a12 a13 a14 a15 _ _ w KT0 KB ez g0 g1 hk h2' p3 h4 p5 p6 h6 e1 e2 e3 ht
                  · exact tr_c21s a0 a1 a2 a3 a4 a5 a6 a7 a8 a9 a10 a11 a12 a13 a14 a15 _ _ w KT0 KB ez g0 g1 hk h2' p3 h4 p5 p6 h6 e1 e2 e3
                · exact tr_c21q a0 a1 a2 a3 a4 a5 a6 a7 a8 a9 a10 a11 a12 a13 a14 a15 _ _ w KT0 KB ez g0 g1 hk h2' p3 h4 p5 p6 h6 e1 e2
              · cases q
                · exact tr_c20q a0 a1 a2 a3 a4 a5 a6 a7 a8 a9 a10 a11 a12 a13 a14 a15 _ _ w KT0 KB ez g0 g1 hk h2' p3 h4 p5 p6 h6 e1 e2
                · cases t
                  · exact tr_c20t a0 a1 a2 a3 a4 a5 a6 a7 a8 a9 a10 a11 a12 a13 a14 a15 _ _ w KT0 KB ez g0 g1 hk h2' p3 h4 p5 p6 h6 e1 e2 ht
                  · exact tr_c20u a0 a1 a2 a3 a4 a5 a6 a7 a8 a9 a10 a11 a12 a13 a14 a15 _ _ w KT0 KB ez g0 g1 hk h2' p3 h4 p5 p6 h6 e1 e2 ht
          · cases b5
            · cases b6
              · exact tr_c1bad a0 a1 a2 a3 a4 a5 a6 a7 a8 a9 a10 a11 a12 a13 a14 a15 _ _ w KT0 KB ez g0 g1 hk h2' p3 h4 p5 p6 h6
              · cases q
                · exact tr_c12q a0 a1 a2 a3 a4 a5 a6 a7 a8 a9 a10 a11 a12 a13 a14 a15 _ _ w KT0 KB ez g0 g1 hk h2' p3 h4 p5 p6 h6 e1 e2
                · cases t
                  · exact tr_c12t a0 a1 a2 a3 a4 a5 a6 a7 a8 a9 a10 a11 a12 a13 a14 a15 _ _ w KT0 KB ez g0 g1 hk h2' p3 h4 p5 p6 h6 e1 e2 ht
                  · exact tr_c12u a0 a1 a2 a3 a4 a5 a6 a7 a8 a9 a10 a11 a12 a13 a14 a15 _ _ w KT0 KB ez g0 g1 hk h2' p3 h4 p5 p6 h6 e1 e2 ht
            · cases b6
              · cases q
                · cases s
                  · cases t
                    · exact tr_c11t a0 a1 a2 a3 a4 a5 a6 a7 a8 a9 a10 a11 a12 a13 a14 a15 _ _ w KT0 KB ez g0 g1 hk h2' p3 h4 p5 p6 h6 e1 e2 e3 ht
                    · exact tr_c11u a0 a1 a2 a3 a4 a5 a6 a7 a8 a9 a10 a11 a12 a13 a14 a15 _ _ w KT0 KB ez g0 g1 hk h2' p3 h4 p5 p6 h6 e1 e2 e3 ht
                  · exact tr_c11s a0 a1 a2 a3 a4 a5 a6 a7 a8 a9 a10 a11 a12 a13 a14 a15 _ _ w KT0 KB ez g0 g1 hk h2' p3 h4 p5 p6 h6 e1 e2 e3
                · exact tr_c11q a0 a1 a2 a3 a4 a5 a6 a7 a8 a9 a10 a11 a12 a13 a14 a15 _ _ w KT0 KB ez g0 g1 hk h2' p3 h4 p5 p6 h6 e1 e2
              · cases q
                · exact tr_c10q a0 a1 a2 a3 a4 a5 a6 a7 a8 a9 a10 a11 a12 a13 a14 a15 _ _ w KT0 KB ez g0 g1 hk h2' p3 h4 p5 p6 h6 e1 e2
                · cases t
                  · exact tr_c10t a0 a1 a2 a3 a4 a5 a6 a7 a8 a9 a10 a11 a12 a13 a14 a15 _ _ w KT0 KB ez g0 g1 hk h2' p3 h4 p5 p6 h6 e1 e2 ht
                  · exact tr_c10u a0 a1 a2 a3 a4 a5 a6 a7 a8 a9 a10 a11 a12 a13 a14 a15 _ _ w KT0 KB ez g0 g1 hk h2' p3 h4 p5 p6 h6 e1 e2 ht
          · cases b5
            · cases b6
              · exact tr_c0bad a0 a1 a2 a3 a4 a5 a6 a7 a8 a9 a10 a11 a12 a13 a14 a15 _ _ w KT0 KB ez g0 g1 hk h2' p3 h4 p5 p6 h6
              · cases q
                · exact tr_c02q a0 a1 a2 a3 a4 a5 a6 a7 a8 a9 a10 a11 a12 a13 a14 a15 _ _ w KT0 KB ez g0 g1 hk h2' p3 h4 p5 p6 h6 e1 e2
                · cases t
                  · exact tr_c02t a0 a1 a2 a3 a4 a5 a6 a7 a8 a9 a10 a11 a12 a13 a14 a15 _ _ w KT0 KB ez g0 g1 hk h2' p3 h4 p5 p6 h6 e1 e2 ht
                  · exact tr_c02u a0 a1 a2 a3 a4 a5 a6 a7 a8 a9 a10 a11 a12 a13 a14 a15 _ _ w KT0 KB ez g0 g1 hk h2' p3 h4 p5 p6 h6 e1 e2 ht
            · cases b6
              · cases q
                · cases s
                  · cases t
                    · exact tr_c01t a0 a1 a2 a3 a4 a5 a6 a7 a8 a9 a10 a11 a12 a13 a14 a15 _ _ w KT0 KB ez g0 g1 hk h2' p3 h4 p5 p6 h6 e1 e2 e3 ht
                    · exact tr_c01u a0 a1 a2 a3 a4 a5 a6 a7 a8 a9 a10 a11 a12 a13 a14 a15 _ _ w KT0 KB ez g0 g1 hk h2' p3 h4 p5 p6 h6 e1 e2 e3 ht
                  · exact tr_c01s a0 a1 a2 a3 a4 a5 a6 a7 a8 a9 a10 a11 a12 a13 a14 a15 _ _ w KT0 KB ez g0 g1 hk h2' p3 h4 p5 p6 h6 e1 e2 e3
                · exact tr_c01q a0 a1 a2 a3 a4 a5 a6 a7 a8 a9 a10 a11 a12 a13 a14 a15 _ _ w KT0 KB ez g0 g1 hk h2' p3 h4 p5 p6 h6 e1 e2
              · cases q
                · exact tr_c00q a0 a1 a2 a3 a4 a5 a6 a7 a8 a9 a10 a11 a12 a13 a14 a15 _ _ w KT0 KB ez g0 g1 hk h2' p3 h4 p5 p6 h6 e1 e2
                · cases t
                  · exact tr_c00t a0 a1 a2 a3 a4 a5 a6 a7 a8 a9 a10 a11 a12 a13 a14 a15 _ _ w KT0 KB ez g0 g1 hk h2' p3 h4 p5 p6 h6 e1 e2 ht
                  · exact tr_c00u a0 a1 a2 a3 a4 a5 a6 a7 a8 a9 a10 a11 a12 a13 a14 a15 _ _ w KT0 KB ez g0 g1 hk h2' p3 h4 p5 p6 h6 e1 e2 ht
          · exact tr_b34 a0 a1 a2 a3 a4 a5 a6 a7 a8 a9 a10 a11 a12 a13 a14 a15 _ _ w (by cases b5 <;> cases b6 <;> exact KT0) KB ez g0 g1 hk h2' p3 h4
        · exact tr_b2 a0 a1 a2 a3 a4 a5 a6 a7 a8 a9 a10 a11 a12 a13 a14 a15 _ _ w KT0 KB ez g0 g1 hk h2'
  · exact tr_z a0 a1 a2 a3 a4 a5 a6 a7 a8 a9 a10 a11 a12 a13 a14 a15 _ _ w KT0 KB ez
end Go.Proofs.Ytkigdfpgdkgcaaa
