
/-
  The walk of paciolilaw09.RuleFlags: its ways joined. (Made by tools/rukj.py.)
-/
import Derived.Test.YtkigdfpgdkgcaaaRuKm
import Derived.Test.YtkigdfpgdkgcaaaRuK1
import Derived.Test.YtkigdfpgdkgcaaaRuK2
import Derived.Test.YtkigdfpgdkgcaaaRuK3
namespace Go.Proofs.Ytkigdfpgdkgcaaa
open Go.RowKit
set_option maxRecDepth 100000
set_option linter.unusedVariables false
set_option linter.unusedSimpArgs false

set_option maxHeartbeats 1000000 in
theorem law_flags (f : Int) (w : World) :
    Calls Try.prog 6 #[.int .i64 f] w fun e w' => e = .returned (.bool true) ∧ Below w.heap.size w w' := by
  obtain ⟨n, hf, hn⟩ := and_mask f 511 (by decide)
  have hn5 : n < 512 := by have : n ≤ 511 := by rw [hn]; exact Nat.and_le_right
                           omega
  replace hf : bits .and .i64 f 511 = (n : Int) := hf
  have KT := flt n hn5
  obtain ⟨N, hN⟩ : ∃ N, (n : Int) = N := ⟨_, rfl⟩
  rw [hN] at hf KT
  clear hn hn5 hN
  obtain ⟨s4, e4⟩ : ∃ s4, (bits .and .i64 N 4 != 0) = s4 := ⟨_, rfl⟩
  obtain ⟨s8, e8⟩ : ∃ s8, (bits .and .i64 N 8 != 0) = s8 := ⟨_, rfl⟩
  obtain ⟨h12, e12⟩ : ∃ h12, (bits .and .i64 N 12 != 0) = h12 := ⟨_, rfl⟩
  cases e2 : (bits .and .i64 N 2 != 0)
  · obtain ⟨C, hC⟩ : ∃ C, cnt false s4 s8 3 = C := ⟨_, rfl⟩
    cases hg : decide (N < 256)
    · exact fl_r f N C _ s4 s8 h12 w hf e12 hC e2 e4 e8 hg (KT h12 e12 4 (may_no (by simp only [mayE, e2, e4, e8, hg, Bool.and_true, Bool.true_and, Bool.false_and, Bool.and_false, Bool.or_true, Bool.true_or, Bool.or_false, Bool.false_or])))
    · cases hs : decide (C ≤ 1)
      · exact fl_s f N C _ s4 s8 h12 w hf e12 hC e2 e4 e8 hg hs (KT h12 e12 4 (may_no (by simp only [mayE, e2, e4, e8, hg, hC, hs, Bool.and_true, Bool.true_and, Bool.false_and, Bool.and_false, Bool.or_true, Bool.true_or, Bool.or_false, Bool.false_or])))
      · cases h64 : (bits .and .i64 N 64 == 0)
        · exact fl_me f N C s4 s8 h12 w hf e12 hC e2 e4 e8 hg hs h64 (KT h12 e12 4 (may_no (by simp only [mayE, e2, e4, e8, hg, hC, hs, h64, Bool.and_true, Bool.true_and, Bool.false_and, Bool.and_false, Bool.or_true, Bool.true_or, Bool.or_false, Bool.false_or])))
        · cases h128 : (bits .and .i64 N 128 == 0)
          · exact fl_mc f N C s4 s8 h12 w hf e12 hC e2 e4 e8 hg hs h64 h128 (KT h12 e12 4 (may_no (by simp only [mayE, e2, e4, e8, hg, hC, hs, h64, h128, Bool.and_true, Bool.true_and, Bool.false_and, Bool.and_false, Bool.or_true, Bool.true_or, Bool.or_false, Bool.false_or])))
          · skip
            cases h16 : (bits .and .i64 N 16 == 0)
            · cases h4 : (bits .and .i64 N 4 == 0)
              · exact fl_mac1 f N C _ s4 s8 h12 w hf e12 hC e2 e4 e8 hg hs h64 h128 h16 h4 (KT h12 e12 4 (may_no (by simp only [mayE, e2, e4, e8, hg, hC, hs, h64, h128, h16, h4, Bool.and_true, Bool.true_and, Bool.false_and, Bool.and_false, Bool.or_true, Bool.true_or, Bool.or_false, Bool.false_or])))
              · cases h8 : (bits .and .i64 N 8 == 0)
                · exact fl_mac3 f N C _ s4 s8 h12 w hf e12 hC e2 e4 e8 hg hs h64 h128 h16 h4 h8 (KT h12 e12 4 (may_no (by simp only [mayE, e2, e4, e8, hg, hC, hs, h64, h128, h16, h4, h8, Bool.and_true, Bool.true_and, Bool.false_and, Bool.and_false, Bool.or_true, Bool.true_or, Bool.or_false, Bool.false_or])))
                · exact fl_mac2 f N C _ s4 s8 h12 w hf e12 hC e2 e4 e8 hg hs h64 h128 h16 h4 h8 (KT h12 e12 0 (may_yes (by simp only [mayE, e2, e4, e8, hg, hC, hs, h64, h128, h16, h4, h8, Bool.and_true, Bool.true_and, Bool.false_and, Bool.and_false, Bool.or_true, Bool.true_or, Bool.or_false, Bool.false_or])))
            · cases h32 : (bits .and .i64 N 32 == 0)
              · cases h4 : (bits .and .i64 N 4 == 0)
                · exact fl_mab1 f N C _ s4 s8 h12 w hf e12 hC e2 e4 e8 hg hs h64 h128 h16 h32 h4 (KT h12 e12 4 (may_no (by simp only [mayE, e2, e4, e8, hg, hC, hs, h64, h128, h16, h32, h4, Bool.and_true, Bool.true_and, Bool.false_and, Bool.and_false, Bool.or_true, Bool.true_or, Bool.or_false, Bool.false_or])))
                · cases h8 : (bits .and .i64 N 8 == 0)
                  · exact fl_mab3 f N C _ s4 s8 h12 w hf e12 hC e2 e4 e8 hg hs h64 h128 h16 h32 h4 h8 (KT h12 e12 4 (may_no (by simp only [mayE, e2, e4, e8, hg, hC, hs, h64, h128, h16, h32, h4, h8, Bool.and_true, Bool.true_and, Bool.false_and, Bool.and_false, Bool.or_true, Bool.true_or, Bool.or_false, Bool.false_or])))
                  · exact fl_mab2 f N C _ s4 s8 h12 w hf e12 hC e2 e4 e8 hg hs h64 h128 h16 h32 h4 h8 (KT h12 e12 0 (may_yes (by simp only [mayE, e2, e4, e8, hg, hC, hs, h64, h128, h16, h32, h4, h8, Bool.and_true, Bool.true_and, Bool.false_and, Bool.and_false, Bool.or_true, Bool.true_or, Bool.or_false, Bool.false_or])))
              · exact fl_maa f N C _ s4 s8 h12 w hf e12 hC e2 e4 e8 hg hs h64 h128 h16 h32 (KT h12 e12 0 (may_yes (by simp only [mayE, e2, e4, e8, hg, hC, hs, h64, h128, h16, h32, Bool.and_true, Bool.true_and, Bool.false_and, Bool.and_false, Bool.or_true, Bool.true_or, Bool.or_false, Bool.false_or])))
  · obtain ⟨C, hC⟩ : ∃ C, cnt true s4 s8 3 = C := ⟨_, rfl⟩
    cases hg : decide (N < 256)
    · exact fl_r f N C _ s4 s8 h12 w hf e12 hC e2 e4 e8 hg (KT h12 e12 4 (may_no (by simp only [mayE, e2, e4, e8, hg, Bool.and_true, Bool.true_and, Bool.false_and, Bool.and_false, Bool.or_true, Bool.true_or, Bool.or_false, Bool.false_or])))
    · cases hs : decide (C ≤ 1)
      · exact fl_s f N C _ s4 s8 h12 w hf e12 hC e2 e4 e8 hg hs (KT h12 e12 4 (may_no (by simp only [mayE, e2, e4, e8, hg, hC, hs, Bool.and_true, Bool.true_and, Bool.false_and, Bool.and_false, Bool.or_true, Bool.true_or, Bool.or_false, Bool.false_or])))
      · cases h64 : (bits .and .i64 N 64 == 0)
        · skip
          cases h16 : (bits .and .i64 N 16 == 0)
          · cases h4 : (bits .and .i64 N 4 == 0)
            · exact fl_mdc1 f N C s4 s8 h12 w hf e12 hC e2 e4 e8 hg hs h64 h16 h4 (KT h12 e12 4 (may_no (by simp only [mayE, e2, e4, e8, hg, hC, hs, h64, h16, h4, Bool.and_true, Bool.true_and, Bool.false_and, Bool.and_false, Bool.or_true, Bool.true_or, Bool.or_false, Bool.false_or])))
            · cases h8 : (bits .and .i64 N 8 == 0)
              · exact fl_mdc3 f N C s4 s8 h12 w hf e12 hC e2 e4 e8 hg hs h64 h16 h4 h8 (KT h12 e12 4 (may_no (by simp only [mayE, e2, e4, e8, hg, hC, hs, h64, h16, h4, h8, Bool.and_true, Bool.true_and, Bool.false_and, Bool.and_false, Bool.or_true, Bool.true_or, Bool.or_false, Bool.false_or])))
              · exact fl_mdc2 f N C s4 s8 h12 w hf e12 hC e2 e4 e8 hg hs h64 h16 h4 h8 (KT h12 e12 0 (may_yes (by simp only [mayE, e2, e4, e8, hg, hC, hs, h64, h16, h4, h8, Bool.and_true, Bool.true_and, Bool.false_and, Bool.and_false, Bool.or_true, Bool.true_or, Bool.or_false, Bool.false_or])))
          · cases h32 : (bits .and .i64 N 32 == 0)
            · cases h4 : (bits .and .i64 N 4 == 0)
              · exact fl_mdb1 f N C s4 s8 h12 w hf e12 hC e2 e4 e8 hg hs h64 h16 h32 h4 (KT h12 e12 4 (may_no (by simp only [mayE, e2, e4, e8, hg, hC, hs, h64, h16, h32, h4, Bool.and_true, Bool.true_and, Bool.false_and, Bool.and_false, Bool.or_true, Bool.true_or, Bool.or_false, Bool.false_or])))
              · cases h8 : (bits .and .i64 N 8 == 0)
                · exact fl_mdb3 f N C s4 s8 h12 w hf e12 hC e2 e4 e8 hg hs h64 h16 h32 h4 h8 (KT h12 e12 4 (may_no (by simp only [mayE, e2, e4, e8, hg, hC, hs, h64, h16, h32, h4, h8, Bool.and_true, Bool.true_and, Bool.false_and, Bool.and_false, Bool.or_true, Bool.true_or, Bool.or_false, Bool.false_or])))
                · exact fl_mdb2 f N C s4 s8 h12 w hf e12 hC e2 e4 e8 hg hs h64 h16 h32 h4 h8 (KT h12 e12 0 (may_yes (by simp only [mayE, e2, e4, e8, hg, hC, hs, h64, h16, h32, h4, h8, Bool.and_true, Bool.true_and, Bool.false_and, Bool.and_false, Bool.or_true, Bool.true_or, Bool.or_false, Bool.false_or])))
            · exact fl_mda f N C s4 s8 h12 w hf e12 hC e2 e4 e8 hg hs h64 h16 h32 (KT h12 e12 0 (may_yes (by simp only [mayE, e2, e4, e8, hg, hC, hs, h64, h16, h32, Bool.and_true, Bool.true_and, Bool.false_and, Bool.and_false, Bool.or_true, Bool.true_or, Bool.or_false, Bool.false_or])))
        · cases h128 : (bits .and .i64 N 128 == 0)
          · skip
            cases h16 : (bits .and .i64 N 16 == 0)
            · cases h4 : (bits .and .i64 N 4 == 0)
              · exact fl_mbc1 f N C s4 s8 h12 w hf e12 hC e2 e4 e8 hg hs h64 h128 h16 h4 (KT h12 e12 4 (may_no (by simp only [mayE, e2, e4, e8, hg, hC, hs, h64, h128, h16, h4, Bool.and_true, Bool.true_and, Bool.false_and, Bool.and_false, Bool.or_true, Bool.true_or, Bool.or_false, Bool.false_or])))
              · cases h8 : (bits .and .i64 N 8 == 0)
                · exact fl_mbc3 f N C s4 s8 h12 w hf e12 hC e2 e4 e8 hg hs h64 h128 h16 h4 h8 (KT h12 e12 4 (may_no (by simp only [mayE, e2, e4, e8, hg, hC, hs, h64, h128, h16, h4, h8, Bool.and_true, Bool.true_and, Bool.false_and, Bool.and_false, Bool.or_true, Bool.true_or, Bool.or_false, Bool.false_or])))
                · exact fl_mbc2 f N C s4 s8 h12 w hf e12 hC e2 e4 e8 hg hs h64 h128 h16 h4 h8 (KT h12 e12 0 (may_yes (by simp only [mayE, e2, e4, e8, hg, hC, hs, h64, h128, h16, h4, h8, Bool.and_true, Bool.true_and, Bool.false_and, Bool.and_false, Bool.or_true, Bool.true_or, Bool.or_false, Bool.false_or])))
            · cases h32 : (bits .and .i64 N 32 == 0)
              · cases h4 : (bits .and .i64 N 4 == 0)
                · exact fl_mbb1 f N C s4 s8 h12 w hf e12 hC e2 e4 e8 hg hs h64 h128 h16 h32 h4 (KT h12 e12 4 (may_no (by simp only [mayE, e2, e4, e8, hg, hC, hs, h64, h128, h16, h32, h4, Bool.and_true, Bool.true_and, Bool.false_and, Bool.and_false, Bool.or_true, Bool.true_or, Bool.or_false, Bool.false_or])))
                · cases h8 : (bits .and .i64 N 8 == 0)
                  · exact fl_mbb3 f N C s4 s8 h12 w hf e12 hC e2 e4 e8 hg hs h64 h128 h16 h32 h4 h8 (KT h12 e12 4 (may_no (by simp only [mayE, e2, e4, e8, hg, hC, hs, h64, h128, h16, h32, h4, h8, Bool.and_true, Bool.true_and, Bool.false_and, Bool.and_false, Bool.or_true, Bool.true_or, Bool.or_false, Bool.false_or])))
                  · exact fl_mbb2 f N C s4 s8 h12 w hf e12 hC e2 e4 e8 hg hs h64 h128 h16 h32 h4 h8 (KT h12 e12 0 (may_yes (by simp only [mayE, e2, e4, e8, hg, hC, hs, h64, h128, h16, h32, h4, h8, Bool.and_true, Bool.true_and, Bool.false_and, Bool.and_false, Bool.or_true, Bool.true_or, Bool.or_false, Bool.false_or])))
              · exact fl_mba f N C s4 s8 h12 w hf e12 hC e2 e4 e8 hg hs h64 h128 h16 h32 (KT h12 e12 0 (may_yes (by simp only [mayE, e2, e4, e8, hg, hC, hs, h64, h128, h16, h32, Bool.and_true, Bool.true_and, Bool.false_and, Bool.and_false, Bool.or_true, Bool.true_or, Bool.or_false, Bool.false_or])))
          · skip
            cases h16 : (bits .and .i64 N 16 == 0)
            · cases h4 : (bits .and .i64 N 4 == 0)
              · exact fl_mac1 f N C _ s4 s8 h12 w hf e12 hC e2 e4 e8 hg hs h64 h128 h16 h4 (KT h12 e12 4 (may_no (by simp only [mayE, e2, e4, e8, hg, hC, hs, h64, h128, h16, h4, Bool.and_true, Bool.true_and, Bool.false_and, Bool.and_false, Bool.or_true, Bool.true_or, Bool.or_false, Bool.false_or])))
              · cases h8 : (bits .and .i64 N 8 == 0)
                · exact fl_mac3 f N C _ s4 s8 h12 w hf e12 hC e2 e4 e8 hg hs h64 h128 h16 h4 h8 (KT h12 e12 4 (may_no (by simp only [mayE, e2, e4, e8, hg, hC, hs, h64, h128, h16, h4, h8, Bool.and_true, Bool.true_and, Bool.false_and, Bool.and_false, Bool.or_true, Bool.true_or, Bool.or_false, Bool.false_or])))
                · exact fl_mac2 f N C _ s4 s8 h12 w hf e12 hC e2 e4 e8 hg hs h64 h128 h16 h4 h8 (KT h12 e12 0 (may_yes (by simp only [mayE, e2, e4, e8, hg, hC, hs, h64, h128, h16, h4, h8, Bool.and_true, Bool.true_and, Bool.false_and, Bool.and_false, Bool.or_true, Bool.true_or, Bool.or_false, Bool.false_or])))
            · cases h32 : (bits .and .i64 N 32 == 0)
              · cases h4 : (bits .and .i64 N 4 == 0)
                · exact fl_mab1 f N C _ s4 s8 h12 w hf e12 hC e2 e4 e8 hg hs h64 h128 h16 h32 h4 (KT h12 e12 4 (may_no (by simp only [mayE, e2, e4, e8, hg, hC, hs, h64, h128, h16, h32, h4, Bool.and_true, Bool.true_and, Bool.false_and, Bool.and_false, Bool.or_true, Bool.true_or, Bool.or_false, Bool.false_or])))
                · cases h8 : (bits .and .i64 N 8 == 0)
                  · exact fl_mab3 f N C _ s4 s8 h12 w hf e12 hC e2 e4 e8 hg hs h64 h128 h16 h32 h4 h8 (KT h12 e12 4 (may_no (by simp only [mayE, e2, e4, e8, hg, hC, hs, h64, h128, h16, h32, h4, h8, Bool.and_true, Bool.true_and, Bool.false_and, Bool.and_false, Bool.or_true, Bool.true_or, Bool.or_false, Bool.false_or])))
                  · exact fl_mab2 f N C _ s4 s8 h12 w hf e12 hC e2 e4 e8 hg hs h64 h128 h16 h32 h4 h8 (KT h12 e12 0 (may_yes (by simp only [mayE, e2, e4, e8, hg, hC, hs, h64, h128, h16, h32, h4, h8, Bool.and_true, Bool.true_and, Bool.false_and, Bool.and_false, Bool.or_true, Bool.true_or, Bool.or_false, Bool.false_or])))
              · exact fl_maa f N C _ s4 s8 h12 w hf e12 hC e2 e4 e8 hg hs h64 h128 h16 h32 (KT h12 e12 0 (may_yes (by simp only [mayE, e2, e4, e8, hg, hC, hs, h64, h128, h16, h32, Bool.and_true, Bool.true_and, Bool.false_and, Bool.and_false, Bool.or_true, Bool.true_or, Bool.or_false, Bool.false_or])))
end Go.Proofs.Ytkigdfpgdkgcaaa
