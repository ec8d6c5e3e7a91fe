
/-
  Package rule: Repeat, by what holds of two transfers.
-/
import Derived.Test.YtkigdfpgdkgcaaaRuD
namespace Go.Proofs.Ytkigdfpgdkgcaaa
open Go.RowKit
set_option maxRecDepth 100000
set_option linter.unusedVariables false
set_option linter.unusedSimpArgs false

set_option maxHeartbeats 1000000 in
theorem rep_f (a0 a1 a2 a3 a4 a5 a6 a7 a8 a9 a10 a11 a12 a13 a14 a15 b0 b1 b2 b3 b4 b5 b6 b7 b8 b9 b10 b11 b12 b13 b14 b15 : Int) (w : World)(hf : (bits .andNot .i64 (bits .xor .i64 a12 b12) 1 != 0) = true) :
    Calls Try.prog 12 #[.agg #[.int .u64 a0, .int .u64 a1, .int .u64 a2, .int .u64 a3, .int .u64 a4, .int .u64 a5, .int .u64 a6, .int .u64 a7, .int .u64 a8, .int .u64 a9, .int .i64 a10, .int .i64 a11, .int .i64 a12, .int .i64 a13, .int .i64 a14, .int .i64 a15], .agg #[.int .u64 b0, .int .u64 b1, .int .u64 b2, .int .u64 b3, .int .u64 b4, .int .u64 b5, .int .u64 b6, .int .u64 b7, .int .u64 b8, .int .u64 b9, .int .i64 b10, .int .i64 b11, .int .i64 b12, .int .i64 b13, .int .i64 b14, .int .i64 b15]] w fun e w' => e = .returned (.int .i64 8) ∧ Below w.heap.size w w' := by
  go_enter Try.func12, Try.ntmps12
  go_wp2
  go_ret
  exact ⟨rfl, below2 w _ _⟩
set_option maxHeartbeats 1000000 in
theorem rep_D (a0 a1 a2 a3 a4 a5 a6 a7 a8 a9 a10 a11 a12 a13 a14 a15 b0 b1 b2 b3 b4 b5 b6 b7 b8 b9 b10 b11 b12 b13 b14 b15 : Int) (w : World)(hf : (bits .andNot .i64 (bits .xor .i64 a12 b12) 1 != 0) = false) (eD : ∀ w, (binOp .neq 24 (.agg #[.int .u64 a2, .int .u64 a3]) (.agg #[.int .u64 b2, .int .u64 b3])).run Try.prog w = .ok (.bool true) w) :
    Calls Try.prog 12 #[.agg #[.int .u64 a0, .int .u64 a1, .int .u64 a2, .int .u64 a3, .int .u64 a4, .int .u64 a5, .int .u64 a6, .int .u64 a7, .int .u64 a8, .int .u64 a9, .int .i64 a10, .int .i64 a11, .int .i64 a12, .int .i64 a13, .int .i64 a14, .int .i64 a15], .agg #[.int .u64 b0, .int .u64 b1, .int .u64 b2, .int .u64 b3, .int .u64 b4, .int .u64 b5, .int .u64 b6, .int .u64 b7, .int .u64 b8, .int .u64 b9, .int .i64 b10, .int .i64 b11, .int .i64 b12, .int .i64 b13, .int .i64 b14, .int .i64 b15]] w fun e w' => e = .returned (.int .i64 9) ∧ Below w.heap.size w w' := by
  go_enter Try.func12, Try.ntmps12
  go_wp2
  go_ret
  exact ⟨rfl, below2 w _ _⟩
set_option maxHeartbeats 1000000 in
theorem rep_C (a0 a1 a2 a3 a4 a5 a6 a7 a8 a9 a10 a11 a12 a13 a14 a15 b0 b1 b2 b3 b4 b5 b6 b7 b8 b9 b10 b11 b12 b13 b14 b15 : Int) (w : World)(hf : (bits .andNot .i64 (bits .xor .i64 a12 b12) 1 != 0) = false) (eD : ∀ w, (binOp .neq 24 (.agg #[.int .u64 a2, .int .u64 a3]) (.agg #[.int .u64 b2, .int .u64 b3])).run Try.prog w = .ok (.bool false) w) (eC : ∀ w, (binOp .neq 24 (.agg #[.int .u64 a4, .int .u64 a5]) (.agg #[.int .u64 b4, .int .u64 b5])).run Try.prog w = .ok (.bool true) w) :
    Calls Try.prog 12 #[.agg #[.int .u64 a0, .int .u64 a1, .int .u64 a2, .int .u64 a3, .int .u64 a4, .int .u64 a5, .int .u64 a6, .int .u64 a7, .int .u64 a8, .int .u64 a9, .int .i64 a10, .int .i64 a11, .int .i64 a12, .int .i64 a13, .int .i64 a14, .int .i64 a15], .agg #[.int .u64 b0, .int .u64 b1, .int .u64 b2, .int .u64 b3, .int .u64 b4, .int .u64 b5, .int .u64 b6, .int .u64 b7, .int .u64 b8, .int .u64 b9, .int .i64 b10, .int .i64 b11, .int .i64 b12, .int .i64 b13, .int .i64 b14, .int .i64 b15]] w fun e w' => e = .returned (.int .i64 10) ∧ Below w.heap.size w w' := by
  go_enter Try.func12, Try.ntmps12
  go_wp2
  go_ret
  exact ⟨rfl, below2 w _ _⟩
set_option maxHeartbeats 1000000 in
theorem rep_M (a0 a1 a2 a3 a4 a5 a6 a7 a8 a9 a10 a11 a12 a13 a14 a15 b0 b1 b2 b3 b4 b5 b6 b7 b8 b9 b10 b11 b12 b13 b14 b15 : Int) (w : World)(hf : (bits .andNot .i64 (bits .xor .i64 a12 b12) 1 != 0) = false) (eD : ∀ w, (binOp .neq 24 (.agg #[.int .u64 a2, .int .u64 a3]) (.agg #[.int .u64 b2, .int .u64 b3])).run Try.prog w = .ok (.bool false) w) (eC : ∀ w, (binOp .neq 24 (.agg #[.int .u64 a4, .int .u64 a5]) (.agg #[.int .u64 b4, .int .u64 b5])).run Try.prog w = .ok (.bool false) w) (eM : ∀ w, (binOp .neq 24 (.agg #[.int .u64 a6, .int .u64 a7]) (.agg #[.int .u64 b6, .int .u64 b7])).run Try.prog w = .ok (.bool true) w) :
    Calls Try.prog 12 #[.agg #[.int .u64 a0, .int .u64 a1, .int .u64 a2, .int .u64 a3, .int .u64 a4, .int .u64 a5, .int .u64 a6, .int .u64 a7, .int .u64 a8, .int .u64 a9, .int .i64 a10, .int .i64 a11, .int .i64 a12, .int .i64 a13, .int .i64 a14, .int .i64 a15], .agg #[.int .u64 b0, .int .u64 b1, .int .u64 b2, .int .u64 b3, .int .u64 b4, .int .u64 b5, .int .u64 b6, .int .u64 b7, .int .u64 b8, .int .u64 b9, .int .i64 b10, .int .i64 b11, .int .i64 b12, .int .i64 b13, .int .i64 b14, .int .i64 b15]] w fun e w' => e = .returned (.int .i64 11) ∧ Below w.heap.size w w' := by
  go_enter Try.func12, Try.ntmps12
  go_wp2
  go_ret
  exact ⟨rfl, below2 w _ _⟩
set_option maxHeartbeats 1000000 in
theorem rep_P (a0 a1 a2 a3 a4 a5 a6 a7 a8 a9 a10 a11 a12 a13 a14 a15 b0 b1 b2 b3 b4 b5 b6 b7 b8 b9 b10 b11 b12 b13 b14 b15 : Int) (w : World)(hf : (bits .andNot .i64 (bits .xor .i64 a12 b12) 1 != 0) = false) (eD : ∀ w, (binOp .neq 24 (.agg #[.int .u64 a2, .int .u64 a3]) (.agg #[.int .u64 b2, .int .u64 b3])).run Try.prog w = .ok (.bool false) w) (eC : ∀ w, (binOp .neq 24 (.agg #[.int .u64 a4, .int .u64 a5]) (.agg #[.int .u64 b4, .int .u64 b5])).run Try.prog w = .ok (.bool false) w) (eM : ∀ w, (binOp .neq 24 (.agg #[.int .u64 a6, .int .u64 a7]) (.agg #[.int .u64 b6, .int .u64 b7])).run Try.prog w = .ok (.bool false) w) (eP : ∀ w, (binOp .neq 24 (.agg #[.int .u64 a8, .int .u64 a9]) (.agg #[.int .u64 b8, .int .u64 b9])).run Try.prog w = .ok (.bool true) w) :
    Calls Try.prog 12 #[.agg #[.int .u64 a0, .int .u64 a1, .int .u64 a2, .int .u64 a3, .int .u64 a4, .int .u64 a5, .int .u64 a6, .int .u64 a7, .int .u64 a8, .int .u64 a9, .int .i64 a10, .int .i64 a11, .int .i64 a12, .int .i64 a13, .int .i64 a14, .int .i64 a15], .agg #[.int .u64 b0, .int .u64 b1, .int .u64 b2, .int .u64 b3, .int .u64 b4, .int .u64 b5, .int .u64 b6, .int .u64 b7, .int .u64 b8, .int .u64 b9, .int .i64 b10, .int .i64 b11, .int .i64 b12, .int .i64 b13, .int .i64 b14, .int .i64 b15]] w fun e w' => e = .returned (.int .i64 12) ∧ Below w.heap.size w w' := by
  go_enter Try.func12, Try.ntmps12
  go_wp2
  go_ret
  exact ⟨rfl, below2 w _ _⟩
set_option maxHeartbeats 1000000 in
theorem rep_t (a0 a1 a2 a3 a4 a5 a6 a7 a8 a9 a10 a11 a12 a13 a14 a15 b0 b1 b2 b3 b4 b5 b6 b7 b8 b9 b10 b11 b12 b13 b14 b15 : Int) (w : World)(hf : (bits .andNot .i64 (bits .xor .i64 a12 b12) 1 != 0) = false) (eD : ∀ w, (binOp .neq 24 (.agg #[.int .u64 a2, .int .u64 a3]) (.agg #[.int .u64 b2, .int .u64 b3])).run Try.prog w = .ok (.bool false) w) (eC : ∀ w, (binOp .neq 24 (.agg #[.int .u64 a4, .int .u64 a5]) (.agg #[.int .u64 b4, .int .u64 b5])).run Try.prog w = .ok (.bool false) w) (eM : ∀ w, (binOp .neq 24 (.agg #[.int .u64 a6, .int .u64 a7]) (.agg #[.int .u64 b6, .int .u64 b7])).run Try.prog w = .ok (.bool false) w) (eP : ∀ w, (binOp .neq 24 (.agg #[.int .u64 a8, .int .u64 a9]) (.agg #[.int .u64 b8, .int .u64 b9])).run Try.prog w = .ok (.bool false) w) (ht : (a10 != b10) = true) :
    Calls Try.prog 12 #[.agg #[.int .u64 a0, .int .u64 a1, .int .u64 a2, .int .u64 a3, .int .u64 a4, .int .u64 a5, .int .u64 a6, .int .u64 a7, .int .u64 a8, .int .u64 a9, .int .i64 a10, .int .i64 a11, .int .i64 a12, .int .i64 a13, .int .i64 a14, .int .i64 a15], .agg #[.int .u64 b0, .int .u64 b1, .int .u64 b2, .int .u64 b3, .int .u64 b4, .int .u64 b5, .int .u64 b6, .int .u64 b7, .int .u64 b8, .int .u64 b9, .int .i64 b10, .int .i64 b11, .int .i64 b12, .int .i64 b13, .int .i64 b14, .int .i64 b15]] w fun e w' => e = .returned (.int .i64 13) ∧ Below w.heap.size w w' := by
  go_enter Try.func12, Try.ntmps12
  go_wp2
  go_ret
  exact ⟨rfl, below2 w _ _⟩
set_option maxHeartbeats 1000000 in
theorem rep_l (a0 a1 a2 a3 a4 a5 a6 a7 a8 a9 a10 a11 a12 a13 a14 a15 b0 b1 b2 b3 b4 b5 b6 b7 b8 b9 b10 b11 b12 b13 b14 b15 : Int) (w : World)(hf : (bits .andNot .i64 (bits .xor .i64 a12 b12) 1 != 0) = false) (eD : ∀ w, (binOp .neq 24 (.agg #[.int .u64 a2, .int .u64 a3]) (.agg #[.int .u64 b2, .int .u64 b3])).run Try.prog w = .ok (.bool false) w) (eC : ∀ w, (binOp .neq 24 (.agg #[.int .u64 a4, .int .u64 a5]) (.agg #[.int .u64 b4, .int .u64 b5])).run Try.prog w = .ok (.bool false) w) (eM : ∀ w, (binOp .neq 24 (.agg #[.int .u64 a6, .int .u64 a7]) (.agg #[.int .u64 b6, .int .u64 b7])).run Try.prog w = .ok (.bool false) w) (eP : ∀ w, (binOp .neq 24 (.agg #[.int .u64 a8, .int .u64 a9]) (.agg #[.int .u64 b8, .int .u64 b9])).run Try.prog w = .ok (.bool false) w) (ht : (a10 != b10) = false) (hl : (a11 != b11) = true) :
    Calls Try.prog 12 #[.agg #[.int .u64 a0, .int .u64 a1, .int .u64 a2, .int .u64 a3, .int .u64 a4, .int .u64 a5, .int .u64 a6, .int .u64 a7, .int .u64 a8, .int .u64 a9, .int .i64 a10, .int .i64 a11, .int .i64 a12, .int .i64 a13, .int .i64 a14, .int .i64 a15], .agg #[.int .u64 b0, .int .u64 b1, .int .u64 b2, .int .u64 b3, .int .u64 b4, .int .u64 b5, .int .u64 b6, .int .u64 b7, .int .u64 b8, .int .u64 b9, .int .i64 b10, .int .i64 b11, .int .i64 b12, .int .i64 b13, .int .i64 b14, .int .i64 b15]] w fun e w' => e = .returned (.int .i64 7) ∧ Below w.heap.size w w' := by
  go_enter Try.func12, Try.ntmps12
  go_wp2
  go_ret
  exact ⟨rfl, below2 w _ _⟩
set_option maxHeartbeats 1000000 in
theorem rep_s (a0 a1 a2 a3 a4 a5 a6 a7 a8 a9 a10 a11 a12 a13 a14 a15 b0 b1 b2 b3 b4 b5 b6 b7 b8 b9 b10 b11 b12 b13 b14 b15 : Int) (w : World)(hf : (bits .andNot .i64 (bits .xor .i64 a12 b12) 1 != 0) = false) (eD : ∀ w, (binOp .neq 24 (.agg #[.int .u64 a2, .int .u64 a3]) (.agg #[.int .u64 b2, .int .u64 b3])).run Try.prog w = .ok (.bool false) w) (eC : ∀ w, (binOp .neq 24 (.agg #[.int .u64 a4, .int .u64 a5]) (.agg #[.int .u64 b4, .int .u64 b5])).run Try.prog w = .ok (.bool false) w) (eM : ∀ w, (binOp .neq 24 (.agg #[.int .u64 a6, .int .u64 a7]) (.agg #[.int .u64 b6, .int .u64 b7])).run Try.prog w = .ok (.bool false) w) (eP : ∀ w, (binOp .neq 24 (.agg #[.int .u64 a8, .int .u64 a9]) (.agg #[.int .u64 b8, .int .u64 b9])).run Try.prog w = .ok (.bool false) w) (ht : (a10 != b10) = false) (hl : (a11 != b11) = false) :
    Calls Try.prog 12 #[.agg #[.int .u64 a0, .int .u64 a1, .int .u64 a2, .int .u64 a3, .int .u64 a4, .int .u64 a5, .int .u64 a6, .int .u64 a7, .int .u64 a8, .int .u64 a9, .int .i64 a10, .int .i64 a11, .int .i64 a12, .int .i64 a13, .int .i64 a14, .int .i64 a15], .agg #[.int .u64 b0, .int .u64 b1, .int .u64 b2, .int .u64 b3, .int .u64 b4, .int .u64 b5, .int .u64 b6, .int .u64 b7, .int .u64 b8, .int .u64 b9, .int .i64 b10, .int .i64 b11, .int .i64 b12, .int .i64 b13, .int .i64 b14, .int .i64 b15]] w fun e w' => e = .returned (.int .i64 14) ∧ Below w.heap.size w w' := by
  go_enter Try.func12, Try.ntmps12
  go_wp2
  go_ret
  exact ⟨rfl, below2 w _ _⟩

/-- In what two transfers part, by what holds: other flags; like debits, credits, amounts, pending ones; unlike timeouts, ledgers. -/
def repV (f d c m p t l : Bool) : Int := if f then 8 else if !d then 9 else if !c then 10 else if !m then 11 else if !p then 12 else if t then 13 else if l then 7 else 14
theorem repeat_any (f d c m p t l : Bool) (a0 a1 a2 a3 a4 a5 a6 a7 a8 a9 a10 a11 a12 a13 a14 a15 b0 b1 b2 b3 b4 b5 b6 b7 b8 b9 b10 b11 b12 b13 b14 b15 : Int) (w : World) (hf : (bits .andNot .i64 (bits .xor .i64 a12 b12) 1 != 0) = f) (hd : (a2 == b2 && a3 == b3) = d) (hc : (a4 == b4 && a5 == b5) = c) (hm : (a6 == b6 && a7 == b7) = m) (hp : (a8 == b8 && a9 == b9) = p) (ht : (a10 != b10) = t) (hl : (a11 != b11) = l) :
    Calls Try.prog 12 #[.agg #[.int .u64 a0, .int .u64 a1, .int .u64 a2, .int .u64 a3, .int .u64 a4, .int .u64 a5, .int .u64 a6, .int .u64 a7, .int .u64 a8, .int .u64 a9, .int .i64 a10, .int .i64 a11, .int .i64 a12, .int .i64 a13, .int .i64 a14, .int .i64 a15], .agg #[.int .u64 b0, .int .u64 b1, .int .u64 b2, .int .u64 b3, .int .u64 b4, .int .u64 b5, .int .u64 b6, .int .u64 b7, .int .u64 b8, .int .u64 b9, .int .i64 b10, .int .i64 b11, .int .i64 b12, .int .i64 b13, .int .i64 b14, .int .i64 b15]] w fun e w' => e = .returned (.int .i64 (repV f d c m p t l)) ∧ Below w.heap.size w w' := by
  have eD := num_neq _ _ _ _ d hd
  have eC := num_neq _ _ _ _ c hc
  have eM := num_neq _ _ _ _ m hm
  have eP := num_neq _ _ _ _ p hp
  cases f
  · cases d
    · exact rep_D a0 a1 a2 a3 a4 a5 a6 a7 a8 a9 a10 a11 a12 a13 a14 a15 b0 b1 b2 b3 b4 b5 b6 b7 b8 b9 b10 b11 b12 b13 b14 b15 w hf eD
    · cases c
      · exact rep_C a0 a1 a2 a3 a4 a5 a6 a7 a8 a9 a10 a11 a12 a13 a14 a15 b0 b1 b2 b3 b4 b5 b6 b7 b8 b9 b10 b11 b12 b13 b14 b15 w hf eD eC
      · cases m
        · exact rep_M a0 a1 a2 a3 a4 a5 a6 a7 a8 a9 a10 a11 a12 a13 a14 a15 b0 b1 b2 b3 b4 b5 b6 b7 b8 b9 b10 b11 b12 b13 b14 b15 w hf eD eC eM
        · cases p
          · exact rep_P a0 a1 a2 a3 a4 a5 a6 a7 a8 a9 a10 a11 a12 a13 a14 a15 b0 b1 b2 b3 b4 b5 b6 b7 b8 b9 b10 b11 b12 b13 b14 b15 w hf eD eC eM eP
          · cases t
            · cases l
              · exact rep_s a0 a1 a2 a3 a4 a5 a6 a7 a8 a9 a10 a11 a12 a13 a14 a15 b0 b1 b2 b3 b4 b5 b6 b7 b8 b9 b10 b11 b12 b13 b14 b15 w hf eD eC eM eP ht hl
              · exact rep_l a0 a1 a2 a3 a4 a5 a6 a7 a8 a9 a10 a11 a12 a13 a14 a15 b0 b1 b2 b3 b4 b5 b6 b7 b8 b9 b10 b11 b12 b13 b14 b15 w hf eD eC eM eP ht hl
            · exact rep_t a0 a1 a2 a3 a4 a5 a6 a7 a8 a9 a10 a11 a12 a13 a14 a15 b0 b1 b2 b3 b4 b5 b6 b7 b8 b9 b10 b11 b12 b13 b14 b15 w hf eD eC eM eP ht
  · exact rep_f a0 a1 a2 a3 a4 a5 a6 a7 a8 a9 a10 a11 a12 a13 a14 a15 b0 b1 b2 b3 b4 b5 b6 b7 b8 b9 b10 b11 b12 b13 b14 b15 w hf
end Go.Proofs.Ytkigdfpgdkgcaaa
