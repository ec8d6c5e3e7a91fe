
/-
  An account is equal to itself, and so is a row. (Made by tools/accgen.py.)
-/
import Derived.Test.YtekpkbmelhgneaaWiRt
import Derived.Test.YtekpkbmelhgneaaWiS
import Derived.Test.YtekpkbmelhgneaaWiT
namespace Go.Proofs.Ytekpkbmelhgneaa
open Go.RowKit
set_option maxRecDepth 100000
set_option linter.unusedSimpArgs false
set_option linter.unusedVariables false

theorem hash_self (d : Nat) (l : List Nat) (hl : l.length = 32) (w : World) : (Op.equalIn (d + 2) 40 (.agg (bytesL l)) (.agg (bytesL l))).run Try.prog w = .ok true w := by
  obtain ⟨i, hi, _⟩ := info_u8'
  rw [run_equalIn_array w (d + 1) _ _ Try.underlying40 hi, cells_u8', run_eqItems_u8 d _ _ w _ (fun j hj => by simpa [hl] using hj)]
  simp
theorem hash_lit32 (x0 x1 x2 x3 x4 x5 x6 x7 x8 x9 x10 x11 x12 x13 x14 x15 x16 x17 x18 x19 x20 x21 x22 x23 x24 x25 x26 x27 x28 x29 x30 x31 : Nat) (w : World) : (Op.equalIn 9999 40 (.agg #[.int .u8 (x0 : Nat), .int .u8 (x1 : Nat), .int .u8 (x2 : Nat), .int .u8 (x3 : Nat), .int .u8 (x4 : Nat), .int .u8 (x5 : Nat), .int .u8 (x6 : Nat), .int .u8 (x7 : Nat), .int .u8 (x8 : Nat), .int .u8 (x9 : Nat), .int .u8 (x10 : Nat), .int .u8 (x11 : Nat), .int .u8 (x12 : Nat), .int .u8 (x13 : Nat), .int .u8 (x14 : Nat), .int .u8 (x15 : Nat), .int .u8 (x16 : Nat), .int .u8 (x17 : Nat), .int .u8 (x18 : Nat), .int .u8 (x19 : Nat), .int .u8 (x20 : Nat), .int .u8 (x21 : Nat), .int .u8 (x22 : Nat), .int .u8 (x23 : Nat), .int .u8 (x24 : Nat), .int .u8 (x25 : Nat), .int .u8 (x26 : Nat), .int .u8 (x27 : Nat), .int .u8 (x28 : Nat), .int .u8 (x29 : Nat), .int .u8 (x30 : Nat), .int .u8 (x31 : Nat)]) (.agg #[.int .u8 (x0 : Nat), .int .u8 (x1 : Nat), .int .u8 (x2 : Nat), .int .u8 (x3 : Nat), .int .u8 (x4 : Nat), .int .u8 (x5 : Nat), .int .u8 (x6 : Nat), .int .u8 (x7 : Nat), .int .u8 (x8 : Nat), .int .u8 (x9 : Nat), .int .u8 (x10 : Nat), .int .u8 (x11 : Nat), .int .u8 (x12 : Nat), .int .u8 (x13 : Nat), .int .u8 (x14 : Nat), .int .u8 (x15 : Nat), .int .u8 (x16 : Nat), .int .u8 (x17 : Nat), .int .u8 (x18 : Nat), .int .u8 (x19 : Nat), .int .u8 (x20 : Nat), .int .u8 (x21 : Nat), .int .u8 (x22 : Nat), .int .u8 (x23 : Nat), .int .u8 (x24 : Nat), .int .u8 (x25 : Nat), .int .u8 (x26 : Nat), .int .u8 (x27 : Nat), .int .u8 (x28 : Nat), .int .u8 (x29 : Nat), .int .u8 (x30 : Nat), .int .u8 (x31 : Nat)])).run Try.prog w = .ok true w :=
  hash_self 9997 [x0, x1, x2, x3, x4, x5, x6, x7, x8, x9, x10, x11, x12, x13, x14, x15, x16, x17, x18, x19, x20, x21, x22, x23, x24, x25, x26, x27, x28, x29, x30, x31] rfl w
theorem list32 {t : List Nat} (h : t.length = 32) : ∃ x0 x1 x2 x3 x4 x5 x6 x7 x8 x9 x10 x11 x12 x13 x14 x15 x16 x17 x18 x19 x20 x21 x22 x23 x24 x25 x26 x27 x28 x29 x30 x31, t = [x0, x1, x2, x3, x4, x5, x6, x7, x8, x9, x10, x11, x12, x13, x14, x15, x16, x17, x18, x19, x20, x21, x22, x23, x24, x25, x26, x27, x28, x29, x30, x31] := by
  match t, h with
  | [x0, x1, x2, x3, x4, x5, x6, x7, x8, x9, x10, x11, x12, x13, x14, x15, x16, x17, x18, x19, x20, x21, x22, x23, x24, x25, x26, x27, x28, x29, x30, x31], _ => exact ⟨x0, x1, x2, x3, x4, x5, x6, x7, x8, x9, x10, x11, x12, x13, x14, x15, x16, x17, x18, x19, x20, x21, x22, x23, x24, x25, x26, x27, x28, x29, x30, x31, rfl⟩
set_option maxHeartbeats 4000000 in
theorem acc_same (a : Aq) (t : List Nat) (h : t.length = 32) (w : World) : (binOp .eql 42 (.agg (a.cells t)) (.agg (a.cells t))).run Try.prog w = .ok (.bool true) w := by
  obtain ⟨x0, x1, x2, x3, x4, x5, x6, x7, x8, x9, x10, x11, x12, x13, x14, x15, x16, x17, x18, x19, x20, x21, x22, x23, x24, x25, x26, x27, x28, x29, x30, x31, rfl⟩ := list32 h
  have e : a.cells [x0, x1, x2, x3, x4, x5, x6, x7, x8, x9, x10, x11, x12, x13, x14, x15, x16, x17, x18, x19, x20, x21, x22, x23, x24, x25, x26, x27, x28, x29, x30, x31] = #[.int .u64 a.hi, .int .u64 a.lo, .int .i64 a.led, .int .i64 a.fl, .int .u64 a.h1, .int .u64 a.l1, .int .u64 a.h2, .int .u64 a.l2, .int .u64 a.h3, .int .u64 a.l3, .int .u64 a.h4, .int .u64 a.l4, .int .i64 a.tm, .int .i64 a.un, .int .u8 (x0 : Nat), .int .u8 (x1 : Nat), .int .u8 (x2 : Nat), .int .u8 (x3 : Nat), .int .u8 (x4 : Nat), .int .u8 (x5 : Nat), .int .u8 (x6 : Nat), .int .u8 (x7 : Nat), .int .u8 (x8 : Nat), .int .u8 (x9 : Nat), .int .u8 (x10 : Nat), .int .u8 (x11 : Nat), .int .u8 (x12 : Nat), .int .u8 (x13 : Nat), .int .u8 (x14 : Nat), .int .u8 (x15 : Nat), .int .u8 (x16 : Nat), .int .u8 (x17 : Nat), .int .u8 (x18 : Nat), .int .u8 (x19 : Nat), .int .u8 (x20 : Nat), .int .u8 (x21 : Nat), .int .u8 (x22 : Nat), .int .u8 (x23 : Nat), .int .u8 (x24 : Nat), .int .u8 (x25 : Nat), .int .u8 (x26 : Nat), .int .u8 (x27 : Nat), .int .u8 (x28 : Nat), .int .u8 (x29 : Nat), .int .u8 (x30 : Nat), .int .u8 (x31 : Nat)] := by simp [Aq.cells, bytesL]
  have hh := hash_lit32 x0 x1 x2 x3 x4 x5 x6 x7 x8 x9 x10 x11 x12 x13 x14 x15 x16 x17 x18 x19 x20 x21 x22 x23 x24 x25 x26 x27 x28 x29 x30 x31
  rw [e]
  clear e h
  simp [go_sem, hh]
set_option maxHeartbeats 4000000 in
theorem row_same (a : Rw) (w : World) : (binOp .eql 44 (.agg a.cells) (.agg a.cells)).run Try.prog w = .ok (.bool true) w := by
  unfold Rw.cells
  simp [go_sem]
end Go.Proofs.Ytekpkbmelhgneaa
