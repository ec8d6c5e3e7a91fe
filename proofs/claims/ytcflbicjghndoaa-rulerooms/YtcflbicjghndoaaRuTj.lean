
/-
  The walk of paciolilaw09.RuleRooms, for an account and a number as arguments.
-/
import Derived.Test.YtcflbicjghndoaaRuT
import Derived.Test.YtcflbicjghndoaaRuLj
namespace Go.Proofs.Ytcflbicjghndoaa
open Go.RowKit
set_option maxRecDepth 100000
set_option linter.unusedVariables false
set_option linter.unusedSimpArgs false

theorem law_rooms' (a0 a1 a2 a3 a4 a5 a6 a7 a8 a9 a10 a11 a12 a13 a14 a15 a16 a17 a18 a19 a20 a21 a22 a23 a24 a25 a26 a27 a28 a29 a30 a31 a32 a33 a34 a35 a36 a37 a38 a39 a40 a41 a42 a43 a44 a45 b0 b1 : Int) (w : World) (h : Word a0 ∧ Word a1 ∧ I64 a2 ∧ I64 a3 ∧ Word a4 ∧ Word a5 ∧ Word a6 ∧ Word a7 ∧ Word a8 ∧ Word a9 ∧ Word a10 ∧ Word a11 ∧ I64 a12 ∧ I64 a13) (hb : Word b0 ∧ Word b1) :
    Calls Try.prog 5 #[.agg #[.int .u64 a0, .int .u64 a1, .int .i64 a2, .int .i64 a3, .int .u64 a4, .int .u64 a5, .int .u64 a6, .int .u64 a7, .int .u64 a8, .int .u64 a9, .int .u64 a10, .int .u64 a11, .int .i64 a12, .int .i64 a13, .int .u8 a14, .int .u8 a15, .int .u8 a16, .int .u8 a17, .int .u8 a18, .int .u8 a19, .int .u8 a20, .int .u8 a21, .int .u8 a22, .int .u8 a23, .int .u8 a24, .int .u8 a25, .int .u8 a26, .int .u8 a27, .int .u8 a28, .int .u8 a29, .int .u8 a30, .int .u8 a31, .int .u8 a32, .int .u8 a33, .int .u8 a34, .int .u8 a35, .int .u8 a36, .int .u8 a37, .int .u8 a38, .int .u8 a39, .int .u8 a40, .int .u8 a41, .int .u8 a42, .int .u8 a43, .int .u8 a44, .int .u8 a45], .agg #[.int .u64 b0, .int .u64 b1]] w fun e' w' => e' = .returned (.bool true) ∧ Below w.heap.size w w' :=
  law_rooms _ _ _ _ _ _ _ _ _ _ _ _ (acx_of a0 a1 a2 a3 a4 a5 a6 a7 a8 a9 a10 a11 a12 a13 a14 a15 a16 a17 a18 a19 a20 a21 a22 a23 a24 a25 a26 a27 a28 a29 a30 a31 a32 a33 a34 a35 a36 a37 a38 a39 a40 a41 a42 a43 a44 a45 h _ rfl) hb.1 hb.2 w
end Go.Proofs.Ytcflbicjghndoaa
