
/-
  Package rule: Room, Within.
-/
import Derived.Test.YtcflbicjghndoaaRuM
namespace Go.Proofs.Ytcflbicjghndoaa
open Go.RowKit
set_option maxRecDepth 100000
set_option linter.unusedVariables false
set_option linter.unusedSimpArgs false

theorem wpList_wr {ops : Array Oper} {rest : List Oper} {o : Oper} {a : Act} {w : World} {Q : Exit → Act → World → Prop} (hw : Region.wanted o (yielded ops a.tmps) = true) (h : o.wp Try.prog a w (wpList Try.prog ops Q rest) Q) : wpList Try.prog ops Q (o :: rest) a w := by
  unfold wpList
  rw [if_pos hw]
  exact Or.inl h
set_option maxHeartbeats 1000000 in
theorem room_any (X : Array Value) (fl a b c d e f g h : Int) (k : AcX X fl a b c d e f g h) (debit : Bool) (w : World) :
    Calls Try.prog 15 #[.agg X, .bool debit] w fun e' w' =>
      e' = .returned (.agg #[.int .u64 (roomN debit a b c d e f g h / 18446744073709551616), .int .u64 (roomN debit a b c d e f g h % 18446744073709551616)]) ∧ Below w.heap.size w w' := by
  have hu := fun w => unused_any X fl a b c d e f g h k debit w
  have HK : Hid (AcX X fl a b c d e f g h) := k
  have IX : Hid ((Try.prog.info? 36).map (·.size) = some X.size) := k.info
  generalize roomN debit a b c d e f g h = D at *
  generalize roomB debit a b c d e f g h = q at *
  have HU := (show Hid _ from hu)
  clear hu k
  have R0 : Hid (Blk ((w.alloc (.cells X 36)).alloc (.cells #[.int .u64 0, .int .u64 0] 24)) w.heap.size X 36) := (Blk.new w X 36 rfl).alloc _
  have R1 : Hid (Blk ((w.alloc (.cells X 36)).alloc (.cells #[.int .u64 0, .int .u64 0] 24)) (w.heap.size + 1) #[.int .u64 0, .int .u64 0] 24) := Blk.new _ _ _ (by simp)
  have B0 : Hid (Below w.heap.size w ((w.alloc (.cells X 36)).alloc (.cells #[.int .u64 0, .int .u64 0] 24))) := below2 w _ _
  go_enter Try.func15, Try.ntmps15
  go_wp2_with (refine wpList_load_row rfl 36 _ rfl w.heap.size rfl 36 X (0, 0) _ R0.out Try.underlying36 rfl IX.out ?_)
  refine (HU.out _).mono ?_
  rintro e' w2 ⟨rfl, hb2⟩
  have R4 := R1.out.later hb2
  have B2 := B0.out.trans (hb2.mono B0.out.size)
  have y0 := R4.cell 0
  have y1 := R4.cell 1
  have f0 := R4.frozen 0
  have f1 := R4.frozen 1
  simp only [List.getElem?_toArray, List.getElem?_cons_zero, List.getElem?_cons_succ] at y0 y1
  have z2 : w.heap.size + 1 < w2.heap.size := R4.lt
  clear hb2
  go_wp2
  refine bodyPost_ret (v := .agg #[.int .u64 (D / 18446744073709551616), .int .u64 (D % 18446744073709551616)]) ?_ rfl ⟨rfl, ?_⟩
  · have RF := ((R4.set 0 (.int .u64 (D / 18446744073709551616))).set 1 (.int .u64 (D % 18446744073709551616))).alloc (.cells #[.int .u64 (D / 18446744073709551616), .int .u64 (D % 18446744073709551616)] 24)
    have v0 := RF.cell 0
    have v1 := RF.cell 1
    simp at v0 v1
    simp [results, Try.results15, go_sem, v0, v1]
  · exact ((B2.setCell (p := ⟨w.heap.size + 1, 0, none⟩) (show w.heap.size ≤ w.heap.size + 1 by omega) _).setCell (p := ⟨w.heap.size + 1, 1, none⟩) (show w.heap.size ≤ w.heap.size + 1 by omega) _).alloc (by have := B2.size; simp; omega) _
set_option maxHeartbeats 1000000 in
theorem keeps_any (X : Array Value) (fl a b c d e f g h : Int) (k : AcX X fl a b c d e f g h) (lim : Int) (debit : Bool) (w : World) :
    Calls Try.prog 28 #[.agg X, .int .i64 lim, .bool debit] w fun e' w' =>
      e' = .returned (.bool (roomB debit a b c d e f g h || bits .and .i64 fl lim == 0)) ∧ Below w.heap.size w w' := by
  have hu := fun w => unused_any X fl a b c d e f g h k debit w
  have HK : Hid (AcX X fl a b c d e f g h) := k
  have IX : Hid ((Try.prog.info? 36).map (·.size) = some X.size) := k.info
  generalize roomN debit a b c d e f g h = D at *
  generalize roomB debit a b c d e f g h = q at *
  have HU := (show Hid _ from hu)
  clear hu k
  have R0 : Hid (Blk (w.alloc (.cells X 36)) w.heap.size X 36) := Blk.new w X 36 rfl
  have B0 : Hid (Below w.heap.size w (w.alloc (.cells X 36))) := below1 w _
  cases q
  all_goals
    go_enter Try.func28, Try.ntmps28
    go_wp2_with (refine wpList_load_row rfl 36 _ rfl w.heap.size rfl 36 X (0, 0) _ R0.out Try.underlying36 rfl IX.out ?_)
    refine (HU.out _).mono ?_
    rintro e' w2 ⟨rfl, hb2⟩
    have R4 := R0.out.later hb2
    have B2 := B0.out.trans (hb2.mono B0.out.size)
    have y3 := (R4.cell 3).trans HK.out.fl
    have z2 : w.heap.size < w2.heap.size := R4.lt
    clear hb2 R4
    go_wp2
    go_ret
    exact ⟨by simp, B2.alloc B2.size _⟩
/-- Is an account within its limits? -/
def withB (fl a b c d e f g h : Int) : Bool := (roomB true a b c d e f g h || bits .and .i64 fl 2 == 0) && (roomB false a b c d e f g h || bits .and .i64 fl 4 == 0)
set_option maxHeartbeats 1000000 in
theorem within_any (X : Array Value) (fl a b c d e f g h : Int) (k : AcX X fl a b c d e f g h) (w : World) :
    Calls Try.prog 17 #[.agg X] w fun e' w' => e' = .returned (.bool (withB fl a b c d e f g h)) ∧ Below w.heap.size w w' := by
  have k1 := fun w => keeps_any X fl a b c d e f g h k 2 true w
  have k2 := fun w => keeps_any X fl a b c d e f g h k 4 false w
  have IX : Hid ((Try.prog.info? 36).map (·.size) = some X.size) := k.info
  unfold withB
  generalize (roomB true a b c d e f g h || bits .and .i64 fl 2 == 0) = p at *
  generalize (roomB false a b c d e f g h || bits .and .i64 fl 4 == 0) = q at *
  have H1 := (show Hid _ from k1)
  have H2 := (show Hid _ from k2)
  have R0 : Hid (Blk (w.alloc (.cells X 36)) w.heap.size X 36) := Blk.new w X 36 rfl
  have B0 : Hid (Below w.heap.size w (w.alloc (.cells X 36))) := below1 w _
  clear k1 k2 k
  cases p
  · go_enter Try.func17, Try.ntmps17
    go_wp2_with (refine wpList_load_row rfl 36 _ rfl w.heap.size rfl 36 X (0, 0) _ R0.out Try.underlying36 rfl IX.out ?_)
    refine (H1.out _).mono ?_
    rintro e' w2 ⟨rfl, hb2⟩
    have B2 := B0.out.trans (hb2.mono B0.out.size)
    go_wp2
    go_ret
    exact ⟨rfl, B2⟩
  · go_enter Try.func17, Try.ntmps17
    go_wp2_with (refine wpList_load_row rfl 36 _ rfl w.heap.size rfl 36 X (0, 0) _ R0.out Try.underlying36 rfl IX.out ?_)
    refine (H1.out _).mono ?_
    rintro e' w2 ⟨rfl, hb2⟩
    have R2 : Hid (Blk w2 w.heap.size X 36) := R0.out.later hb2
    have B2 : Hid (Below w.heap.size w w2) := B0.out.trans (hb2.mono B0.out.size)
    clear hb2
    go_wp2_with (refine wpList_wr rfl (wp_load_row 36 _ rfl w.heap.size rfl 36 X (0, 0) _ R2.out Try.underlying36 rfl IX.out ?_))
    refine (H2.out _).mono ?_
    rintro e' w3 ⟨rfl, hb3⟩
    have B3 := B2.out.trans (hb3.mono B2.out.size)
    go_wp2
    go_ret
    exact ⟨rfl, B3⟩
end Go.Proofs.Ytcflbicjghndoaa
