
/-
  Stage 10's anchor.
-/
import Derived.Test.YtcahmldgkkcheaaDoorRoC
set_option maxRecDepth 100000
namespace Go.Proofs.YtcahmldgkkcheaaDoor
open Go.RowKit
set_option linter.unusedVariables false
set_option linter.unusedSimpArgs false

theorem uof_any (x : Int) (w : World) : Calls Tryd.prog 23 #[.int .u64 x] w fun e w' => e = .returned (.agg #[.int .u64 0, .int .u64 x]) ∧ Below w.heap.size w w' := by
  go_enter Tryd.func23, Tryd.ntmps23
  go_wp2
  refine bodyPost_ret (v := .agg #[.int .u64 0, .int .u64 x]) (results_cell_row Tryd.results23 _ _ w.heap.size 32 #[.int .u64 0, .int .u64 x] (0, 0) _ ?hp ?hg Tryd.underlying32 rfl (by kernel_rfl)) rfl ⟨rfl, below1 w _⟩
  case hp => rfl
  case hg => exact heap_alloc_new w _
theorem rc_time (a : Rc) (w : World) : (Instr.field 34 (.agg a.cs) 1).run Tryd.prog w = .ok (.int .i64 a.tm) w := by
  unfold Rc.cs
  kernel_rfl
def fitR : List Rc := [⟨0, 0, 2, 0, 0, 0, 0, 0, 0, 0, 0, 0, 0, 0⟩, ⟨0, 0, 5, 0, 0, 1, 0, 0, 0, 0, 0, 0, 0, 0⟩, ⟨0, 0, 9, 0, 0, 2, 0, 0, 0, 0, 0, 0, 0, 0⟩]
set_option maxHeartbeats 4000000 in
theorem fit10_any (w : World) (ht : Tab w) : Calls Tryd.prog 9 #[] w fun e w' => e = .returned (.bool true) ∧ Below w.heap.size w w' := by
  have HT : Hid (Tab w) := ht
  have hls0 := (ls_new w rfl w.heap.size (Nat.le_refl _)).later (below1 (w.alloc (.cells #[.slice none 0 0] 56)) (.cells #[.int .i64 2, .int .i64 5, .int .i64 9] 3))
  have r1 := Row.new (w.alloc (.cells #[.slice none 0 0] 56)) #[.int .i64 2, .int .i64 5, .int .i64 9] 3 (b := w.heap.size + 1) (by simp)
  have b0 := below2 w (.cells #[.slice none 0 0] 56) (.cells #[.int .i64 2, .int .i64 5, .int .i64 9] 3)
  have hR0 : LsAt ((w.alloc (.cells #[.slice none 0 0] 56)).alloc (.cells #[.int .i64 2, .int .i64 5, .int .i64 9] 3)) w.heap.size w.heap.size (fitR.take 0) ∧ Row ((w.alloc (.cells #[.slice none 0 0] 56)).alloc (.cells #[.int .i64 2, .int .i64 5, .int .i64 9] 3)) (w.heap.size + 1) #[.int .i64 2, .int .i64 5, .int .i64 9] 3 ∧ Below w.heap.size w ((w.alloc (.cells #[.slice none 0 0] 56)).alloc (.cells #[.int .i64 2, .int .i64 5, .int .i64 9] 3)) := ⟨hls0, r1, b0⟩
  clear hls0 r1 b0 ht
  go_enter Tryd.func9, Tryd.ntmps9
  go_wp2
  go_loopw [8] (fun i wr => ∃ k : Nat, k ≤ 3 ∧ i = .int .i64 k ∧ LsAt wr w.heap.size w.heap.size (fitR.take k) ∧ Row wr (w.heap.size + 1) #[.int .i64 2, .int .i64 5, .int .i64 9] 3 ∧ Below w.heap.size w wr) (fun i _ => 3 - (intOf i).toNat)
  case atStart => exact ⟨0, by omega, rfl, hR0⟩
  case round =>
    clear hR0
    obtain ⟨k, hk, rfl, hls, hr, hbr⟩ := hrel
    have z0 := hr.cell 0
    have z1 := hr.cell 1
    have z2 := hr.cell 2
    simp only [List.getElem?_toArray, List.getElem?_cons_zero, List.getElem?_cons_succ] at z0 z1 z2
    have zl := hr.lt
    have HLS : Hid (LsAt wr w.heap.size w.heap.size (fitR.take k)) := hls
    have HR : Hid (Row wr (w.heap.size + 1) #[.int .i64 2, .int .i64 5, .int .i64 9] 3) := hr
    have HBR := (show Hid _ from hbr)
    clear hls hr hbr
    rcases (show k = 0 ∨ k = 1 ∨ k = 2 ∨ k = 3 by omega) with rfl | rfl | rfl | rfl
    · skip
      go_wp2_with fail
      refine (uof_any 0 wr).mono ?_
      rintro e w5 ⟨rfl, hb5⟩
      have BW5 : Hid (Below w.heap.size w w5) := HBR.out.trans (hb5.mono HBR.out.size)
      have HL5 : Hid (LsAt w5 w.heap.size w.heap.size (fitR.take 0)) := HLS.out.later hb5
      have HR5 : Hid (Row w5 (w.heap.size + 1) #[.int .i64 2, .int .i64 5, .int .i64 9] 3) := HR.out.later hb5
      clear hb5 z0 z1 z2 zl
      go_wp2_with fail
      refine (ladd_any w5 w.heap.size w.heap.size (fitR.take 0) ⟨0, 0, 2, 0, 0, 0, 0, 0, 0, 0, 0, 0, 0, 0⟩ HL5.out BW5.out.size (by decide)).mono ?_
      rintro e w6 ⟨rfl, hl6, hb6, hs6⟩
      have hF : LsAt w6 w.heap.size w.heap.size (fitR.take (0 + 1)) ∧ Row w6 (w.heap.size + 1) #[.int .i64 2, .int .i64 5, .int .i64 9] 3 ∧ Below w.heap.size w w6 := ⟨hl6, hs6.row HR5.out (by decide) (by omega), BW5.out.trans hb6⟩
      clear hl6 hb6 hs6
      go_wp2
      go_roundw
      case rel => exact ⟨0 + 1, by omega, rfl, hF⟩
      case measure => simp [intOf]
    · skip
      go_wp2_with fail
      refine (uof_any 1 wr).mono ?_
      rintro e w5 ⟨rfl, hb5⟩
      have BW5 : Hid (Below w.heap.size w w5) := HBR.out.trans (hb5.mono HBR.out.size)
      have HL5 : Hid (LsAt w5 w.heap.size w.heap.size (fitR.take 1)) := HLS.out.later hb5
      have HR5 : Hid (Row w5 (w.heap.size + 1) #[.int .i64 2, .int .i64 5, .int .i64 9] 3) := HR.out.later hb5
      clear hb5 z0 z1 z2 zl
      go_wp2_with fail
      refine (ladd_any w5 w.heap.size w.heap.size (fitR.take 1) ⟨0, 0, 5, 0, 0, 1, 0, 0, 0, 0, 0, 0, 0, 0⟩ HL5.out BW5.out.size (by decide)).mono ?_
      rintro e w6 ⟨rfl, hl6, hb6, hs6⟩
      have hF : LsAt w6 w.heap.size w.heap.size (fitR.take (1 + 1)) ∧ Row w6 (w.heap.size + 1) #[.int .i64 2, .int .i64 5, .int .i64 9] 3 ∧ Below w.heap.size w w6 := ⟨hl6, hs6.row HR5.out (by decide) (by omega), BW5.out.trans hb6⟩
      clear hl6 hb6 hs6
      go_wp2
      go_roundw
      case rel => exact ⟨1 + 1, by omega, rfl, hF⟩
      case measure => simp [intOf]
    · skip
      go_wp2_with fail
      refine (uof_any 2 wr).mono ?_
      rintro e w5 ⟨rfl, hb5⟩
      have BW5 : Hid (Below w.heap.size w w5) := HBR.out.trans (hb5.mono HBR.out.size)
      have HL5 : Hid (LsAt w5 w.heap.size w.heap.size (fitR.take 2)) := HLS.out.later hb5
      have HR5 : Hid (Row w5 (w.heap.size + 1) #[.int .i64 2, .int .i64 5, .int .i64 9] 3) := HR.out.later hb5
      clear hb5 z0 z1 z2 zl
      go_wp2_with fail
      refine (ladd_any w5 w.heap.size w.heap.size (fitR.take 2) ⟨0, 0, 9, 0, 0, 2, 0, 0, 0, 0, 0, 0, 0, 0⟩ HL5.out BW5.out.size (by decide)).mono ?_
      rintro e w6 ⟨rfl, hl6, hb6, hs6⟩
      have hF : LsAt w6 w.heap.size w.heap.size (fitR.take (2 + 1)) ∧ Row w6 (w.heap.size + 1) #[.int .i64 2, .int .i64 5, .int .i64 9] 3 ∧ Below w.heap.size w w6 := ⟨hl6, hs6.row HR5.out (by decide) (by omega), BW5.out.trans hb6⟩
      clear hl6 hb6 hs6
      go_wp2
      go_roundw
      case rel => exact ⟨2 + 1, by omega, rfl, hF⟩
      case measure => simp [intOf]
    · clear z0 z1 z2 zl HR
      go_wp2_with fail
      refine (span_any wr w.heap.size w.heap.size (fitR.take 3) 3 9 1 HLS.out (by decide) (by omega) (by omega)).mono ?_
      rintro e w5 ⟨rfl, hw5⟩
      obtain rfl := hw5
      rw [show spanF (fitR.take 3) 3 = 1 by decide, show spanC (fitR.take 3) 3 9 1 = 1 by decide]
      go_wp2_with fail
      refine (lslen_any w5 w.heap.size w.heap.size (fitR.take 3) HLS.out).mono ?_
      rintro e w6 ⟨rfl, hw6⟩
      obtain rfl := hw6
      rw [show (fitR.take 3).length = 3 by decide]
      go_wp2_with fail
      refine (lsat_any w6 w.heap.size w.heap.size (fitR.take 3) 1 (by decide) (by decide) HLS.out).mono ?_
      rintro e w7 ⟨rfl, hb7⟩
      have hfd := rc_time ((fitR.take 3).getD 1 Rc.z)
      rw [show ((fitR.take 3).getD 1 Rc.z).tm = 5 from rfl] at hfd
      generalize ((fitR.take 3).getD 1 Rc.z).cs = c1 at *
      have BW7 : Hid (Below w.heap.size w w7) := HBR.out.trans (hb7.mono HBR.out.size)
      clear hb7
      go_wp2_with fail
      refine (root_nil _ [] w7 (by simp) (HsAt.nil _ 0 (Nat.zero_le _) none) (HT.out.later BW7.out)).mono ?_
      rintro e w8 ⟨rfl, hb8⟩
      rw [rootL_nil]
      have BW8 : Hid (Below w.heap.size w w8) := BW7.out.trans (hb8.mono BW7.out.size)
      clear hb8
      go_wp2_with fail
      refine (of_e _ [] [] w8 (parts0 _) rfl (by simp) (HT.out.later BW8.out)).mono ?_
      rintro e w9 ⟨rfl, hb9⟩
      have BW9 : Hid (Below w.heap.size w w9) := BW8.out.trans (hb9.mono BW8.out.size)
      clear hb9
      have eEE := hash_same (hsh []) (hsh_32 []).1
      generalize bytesL (hsh []) = re at *
      go_wp2
      go_ret
      exact ⟨rfl, BW9.out⟩
end Go.Proofs.YtcahmldgkkcheaaDoor
