
/-
  sha.Of with no tape: for all parts of together at most a million bytes it is the hash of all of them, one behind the other; the anchor holds.
-/
import Derived.Test.YtepohpniflmblaaDoorShH
import Derived.Lib.SmallJoins
namespace Go.Proofs.YtepohpniflmblaaDoor
open Go.RowKit

theorem PartsAt.ok {w : World} {v : Value} {L : List (List Nat)} (h : PartsAt w v L) : W8 L.flatten := by
  obtain ⟨_, p, c, _, h⟩ := h
  intro x hx
  obtain ⟨l, hl, hx⟩ := List.mem_flatten.1 hx
  obtain ⟨i, hi, rfl⟩ := List.getElem_of_mem hl
  obtain ⟨_, _, _, _, _, _, hb⟩ := h i hi
  simp only [List.getD, List.getElem?_eq_getElem hi, Option.getD_some] at hb
  exact hb.1 x hx

/-- A hash as a value. -/
def hashV (m : List Nat) : Value := .agg (bytesL (hashF KW m))
theorem hash_len (m : List Nat) : (hashF KW m).length = 32 := tellF_len _

set_option maxHeartbeats 1000000 in
set_option maxRecDepth 100000 in
theorem of_nil (pv : Value) (L : List (List Nat)) (w : World) (hp : PartsAt w pv L) (hl : L.flatten.length ≤ 1000000) (ht : Tab w) :
    Calls Tryd.prog 25 #[.pointer none, pv] w fun e w' => e = .returned (hashV L.flatten) ∧ Below w.heap.size w w' := by
  have hok := hp.ok
  have hlen := hash_len L.flatten
  have hsz : (Tryd.prog.info? 28).map (·.size) = some (bytesL (hashF KW L.flatten)).size := by rw [bytesL_size, hlen]; exact info_hash
  unfold hashV
  generalize hM : L.flatten = M at *
  have HM : Hid (L.flatten = M) := hM
  clear hM
  go_enter Tryd.func25, Tryd.ntmps25
  go_wp2_with (go_at_call 32; refine (concat_any pv L _ (hp.later (below1 _ _)) (by rw [HM.out]; omega)).mono ?_; rintro e w1 ⟨v, rfl, hown, hb1⟩)
  rw [zeros32b] at hb1
  have r0 : Row w1 w.heap.size (bytesL (List.replicate 32 0)) 28 := (Row.new _ _ _ rfl).later hb1
  have b0 : Below w.heap.size w w1 := chain (below1 _ _) hb1
  rw [HM.out] at hown
  have hby := hown.bytes hok (by unfold maxLen; omega)
  refine (hash_any v M _ hby hl (ht.later b0)).mono ?_
  rintro e w2 ⟨rfl, hb2⟩
  have r2 := r0.later hb2
  have b2 := chain b0 hb2
  clear hb1 hb2 hown hby r0 b0
  generalize hH : hashF KW M = H at *
  have HH : Hid (H = hashF KW M) := hH.symm
  clear hH
  go_wp2_with (refine wpList_store_row rfl 28 _ _ rfl w.heap.size (bytesL H) rfl rfl 28 _ r2 hsz (by simp [bytesL_size, hlen]) (bytesL_one _) ?_)
  refine bodyPost_ret (v := .agg (bytesL H)) (results_cell_row Tryd.results25 _ _ w.heap.size 28 (bytesL H) (0, 0) _ ?hp ?hg Tryd.underlying28 rfl hsz) rfl ⟨?he, Below.row b2 _ (Nat.le_refl _)⟩
  case hp => rfl
  case hg => exact r2.setRow _
  case he => rw [HH.out]

theorem abcV : hashV [97, 98, 99] = .agg #[.int .u8 186, .int .u8 120, .int .u8 22, .int .u8 191, .int .u8 143, .int .u8 1, .int .u8 207, .int .u8 234, .int .u8 65, .int .u8 65, .int .u8 64, .int .u8 222, .int .u8 93, .int .u8 174, .int .u8 34, .int .u8 35, .int .u8 176, .int .u8 3, .int .u8 97, .int .u8 163, .int .u8 150, .int .u8 23, .int .u8 122, .int .u8 156, .int .u8 180, .int .u8 16, .int .u8 255, .int .u8 97, .int .u8 242, .int .u8 0, .int .u8 21, .int .u8 173] := by
  unfold hashV
  rw [abc]
  rfl

theorem under_byte : Tryd.prog.underlying 5 = some (.int .u8) := by kernel_rfl
theorem conv1 (w : World) : (convert 37 37 (.slice (some ⟨w.heap.size, 0, none⟩) 1 1)).run Tryd.prog (w.alloc (.cells #[.int .u8 97] 5)) = .ok (.slice (some ⟨w.heap.size, 0, none⟩) 1 1) (w.alloc (.cells #[.int .u8 97] 5 (1, 2))) :=
  Joins.run_convert_bytes_const_at w 37 5 #[.int .u8 97] 1 1 w.heap.size rfl under_bytes under_byte
theorem conv2 (w : World) (g : Nat) (hg : g = w.heap.size) : (convert 37 37 (.slice (some ⟨g, 0, none⟩) 2 2)).run Tryd.prog (w.alloc (.cells #[.int .u8 98, .int .u8 99] 5)) = .ok (.slice (some ⟨g, 0, none⟩) 2 2) (w.alloc (.cells #[.int .u8 98, .int .u8 99] 5 (2, 3))) :=
  Joins.run_convert_bytes_const_at w 37 5 #[.int .u8 98, .int .u8 99] 2 2 g hg under_bytes under_byte
theorem lit1 (w : World) : BytesAt (w.alloc (.cells #[.int .u8 97] 5 (1, 2))) (.slice (some ⟨w.heap.size, 0, none⟩) 1 1) [97] :=
  ⟨(fun x hx => by simp at hx; omega), by simp [maxLen], _, _, rfl, fun i hi => by
    obtain rfl : i = 0 := by simpa using hi
    exact ⟨_, 0, rfl, by simp, World.cell?_alloc_mark w _ _ _ _⟩⟩
theorem lit2 (w : World) (g : Nat) (hg : g = w.heap.size) : BytesAt (w.alloc (.cells #[.int .u8 98, .int .u8 99] 5 (2, 3))) (.slice (some ⟨g, 0, none⟩) 2 2) [98, 99] :=
  ⟨(fun x hx => by simp at hx; omega), by simp [maxLen], _, _, rfl, fun i hi => by
    match i, hi with
    | 0, _ => exact ⟨_, 0, rfl, by simp; omega, Joins.cell_alloc_mark_at _ _ _ _ _ _ hg⟩
    | 1, _ => exact ⟨_, 0, rfl, by simp; omega, Joins.cell_alloc_mark_at _ _ _ _ _ _ hg⟩⟩
theorem of_abc (w : World) (ht : Tab w) : Calls Tryd.prog 25 #[.pointer none, .slice (some ⟨w.heap.size + 1 + 1, 0, none⟩) 2 2] (((w.alloc (.cells #[.int .u8 97] 5 (1, 2))).alloc (.cells #[.int .u8 98, .int .u8 99] 5 (2, 3))).alloc (.cells #[.slice (some ⟨w.heap.size, 0, none⟩) 1 1, .slice (some ⟨w.heap.size + 1, 0, none⟩) 2 2] 37))
    fun e w' => e = .returned (.agg (bytesL (hashF KW [97, 98, 99]))) ∧ Below w.heap.size w w' := by
  have hP := parts2 _ 37 ((lit1 w).later (below1 _ (.cells #[.int .u8 98, .int .u8 99] 5 (2, 3)))) (lit2 (w.alloc (.cells #[.int .u8 97] 5 (1, 2))) (w.heap.size + 1) (by simp)) 2
  have hb := below3 w (.cells #[.int .u8 97] 5 (1, 2)) (.cells #[.int .u8 98, .int .u8 99] 5 (2, 3)) (.cells #[.slice (some ⟨w.heap.size, 0, none⟩) 1 1, .slice (some ⟨w.heap.size + 1, 0, none⟩) 2 2] 37)
  have hO := of_nil _ _ _ hP (by simp) (ht.later hb)
  rw [show ((w.alloc (.cells #[.int .u8 97] 5 (1, 2))).alloc (.cells #[.int .u8 98, .int .u8 99] 5 (2, 3))).heap.size = w.heap.size + 1 + 1 from by simp] at hO
  exact hO.mono fun e w' ⟨h1, h2⟩ => ⟨h1, chain hb h2⟩

end Go.Proofs.YtepohpniflmblaaDoor
