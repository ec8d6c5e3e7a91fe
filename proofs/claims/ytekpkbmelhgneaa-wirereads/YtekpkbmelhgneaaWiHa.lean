
/-
  package wire's Writer: Hash, of one hash. For all bytes.
-/
import Derived.Test.YtekpkbmelhgneaaWiN
namespace Go.Proofs.Ytekpkbmelhgneaa
open Go.RowKit
set_option maxRecDepth 100000
set_option linter.unusedSimpArgs false
set_option linter.unusedVariables false

theorem info_hash : (Try.prog.info? 40).map (·.size) = some 32 := by kernel_rfl
theorem info_hash' {t : List Nat} (h : t.length = 32) : (Try.prog.info? 40).map (·.size) = some (bytesL t).size := by rw [bytesL_size, h]; exact info_hash
def upTo (t : List Nat) (k : Nat) : List Nat := if k = 0 then [] else t
theorem hash_lit : (#[.int .u8 0, .int .u8 0, .int .u8 0, .int .u8 0, .int .u8 0, .int .u8 0, .int .u8 0, .int .u8 0, .int .u8 0, .int .u8 0, .int .u8 0, .int .u8 0, .int .u8 0, .int .u8 0, .int .u8 0, .int .u8 0, .int .u8 0, .int .u8 0, .int .u8 0, .int .u8 0, .int .u8 0, .int .u8 0, .int .u8 0, .int .u8 0, .int .u8 0, .int .u8 0, .int .u8 0, .int .u8 0, .int .u8 0, .int .u8 0, .int .u8 0, .int .u8 0] : Array Value) = bytesL (List.replicate 32 0) := rfl

set_option maxHeartbeats 4000000 in
theorem whash_any (B : Nat) (t : List Nat) (ht : t.length = 32) (h8 : W8 t) (w : World) (b : Nat) (v : Value) (l : List Nat) (h : WrAt w b v l) (hr : Row w B (bytesL t) 40) (hf : Far b v B) (hT : l.length ≤ 1000000) :
    Calls Try.prog 25 #[.pointer (some ⟨b, 0, none⟩), .slice (some ⟨B, 0, none⟩) 1 1] w fun e w' => ∃ v', e = .returned (.pointer (some ⟨b, 0, none⟩)) ∧ WrAt w' b v' (l ++ t) ∧ WStep w w' b v v' := by
  have hinf := info_hash' ht
  have HT : Hid (t.length = 32) := ht
  clear ht
  go_enter Try.func25, Try.ntmps25
  go_wp2
  go_loopw [9] (fun i wr => ∃ (k : Nat) (vk : Value), k ≤ 1 ∧ i = .int .i64 k ∧ WrAt wr b vk (l ++ upTo t k) ∧ WStep w wr b v vk) (fun i _ => 1 - (intOf i).toNat)
  case atStart => exact ⟨0, v, Nat.zero_le _, rfl, by simpa [upTo] using h, WStep.refl _ _ _⟩
  case round =>
    obtain ⟨k, vk, hk, rfl, hw, hs⟩ := hrel
    have hk' : k = 0 ∨ k = 1 := by omega
    rcases hk' with rfl | rfl
    · have hrr : Row wr B (bytesL t) 40 := (hs.far hf hr.lt).trans hr
      rw [show l ++ upTo t 0 = l by simp [upTo]] at hw
      have hz := hw.lt
      go_wp2_with (first | refine wpList_load_row rfl 40 _ rfl B rfl 40 (bytesL t) (0, 0) _ hrr Try.underlying40 rfl hinf ?_ | (refine wpList_store_row rfl 40 _ _ rfl wr.heap.size (bytesL t) rfl rfl 40 _ (heap_alloc_new wr _) hinf (by rw [bytesL_size, HT.out]; rfl) (bytesL_one _) ?_; refine stop ?_))
      rw [hash_lit]
      unfold Stop
      have rg := (Row.new wr (bytesL (List.replicate 32 0)) 40 rfl).setRow (bytesL t)
      have hb2 : Below wr.heap.size wr ((wr.alloc (.cells (bytesL (List.replicate 32 0)) 40)).setRow wr.heap.size (bytesL t)) := Below.row (below1 wr _) _ (Nat.le_refl _)
      generalize (wr.alloc (.cells (bytesL (List.replicate 32 0)) 40)).setRow wr.heap.size (bytesL t) = w2 at *
      have hw2 := hw.later hb2
      have hs2 := hs.trans (WStep.of hb2 b vk)
      have hfB : Far b vk wr.heap.size := hw.far (Nat.le_refl _)
      have hlt2 := rg.lt
      clear hw hs hb2 hrr
      go_wp2_with (go_at_call 27; refine stop ?_)
      have hw3 := hw2.later (below1 w2 (.cells #[.slice (some ⟨wr.heap.size, 0, none⟩) 32 32] 32))
      have hs3 : WStep w (w2.alloc (.cells #[.slice (some ⟨wr.heap.size, 0, none⟩) 32 32] 32)) b v vk := hs2.trans (WStep.of (below1 w2 _) b vk)
      have hpo : PartsOff (w2.alloc (.cells #[.slice (some ⟨wr.heap.size, 0, none⟩) 32 32] 32)) (Far b vk) (.slice (some ⟨w2.heap.size, 0, none⟩) 1 1) [t] := by
        refine ⟨by simp [maxLen], _, _, rfl, fun i hi => ?_⟩
        obtain rfl : i = 0 := by simpa using hi
        refine ⟨_, 0, .slice (some ⟨wr.heap.size, 0, none⟩) 32 32, rfl, hw2.far (Nat.le_refl _), by simp, by rw [World.cell?_alloc_at _ _ _ _ rfl]; rfl, ?_⟩
        refine ⟨h8, by rw [show ([t].getD 0 []) = t from rfl, HT.out]; simp [maxLen], _, 32, by rw [show ([t].getD 0 []) = t from rfl, HT.out], fun j hj => ⟨wr.heap.size, 0, rfl, hfB, by simp; omega, ?_⟩⟩
        rw [show ([t].getD 0 []) = t from rfl] at hj ⊢
        rw [World.cell?_of_block (w := w2) (a := ⟨wr.heap.size, 0 + j, none⟩) (heap_alloc_old w2 _ hlt2), Nat.zero_add, rg.cell j, bytesL_at t j hj]
      refine (raw_any _ [t] _ b vk _ hw3 hpo (by simp only [List.flatten_cons, List.flatten_nil, List.append_nil, HT.out]; omega)).mono ?_
      rintro e w4 ⟨v4, rfl, hw4, hs4⟩
      have hs5 := hs3.trans hs4
      simp only [List.flatten_cons, List.flatten_nil, List.append_nil] at hw4
      rw [show l ++ t = l ++ upTo t 1 by simp [upTo]] at hw4
      clear hw3 hs3 hpo hs4 hw2 hs2
      go_wp2
      go_roundw
      case rel => exact ⟨1, _, by omega, by go_num, hw4, hs5⟩
      case measure => simp [intOf]
    · rw [show l ++ upTo t 1 = l ++ t by simp [upTo]] at hw
      go_wp2
      go_ret
      exact ⟨_, rfl, hw, hs⟩
end Go.Proofs.Ytekpkbmelhgneaa
