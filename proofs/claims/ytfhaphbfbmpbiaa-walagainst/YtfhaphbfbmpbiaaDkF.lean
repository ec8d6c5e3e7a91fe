
/-
  package disk: Crash. For every disk, every mask, place and cut.
-/
import Derived.Test.YtfhaphbfbmpbiaaDkE
import Derived.Laws.BitsAllLaws
namespace Go.Proofs.Ytfhaphbfbmpbiaa
open Go.RowKit
set_option maxRecDepth 100000
set_option linter.unusedVariables false
set_option linter.unusedSimpArgs false

/-- How many bytes of the i-th write a crash keeps. -/
def kept (mask : Nat) (torn cut : Int) (i : Nat) : Nat := if mask / 2 ^ (i % 64) % 2 = 0 then 0 else if (i : Int) = torn then (min (max cut 0) 64).toNat else 64
theorem kept_le (mask : Nat) (torn cut : Int) (i : Nat) : kept mask torn cut i ≤ 64 := by unfold kept; split <;> (try split) <;> omega

theorem mask_bit (mask k : Nat) (h : mask < 2 ^ 64) : bits BinOp.and IntKind.u64 ((mask : Int) / 2 ^ k) 1 = ((mask / 2 ^ k % 2 : Nat) : Int) := by
  have e : (mask : Int) / 2 ^ k = ((mask / 2 ^ k : Nat) : Int) := by push_cast; rfl
  have hl : mask / 2 ^ k < 18446744073709551616 := Nat.lt_of_le_of_lt (Nat.div_le_self _ _) h
  have := u64_and_nat (mask / 2 ^ k) 1 hl (by decide)
  rw [e]
  refine Eq.trans this ?_
  rw [Nat.and_one_is_mod]
theorem settle_at (mi : Int) (x : Nat × List Nat) (m : Nat) (hmi : mi = m) (hm : m ≤ 64) (w : World) (R S : Nat) (v : Value) (d : Dk) (h : DkAt w R S v d) (hx : WOk d.n x) :
    Calls Try.prog 37 #[.pointer (some ⟨R, 0, none⟩), .agg (wr1 x), .int .i64 mi] w fun e w' => e = .returned (.tuple #[]) ∧ DkAt w' R S v { d with F := settle d.F x.1 x.2 m } ∧ DStep w w' R S v v := by
  subst hmi
  exact settle_any x m hm w R S v d h hx
set_option maxHeartbeats 4000000 in
theorem crash_any (mask : Nat) (hmask : mask < 2 ^ 64) (torn cut : Int) (w : World) (R S : Nat) (v : Value) (d : Dk) (h : DkAt w R S v d) :
    Calls Try.prog 16 #[.pointer (some ⟨R, 0, none⟩), .int .u64 mask, .int .i64 torn, .int .i64 cut] w fun e w' => e = .returned (.tuple #[]) ∧ DkAt w' R S (.slice none 0 0) { d with F := setl (kept mask torn cut) d.F d.ws, ws := [], armed := false, left := 0 } ∧ DStep w w' R S v (.slice none 0 0) := by
  have hwl := h.ok.wl
  have hn2 := h.ok.n2
  obtain ⟨c0, c1, c2, c3, c4⟩ := h.cells
  obtain ⟨p, nw, c, hv, hnw⟩ := ownsRow_form h.own
  subst hv hnw
  have w0 : (0 : Int) ≤ (d.ws.length : Int) := by omega
  have w1 : (d.ws.length : Int) ≤ 1000 := by omega
  go_enter Try.func16, Try.ntmps16
  go_wp2
  go_loopw [16] (fun i wr => ∃ k : Nat, k ≤ d.ws.length ∧ i = .int .i64 k ∧ DkAt wr R S (.slice p d.ws.length c) { d with F := setl (kept mask torn cut) d.F (d.ws.take k) } ∧ DStep w wr R S (.slice p d.ws.length c) (.slice p d.ws.length c)) (fun i _ => d.ws.length - (intOf i).toNat)
  case atStart => exact ⟨0, Nat.zero_le _, rfl, by simpa [setl] using h, DStep.refl _ _ _ _⟩
  case round =>
    clear c0 c1 c2 c3 c4
    obtain ⟨k, hk, rfl, hD, hs⟩ := hrel
    by_cases hlt : k < d.ws.length
    · have hlt' : (k : Int) < (d.ws.length : Int) := by omega
      obtain ⟨g, cap, e, hg, hrange⟩ := hD.wait (i := k) hlt
      cases e
      have hx := h.ok.wok _ (mem_getD hlt)
      have hsucc := setl_succ (kept mask torn cut) d.F d.ws k hlt
      have hxi := info_wr2 hx.len
      have hxj := info_wr' hx.len
      have hz := zero_write wr
      have hxk : (wr1 (0, zs 64)).size = (wr1 (d.ws.getD k (0, []))).size := by rw [wr1_size (zs_len 64), wr1_size hx.len]
      have hr : wr.rangeAt g (k * 65) (wr1 (d.ws.getD k (0, []))).toList := hrange
      clear hrange
      generalize d.ws.getD k (0, []) = x at *
      go_wp2_with (first | refine wpList_load_mid rfl 81 _ rfl g (k * 65) rfl (wr1 x).toList _ hr Try.underlying81 rfl hxi ?_ | (refine wpList_store_row rfl 81 _ _ rfl wr.heap.size (wr1 x) rfl rfl 81 _ (heap_alloc_new wr _) hxj (by first | exact hxk | rfl) (wr1_one _) ?_; refine stop ?_))
      unfold Stop
      clear hz hr
      have rg := (Row.new wr (wr1 (0, zs 64)) 81 rfl).setRow (wr1 x)
      have b2 : Below wr.heap.size wr ((wr.alloc (.cells (wr1 (0, zs 64)) 81)).setRow wr.heap.size (wr1 x)) := Below.row (below1 wr _) _ (Nat.le_refl _)
      generalize (wr.alloc (.cells (wr1 (0, zs 64)) 81)).setRow wr.heap.size (wr1 x) = w2 at *
      have hD2 := hD.later b2
      have hs2 := hs.trans (DStep.of b2 R S _)
      clear hD hs
      have hmb := mask_bit mask (k % 64) hmask
      by_cases hz0 : mask / 2 ^ (k % 64) % 2 = 0
      · have hkp : kept mask torn cut k = 0 := by unfold kept; rw [if_pos hz0]
        have hbit : (bits BinOp.and IntKind.u64 ((mask : Int) / 2 ^ (k % 64)) 1 == 0) = true := by rw [hmb, hz0]; rfl
        rw [hkp, settle_zero] at hsucc
        have hD4 : DkAt w2 R S (.slice (some ⟨g, 0, none⟩) d.ws.length c) { d with F := setl (kept mask torn cut) d.F (d.ws.take (k + 1)) } := by rw [hsucc]; exact hD2
        clear hmb hz0 hkp hsucc hD2
        go_wp2
        go_roundw
        case rel => exact ⟨k + 1, by omega, by go_num, hD4, hs2⟩
        case measure => simp [intOf]; omega
      · have hbit : (bits BinOp.and IntKind.u64 ((mask : Int) / 2 ^ (k % 64)) 1 == 0) = false := by
          rw [hmb, show mask / 2 ^ (k % 64) % 2 = 1 by omega]; rfl
        by_cases ht : (k : Int) = torn
        · have hkp : kept mask torn cut k = (min (max cut 0) 64).toNat := by unfold kept; rw [if_neg hz0, if_pos ht]
          have htb : ((k : Int) == torn) = true := by simpa using ht
          clear hmb hz0 ht
          go_wp2_with (first | refine wpList_load_row rfl 81 _ rfl wr.heap.size rfl 81 (wr1 x) (0, 0) _ rg Try.underlying81 rfl hxj ?_ | (go_at_call 37; refine stop ?_))
          refine (settle_at _ x (kept mask torn cut k) (by rw [hkp]; omega) (kept_le _ _ _ _) w2 R S _ _ hD2 hx).mono ?_
          rintro e w3 ⟨rfl, hD3, hs3⟩
          have hs4 := hs2.trans hs3
          have hD4 : DkAt w3 R S (.slice (some ⟨g, 0, none⟩) d.ws.length c) { d with F := setl (kept mask torn cut) d.F (d.ws.take (k + 1)) } := by rw [hsucc]; exact hD3
          clear hD3 hs3 hs2 hD2 rg
          go_wp2
          go_roundw
          case rel => exact ⟨k + 1, by omega, by go_num, hD4, hs4⟩
          case measure => simp [intOf]; omega
        · have hkp : kept mask torn cut k = 64 := by unfold kept; rw [if_neg hz0, if_neg ht]
          have htb : ((k : Int) == torn) = false := by simpa using ht
          clear hmb hz0 ht
          go_wp2_with (first | refine wpList_load_row rfl 81 _ rfl wr.heap.size rfl 81 (wr1 x) (0, 0) _ rg Try.underlying81 rfl hxj ?_ | (go_at_call 37; refine stop ?_))
          refine (settle_at _ x (kept mask torn cut k) (by rw [hkp]; rfl) (kept_le _ _ _ _) w2 R S _ _ hD2 hx).mono ?_
          rintro e w3 ⟨rfl, hD3, hs3⟩
          have hs4 := hs2.trans hs3
          have hD4 : DkAt w3 R S (.slice (some ⟨g, 0, none⟩) d.ws.length c) { d with F := setl (kept mask torn cut) d.F (d.ws.take (k + 1)) } := by rw [hsucc]; exact hD3
          clear hD3 hs3 hs2 hD2 rg
          go_wp2
          go_roundw
          case rel => exact ⟨k + 1, by omega, by go_num, hD4, hs4⟩
          case measure => simp [intOf]; omega
    · obtain rfl : k = d.ws.length := by omega
      rw [List.take_length] at hD
      obtain ⟨c0, c1, c2, c3, c4⟩ := hD.cells
      have f1 := hD.row.frozen 1
      have f3 := hD.row.frozen 3
      have f4 := hD.row.frozen 4
      go_wp2
      go_end0
      have oth : ∀ j, j ≠ R → (((wr.setCell ⟨R, 1, none⟩ (.slice none 0 0)).setCell ⟨R, 3, none⟩ (.bool false)).setCell ⟨R, 4, none⟩ (.int .i64 0)).heap[j]? = wr.heap[j]? := fun j hj => (heap_setCell_other _ ⟨R, 4, none⟩ j _ hj).trans ((heap_setCell_other _ ⟨R, 3, none⟩ j _ hj).trans (heap_setCell_other wr ⟨R, 1, none⟩ j _ hj))
      refine ⟨rfl, ⟨⟨hD.ok.f8, hD.ok.fl, hD.ok.n1, hD.ok.n2, by simp, hD.ok.cl, by simp, fun x hx => by cases hx⟩, ((hD.row.set 1 _).set 3 _).set 4 _, (oth S hD.rs.symm).trans hD.sure, World.ownsRow_nil _ _ _ _⟩, ⟨hs.os, hs.tape, hs.output, by simpa [World.setCell] using hs.size, fun j hj h1 h2 h3 => (oth j h1).trans (hs.block j hj h1 h2 h3), fun g hg => by cases hg⟩⟩
end Go.Proofs.Ytfhaphbfbmpbiaa
