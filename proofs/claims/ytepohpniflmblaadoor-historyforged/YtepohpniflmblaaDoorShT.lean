
/-
  sha.tellHash: the 32 bytes of a sum, for every sum.
-/
import Derived.Test.YtepohpniflmblaaDoorShX
import Derived.Laws.ShiftsVarLaws
namespace Go.Proofs.YtepohpniflmblaaDoor
open Go.RowKit

theorem fill_set (L : List Nat) (n k : Nat) (h : L.length = n) (hk : k < n) : (L.take k ++ List.replicate (n - k) 0).set k (L.getD k 0) = L.take (k + 1) ++ List.replicate (n - (k + 1)) 0 := by
  have e : n - k = (n - (k + 1)) + 1 := by omega
  rw [e, List.replicate_succ, List.set_append_right _ _ (by simp; omega)]
  rw [List.length_take, Nat.min_eq_left (by omega), Nat.sub_self, List.set_cons_zero, List.take_succ_eq_append_getElem (i := k) (l := L) (by omega)]
  simp only [List.getD, List.getElem?_eq_getElem (show k < L.length by omega), Option.getD_some, List.append_assoc, List.singleton_append]

theorem s8V_at (s : S8) (i : Nat) (h : i < 8) : (s8V s)[i]? = some (.int .u32 (s.at i : Nat)) := by
  match i, h with
  | 0, _ => rfl
  | 1, _ => rfl
  | 2, _ => rfl
  | 3, _ => rfl
  | 4, _ => rfl
  | 5, _ => rfl
  | 6, _ => rfl
  | 7, _ => rfl
theorem S8.at_lt {s : S8} (h : s.ok) (i : Nat) : s.at i < 4294967296 := by
  obtain ⟨a, b, c, d, e, f, g, k⟩ := h
  unfold S8.at
  split <;> assumption
theorem tellF_len (s : S8) : (tellF s).length = 32 := by simp [tellF]
theorem tellF_at (s : S8) (i : Nat) (h : i < 32) : (tellF s).getD i 0 = s.at (i / 4) / 2 ^ (8 * (3 - i % 4)) % 256 := by simp [tellF, h]
theorem tellF_ok (s : S8) : W8 (tellF s) := by
  intro x hx
  obtain ⟨i, _, rfl⟩ := List.mem_map.1 hx
  exact Nat.mod_lt _ (by decide)

theorem zeros32 : (#[.int .u8 0, .int .u8 0, .int .u8 0, .int .u8 0, .int .u8 0, .int .u8 0, .int .u8 0, .int .u8 0, .int .u8 0, .int .u8 0, .int .u8 0, .int .u8 0, .int .u8 0, .int .u8 0, .int .u8 0, .int .u8 0, .int .u8 0, .int .u8 0, .int .u8 0, .int .u8 0, .int .u8 0, .int .u8 0, .int .u8 0, .int .u8 0, .int .u8 0, .int .u8 0, .int .u8 0, .int .u8 0, .int .u8 0, .int .u8 0, .int .u8 0, .int .u8 0] : Array Value) = bytesL (List.replicate 32 0) := by kernel_rfl
theorem info_hash : (Tryd.prog.info? 28).map (·.size) = some 32 := by kernel_rfl

structure TlR (w wr : World) (s : S8) (l : List Nat) : Prop where
  sr : Row wr w.heap.size (s8V s) 72
  rr : Row wr (w.heap.size + 1) (bytesL (List.replicate 32 0)) 28
  lr : Row wr (w.heap.size + 1 + 1) (bytesL l) 28
  bel : Below w.heap.size w wr
theorem TlR.set {w wr : World} {s : S8} {l : List Nat} (h : TlR w wr s l) (i x : Nat) : TlR w (wr.setCell ⟨w.heap.size + 1 + 1, i, none⟩ (.int .u8 (x : Nat))) s (l.set i x) :=
  ⟨h.sr.setOther _ (by simp; omega), h.rr.setOther _ (by simp), by rw [← bytesL_set]; exact h.lr.set _ _, h.bel.setCell (by simp; omega) _⟩

set_option maxHeartbeats 1000000 in
set_option maxRecDepth 100000 in
theorem tell_any (s : S8) (w : World) (hs : s.ok) :
    Calls Tryd.prog 41 #[.agg (s8V s)] w fun e w' => e = .returned (.agg (bytesL (tellF s))) ∧ Below w.heap.size w w' := by
  go_enter Tryd.func41, Tryd.ntmps41
  go_wp2
  go_loopw [6] (fun i wr => ∃ k : Nat, k ≤ 32 ∧ i = .int .i64 k ∧ TlR w wr s ((tellF s).take k ++ List.replicate (32 - k) 0)) (fun i _ => 32 - (intOf i).toNat)
  case atStart =>
    refine ⟨0, by omega, rfl, ?_⟩
    rw [zeros32]
    exact ⟨((Row.new _ _ _ rfl).alloc _).alloc _, (Row.new _ _ _ (by simp)).alloc _, by simpa using Row.new _ _ _ (by simp), below3 _ _ _ _⟩
  case round =>
    obtain ⟨k, hk, rfl, hr⟩ := hrel
    have htl := tellF_len s
    by_cases hlt : k < 32
    · have c0 := (hr.sr.cell (k / 4)).trans (s8V_at s (k / 4) (by omega))
      have c1 := (hr.lr.cell k).trans (bytesL_at _ k (by simp; omega))
      have r1 := hr.lr.frozen k
      have b0 := S8.at_lt hs (k / 4)
      have HF := fill_set (tellF s) 32 k htl hlt
      have HT := tellF_at s k hlt
      have HR : Hid (TlR w wr s ((tellF s).take k ++ List.replicate (32 - k) 0)) := hr
      have HS : Hid (((tellF s).take k ++ List.replicate (32 - k) 0).set k (s.at (k / 4) / 2 ^ (8 * (3 - k % 4)) % 256) = (tellF s).take (k + 1) ++ List.replicate (32 - (k + 1)) 0) := show _ = _ from by rw [← HT]; exact HF
      clear hr HF HT
      generalize s.at (k / 4) = x at *
      generalize ((tellF s).take k ++ List.replicate (32 - k) 0) = l at *
      generalize l.getD k 0 = y at *
      have g0 : (0 : Int) ≤ (k : Int) := by omega
      have g1 : (k : Int) < 32 := by omega
      have s0 : (0 : Int) ≤ 8 * (3 - (k : Int) % 4) := by omega
      have s1 : 8 * (3 - (k : Int) % 4) ≤ 32 := by omega
      go_wp2
      go_roundw
      case rel =>
        refine ⟨k + 1, by omega, by go_num, ?_⟩
        rw [← HS.out, show (x : Int) / 2 ^ (8 * (3 - k % 4)) % 256 = ((x / 2 ^ (8 * (3 - k % 4)) % 256 : Nat) : Int) from by rw [Int.natCast_emod, Int.natCast_ediv, Int.natCast_pow]; rfl]
        exact HR.out.set _ _
      case measure => simp [intOf]; omega
    · obtain rfl : k = 32 := by omega
      rw [show ((32 : Nat) : Int) = 32 from rfl]
      have e : (tellF s).take 32 ++ List.replicate (32 - 32) 0 = tellF s := by simp [List.take_of_length_le (Nat.le_of_eq htl)]
      rw [e] at hr
      have hsz : (Tryd.prog.info? 28).map (·.size) = some (bytesL (tellF s)).size := by rw [bytesL_size, htl]; exact info_hash
      have hlr := hr.lr
      have hrr := hr.rr
      have hbel := hr.bel
      clear hr e
      generalize hL : tellF s = L at *
      have HL : Hid (L = tellF s) := hL.symm
      clear hL
      go_wp2_with (first | refine wpList_load_row rfl 28 _ rfl (w.heap.size + 1 + 1) rfl 28 (bytesL L) (0, 0) _ hlr Tryd.underlying28 rfl hsz ?_ | refine wpList_store_row rfl 28 _ _ rfl (w.heap.size + 1) (bytesL L) rfl rfl 28 _ hrr hsz (by simp [bytesL_size, htl]) (bytesL_one _) ?_)
      refine bodyPost_ret (v := .agg (bytesL L)) (results_cell_row Tryd.results41 _ _ (w.heap.size + 1) 28 (bytesL L) (0, 0) _ ?hp ?hg Tryd.underlying28 rfl hsz) rfl ⟨by rw [HL.out], Below.row hbel _ (by omega)⟩
      case hp => rfl
      case hg => exact hrr.setRow _
end Go.Proofs.YtepohpniflmblaaDoor
