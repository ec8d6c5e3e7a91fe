
/-
  sha.padding: what is laid behind a message, for every length below 2^60.
-/
import Derived.Test.YtepohpniflmblaaDoorShT
import Derived.Laws.MakeOwn
namespace Go.Proofs.YtepohpniflmblaaDoor
open Go.RowKit

theorem padFree_le (n : Nat) : 9 ≤ padFree n ∧ padFree n ≤ 72 := by unfold padFree; split <;> omega
theorem padL_len (n : Nat) : ∀ k, (padL n k).length = padFree n
  | 0 => by simp [padL]
  | k + 1 => by rw [padL, List.length_set]; exact padL_len n k
theorem padL_ok (n : Nat) : ∀ k, W8 (padL n k)
  | 0 => by rw [padL]; exact W8.set (by intro x hx; simp at hx; omega) _ (by decide)
  | k + 1 => by rw [padL]; exact (padL_ok n k).set _ (Nat.mod_lt _ (by decide))

theorem info_u8 : (Tryd.prog.info? 5).map (fun i => (i.zero, i.size, i.bytes)) = some (some (.int .u8 0), 1, 1) := by kernel_rfl
theorem info_u8' : ∃ i, Tryd.prog.info? 5 = some i ∧ i.zero = some (.int .u8 0) ∧ i.size = 1 ∧ i.bytes = 1 := by
  cases hi : Tryd.prog.info? 5 with
  | none => have h := info_u8; rw [hi] at h; cases h
  | some i =>
    have h := info_u8
    rw [hi] at h
    have h' : (i.zero, i.size, i.bytes) = (some (.int .u8 0), 1, 1) := Option.some.inj h
    exact ⟨i, rfl, congrArg (·.1) h', congrArg (·.2.1) h', congrArg (·.2.2) h'⟩
theorem made_bytes (n : Nat) : madeCells (Value.int .u8 0).cells n = bytesL (List.replicate n 0) := by
  have e : ∀ x, (Value.int .u8 0).cells[x % (Value.int .u8 0).cells.size]! = .int .u8 0 := fun x => by show (#[Value.int .u8 0])[x % 1]! = _; rw [Nat.mod_one]; rfl
  unfold madeCells bytesL
  simp only [e]
  apply Array.ext
  · simp
  · intro i h1 h2; simp
theorem make_bytes (n : Nat) (hn : n ≤ 1048576) (w : World) : (Instr.makeSlice 37 (.int .i64 n) (.int .i64 n)).run Tryd.prog w = .ok (.slice (some ⟨w.heap.size, 0, none⟩) n n) (w.alloc (.cells (bytesL (List.replicate n 0)) 5)) := by
  obtain ⟨i, hi, z0, z1, z2⟩ := info_u8'
  have e := run_makeSlice (P := Tryd.prog) w 37 5 i _ (by kernel_rfl) hi z0 .i64 .i64 n n (by omega) (by omega) (by rw [z1]; omega) (by rw [z2]; omega) (by omega)
  rw [z1, Int.toNat_natCast, Nat.mul_one, made_bytes] at e
  exact e

structure PdR (w wr : World) (l : List Nat) : Prop where
  lr : Row wr w.heap.size (bytesL l) 5
  bel : Below w.heap.size w wr
theorem PdR.set {w wr : World} {l : List Nat} (h : PdR w wr l) (i x : Nat) : PdR w (wr.setCell ⟨w.heap.size, i, none⟩ (.int .u8 (x : Nat))) (l.set i x) :=
  ⟨by rw [← bytesL_set]; exact h.lr.set _ _, h.bel.setCell (by simp) _⟩

set_option maxHeartbeats 1000000 in
set_option maxRecDepth 100000 in
theorem padding_any (n : Nat) (w : World) (hn : n ≤ 281474976710656) :
    Calls Tryd.prog 38 #[.int .i64 n] w fun e w' => ∃ B, w.heap.size ≤ B ∧ e = .returned (.slice (some ⟨B, 0, none⟩) (padFree n) (padFree n)) ∧ Row w' B (bytesL (padL n 8)) 5 ∧ Below w.heap.size w w' := by
  obtain ⟨p1, p2⟩ := padFree_le n
  have hl := padL_len n
  have H0 : Hid (padL n 0 = (List.replicate (padFree n) 0).set 0 128) := show _ = _ from rfl
  have HS : Hid (∀ k, padL n (k + 1) = (padL n k).set (padFree n - 1 - k) (n * 8 / 2 ^ (8 * k) % 256)) := show ∀ _, _ from fun _ => rfl
  have n0 : (0 : Int) ≤ (n : Int) := by omega
  have n1 : (n : Int) ≤ 281474976710656 := by omega
  by_cases h9 : 64 - (n : Int) % 64 < 9
  · have hf : 64 - (n : Int) % 64 + 64 = (padFree n : Nat) := by unfold padFree; split <;> omega
    generalize padFree n = F at *
    have hmk := make_bytes F (by omega)
    have hb0 : (bytesL (List.replicate F 0))[0]? = some (.int .u8 0) := (bytesL_at _ 0 (by simp; omega)).trans (by simp [show 0 < F by omega])
    go_enter Tryd.func38, Tryd.ntmps38
    go_wp2
    go_loopw [21] (fun i wr => ∃ k : Nat, k ≤ 8 ∧ i = .int .i64 k ∧ PdR w wr (padL n k)) (fun i _ => 8 - (intOf i).toNat)
    case atStart =>
      refine ⟨0, by omega, rfl, ?_, below1 _ _⟩
      rw [H0.out, ← bytesL_set]
      exact Row.new _ _ _ rfl
    case round =>
      obtain ⟨k, hk, rfl, hr⟩ := hrel
      by_cases hlt : k < 8
      · have hlk := hl k
        have c0 := (hr.lr.cell (F - 1 - k)).trans (bytesL_at _ (F - 1 - k) (by omega))
        have r0 := hr.lr.frozen (F - 1 - k)
        have HR : Hid (PdR w wr (padL n k)) := hr
        clear hr
        generalize (padL n k).getD (F - 1 - k) 0 = y at *
        have g0 : (0 : Int) ≤ (k : Int) := by omega
        have g1 : (k : Int) < 8 := by omega
        have g2 : (9 : Int) ≤ (F : Int) := by omega
        have g3 : (F : Int) ≤ 72 := by omega
        go_wp2
        go_roundw
        case rel =>
          refine ⟨k + 1, by omega, by go_num, ?_⟩
          rw [HS.out k, show (n : Int) * 8 / 2 ^ (8 * k) % 256 = ((n * 8 / 2 ^ (8 * k) % 256 : Nat) : Int) from by rw [Int.natCast_emod, Int.natCast_ediv, Int.natCast_pow, Int.natCast_mul]; rfl]
          exact HR.out.set _ _
        case measure => simp [intOf]; omega
      · obtain rfl : k = 8 := by omega
        have hlr := hr.lr
        have hbel := hr.bel
        clear hr
        go_wp2
        go_ret
        exact ⟨w.heap.size, Nat.le_refl _, rfl, hlr, hbel⟩
  · have hf : 64 - (n : Int) % 64 = (padFree n : Nat) := by unfold padFree; split <;> omega
    rw [hf] at h9
    generalize padFree n = F at *
    have hmk := make_bytes F (by omega)
    have hb0 : (bytesL (List.replicate F 0))[0]? = some (.int .u8 0) := (bytesL_at _ 0 (by simp; omega)).trans (by simp [show 0 < F by omega])
    go_enter Tryd.func38, Tryd.ntmps38
    go_wp2
    go_loopw [21] (fun i wr => ∃ k : Nat, k ≤ 8 ∧ i = .int .i64 k ∧ PdR w wr (padL n k)) (fun i _ => 8 - (intOf i).toNat)
    case atStart =>
      refine ⟨0, by omega, rfl, ?_, below1 _ _⟩
      rw [H0.out, ← bytesL_set]
      exact Row.new _ _ _ rfl
    case round =>
      obtain ⟨k, hk, rfl, hr⟩ := hrel
      by_cases hlt : k < 8
      · have hlk := hl k
        have c0 := (hr.lr.cell (F - 1 - k)).trans (bytesL_at _ (F - 1 - k) (by omega))
        have r0 := hr.lr.frozen (F - 1 - k)
        have HR : Hid (PdR w wr (padL n k)) := hr
        clear hr
        generalize (padL n k).getD (F - 1 - k) 0 = y at *
        have g0 : (0 : Int) ≤ (k : Int) := by omega
        have g1 : (k : Int) < 8 := by omega
        have g2 : (9 : Int) ≤ (F : Int) := by omega
        have g3 : (F : Int) ≤ 72 := by omega
        go_wp2
        go_roundw
        case rel =>
          refine ⟨k + 1, by omega, by go_num, ?_⟩
          rw [HS.out k, show (n : Int) * 8 / 2 ^ (8 * k) % 256 = ((n * 8 / 2 ^ (8 * k) % 256 : Nat) : Int) from by rw [Int.natCast_emod, Int.natCast_ediv, Int.natCast_pow, Int.natCast_mul]; rfl]
          exact HR.out.set _ _
        case measure => simp [intOf]; omega
      · obtain rfl : k = 8 := by omega
        have hlr := hr.lr
        have hbel := hr.bel
        clear hr
        go_wp2
        go_ret
        exact ⟨w.heap.size, Nat.le_refl _, rfl, hlr, hbel⟩
end Go.Proofs.YtepohpniflmblaaDoor
