
/-
  package disk: New, Len, Down, Writes, Waits, has, Arm. For every disk and every number.
-/
import Derived.Test.YtfhaphbfbmpbiaaDkA
namespace Go.Proofs.Ytfhaphbfbmpbiaa
open Go.RowKit
set_option maxRecDepth 100000
set_option linter.unusedVariables false
set_option linter.unusedSimpArgs false

theorem DkAt.cells {w : World} {R S : Nat} {v : Value} {d : Dk} (h : DkAt w R S v d) :
    w.cell? ⟨R, 0, none⟩ = some (.slice (some ⟨S, 0, none⟩) d.n d.n) ∧ w.cell? ⟨R, 1, none⟩ = some v ∧ w.cell? ⟨R, 2, none⟩ = some (.int .i64 d.cnt) ∧ w.cell? ⟨R, 3, none⟩ = some (.bool d.armed) ∧ w.cell? ⟨R, 4, none⟩ = some (.int .i64 d.left) :=
  ⟨h.row.cell 0, h.row.cell 1, h.row.cell 2, h.row.cell 3, h.row.cell 4⟩

set_option maxHeartbeats 1000000 in
theorem len_any (w : World) (R S : Nat) (v : Value) (d : Dk) (h : DkAt w R S v d) :
    Calls Try.prog 34 #[.pointer (some ⟨R, 0, none⟩)] w fun e w' => e = .returned (.int .i64 d.n) ∧ w' = w := by
  obtain ⟨c0, c1, c2, c3, c4⟩ := h.cells
  have n2 := h.ok.n2
  have n0 : (0 : Int) ≤ (d.n : Int) := by omega
  have n1 : (d.n : Int) ≤ 4096 := by omega
  go_enter Try.func34, Try.ntmps34
  go_wp2
  go_ret
  exact ⟨rfl, rfl⟩

set_option maxHeartbeats 1000000 in
theorem writes_any (w : World) (R S : Nat) (v : Value) (d : Dk) (h : DkAt w R S v d) :
    Calls Try.prog 22 #[.pointer (some ⟨R, 0, none⟩)] w fun e w' => e = .returned (.int .i64 d.cnt) ∧ w' = w := by
  obtain ⟨c0, c1, c2, c3, c4⟩ := h.cells
  go_enter Try.func22, Try.ntmps22
  go_wp2
  go_ret
  exact ⟨rfl, rfl⟩

set_option maxHeartbeats 1000000 in
theorem waits_any (w : World) (R S : Nat) (v : Value) (d : Dk) (h : DkAt w R S v d) :
    Calls Try.prog 23 #[.pointer (some ⟨R, 0, none⟩)] w fun e w' => e = .returned (.int .i64 d.ws.length) ∧ w' = w := by
  obtain ⟨c0, c1, c2, c3, c4⟩ := h.cells
  obtain ⟨p, n, c, rfl, hn⟩ := ownsRow_form h.own
  have n2 := h.ok.wl
  rw [← hn] at n2 ⊢
  have n0 : (0 : Int) ≤ (n : Int) := by omega
  have n1 : (n : Int) ≤ 1000 := by omega
  clear hn
  go_enter Try.func23, Try.ntmps23
  go_wp2
  go_ret
  exact ⟨rfl, rfl⟩

set_option maxHeartbeats 1000000 in
theorem down_any (w : World) (R S : Nat) (v : Value) (d : Dk) (h : DkAt w R S v d) :
    Calls Try.prog 39 #[.pointer (some ⟨R, 0, none⟩)] w fun e w' => e = .returned (.bool d.down) ∧ w' = w := by
  obtain ⟨c0, c1, c2, c3, c4⟩ := h.cells
  unfold Dk.down
  generalize d.armed = ar at *
  generalize d.left = lf at *
  cases ar with
  | false =>
    go_enter Try.func39, Try.ntmps39
    go_wp2
    go_ret
    exact ⟨rfl, rfl⟩
  | true =>
    by_cases hl : lf = 0
    · subst hl
      go_enter Try.func39, Try.ntmps39
      go_wp2
      go_ret
      exact ⟨rfl, rfl⟩
    · have hl' : ¬ (lf : Int) = 0 := by omega
      rw [show (lf == 0) = false by simpa using hl]
      go_enter Try.func39, Try.ntmps39
      go_wp2
      go_ret
      refine ⟨?_, rfl⟩
      simp [hl]

set_option maxHeartbeats 1000000 in
theorem has_any (k : Int) (w : World) (R S : Nat) (v : Value) (d : Dk) (h : DkAt w R S v d) :
    Calls Try.prog 38 #[.pointer (some ⟨R, 0, none⟩), .int .i64 k] w fun e w' => e = .returned (.bool (decide (0 ≤ k ∧ k < d.n))) ∧ w' = w := by
  obtain ⟨c0, c1, c2, c3, c4⟩ := h.cells
  have n2 := h.ok.n2
  have n0 : (0 : Int) ≤ (d.n : Int) := by omega
  have n1 : (d.n : Int) ≤ 4096 := by omega
  by_cases hk : 0 ≤ k
  · by_cases hk2 : k < d.n
    · rw [show decide (0 ≤ k ∧ k < d.n) = true by simp [hk, hk2]]
      go_enter Try.func38, Try.ntmps38
      go_wp2
      go_ret
      exact ⟨rfl, rfl⟩
    · rw [show decide (0 ≤ k ∧ k < d.n) = false by simp [hk2]]
      go_enter Try.func38, Try.ntmps38
      go_wp2
      go_ret
      exact ⟨rfl, rfl⟩
  · rw [show decide (0 ≤ k ∧ k < d.n) = false by simp [hk]]
    go_enter Try.func38, Try.ntmps38
    go_wp2
    go_ret
    exact ⟨rfl, rfl⟩
/-- A disk of n zeros. -/
def Dk.new (n : Nat) : Dk := ⟨zs (64 * n), n, [], 0, false, 0⟩
theorem Dk.new_ok {n : Nat} (h1 : 1 ≤ n) (h2 : n ≤ 4096) : (Dk.new n).Ok :=
  ⟨fun x hx => by rw [List.eq_of_mem_replicate hx]; decide, by simp [Dk.new, zs_len], h1, h2, by simp [Dk.new], by simp [Dk.new], by simp [Dk.new], fun x hx => by cases hx⟩
theorem rep_getD (m i : Nat) : (zs m).getD i 0 = 0 := by
  unfold zs
  rw [List.getD, List.getElem?_replicate]
  split <;> rfl
theorem new_cur (n k : Nat) (hk : k < n) : (Dk.new n).cur k = zs 64 := by
  show sec (zs (64 * n)) k = _
  apply list_ext_getD
  · rw [sec_len (n := n) (zs_len _) hk, zs_len]
  · intro i hi
    rw [sec_len (n := n) (zs_len _) hk] at hi
    rw [sec_getD _ _ _ hi, rep_getD, rep_getD]
theorem info_sector : (Try.prog.info? 79).map (fun i => (i.zero, i.size, i.bytes)) = some (some (.agg (bytesL (zs 64))), 64, 64) := by kernel_rfl
theorem info_some {t : TypeId} {z : Option Value} {a b : Nat} (h : (Try.prog.info? t).map (fun i => (i.zero, i.size, i.bytes)) = some (z, a, b)) : ∃ i, Try.prog.info? t = some i ∧ i.zero = z ∧ i.size = a ∧ i.bytes = b := by
  cases hi : Try.prog.info? t with
  | none => rw [hi] at h; cases h
  | some i =>
    rw [hi] at h
    have h' : (i.zero, i.size, i.bytes) = (z, a, b) := Option.some.inj h
    exact ⟨i, rfl, congrArg (·.1) h', congrArg (·.2.1) h', congrArg (·.2.2) h'⟩
theorem made_secs (m : Nat) : madeCells (Value.agg (bytesL (zs 64))).cells m = bytesL (zs m) := by
  have e : ∀ x, (Value.agg (bytesL (zs 64))).cells[x % (Value.agg (bytesL (zs 64))).cells.size]! = .int .u8 0 := fun x => by
    show (bytesL (zs 64))[x % (bytesL (zs 64)).size]! = _
    have hx : x % 64 < 64 := Nat.mod_lt _ (by decide)
    rw [bytesL_size, zs_len]
    have := bytesL_at (zs 64) (x % 64) (by rw [zs_len]; exact hx)
    rw [getElem!_def, this, rep_getD]
    rfl
  unfold madeCells
  simp only [e]
  unfold bytesL zs
  apply Array.ext
  · simp
  · intro i h1 h2; simp
theorem make_secs (n : Nat) (hn : n ≤ 4096) (w : World) : (Instr.makeSlice 63 (.int .i64 n) (.int .i64 n)).run Try.prog w = .ok (.slice (some ⟨w.heap.size, 0, none⟩) n n) (w.alloc (.cells (bytesL (zs (64 * n))) 79)) := by
  obtain ⟨i, hi, z0, z1, z2⟩ := info_some info_sector
  have e := run_makeSlice (P := Try.prog) w 63 79 i _ (by kernel_rfl) hi z0 .i64 .i64 n n (by omega) (by omega) (by rw [z1]; omega) (by rw [z2]; omega) (by omega)
  rw [z1, Int.toNat_natCast, made_secs] at e
  rw [Nat.mul_comm 64 n]
  exact e

set_option maxHeartbeats 1000000 in
theorem new_any (n : Nat) (h1 : 1 ≤ n) (h2 : n ≤ 4096) (w : World) :
    Calls Try.prog 11 #[.int .i64 n] w fun e w' => ∃ R S, e = .returned (.pointer (some ⟨R, 0, none⟩)) ∧ DkAt w' R S (.slice none 0 0) (Dk.new n) ∧ Below w.heap.size w w' ∧ w.heap.size ≤ R ∧ w.heap.size ≤ S := by
  have hm := make_secs n h2 w
  have n1 : ¬ (n : Int) < 1 := by omega
  have n2 : ¬ (4096 : Int) < (n : Int) := by omega
  go_enter Try.func11, Try.ntmps11
  go_wp2
  go_ret
  refine ⟨w.heap.size + 1, rfl, w.heap.size, ⟨Dk.new_ok h1 h2, Row.new _ _ _ (by simp), (Row.new w _ _ rfl).alloc _, World.ownsRow_nil _ _ _ _⟩, below2 _ _ _, by omega, Nat.le_refl _⟩

set_option maxHeartbeats 1000000 in
theorem new_none (n : Int) (h : n < 1 ∨ 4096 < n) (w : World) :
    Calls Try.prog 11 #[.int .i64 n] w fun e w' => e = .returned (.pointer none) ∧ w' = w := by
  by_cases h1 : n < 1
  · go_enter Try.func11, Try.ntmps11
    go_wp2
    go_ret
    exact ⟨rfl, rfl⟩
  · have h2 : 4096 < n := by omega
    go_enter Try.func11, Try.ntmps11
    go_wp2
    go_ret
    exact ⟨rfl, rfl⟩

/-- Cells of the disk's struct laid anew. -/
theorem DkAt.putRow {w : World} {R S : Nat} {v : Value} {d : Dk} (h : DkAt w R S v d) {w' : World} {d' : Dk} {v' : Value} (hd : d'.Ok) (hn : d'.n = d.n) (hF : d'.F = d.F)
    (hr : Row w' R #[.slice (some ⟨S, 0, none⟩) d'.n d'.n, v', .int .i64 d'.cnt, .bool d'.armed, .int .i64 d'.left] 66) (hS : w'.heap[S]? = w.heap[S]?) (hv : w'.ownsRow 0 81 65 v' d'.ws.length (wC d'.ws)) : DkAt w' R S v' d' :=
  ⟨hd, hr, by rw [hF]; exact hS.trans h.sure, hv⟩

set_option maxHeartbeats 1000000 in
theorem arm_any (k : Int) (hk : k ≤ 9223372036854775807) (w : World) (R S : Nat) (v : Value) (d : Dk) (h : DkAt w R S v d) :
    Calls Try.prog 15 #[.pointer (some ⟨R, 0, none⟩), .int .i64 k] w fun e w' => e = .returned (.tuple #[]) ∧ DkAt w' R S v { d with armed := true, left := k.toNat } ∧ DStep w w' R S v v := by
  obtain ⟨c0, c1, c2, c3, c4⟩ := h.cells
  have f3 := h.row.frozen 3
  have f4 := h.row.frozen 4
  have key : ∀ m : Nat, m = k.toNat → DkAt ((w.setCell ⟨R, 3, none⟩ (.bool true)).setCell ⟨R, 4, none⟩ (.int .i64 m)) R S v { d with armed := true, left := k.toNat } ∧ DStep w ((w.setCell ⟨R, 3, none⟩ (.bool true)).setCell ⟨R, 4, none⟩ (.int .i64 m)) R S v v := by
    intro m hm
    subst hm
    have oth : ∀ j, j ≠ R → ((w.setCell ⟨R, 3, none⟩ (.bool true)).setCell ⟨R, 4, none⟩ (.int .i64 (k.toNat : Nat))).heap[j]? = w.heap[j]? := fun j hj => (heap_setCell_other _ ⟨R, 4, none⟩ j _ hj).trans (heap_setCell_other w ⟨R, 3, none⟩ j _ hj)
    refine ⟨h.putRow ⟨h.ok.f8, h.ok.fl, h.ok.n1, h.ok.n2, h.ok.wl, h.ok.cl, ?_, h.ok.wok⟩ rfl rfl ((h.row.set 3 _).set 4 _) (oth S h.rs.symm) (ownsRow_keep h.own fun j _ _ e => oth j (fun e2 => h.vr (e2 ▸ e))), ⟨rfl, rfl, rfl, by simp [World.setCell], fun j _ hj _ _ => oth j hj, fun g hg => Or.inl hg⟩⟩
    show k.toNat ≤ _
    omega
  obtain ⟨k1, k2⟩ := key k.toNat rfl
  have hmx : (k.toNat : Int) = max k 0 := by omega
  rw [hmx] at k1 k2
  clear key hmx
  go_enter Try.func15, Try.ntmps15
  go_wp2
  go_end0
  exact ⟨rfl, k1, k2⟩
end Go.Proofs.Ytfhaphbfbmpbiaa
