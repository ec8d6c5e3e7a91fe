
/-
  append of zeros to bytes of the call's own. (My own text of the stage before, over this seat's types.)
-/
import Derived.Test.YtiiaceeaffdmpaaWiA
import Derived.Lib.AppendZerosOnto
namespace Go.Proofs.Ytiiaceeaffdmpaa
open Go.RowKit

theorem zero_cells (k : Nat) : Builtin.zeroCells (Value.int .u8 0).cells k = bytesL (List.replicate k 0) := by
  have e : ∀ x, (Value.int .u8 0).cells[x % (Value.int .u8 0).cells.size]! = .int .u8 0 := fun x => by show (#[Value.int .u8 0])[x % 1]! = _; rw [Nat.mod_one]; rfl
  have e1 : (Value.int .u8 0).cells.size = 1 := rfl
  unfold Builtin.zeroCells bytesL
  simp only [e1, Nat.mul_one]
  apply Array.ext
  · simp
  · intro i h1 h2
    simp
    exact e i
theorem under_int : Try.prog.underlying 3 = some (.int .i64) := by kernel_rfl
theorem append_zeros (w : World) (base : Nat) (ty : TypeId) (v : Value) (xs : List Nat) (hown : Own w base v xs) (k : Nat) (hk : 0 < k) (hn : xs.length + k ≤ 1048576) (hb : base ≤ w.heap.size) :
    ∃ v' w', (Builtin.append_ #[32, 3] ty #[v, .int .i64 k]).run Try.prog w = .ok v' w' ∧ Own w' base v' (xs ++ List.replicate k 0) ∧ w.grownBy w' v.ownBlock := by
  obtain ⟨i, hi, z0, z1, z2⟩ := info_u8'
  have hlen : (xs ++ List.replicate k 0).length = xs.length + k := by simp
  obtain ⟨hl, ⟨rfl, h0⟩ | ⟨g, cap, cur, rfl, hbg, hg, h1, h2, h3, h4⟩⟩ := id hown
  · obtain rfl := List.eq_nil_of_length_eq_zero h0
    have hr := Lib.run_append_nil_zeros (P := Try.prog) w 32 3 ty 5 i _ .i64 .i64 under_bytes under_int hi z0 k hk (by rw [z1]; decide) (by omega) (by rw [z2]; omega)
    refine ⟨_, _, hr, ?_, ⟨rfl, rfl, rfl, by simp, fun k hk _ => heap_alloc_old w.drew _ hk⟩⟩
    have hge := grownCap_ge w k 0 5
    refine ⟨by simp, .inr ⟨w.heap.size, grownCap w k 0 5, _, by simp, hb, heap_alloc_new w.drew _, by simpa using hge, grownCap_le_maxLen w k 0 _ (by unfold maxLen; omega), ?_, ?_⟩⟩
    · rw [zero_cells, zero_cells, Array.size_append, bytesL_size, bytesL_size]; simp; omega
    · rw [zero_cells]
      simp [bytesL]
  · have hw : IntKind.i64.wrap (k : Int) = k := by rw [IntKind.wrap_i64]; omega
    have hneg : ¬ ((k : Int) < 0) := by omega
    by_cases hroom : xs.length + k ≤ cap
    · have hst := run_storeCells_at Try.prog g xs.length 5 (List.replicate k (.int .u8 0)) 0 cur w hg (by simp; omega) (by simp [Value.oneCell'])
      simp only [Nat.add_zero] at hst
      have h48i : ¬ (281474976710656 < (k : Int)) := by omega
      have hk0 : ¬ k = 0 := by omega
      have ez : (Builtin.zeroCells #[Value.int .u8 0] k).toList = List.replicate k (.int .u8 0) := by
        rw [show (#[Value.int .u8 0] : Array Value) = (Value.int .u8 0).cells from rfl, zero_cells]; simp [bytesL]
      have hr : (Builtin.append_ #[32, 3] ty #[.slice (some ⟨g, 0, none⟩) xs.length cap, .int .i64 k]).run Try.prog w = .ok (.slice (some ⟨g, 0, none⟩) (xs.length + k) cap) (w.setRow g (cur.toList.take xs.length ++ (List.replicate k (Value.int .u8 0) ++ cur.toList.drop (xs.length + k))).toArray) := by
        simp [Builtin.append_, run_underlying under_bytes, run_underlying under_int, sizeOf, typeInfo, zeroValue, hi, z0, z1, z2, asInt, asIntOf, hw, hneg, h48i, hk0, hroom, Addr.add_lit, Value.cells, ez, hst]
      refine ⟨_, _, hr, ?_, ⟨rfl, rfl, rfl, by simp, fun j _ hj => setRow_other w g j _ (fun e => hj (by simp [Value.ownBlock, e]))⟩⟩
      refine ⟨by simp, .inr ⟨g, cap, _, by rw [hlen], hbg, setRow_heap w g cur _ _ _ hg, by omega, h2, ?_, ?_⟩⟩
      · simp; omega
      · have e4 : cur.toList.take xs.length = xs.map fun x : Nat => Value.int .u8 (x : Int) := by simpa using h4
        rw [e4]
        simp
        rw [← List.append_assoc, List.take_append_of_le_length (by simp), List.take_of_length_le (by simp)]
    · have hcells : ∀ j v, (xs.map fun x : Nat => Value.int .u8 (x : Int))[j]? = some v → w.drew.cell? ((⟨g, 0, none⟩ : Addr).add j) = some v := hown.cells (g := g) rfl
      have hold := run_firstCells_some (P := Try.prog) w.drew i.size xs.length ⟨g, 0, none⟩ xs.length cap (xs.map fun x : Nat => Value.int .u8 (x : Int)) (by rw [z1]; exact hl) hcells
      have hr := Lib.run_append_grow_zeros (P := Try.prog) w 32 3 ty 5 i _ .i64 .i64 under_bytes under_int hi z0 (some ⟨g, 0, none⟩) xs.length cap _ hold k hk (by rw [z1]; decide) (by omega) (by omega) (by rw [z2]; omega) (growslice_fits (by omega) (by rw [z2]; omega))
      have hge := grownCap_ge w (xs.length + k) cap 5
      refine ⟨_, _, hr, ?_, ⟨rfl, rfl, rfl, by simp, fun k hk _ => heap_alloc_old w.drew _ hk⟩⟩
      refine ⟨by simp, .inr ⟨w.heap.size, grownCap w (xs.length + k) cap 5, _, by rw [hlen], hb, heap_alloc_new w.drew _, by rw [hlen]; exact hge, grownCap_le_maxLen w _ cap _ (by unfold maxLen; omega), ?_, ?_⟩⟩
      · rw [zero_cells, zero_cells, Array.size_append, Array.size_append, bytesL_size, bytesL_size]; simp; omega
      · rw [zero_cells, zero_cells]
        simp [bytesL]
        rw [List.take_append, List.take_of_length_le (by simp)]
        simp
end Go.Proofs.Ytiiaceeaffdmpaa
