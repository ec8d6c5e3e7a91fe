/-
  The walk of ShaZeros, for all bytes and every number: under the contract of the reference's Sum.
-/
import Derived.Test.YtbbpihdebdknhaaDoorShLS
import Derived.Lib.AppendZerosOnto
namespace Go.Proofs.YtbbpihdebdknhaaDoor
open Go.RowKit

theorem and127 (n : Int) : ∃ k : Nat, k ≤ 127 ∧ bits .and .i64 n 127 = (k : Int) := by
  refine ⟨(BitVec.ofInt 64 n).toNat % 128, by omega, ?_⟩
  have h : (BitVec.ofInt 64 n &&& BitVec.ofInt 64 127).toNat = (BitVec.ofInt 64 n).toNat % 128 := by
    rw [BitVec.toNat_and, show (BitVec.ofInt 64 127).toNat = 2 ^ 7 - 1 from rfl]
    exact Nat.and_two_pow_sub_one_eq_mod _ 7
  show IntKind.i64.wrap ((BitVec.ofInt 64 n &&& BitVec.ofInt 64 127).toNat : Int) = _
  rw [h, IntKind.wrap_i64]
  omega
theorem zero_cells (k : Nat) : Builtin.zeroCells (Value.int .u8 0).cells k = bytesL (List.replicate k 0) := by
  have e : ∀ x, (Value.int .u8 0).cells[x % (Value.int .u8 0).cells.size]! = .int .u8 0 := fun x => by show (#[Value.int .u8 0])[x % 1]! = _; rw [Nat.mod_one]; rfl
  have e1 : (Value.int .u8 0).cells.size = 1 := rfl
  unfold Builtin.zeroCells bytesL
  simp only [e1, Nat.mul_one]
  apply Array.ext
  · simp
  · intro i h1 h2
    simp
    exact e i
theorem under_int : Tryd.prog.underlying 3 = some (.int .i64) := by kernel_rfl
theorem append_zeros (w : World) (base : Nat) (ty : TypeId) (v : Value) (xs : List Nat) (hown : Own w base v xs) (k : Nat) (hk : 0 < k) (hn : xs.length + k ≤ 1048576) (hb : base ≤ w.heap.size) :
    ∃ v' w', (Builtin.append_ #[22, 3] ty #[v, .int .i64 k]).run Tryd.prog w = .ok v' w' ∧ Own w' base v' (xs ++ List.replicate k 0) ∧ w.grownBy w' v.ownBlock := by
  obtain ⟨i, hi, z0, z1, z2⟩ := info_u8'
  have hlen : (xs ++ List.replicate k 0).length = xs.length + k := by simp
  obtain ⟨hl, ⟨rfl, h0⟩ | ⟨g, cap, cur, rfl, hbg, hg, h1, h2, h3, h4⟩⟩ := id hown
  · obtain rfl := List.eq_nil_of_length_eq_zero h0
    have hr := Lib.run_append_nil_zeros (P := Tryd.prog) w 22 3 ty 5 i _ .i64 .i64 under_bytes under_int hi z0 k hk (by rw [z1]; decide) (by omega) (by rw [z2]; omega)
    refine ⟨_, _, hr, ?_, ⟨rfl, rfl, rfl, by simp, fun k hk _ => heap_alloc_old w.drew _ hk⟩⟩
    have hge := grownCap_ge w k 0 5
    refine ⟨by simp, .inr ⟨w.heap.size, grownCap w k 0 5, _, by simp, hb, heap_alloc_new w.drew _, by simpa using hge, grownCap_le_maxLen w k 0 _ (by unfold maxLen; omega), ?_, ?_⟩⟩
    · rw [zero_cells, zero_cells, Array.size_append, bytesL_size, bytesL_size]; simp; omega
    · rw [zero_cells]
      simp [bytesL]
  · have hw : IntKind.i64.wrap (k : Int) = k := by rw [IntKind.wrap_i64]; omega
    have hneg : ¬ ((k : Int) < 0) := by omega
    by_cases hroom : xs.length + k ≤ cap
    · have hst := run_storeCells_at Tryd.prog g xs.length 5 (List.replicate k (.int .u8 0)) 0 cur w hg (by simp; omega) (by simp [Value.oneCell'])
      simp only [Nat.add_zero] at hst
      have h48i : ¬ (281474976710656 < (k : Int)) := by omega
      have hk0 : ¬ k = 0 := by omega
      have ez : (Builtin.zeroCells #[Value.int .u8 0] k).toList = List.replicate k (.int .u8 0) := by
        rw [show (#[Value.int .u8 0] : Array Value) = (Value.int .u8 0).cells from rfl, zero_cells]; simp [bytesL]
      have hr : (Builtin.append_ #[22, 3] ty #[.slice (some ⟨g, 0, none⟩) xs.length cap, .int .i64 k]).run Tryd.prog w = .ok (.slice (some ⟨g, 0, none⟩) (xs.length + k) cap) (w.setRow g (cur.toList.take xs.length ++ (List.replicate k (Value.int .u8 0) ++ cur.toList.drop (xs.length + k))).toArray) := by
        simp [Builtin.append_, run_underlying under_bytes, run_underlying under_int, sizeOf, typeInfo, zeroValue, hi, z0, z1, z2, asInt, asIntOf, hw, hneg, h48i, hk0, hroom, Addr.add_lit, Value.cells, ez, hst]
      refine ⟨_, _, hr, ?_, ⟨rfl, rfl, rfl, by simp, fun j _ hj => setRow_other w g j _ (fun e => hj (by simp [Value.ownBlock, e]))⟩⟩
      refine ⟨by simp, .inr ⟨g, cap, _, by rw [hlen], hbg, setRow_heap w g cur _ _ _ hg, by omega, h2, ?_, ?_⟩⟩
      · simp; omega
      · have e4 : cur.toList.take xs.length = xs.map fun x : Nat => Value.int .u8 (x : Int) := by simpa using h4
        rw [e4]
        simp
        rw [← List.append_assoc, List.take_append_of_le_length (by simp), List.take_of_length_le (by simp)]
    · have hcells : ∀ j v, (xs.map fun x : Nat => Value.int .u8 (x : Int))[j]? = some v → w.drew.cell? ((⟨g, 0, none⟩ : Addr).add j) = some v := hown.cells (g := g) rfl
      have hold := run_firstCells_some (P := Tryd.prog) w.drew i.size xs.length ⟨g, 0, none⟩ xs.length cap (xs.map fun x : Nat => Value.int .u8 (x : Int)) (by rw [z1]; exact hl) hcells
      have hr := Lib.run_append_grow_zeros (P := Tryd.prog) w 22 3 ty 5 i _ .i64 .i64 under_bytes under_int hi z0 (some ⟨g, 0, none⟩) xs.length cap _ hold k hk (by rw [z1]; decide) (by omega) (by omega) (by rw [z2]; omega) (growslice_fits (by omega) (by rw [z2]; omega))
      have hge := grownCap_ge w (xs.length + k) cap 5
      refine ⟨_, _, hr, ?_, ⟨rfl, rfl, rfl, by simp, fun k hk _ => heap_alloc_old w.drew _ hk⟩⟩
      refine ⟨by simp, .inr ⟨w.heap.size, grownCap w (xs.length + k) cap 5, _, by rw [hlen], hb, heap_alloc_new w.drew _, by rw [hlen]; exact hge, grownCap_le_maxLen w _ cap _ (by unfold maxLen; omega), ?_, ?_⟩⟩
      · rw [zero_cells, zero_cells, Array.size_append, Array.size_append, bytesL_size, bytesL_size]; simp; omega
      · rw [zero_cells, zero_cells]
        simp [bytesL]
        rw [List.take_append, List.take_of_length_le (by simp)]
        simp

set_option maxHeartbeats 1000000 in
set_option maxRecDepth 100000 in
theorem zeros_walk (hsum : SumC) (va : Value) (l : List Nat) (nn : Int) (w : World) (hA : BytesAt w va l) (_ra : l.length ≤ 140737488351232) (_c0 : -9223372036854775808 ≤ nn) (_c1 : nn ≤ 9223372036854775807) (ht : Tab w) :
    Calls Tryd.prog 6 #[va, .int .i64 nn] w fun e w' => e = .returned (.bool true) ∧ Below w.heap.size w w' := by
  obtain ⟨a8, am, pa, ca, rfl, hca⟩ := id hA
  have g0 : (0 : Int) ≤ (l.length : Int) := by omega
  unfold maxLen at am
  have g1 : (l.length : Int) ≤ 9223372036854775807 := by omega
  by_cases h6 : 300 < (l.length : Int)
  · go_enter Tryd.func6, Tryd.ntmps6
    go_wp2_with (go_at_call 8; refine stop ?_)
    refine (fit_any w ht).mono ?_
    rintro e w1 ⟨rfl, hbw1⟩
    go_wp2
    go_ret
    exact ⟨rfl, hbw1⟩
  have g2 : (l.length : Int) ≤ 300 := by omega
  clear g1 am hca
  have hl3 : l.length ≤ 300 := by omega
  obtain ⟨k, hk, hbk⟩ := and127 nn
  have k0 : (0 : Int) ≤ (k : Int) := by omega
  have k1 : (k : Int) ≤ 127 := by omega
  go_enter Tryd.func6, Tryd.ntmps6
  go_wp2_with (go_at_call 8; refine stop ?_)
  refine (fit_any w ht).mono ?_
  rintro e w1 ⟨rfl, hbw1⟩
  have hA1 := hA.later hbw1
  obtain ⟨v1, u1, run1, own1, gr1, nil1⟩ := append_bytes w1 w1.heap.size 22 (.slice none 0 0) [] (World.ownsRow_nil _ _ _ _) _ l hA1 (by simp; omega) (Nat.le_refl _)
  have hbu1 : Below w1.heap.size w1 u1 := below_grown (Below.refl _ _) (Nat.le_refl _) gr1 (fun k h => by cases h)
  obtain ⟨v2, u2, run2, own2, gr2⟩ := append_zeros u1 w1.heap.size 22 v1 _ own1 (k + 1) (by omega) (by simp; omega) hbu1.size
  have hbu2 : Below w1.heap.size w1 u2 := below_grown hbu1 hbu1.size gr2 (fun j hj => (own1.lt j hj).1)
  rw [show (((k + 1 : Nat)) : Int) = (k : Int) + 1 from by omega] at run2
  have hz8 : W8 (List.replicate (k + 1) 0) := by intro x hx; simp at hx; omega
  have hc8 : W8 ([] ++ l ++ List.replicate (k + 1) 0) := by intro x hx; simp at hx; rcases hx with hx | hx; exact a8 x hx; omega
  have hv2 := own2.bytes hc8 (by simp [maxLen]; omega)
  have hbw2 := chain hbw1 hbu2
  obtain ⟨p2, n2, c2, rfl, hn2⟩ := own2.form
  have HV2 : Hid (BytesAt u2 (.slice p2 n2 c2) ([] ++ l ++ List.replicate (k + 1) 0)) := hv2
  clear hv2 own1 own2 gr1 gr2 hbu1 hbu2 nil1 hn2
  have hmk := make_bytes (k + 1) (by omega) u2
  have hZl : (List.replicate (k + 1) 0).length = k + 1 := by simp
  generalize List.replicate (k + 1) 0 = Z at *
  rw [show (((k + 1 : Nat)) : Int) = (k : Int) + 1 from by omega] at hmk
  have hs1 := hash_same (hashF KW (l ++ Z)) (hash_len _)
  have hs2 := hash_same (hashF KW l) (hash_len _)
  have hs3 := hash_same (hashF KW []) (hash_len _)
  generalize hH1 : hashF KW (l ++ Z) = H1 at *
  generalize hH2 : hashF KW l = H2 at *
  generalize hH3 : hashF KW [] = H3 at *
  have HH1 : Hid (hashF KW (l ++ Z) = H1) := hH1
  have HH2 : Hid (hashF KW l = H2) := hH2
  have HH3 : Hid (hashF KW [] = H3) := hH3
  clear hH1 hH2 hH3
  go_wp2_with (first | (at_builtin; refine Lib.wpList_append_run _ rfl _ _ _ _ rfl _ _ rfl rfl _ _ run1 ?_) | (at_builtin; refine Lib.wpList_append_run _ rfl _ _ _ _ rfl _ _ rfl rfl _ _ run2 ?_) | (go_at_call 9; refine stop ?_))
  have hrow : Row (u2.alloc (.cells (bytesL Z) 5)) u2.heap.size (bytesL Z) 5 := Row.new _ _ _ rfl
  have hbu3 := below1 u2 (.cells (bytesL Z) 5)
  have hbw3 := chain hbw2 hbu3
  have hv3 := HV2.out.later hbu3
  have hP := parts2 _ 22 (hA.later hbw3) (hrow.bytes hz8 (by rw [hZl]; unfold maxLen; omega) (k + 1) (k + 1) hZl.symm) 2
  rw [show (u2.alloc (.cells (bytesL Z) 5)).heap.size = u2.heap.size + 1 from by simp] at hP
  refine (of_eq _ [l, Z] (l ++ Z) H1 _ hP (by simp) (by rw [List.length_append, hZl]; omega) ((ht.later hbw3).later (below1 _ _)) HH1.out).mono ?_
  rintro e w4 ⟨rfl, hb4⟩
  have hbw4 := chain (chainA hbw3 (.cells #[.slice pa l.length ca, .slice (some ⟨u2.heap.size, 0, none⟩) (k + 1) (k + 1)] 22)) hb4
  have hv4 := (hv3.later (below1 _ (.cells #[.slice pa l.length ca, .slice (some ⟨u2.heap.size, 0, none⟩) (k + 1) (k + 1)] 22))).later hb4
  clear hb4 hP hrow hbu3 hv3 hbw3 run1 run2 hmk
  go_wp2_with (go_at_call 10; refine stop ?_)
  refine (hsum _ ([] ++ l ++ Z) _ hv4 (by simp [hZl]; omega)).mono ?_
  rw [List.nil_append, HH1.out]
  rintro e w5 ⟨rfl, hb5⟩
  have hbw5 := chain hbw4 hb5
  clear hb5 hv4 hbw4
  go_wp2_with (go_at_call 9; refine stop ?_)
  refine (of_eq _ [l, [], []] l H2 _ (parts3 w5 22 (hA.later hbw5) (BytesAt.nil _) (BytesAt.nil _) 3) (by simp) (by omega) ((ht.later hbw5).later (below1 _ _)) HH2.out).mono ?_
  rintro e w6 ⟨rfl, hb6⟩
  have hbw6 := chain (chainA hbw5 (.cells #[.slice pa l.length ca, .slice none 0 0, .slice none 0 0] 22)) hb6
  clear hb6 hbw5
  go_wp2_with (go_at_call 9; refine stop ?_)
  refine (of_eq _ [[], l] l H2 _ (parts2 w6 22 (BytesAt.nil _) (hA.later hbw6) 2) (by simp) (by omega) ((ht.later hbw6).later (below1 _ _)) HH2.out).mono ?_
  rintro e w7 ⟨rfl, hb7⟩
  have hbw7 := chain (chainA hbw6 (.cells #[.slice none 0 0, .slice pa l.length ca] 22)) hb7
  clear hb7 hbw6
  go_wp2_with (go_at_call 9; refine stop ?_)
  refine (of_eq _ [] [] H3 _ (parts0 _) (by simp) (by simp) (ht.later hbw7) HH3.out).mono ?_
  rintro e w8 ⟨rfl, hb8⟩
  have hbw8 := chain hbw7 hb8
  clear hb8 hbw7
  go_wp2_with (go_at_call 9; refine stop ?_)
  refine (of_eq _ [[]] [] H3 _ (parts1 w8 22 (BytesAt.nil _) 1) (by simp) (by simp) ((ht.later hbw8).later (below1 _ _)) HH3.out).mono ?_
  rintro e w9 ⟨rfl, hb9⟩
  have hbw9 := chain (chainA hbw8 (.cells #[.slice none 0 0] 22)) hb9
  clear hb9 hbw8
  go_wp2
  go_ret
  exact ⟨rfl, hbw9⟩
end Go.Proofs.YtbbpihdebdknhaaDoor
