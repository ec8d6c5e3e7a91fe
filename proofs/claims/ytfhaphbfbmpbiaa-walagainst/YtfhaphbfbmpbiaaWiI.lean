
/-
  package wire's Writer: Int. For all numbers of 64 bits.
-/
import Derived.Test.YtfhaphbfbmpbiaaWiN
namespace Go.Proofs.Ytfhaphbfbmpbiaa
open Go.RowKit
set_option maxRecDepth 100000

/-- The lowest n bytes of a number of 64 bits. -/
def intB (n : Nat) (x : Int) : List Nat := enc n (x % 18446744073709551616).toNat
theorem intB_len (n : Nat) (x : Int) : (intB n x).length = n := enc_len _ _
theorem intB_w8 (n : Nat) (x : Int) : W8 (intB n x) := enc_w8 _ _
/-- Whole numbers in blocks of which N holds. -/
def IntsOff (w : World) (N : Nat → Prop) (v : Value) (L : List Int) : Prop :=
  L.length ≤ 1000 ∧ ∃ p c, v = .slice p L.length c ∧ ∀ i, i < L.length → ∃ b off, p = some ⟨b, off, none⟩ ∧ N b ∧ b < w.heap.size ∧ w.cell? ⟨b, off + i, none⟩ = some (.int .i64 (L.getD i 0))
def intsB (n : Nat) (L : List Int) (k : Nat) : List Nat := (L.take k).flatMap (intB n)
theorem intsB_succ (n : Nat) (L : List Int) (k : Nat) (h : k < L.length) : intsB n L (k + 1) = intsB n L k ++ intB n (L.getD k 0) := by
  unfold intsB
  rw [List.take_succ_eq_append_getElem (i := k) (l := L) h, List.flatMap_append]
  simp only [List.getD, List.getElem?_eq_getElem h, Option.getD_some, List.flatMap_cons, List.flatMap_nil, List.append_nil]
theorem intsB_len (n : Nat) (L : List Int) (k : Nat) (h : k ≤ L.length) : (intsB n L k).length = n * k := by
  induction k with
  | zero => simp [intsB]
  | succ k ih => rw [intsB_succ n L k (by omega), List.length_append, ih (by omega), intB_len, Nat.mul_succ]
theorem intsB_all (n : Nat) (L : List Int) (k : Nat) (h : L.length ≤ k) : intsB n L k = L.flatMap (intB n) := by unfold intsB; rw [List.take_of_length_le h]

theorem byte_at (n j : Nat) (hj : j < n) (x : Int) : IntKind.u8.wrap (IntKind.u64.wrap x / 2 ^ (8 * ((n : Int) - 1 - (j : Int))).toNat) = ((intB n x).getD j 0 : Nat) := by
  rw [intB, enc_getD n _ j hj, IntKind.wrap_u64, show (8 * ((n : Int) - 1 - (j : Int))).toNat = 8 * (n - 1 - j) from by omega, show (2 : Int) ^ (8 * (n - 1 - j)) = ((256 ^ (n - 1 - j) : Nat) : Int) from by rw [Int.pow_mul, Int.natCast_pow]; rfl]
  obtain ⟨U, hU⟩ := Int.eq_ofNat_of_zero_le (Int.emod_nonneg x (show (18446744073709551616 : Int) ≠ 0 by decide))
  rw [hU, ← Int.natCast_ediv, IntKind.wrap_u8]
  simp
set_option maxHeartbeats 2000000 in
theorem wint_any (n : Nat) (hn : n ≤ 8) (pv : Value) (L : List Int) (w : World) (b : Nat) (v : Value) (l : List Nat) (h : WrAt w b v l) (hp : IntsOff w (Far b v) pv L) (hT : l.length ≤ 1000000) :
    Calls Try.prog 24 #[.pointer (some ⟨b, 0, none⟩), .int .i64 n, pv] w fun e w' => ∃ v', e = .returned (.pointer (some ⟨b, 0, none⟩)) ∧ WrAt w' b v' (l ++ L.flatMap (intB n)) ∧ WStep w w' b v v' := by
  obtain ⟨hm, p, c, rfl, hc⟩ := id hp
  have hm0 : (0 : Int) ≤ (L.length : Int) := by omega
  have hm1 : (L.length : Int) ≤ 1000 := by omega
  have n0 : (0 : Int) ≤ (n : Int) := by omega
  have n1 : (n : Int) ≤ 8 := by omega
  go_enter Try.func24, Try.ntmps24
  go_wp2
  go_loopw [15] (fun i wr => ∃ (k : Nat) (vk : Value), k ≤ L.length ∧ i = .int .i64 k ∧ WrAt wr b vk (l ++ intsB n L k) ∧ WStep w wr b v vk) (fun i _ => L.length - (intOf i).toNat)
  case atStart => exact ⟨0, v, Nat.zero_le _, rfl, by simpa [intsB] using h, WStep.refl _ _ _⟩
  case round =>
    obtain ⟨k, vk, hk, rfl, hw, hs⟩ := hrel
    by_cases hlt : k < L.length
    · obtain ⟨bb, off, rfl, hN, hbb, hc0⟩ := hc k hlt
      have d0 := (World.cell?_of_block (a := ⟨bb, off + k, none⟩) (hs.far hN hbb)).trans hc0
      have hle := intsB_len n L k (by omega)
      have HS : Hid (intsB n L (k + 1) = intsB n L k ++ intB n (L.getD k 0)) := intsB_succ n L k hlt
      have hlen : (l ++ intsB n L k).length ≤ 1008000 := by
        rw [List.length_append, hle]
        have : n * k ≤ 8 * 1000 := Nat.mul_le_mul hn (by omega)
        omega
      clear hc hp hc0 hle
      generalize L.getD k 0 = x at *
      have g0 : (0 : Int) ≤ (k : Int) := by omega
      have g1 : (k : Int) < (L.length : Int) := by omega
      go_wp2
      go_loopw [20] (fun i wr => ∃ (j : Nat) (vj : Value), j ≤ n ∧ i = .int .i64 j ∧ WrAt wr b vj (l ++ intsB n L k ++ (intB n x).take j) ∧ WStep w wr b v vj) (fun i _ => n - (intOf i).toNat)
      case atStart => exact ⟨0, vk, Nat.zero_le _, rfl, by simpa using hw, hs⟩
      case round =>
        obtain ⟨j, vj, hj, rfl, hwj, hsj⟩ := hrel
        clear hw hs d0
        by_cases hlj : j < n
        · have j0 : (0 : Int) ≤ (j : Int) := by omega
          have j1 : (j : Int) < (n : Int) := by omega
          have c0 := hwj.row.cell 0
          simp only [List.getElem?_toArray, List.getElem?_cons_zero] at c0
          obtain ⟨pj, nj, cj, rfl, hnj⟩ := hwj.own.form
          clear hnj
          go_wp2_with fail
          refine wp_region_D (fun i => i != 14) (fun w' => w'.cell? ⟨b, 0, none⟩ = some (.slice pj nj cj)) (by kernel_rfl) ?_
          have hS : (fun w' : World => w'.cell? ⟨b, 0, none⟩ = some (.slice pj nj cj)) wr.drew := c0
          refine' wpAnyD_take (i := 0) (v := _) rfl (by kernel_rfl) (by kernel_rfl) (by kernel_rfl) (by kernel_rfl) (fun _ _ _ h => h) (Or.inl ⟨by rfl, ?hy1⟩) hS ?re1
          case hy1 => (intro w hSw; (try dsimp only at hSw); go_simp; (try with_reducible rfl))
          simp only [Act.put, List.setIfInBounds_toArray, List.set_cons_zero, List.set_cons_succ]
          refine' wpAnyD_take (i := 1) (v := _) rfl (by kernel_rfl) (by kernel_rfl) (by kernel_rfl) (by kernel_rfl) (fun _ _ _ h => h) (Or.inl ⟨by rfl, ?hy2⟩) hS ?re2
          case hy2 => (intro w hSw; (try dsimp only at hSw); go_simp; (try with_reducible rfl))
          simp only [Act.put, List.setIfInBounds_toArray, List.set_cons_zero, List.set_cons_succ]
          refine' wpAnyD_take (i := 2) (v := _) rfl (by kernel_rfl) (by kernel_rfl) (by kernel_rfl) (by kernel_rfl) (fun _ _ _ h => h) (Or.inl ⟨by rfl, ?hy3⟩) hS ?re3
          case hy3 => (intro w hSw; (try dsimp only at hSw); go_simp; (try with_reducible rfl))
          simp only [Act.put, List.setIfInBounds_toArray, List.set_cons_zero, List.set_cons_succ]
          refine' wpAnyD_take (i := 3) (v := _) rfl (by kernel_rfl) (by kernel_rfl) (by kernel_rfl) (by kernel_rfl) (fun _ _ _ h => h) (Or.inl ⟨by rfl, ?hy4⟩) hS ?re4
          case hy4 => (intro w hSw; (try dsimp only at hSw); go_simp; (try with_reducible rfl))
          simp only [Act.put, List.setIfInBounds_toArray, List.set_cons_zero, List.set_cons_succ]
          refine' wpAnyD_take (i := 4) (v := _) rfl (by kernel_rfl) (by kernel_rfl) (by kernel_rfl) (by kernel_rfl) (fun _ _ _ h => h) (Or.inl ⟨by rfl, ?hy5⟩) hS ?re5
          case hy5 => (intro w hSw; (try dsimp only at hSw); go_simp; (try with_reducible rfl))
          simp only [Act.put, List.setIfInBounds_toArray, List.set_cons_zero, List.set_cons_succ]
          refine' wpAnyD_take (i := 5) (v := _) rfl (by kernel_rfl) (by kernel_rfl) (by kernel_rfl) (by kernel_rfl) (fun _ _ _ h => h) (Or.inl ⟨by rfl, ?hy6⟩) hS ?re6
          case hy6 => (intro w hSw; (try dsimp only at hSw); go_simp; (try with_reducible rfl))
          simp only [Act.put, List.setIfInBounds_toArray, List.set_cons_zero, List.set_cons_succ]
          refine' wpAnyD_take (i := 6) (v := _) rfl (by kernel_rfl) (by kernel_rfl) (by kernel_rfl) (by kernel_rfl) (fun _ _ _ h => h) (Or.inl ⟨by rfl, ?hy7⟩) hS ?re7
          case hy7 => (intro w hSw; (try dsimp only at hSw); go_simp; (try with_reducible rfl))
          simp only [Act.put, List.setIfInBounds_toArray, List.set_cons_zero, List.set_cons_succ]
          refine' wpAnyD_take (i := 7) (v := _) rfl (by kernel_rfl) (by kernel_rfl) (by kernel_rfl) (by kernel_rfl) (fun _ _ _ h => h) (Or.inl ⟨by rfl, ?hy8⟩) hS ?re8
          case hy8 => (intro w hSw; (try dsimp only at hSw); go_simp; (try with_reducible rfl))
          simp only [Act.put, List.setIfInBounds_toArray, List.set_cons_zero, List.set_cons_succ]
          refine' wpAnyD_take (i := 8) (v := _) rfl (by kernel_rfl) (by kernel_rfl) (by kernel_rfl) (by kernel_rfl) (fun _ _ _ h => h) (Or.inl ⟨by rfl, ?hy9⟩) hS ?re9
          case hy9 => (intro w hSw; (try dsimp only at hSw); go_simp; (try with_reducible rfl))
          simp only [Act.put, List.setIfInBounds_toArray, List.set_cons_zero, List.set_cons_succ]
          refine' wpAnyD_take (i := 9) (v := _) rfl (by kernel_rfl) (by kernel_rfl) (by kernel_rfl) (by kernel_rfl) (fun _ _ _ h => h) (Or.inl ⟨by rfl, ?hy10⟩) hS ?re10
          case hy10 => (intro w hSw; (try dsimp only at hSw); go_simp; (try with_reducible rfl))
          simp only [Act.put, List.setIfInBounds_toArray, List.set_cons_zero, List.set_cons_succ]
          refine wpAnyD_only (i := 10) rfl (by kernel_rfl) (by rfl) (fun K hK => ?_)
          go_simp
          rw [byte_at n j hlj x]
          have hz : (intB n x).getD j 0 < 256 := (intB_w8 n x).at j
          have HT : Hid ((intB n x).take (j + 1) = (intB n x).take j ++ [(intB n x).getD j 0]) := take_snoc _ _ (by rw [intB_len]; exact hlj)
          generalize (intB n x).getD j 0 = z at *
          have hb1 : Below wr.heap.size wr (wr.alloc (.cells #[.int .u8 (z : Nat)] 5)).drew := (below1 wr _).drew
          have hx1 : BytesAt (wr.alloc (.cells #[.int .u8 (z : Nat)] 5)).drew (.slice (some ⟨wr.heap.size, 0, none⟩) 1 1) [z] := (Row.new wr (bytesL [z]) 5 rfl).drew.bytes (fun y hy => by simp at hy; omega) (by simp [maxLen]) 1 1 rfl
          have hw1 := hwj.later hb1
          have hs1 := hsj.trans (WStep.of hb1 b _)
          have c1 := hw1.row.cell 0
          simp only [List.getElem?_toArray, List.getElem?_cons_zero] at c1
          clear hwj hsj c0 hb1
          try dsimp only
          have hSn := c1
          refine hK.out _ _ (fun _ => hSn) ?_
          clear hK K hS
          have hS := hSn
          clear hSn
          try simp only [Act.put, List.setIfInBounds_toArray, List.set_cons_zero, List.set_cons_succ]
          generalize (wr.alloc (.cells #[.int .u8 (z : Nat)] 5)).drew = w1 at *
          have hlj2 : ((intB n x).take j).length = j := by rw [List.length_take, intB_len]; omega
          have hle4 : (l ++ intsB n L k ++ (intB n x).take j).length + [z].length ≤ 1048576 := by
            rw [List.length_append] at hlen
            simp only [List.length_append, hlj2, List.length_singleton]
            omega
          obtain ⟨v2, w2, run2, own2, gr2, _, mv2⟩ := append_bytes w1 0 31 _ _ hw1.own _ [z] hx1 hle4 (Nat.zero_le _)
          obtain ⟨hw2, hs2⟩ := hw1.put hx1.1 own2 gr2 mv2
          have hrow2 : Row w2 b #[.slice pj nj cj] 53 := (gr2.block b hw1.lt (fun e => hw1.ne e.symm)).trans hw1.row
          have f2 := hrow2.frozen 0
          have c2 := hrow2.cell 0
          simp only [List.getElem?_toArray, List.getElem?_cons_zero] at c2
          rw [List.append_assoc, ← HT.out] at hw2
          have hs3 := hs1.trans hs2
          obtain ⟨p2, n2, c2', rfl, hn2⟩ := own2.form
          clear hn2 hx1 own2 gr2 mv2 hrow2 hw1 hs1 hs2 hlj2 hle4
          refine wpAnyD_only (i := 11) rfl (by kernel_rfl) (by rfl) (fun K hK => ?_)
          refine Lib.wp_append_run _ (.tmp 32) (.tmp 38) 31 31 rfl _ _ rfl rfl _ _ run2 ?_
          try dsimp only
          have hSn := c2
          refine hK.out _ _ (fun _ => hSn) ?_
          clear hK K hS
          have hS := hSn
          clear hSn
          try simp only [Act.put, List.setIfInBounds_toArray, List.set_cons_zero, List.set_cons_succ]
          refine' wpAnyD_take (i := 12) (v := _) rfl (by kernel_rfl) (by kernel_rfl) (by kernel_rfl) (by kernel_rfl) (fun _ _ _ h => h) (Or.inl ⟨by rfl, ?hy11⟩) hS ?re11
          case hy11 => (intro w hSw; (try dsimp only at hSw); go_simp; (try with_reducible rfl))
          simp only [Act.put, List.setIfInBounds_toArray, List.set_cons_zero, List.set_cons_succ]
          refine' wpAnyD_take (i := 13) (v := _) rfl (by kernel_rfl) (by kernel_rfl) (by kernel_rfl) (by kernel_rfl) (fun _ _ _ h => h) (Or.inl ⟨by rfl, ?hy12⟩) hS ?re12
          case hy12 => (intro w hSw; (try dsimp only at hSw); go_simp; (try with_reducible rfl))
          simp only [Act.put, List.setIfInBounds_toArray, List.set_cons_zero, List.set_cons_succ]
          refine wpAnyD_only (i := 14) rfl (by kernel_rfl) (by rfl) (fun K hK => ?_)
          go_simp
          refine hK.out _ _ (fun h => by cases h) ?_
          clear hK K
          try simp only [Act.put, List.setIfInBounds_toArray, List.set_cons_zero, List.set_cons_succ]
          refine wpAnyD_done (by kernel_rfl) ?_ _
          go_wp2
          go_roundw
          case rel => exact ⟨j + 1, _, by omega, by go_num, hw2, hs3⟩
          case measure => simp [intOf]; omega
        · obtain rfl : j = n := by omega
          have j1 : ¬ (j : Int) < (j : Int) := by omega
          rw [List.take_of_length_le (l := intB j x) (by rw [intB_len]; exact Nat.le_refl _), List.append_assoc, ← HS.out] at hwj
          go_wp2
          go_roundw
          case rel => exact ⟨k + 1, _, by omega, by go_num, hwj, hsj⟩
          case measure => simp [intOf]; omega
    · rw [intsB_all n L k (by omega)] at hw
      go_wp2
      go_ret
      exact ⟨_, rfl, hw, hs⟩
end Go.Proofs.Ytfhaphbfbmpbiaa
