
/-
  The walk of DiskDown.
-/
import Derived.Test.YtkamagicnemppaaDkG
namespace Go.Proofs.Ytkamagicnemppaa
open Go.RowKit
set_option maxRecDepth 100000
set_option linter.unusedVariables false
set_option linter.unusedSimpArgs false

/-- Behind i of n writes. -/
def DownR (w wr : World) (R S n i : Nat) : Prop := ∃ v d, Mine w wr R S v d ∧ d.armed = true ∧ d.left = n - i ∧ d.ws.length = i ∧ d.cnt = i ∧ d.n = 3
theorem down_f {d : Dk} (h : 0 < d.left) : d.down = false := by
  unfold Dk.down
  rw [show (d.left == 0) = false by simp; omega, Bool.and_false]
theorem down_t {d : Dk} (h1 : d.armed = true) (h2 : d.left = 0) : d.down = true := by simp [Dk.down, h1, h2]
theorem down_n {d : Dk} (h1 : d.armed = false) : d.down = false := by simp [Dk.down, h1]
set_option maxHeartbeats 4000000 in
theorem down_walk (x : Int) (u : Value) (l : List Nat) (w : World) (hx : -9223372036854775808 ≤ x ∧ x ≤ 9223372036854775807) (hu0 : BytesAt w u l ∧ ∀ q n c, u = .slice q n c → n ≤ c) :
    Calls Try.prog 7 #[.int .i64 x, u] w fun e w' => e = .returned (.bool true) ∧ Below w.heap.size w w' := by
  obtain ⟨n, hn, hnx⟩ := and15 x
  obtain ⟨hu, hcap⟩ := hu0
  obtain ⟨hu8, hum, pu, cu, rfl, hucells⟩ := id hu
  have hlc := hcap _ _ _ rfl
  clear hcap hucells
  unfold maxLen at hum
  have l0 : (0 : Int) ≤ (l.length : Int) := by omega
  have l1 : (l.length : Int) ≤ 9223372036854775807 := by omega
  obtain ⟨m, hm, hm1, hm2⟩ : ∃ m : Nat, min (l.length : Int) 64 = (m : Int) ∧ m ≤ 64 ∧ m ≤ l.length := ⟨min l.length 64, by omega, by omega, by omega⟩
  have m0 : (0 : Int) ≤ (m : Int) := by omega
  have m1 : (m : Int) ≤ (l.length : Int) := by omega
  have m2 : m ≤ cu := by omega
  have hbm := BytesAt.take (m := 0) hu m hm2 cu
  go_enter Try.func7, Try.ntmps7
  go_wp2_with (go_at_call 9; refine stop ?_)
  refine (fit_any _).mono ?_
  rintro e w1 ⟨rfl, hb1⟩
  go_wp2_with (go_at_call 10; refine stop ?_)
  refine (new_any 3 (by decide) (by decide) w1).mono ?_
  rintro e w2 ⟨R, S, rfl, hd, hb, hR, hS⟩
  have m2' := Mine.new hb1 hd hb hR hS
  clear hd hb hR hS hb1
  have n0 : (0 : Int) ≤ (n : Int) := by omega
  have n1 : (n : Int) ≤ 15 := by omega
  go_wp2_with (go_at_call 15; refine stop ?_)
  refine (arm_any n (by omega) _ R S _ _ m2'.dk).mono ?_
  rintro e w3 ⟨rfl, hd, hs⟩
  have m3 : DownR w w3 R S n 0 := ⟨_, _, m2'.step hd hs, rfl, by simp, rfl, rfl, rfl⟩
  clear hd hs m2'
  go_wp2
  go_loopw [21] (fun i wr => ∃ k : Nat, k ≤ n ∧ i = .int .i64 k ∧ DownR w wr R S n k) (fun i _ => n - (intOf i).toNat)
  case atStart => exact ⟨0, Nat.zero_le _, rfl, m3⟩
  case round =>
    clear m3
    obtain ⟨k, hk, rfl, v, d, hM, h1, h2, h3, h4, h5⟩ := hrel
    by_cases hlt : k < n
    · have hlt' : (k : Int) < (n : Int) := by omega
      have k0 : (0 : Int) ≤ (k : Int) := by omega
      have hdn : d.down = false := down_f (by omega)
      go_wp2_with (go_at_call 18; refine stop ?_)
      refine (down_any _ R S v d hM.dk).mono ?_
      rintro e w' ⟨rfl, hw'⟩
      obtain rfl := hw'.symm
      rw [hdn]
      clear hw'
      go_wp2_with (go_at_call 12; refine stop ?_)
      rw [show ((k : Int) % 3) = ((k % 3 : Nat) : Int) by omega]
      refine (write_any (k % 3) _ (l.take m) _ R S v d hM.dk (hbm.later hM.below) (by omega) (by rw [List.length_take]; omega) hdn (by omega) (by omega)).mono ?_
      rintro e w4 ⟨v4, rfl, hd, hs⟩
      have m4 : DownR w w4 R S n (k + 1) := ⟨_, _, hM.step hd hs, h1, by simp [Dk.put, h1, h2]; omega, by simp [Dk.put, h3], by simp [Dk.put, h4], h5⟩
      clear hd hs hM
      go_wp2
      go_roundw
      case rel => exact ⟨k + 1, by omega, by go_num, m4⟩
      case measure => simp [intOf]; omega
    · obtain rfl : k = n := by omega
      have hdn : d.down = true := down_t h1 (by omega)
      have hbr := hbm.later hM.below
      have hlen : (l.take m).length ≤ 64 := by rw [List.length_take]; omega
      have hlt' : ¬ (k : Int) < (k : Int) := by omega
      go_wp2_with (go_at_call 18; refine stop ?_)
      refine (down_any _ R S v d hM.dk).mono ?_
      rintro e w' ⟨rfl, hw'⟩
      obtain rfl := hw'.symm
      rw [hdn]
      clear hw'
      go_wp2_with (go_at_call 12; refine stop ?_)
      refine (write_down 0 _ (l.take m) _ R S v d hM.dk hbr (by omega) hlen hdn).mono ?_
      rintro e w' ⟨rfl, hw'⟩
      obtain rfl := hw'.symm
      clear hw'
      go_wp2_with (go_at_call 13; refine stop ?_)
      refine (flush_down _ R S v d hM.dk hdn).mono ?_
      rintro e w' ⟨rfl, hw'⟩
      obtain rfl := hw'.symm
      clear hw'
      go_wp2_with (go_at_call 12; refine stop ?_)
      refine (write_bad 9 _ (l.take m) _ R S v d hM.dk hbr (Or.inl (by omega))).mono ?_
      rintro e w' ⟨rfl, hw'⟩
      obtain rfl := hw'.symm
      clear hw'
      go_wp2_with (go_at_call 16; refine stop ?_)
      refine (waits_any _ R S v d hM.dk).mono ?_
      rintro e w' ⟨rfl, hw'⟩
      obtain rfl := hw'.symm
      clear hw'
      rw [h3]
      go_wp2_with (go_at_call 14; refine stop ?_)
      refine (crash_any 0 (by decide) (-1) 0 _ R S v d hM.dk).mono ?_
      rintro e w4 ⟨rfl, hd, hs⟩
      have hM4 := hM.step hd hs
      have hbr4 := hbm.later hM4.below
      clear hd hs hM hbr hdn
      have hn4 : ({ d with F := setl (kept 0 (-1) 0) d.F d.ws, ws := [], armed := false, left := 0 } : Dk).n = 3 := h5
      have hc4 : ({ d with F := setl (kept 0 (-1) 0) d.F d.ws, ws := [], armed := false, left := 0 } : Dk).cnt < 1000000 := by show d.cnt < _; omega
      have hw4 : ({ d with F := setl (kept 0 (-1) 0) d.F d.ws, ws := [], armed := false, left := 0 } : Dk).ws.length < 1000 := by simp
      have ha4 : ({ d with F := setl (kept 0 (-1) 0) d.F d.ws, ws := [], armed := false, left := 0 } : Dk).armed = false := rfl
      generalize ({ d with F := setl (kept 0 (-1) 0) d.F d.ws, ws := [], armed := false, left := 0 } : Dk) = d4 at *
      have hdn4 := down_n ha4
      go_wp2_with (go_at_call 18; refine stop ?_)
      refine (down_any _ R S _ d4 hM4.dk).mono ?_
      rintro e w' ⟨rfl, hw'⟩
      obtain rfl := hw'.symm
      rw [hdn4]
      clear hw'
      go_wp2_with (go_at_call 12; refine stop ?_)
      refine (write_any 0 _ (l.take m) _ R S _ d4 hM4.dk hbr4 (by omega) hlen hdn4 hw4 hc4).mono ?_
      rintro e w5 ⟨v5, rfl, hd, hs⟩
      have hM5 := hM4.step hd hs
      have hdn5 : (d4.put 0 (l.take m)).down = false := down_n (by simp [Dk.put, ha4])
      clear hd hs hM4
      go_wp2_with (go_at_call 13; refine stop ?_)
      refine (flush_any _ R S _ _ hM5.dk hdn5).mono ?_
      rintro e w6 ⟨rfl, hd, hs⟩
      have hM6 := hM5.step hd hs
      clear hd hs hM5
      go_wp2_with (go_at_call 16; refine stop ?_)
      refine (waits_any _ R S _ _ hM6.dk).mono ?_
      rintro e w' ⟨rfl, hw'⟩
      obtain rfl := hw'.symm
      clear hw'
      go_wp2
      go_ret
      exact ⟨rfl, hM6.below⟩
end Go.Proofs.Ytkamagicnemppaa
