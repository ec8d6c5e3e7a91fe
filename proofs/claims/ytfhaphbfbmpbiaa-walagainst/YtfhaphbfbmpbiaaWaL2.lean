
/-
  WalSizes: its walk. For every input.
-/
import Derived.Test.YtfhaphbfbmpbiaaWaL1
import Derived.Test.YtfhaphbfbmpbiaaWaOp
namespace Go.Proofs.Ytfhaphbfbmpbiaa
open Go.RowKit
set_option maxRecDepth 100000
set_option linter.unusedVariables false
set_option linter.unusedSimpArgs false

/-- What the law holds behind k records. -/
def SizeR (w wr : World) (W R S : Nat) (k e : Nat) : Prop :=
  ∃ v d L st, LogW w wr W R S v d L e st ∧ d.n = 2000 ∧ d.cnt = e ∧ d.armed = false ∧ e ≤ 19 * k
set_option maxHeartbeats 2000000 in
theorem walSizes_walk (v0 : Value) (l : List Int) (w : World) (hl : IntsIn w v0 l) :
    Calls Try.prog 9 #[v0] w fun e w' => e = .returned (.bool true) ∧ Below w.heap.size w w' := by
  obtain ⟨hmx, p0, c0, rfl, hc⟩ := id hl
  have HI := (show Hid _ from hl)
  have HC := (show Hid _ from hc)
  clear hl hc
  go_enter Try.func9, Try.ntmps9
  go_wp2_with (go_at_call 10; refine stop ?_)
  refine (fit5_any w).mono ?_
  rintro e w1 ⟨rfl, hb1⟩
  by_cases hlen : l.length ≤ 30
  · have l1 : (l.length : Int) ≤ 30 := by omega
    have l0 : (0 : Int) ≤ (l.length : Int) := by omega
    have HL := (show Hid _ from hlen)
    clear hmx hlen
    go_wp2_with (go_at_call 11; refine stop ?_)
    refine (new_any 2000 (by omega) (by omega) w1).mono ?_
    rintro e w2 ⟨R, S, rfl, hd, hb, hR, hS⟩
    have m2 := Mine.new hb1 hd hb hR hS
    clear hd hb hR hS hb1
    go_wp2_with (go_at_call 12; refine stop ?_)
    refine (open_lg w w2 R S _ _ [] 0 m2 (Lg.new 2000) rfl (by show (0 : Nat) < 1000000; decide)).mono ?_
    rintro e w3 ⟨W, u3, v3, st3, rfl, lw3, hW3, hL3, _⟩
    clear m2 hL3 hW3
    have hR0 : SizeR w w3 W R S 0 0 := ⟨v3, _, [], st3, lw3, rfl, rfl, rfl, Nat.zero_le _⟩
    clear lw3
    go_wp2
    go_loopw [24, 7] (fun i j wr => ∃ k e : Nat, k ≤ l.length ∧ i = .int .i64 k ∧ j = .int .i64 e ∧ SizeR w wr W R S k e) (fun i _ _ => l.length - (intOf i).toNat)
    case atStart => exact ⟨0, 0, Nat.zero_le _, rfl, rfl, hR0⟩
    case round =>
      obtain ⟨k, e, hk, rfl, rfl, v5, d5, L5, st5, lw5, hn5, hc5, ha5, he5⟩ := hrel
      clear hR0
      have HLW := (show Hid _ from lw5)
      have hl30 := HL.out
      have e1 : (e : Int) ≤ 570 := by omega
      have e0 : (0 : Int) ≤ (e : Int) := by omega
      have HE := (show Hid _ from he5)
      have HN5 := (show Hid _ from hn5)
      have HC5 := (show Hid _ from hc5)
      have k1 : (k : Int) ≤ 30 := by omega
      have k0 : (0 : Int) ≤ (k : Int) := by omega
      by_cases hlt : k < l.length
      · have kl : (k : Int) < (l.length : Int) := by omega
        obtain ⟨b, off, rfl, hbl, hcell⟩ := HC.out k hlt
        have hcell2 := (lw5.mine.below.cell (p := ⟨b, off + k, none⟩) hbl).trans hcell
        obtain ⟨m, hm, em⟩ := and_low16 (l.getD k 0) 10 (by decide)
        replace em : bits .and .i64 (l.getD k 0) 1023 = (m : Int) := em
        generalize l.getD k 0 = x at *
        have m1 : (m : Int) < 1024 := by have : m < 1024 := hm; omega
        have m0 : (0 : Int) ≤ (m : Int) := by omega
        have HM : Hid (m < 1024) := hm
        have HK := (show Hid _ from hlt)
        have hmk := make_bytes m (by have := HM.out; omega) wr
        have lw6 := lw5.later (below1 wr (.cells (bytesL (List.replicate m 0)) 5))
        have hr6 := (Row.new wr (bytesL (List.replicate m 0)) 5 rfl).bytes (zs_w8 m) (by rw [List.length_replicate]; have := HM.out; unfold maxLen; omega) m m (by simp)
        have HLW6 := (show Hid _ from lw6)
        clear hcell hlt hm hl30 he5 hn5 hc5 lw5 HLW lw6
        go_wp2_with (go_at_call 13; refine stop ?_)
        have hs : secs m ≤ 19 := by have := HM.out; unfold secs; omega
        have hse : (secs m : Int) = 1 + ((m : Int) + 7) / 56 := by unfold secs; omega
        have hset : (secs m : Int) = 1 + ((m : Int) + 7).tdiv 56 := by rw [Int.tdiv_eq_ediv_of_nonneg (by omega)]; exact hse
        refine (append_lg w _ W R S v5 _ d5 L5 e st5 (List.replicate m 0) HLW6.out hr6 (by rw [List.length_replicate]; have := HM.out; omega) (by rw [HN5.out, List.length_replicate]; have := HE.out; have := HL.out; have := HK.out; omega) ha5 (by rw [HC5.out]; have := HE.out; have := HL.out; have := HK.out; omega)).mono ?_
        rintro en w6 ⟨v6, d6, st6, rfl, lw6, hA6, hn6, hc6, ha6⟩
        rw [List.length_replicate] at lw6 hc6
        have hrow6 := lw6.row
        have hdk6 := lw6.mine.dk
        have hws6 := lw6.lg.ws
        have HR : SizeR w w6 W R S (k + 1) (e + secs m) := ⟨v6, d6, _, st6, lw6, hn6.trans HN5.out, by rw [hc6, HC5.out], ha6, by have := HE.out; omega⟩
        have HS := (show Hid _ from hse)
        have hs0 : (1 : Int) + ((m : Int) + 7) / 56 ≤ 19 := by omega
        have hs1 : (0 : Int) ≤ 1 + ((m : Int) + 7) / 56 := by omega
        clear lw6 hA6 hn6 hc6 ha6 HLW6 hr6 ha5 hmk hcell2 hs hse
        go_wp2_with (go_at_call 18; refine stop ?_)
        refine (walEnd_any w6 W R _ _ st6 hrow6).mono ?_
        rintro en w7 ⟨rfl, hw7⟩
        obtain rfl := hw7.symm
        clear hw7
        go_wp2_with (go_at_call 23; refine stop ?_)
        refine (waits_any w6 R S v6 d6 hdk6).mono ?_
        rintro en w7 ⟨rfl, hw7⟩
        obtain rfl := hw7.symm
        clear hw7
        rw [hws6]
        go_wp2
        go_roundw
        case rel => exact ⟨k + 1, e + secs m, by have := HK.out; omega, by go_num, by go_num, HR⟩
        case measure => simp [intOf]; have := HK.out; omega
      · obtain rfl : k = l.length := by omega
        have hB := lw5.mine.below
        have hdk := lw5.mine.dk
        clear hlt hl30 he5 hn5 hc5
        go_wp2_with (go_at_call 22; refine stop ?_)
        refine (writes_any wr R S v5 d5 hdk).mono ?_
        rintro en w7 ⟨rfl, hw7⟩
        obtain rfl := hw7.symm
        clear hw7
        rw [HC5.out]
        go_wp2
        go_ret
        exact ⟨rfl, hB⟩
  · have l1 : (30 : Int) < (l.length : Int) := by omega
    go_wp2
    go_ret
    exact ⟨rfl, hb1⟩
end Go.Proofs.Ytfhaphbfbmpbiaa
