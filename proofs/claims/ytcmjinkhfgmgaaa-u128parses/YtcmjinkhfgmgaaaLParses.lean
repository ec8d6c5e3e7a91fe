/-
  The walk of paciolilaw01.U128Parses: it returns true, for every number and every string, and turns nothing that was there.
-/
import Derived.Test.YtcmjinkhfgmgaaaDecU
import Derived.Test.YtcmjinkhfgmgaaaFit
import Derived.Deep.DeepCutAuto
namespace Go.Proofs.Ytcmjinkhfgmgaaa
open Go.RowKit
set_option linter.unusedSimpArgs false

/-- Digits alone, of the first k bytes; and what stands ahead of that. -/
def pre9 (s : ByteArray) : Bool := decide (0 < s.size ∧ s.size ≤ 39 ∧ ((bl s).getD 0 0 ≠ 48 ∨ s.size = 1))
def dK9 (s : ByteArray) (k : Nat) : Bool := pre9 s && ((bl s).take k).all fun c => decide (48 ≤ c ∧ c ≤ 57)
theorem dK9_zero (s : ByteArray) : dK9 s 0 = pre9 s := by simp [dK9]
theorem dK9_succ (s : ByteArray) (k : Nat) (h : k < s.size) : dK9 s (k + 1) = (dK9 s k && decide (48 ≤ (bl s).getD k 0 ∧ (bl s).getD k 0 ≤ 57)) := by
  have e : (bl s).take (k + 1) = (bl s).take k ++ [(bl s).getD k 0] := by
    rw [List.take_add_one]
    simp [List.getD_eq_getElem?_getD, show k < (bl s).length from by rw [bl_len]; exact h]
  rw [dK9, e, List.all_append, dK9, Bool.and_assoc]
  simp only [List.all_cons, List.all_nil, Bool.and_true]
theorem dK9_end (s : ByteArray) : dK9 s s.size = true ↔ good (bl s) ∧ s.size ≤ 39 := by
  have e : (bl s).take s.size = bl s := List.take_of_length_le (by rw [bl_len]; exact Nat.le_refl _)
  rw [dK9, e, Bool.and_eq_true, pre9, decide_eq_true_eq, List.all_eq_true]
  simp only [decide_eq_true_eq, good, bl_len]
  constructor
  · rintro ⟨⟨a, b, c⟩, d⟩
    refine ⟨⟨fun h => ?_, fun h => ?_, d⟩, b⟩
    · have := bl_len s; rw [h] at this; simp at this; omega
    · rcases c with c | c
      · exact absurd h c
      · exact c
  · rintro ⟨⟨a, b, c⟩, d⟩
    refine ⟨⟨?_, d, ?_⟩, c⟩
    · rcases Nat.eq_zero_or_pos s.size with h | h
      · exact absurd (List.eq_nil_of_length_eq_zero (by rw [bl_len]; exact h)) a
      · exact h
    · by_cases h : (bl s).getD 0 0 = 48
      · exact .inr (b h)
      · exact .inl h

/-- Parse of what Print prints. -/
theorem parse_back (ah al : Int) (w : World) (h1 : Word ah) (h2 : Word al) :
    Calls Try.prog 25 #[.string (strOfNums (dec (ah * 18446744073709551616 + al).toNat))] w fun e w' => e = .returned (.tuple #[.agg #[.int .u64 ah, .int .u64 al], .bool true]) ∧ Below w.heap.size w w' := by
  refine (parse_any _ w).mono ?_
  rintro e w' ⟨yh, yl, ok, rfl, ⟨k1, k2⟩, ⟨k3, k4⟩, hq, hb⟩
  obtain ⟨a1, a2⟩ := h1
  obtain ⟨b1, b2⟩ := h2
  have ht : (10 : Nat) ^ 39 = 1000000000000000000000000000000000000000 := by decide
  have hn : (ah * 18446744073709551616 + al).toNat < 10 ^ 39 := by rw [ht]; omega
  rw [bl_str _ (dec_digit _), valOf_dec _ hn] at hq
  rcases hq with ⟨rfl, _, h⟩ | ⟨_, _, _, h⟩
  · obtain rfl : yh = ah := by omega
    obtain rfl : yl = al := by omega
    exact ⟨rfl, hb⟩
  · exact absurd ⟨good_dec _ hn, by omega⟩ h

set_option maxRecDepth 100000 in
set_option maxHeartbeats 1500000 in
theorem law_parses (ah al : Int) (s : ByteArray) (w : World) (h1 : Word ah) (h2 : Word al) (_hs : s.size ≤ maxLen) :
    Calls Try.prog 8 #[.agg #[.int .u64 ah, .int .u64 al], .string s] w fun e w' => e = .returned (.bool true) ∧ Below w.heap.size w w' := by
  go_enter Try.func8, Try.ntmps8
  go_wp2_with fail
  refine (fit_any _).mono ?_
  rintro e w1 ⟨rfl, hb1⟩
  have NA := (NumAt.new w ah al 27).later hb1
  have bel1 := chain (below1 w _) hb1
  obtain ⟨zA, A0, A1⟩ := id NA
  by_cases hbig : 100 < s.size
  · have hbig' : (100 : Int) < (s.size : Int) := by omega
    go_wp2
    go_ret
    exact ⟨rfl, bel1⟩
  · have hbig' : ¬ (100 : Int) < (s.size : Int) := by omega
    go_wp2_with fail
    refine (print_any ah al _ h1 h2).mono ?_
    rintro e w2 ⟨rfl, hb2⟩
    have NA2 := NA.later hb2
    have bel2 := chain bel1 hb2
    clear zA A0 A1 NA bel1 hb1 hb2 hbig hbig'
    go_wp2_with fail
    refine (parse_back ah al _ h1 h2).mono ?_
    rintro e w3 ⟨rfl, hb3⟩
    go_wp2_with fail
    refine (parse_any s _).mono ?_
    rintro e w4 ⟨yh, yl, is, rfl, wy1, wy2, hy, hb4⟩
    have NX : NumAt w4 w3.heap.size ah al := (NumAt.new w3 ah al 27).later hb4
    have b34 := chain (below1 w3 _) hb4
    have NA4 := (NA2.later hb3).later b34
    have bel4 := chain (chain bel2 hb3) b34
    have HY : Hid ((is = true ∧ good (bl s) ∧ yh * 18446744073709551616 + yl = (valOf (bl s) : Int)) ∨ (is = false ∧ yh = 0 ∧ yl = 0 ∧ ¬ (good (bl s) ∧ valOf (bl s) < 340282366920938463463374607431768211456))) := hy
    have NY := NumAt.new w4 yh yl 27
    have NX5 := NX.later (below1 w4 (.cells #[.int .u64 yh, .int .u64 yl] 27))
    have NA5 := NA4.later (below1 w4 (.cells #[.int .u64 yh, .int .u64 yl] 27))
    have bel5 := chainA bel4 (.cells #[.int .u64 yh, .int .u64 yl] 27)
    clear hy hb3 hb4 b34 NA2 NA4 NX bel2 bel4
    obtain ⟨zA, A0, A1⟩ := NA5
    obtain ⟨zX, X0, X1⟩ := NX5
    go_upto_region 9 with fail
    generalize w4.alloc (.cells #[.int .u64 yh, .int .u64 yl] 27) = w5 at *
    clear zA A0 A1 zX X0 X1
    go_cut [9] (fun b wc => b = .bool (pre9 s) ∧ wc = w5)
    case first =>
      by_cases c0 : 0 < s.size
      · have q0 := bl_at s 0 c0
        have c0' : (0 : Int) < (s.size : Int) := by omega
        by_cases c1 : s.size ≤ 39
        · have c1' : (s.size : Int) ≤ 39 := by omega
          by_cases c2 : ((s[0]'c0).toNat : Int) = 48
          · by_cases c3 : s.size = 1
            · have hp : pre9 s = true := decide_eq_true ⟨c0, c1, .inr c3⟩
              have c3' : (s.size : Int) = 1 := by omega
              go_wp2
              go_meet
              case rel => exact ⟨by rw [hp], rfl⟩
            · have hp : pre9 s = false := decide_eq_false fun h => by rcases h.2.2 with h | h; exact h (q0.trans c2); exact c3 h
              have c3' : ((s.size : Int) == 1) = false := by simp; omega
              go_wp2
              go_meet
              case rel => exact ⟨by rw [hp], rfl⟩
          · have hp : pre9 s = true := decide_eq_true ⟨c0, c1, .inl fun h => c2 (q0.symm.trans h)⟩
            go_wp2
            go_meet
            case rel => exact ⟨by rw [hp], rfl⟩
        · have c1' : ¬ (s.size : Int) ≤ 39 := by omega
          have hp : pre9 s = false := decide_eq_false fun h => c1 h.2.1
          go_wp2
          go_meet
          case rel => exact ⟨by rw [hp], rfl⟩
      · have c0' : ¬ (0 : Int) < (s.size : Int) := by omega
        have hp : pre9 s = false := decide_eq_false fun h => c0 h.1
        go_wp2
        go_meet
        case rel => exact ⟨by rw [hp], rfl⟩
    case rest =>
      obtain ⟨rfl, rfl⟩ := hcut
      go_wp2_with fail
      go_loopw [9, 54] (fun d i wr => ∃ k : Nat, k ≤ s.size ∧ i = .int .i64 k ∧ d = .bool (dK9 s k) ∧ wr = wc) (fun _ i _ => s.size - (intOf i).toNat)
      case atStart => exact ⟨0, Nat.zero_le _, rfl, by rw [dK9_zero], rfl⟩
      case round =>
        obtain ⟨k, hk, rfl, rfl, rfl⟩ := hrel
        by_cases hlt : k < s.size
        · have g0 : (0 : Int) ≤ (k : Int) := by omega
          have g1 : (k : Int) < (s.size : Int) := by omega
          have hbk := bl_at s k hlt
          have hsucc := dK9_succ s k hlt
          rw [hbk] at hsucc
          have HSU : Hid (dK9 s (k + 1) = (dK9 s k && decide (48 ≤ ((s[k]'hlt).toNat : Int) ∧ ((s[k]'hlt).toNat : Int) ≤ 57))) := hsucc
          clear hsucc hbk HY
          cases hdk : dK9 s k with
          | false =>
            go_wp2
            go_roundw
            case rel => exact ⟨k + 1, by omega, by go_num, by rw [HSU.out, hdk]; rfl, by first | rfl | trivial⟩
            case measure => simp [intOf]; omega
          | true =>
            by_cases d1 : (48 : Int) ≤ ((s[k]'hlt).toNat : Int)
            · by_cases d2 : ((s[k]'hlt).toNat : Int) ≤ 57
              · have hz : decide (48 ≤ ((s[k]'hlt).toNat : Int) ∧ ((s[k]'hlt).toNat : Int) ≤ 57) = true := decide_eq_true ⟨d1, d2⟩
                have HZ : Hid (dK9 s (k + 1) = true) := by show _ = _; rw [HSU.out, hdk, hz]; rfl
                clear hz HSU
                go_wp2
                go_roundw
                case rel => exact ⟨k + 1, by omega, by go_num, by rw [HZ.out], by first | rfl | trivial⟩
                case measure => simp [intOf]; omega
              · have hz : decide (48 ≤ ((s[k]'hlt).toNat : Int) ∧ ((s[k]'hlt).toNat : Int) ≤ 57) = false := decide_eq_false fun h => d2 h.2
                have HZ : Hid (dK9 s (k + 1) = false) := by show _ = _; rw [HSU.out, hdk, hz]; rfl
                clear hz HSU
                have d2' : decide (((s[k]'hlt).toNat : Int) ≤ 57) = false := decide_eq_false d2
                go_wp2
                go_roundw
                case rel => exact ⟨k + 1, by omega, by go_num, by rw [HZ.out], by first | rfl | trivial⟩
                case measure => simp [intOf]; omega
            · have hz : decide (48 ≤ ((s[k]'hlt).toNat : Int) ∧ ((s[k]'hlt).toNat : Int) ≤ 57) = false := decide_eq_false fun h => d1 h.1
              have HZ : Hid (dK9 s (k + 1) = false) := by show _ = _; rw [HSU.out, hdk, hz]; rfl
              clear hz HSU
              have d1' : decide ((48 : Int) ≤ ((s[k]'hlt).toNat : Int)) = false := decide_eq_false d1
              go_wp2
              go_roundw
              case rel => exact ⟨k + 1, by omega, by go_num, by rw [HZ.out], by first | rfl | trivial⟩
              case measure => simp [intOf]; omega
        · obtain rfl : k = s.size := by omega
          have hend := dK9_end s
          obtain ⟨zY, Y0, Y1⟩ := id NY
          cases hdk : dK9 s s.size with
          | false =>
            rw [hdk] at hend
            obtain ⟨rfl, rfl, rfl⟩ : is = false ∧ yh = 0 ∧ yl = 0 := by
              rcases HY.out with ⟨_, hg, hv⟩ | ⟨h, h', h'', _⟩
              · exfalso
                have hng : ¬ s.size ≤ 39 := fun h => by have := hend.2 ⟨hg, h⟩; cases this
                have hl := bl_len s
                have hge := valOf_ge (bl s) (good_canon hg (fun e => by rw [e] at hl; simp at hl; omega)) hg.1
                rw [hl] at hge
                have hpw : 10 ^ 39 ≤ 10 ^ (s.size - 1) := Nat.pow_le_pow_right (by decide) (by omega)
                have ht : (10 : Nat) ^ 39 = 1000000000000000000000000000000000000000 := by decide
                obtain ⟨_, _⟩ := wy1
                obtain ⟨_, _⟩ := wy2
                omega
              · exact ⟨h, h', h''⟩
            clear HY hend
            go_wp2
            go_ret
            exact ⟨rfl, bel5⟩
          | true =>
            rw [hdk] at hend
            obtain ⟨hg, hl39⟩ := hend.1 rfl
            have HG : Hid (good (bl s)) := hg
            clear hend hg
            cases is with
            | true =>
              have hv : (yh * 18446744073709551616 + yl).toNat = valOf (bl s) := by
                rcases HY.out with ⟨_, _, hv⟩ | ⟨h, _⟩
                · omega
                · cases h
              have hpr := print_any yh yl wr wy1 wy2
              rw [hv, dec_valOf HG.out (by rw [bl_len]; exact hl39), str_bl] at hpr
              clear HY
              go_wp2_with fail
              refine hpr.mono ?_
              rintro e w6 ⟨rfl, hb6⟩
              go_wp2
              go_ret
              exact ⟨rfl, chain bel5 hb6⟩
            | false =>
              have hbig : 340282366920938463463374607431768211456 ≤ valOf (bl s) := by
                rcases HY.out with ⟨h, _⟩ | ⟨_, _, _, h⟩
                · cases h
                · exact Nat.le_of_not_lt fun hh => h ⟨HG.out, hh⟩
              clear HY
              have h39 : s.size = 39 := by
                have hlt' := valOf_lt (bl s) HG.out.2.2
                rw [bl_len] at hlt'
                rcases Nat.lt_or_ge s.size 39 with h | h
                · exfalso
                  have hpw : 10 ^ s.size ≤ 10 ^ 38 := Nat.pow_le_pow_right (by decide) (by omega)
                  have ht : (10 : Nat) ^ 38 = 100000000000000000000000000000000000000 := by decide
                  omega
                · omega
              have c39 : (s.size : Int) = 39 := by omega
              have hlen : (strOfNums (dec 340282366920938463463374607431768211455)).size = 39 := by rw [strOfNums_size]; kernel_rfl
              have ht39 : (10 : Nat) ^ 39 = 1000000000000000000000000000000000000000 := by decide
              have hgt := gtr_str s (strOfNums (dec 340282366920938463463374607431768211455)) (by rw [h39, hlen]) HG.out.2.2 (by rw [bl_str _ (dec_digit _)]; exact dec_digit _) (by rw [bl_str _ (dec_digit _), valOf_dec _ (by rw [ht39]; omega)]; omega)
              have hpm := fun v => print_any 18446744073709551615 18446744073709551615 v word_max word_max
              rw [show ((18446744073709551615 : Int) * 18446744073709551616 + 18446744073709551615).toNat = 340282366920938463463374607431768211455 from by decide] at hpm
              generalize strOfNums (dec 340282366920938463463374607431768211455) = t at *
              clear hbig h39 hlen ht39
              go_wp2_with fail
              refine (max_any _).mono ?_
              rintro e w6 ⟨rfl, hb6⟩
              go_wp2_with fail
              refine (hpm _).mono ?_
              rintro e w7 ⟨rfl, hb7⟩
              go_wp2
              go_ret
              exact ⟨rfl, chain (chain bel5 hb6) hb7⟩
end Go.Proofs.Ytcmjinkhfgmgaaa
