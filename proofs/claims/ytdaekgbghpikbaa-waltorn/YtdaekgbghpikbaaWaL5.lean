
/-
  WalTorn: its walk. For every input.
-/
import Derived.Test.YtdaekgbghpikbaaWaK
namespace Go.Proofs.Ytdaekgbghpikbaa
open Go.RowKit
set_option maxRecDepth 100000
set_option linter.unusedVariables false
set_option linter.unusedSimpArgs false

/-- What the law holds behind k records. -/
def TornR (w wr : World) (W R S N M : Nat) (L : List (List Nat)) (g : Nat) (cs : Array Value) (k : Nat) : Prop :=
  ∃ v d e st, LogW w wr W R S v d (L.take k) e st ∧ d.n = N ∧ d.cnt = e ∧ d.armed = false ∧ e ≤ M * k ∧ Row wr g cs 49
set_option maxHeartbeats 4000000 in
theorem walTorn_walk (v0 : Value) (L : List (List Nat)) (v1 : Value) (b : List Nat) (x : Int × Int) (w : World) (hl : PartsAt w v0 L) (hb : BytesAt w v1 b) (_h : True) :
    Calls Try.prog 7 #[v0, v1, .agg #[.int .i64 x.1, .int .i64 x.2]] w fun e w' => e = .returned (.bool true) ∧ Below w.heap.size w w' := by
  obtain ⟨x0, x1⟩ := x
  obtain ⟨hmx, p0, c0, rfl, hc⟩ := id hl
  obtain ⟨hb8, hbm, pb, cb, rfl, _⟩ := id hb
  have HC := (show Hid _ from hc)
  have HB : Hid (BytesAt w (.slice pb b.length cb) b) := hb
  have HB8 : Hid (W8 b) := hb8
  have HBM : Hid (b.length ≤ maxLen) := hbm
  have HMX : Hid (L.length ≤ maxLen) := hmx
  clear hl hc hb hb8 _h hbm hmx
  go_enter Try.func7, Try.ntmps7
  go_wp2_with (go_at_call 10; refine stop ?_)
  have hr0 := Row.new w #[.int .i64 x0, .int .i64 x1] 49 rfl
  have hb0 := below1 w (.cells #[.int .i64 x0, .int .i64 x1] 49)
  generalize w.alloc (.cells #[.int .i64 x0, .int .i64 x1] 49) = w0 at *
  refine (fit5_any w0).mono ?_
  rintro e w1 ⟨rfl, hb1'⟩
  have hr1 := hr0.later hb1'
  have hb1 := hb0.trans (hb1'.mono hb0.size)
  clear hr0 hb0 hb1'
  have q0 : (0 : Int) ≤ (L.length : Int) := by omega
  have q1 : (0 : Int) ≤ (b.length : Int) := by omega
  by_cases hlen : L.length ≤ 8
  · have l1 : (L.length : Int) ≤ 8 := by omega
    have HL : Hid (L.length ≤ 8) := hlen
    clear hlen
    by_cases hbl : b.length ≤ 600
    · have l2 : (b.length : Int) ≤ 600 := by omega
      have HBL : Hid (b.length ≤ 600) := hbl
      clear hbl
      go_wp2_with (go_at_call 11; refine stop ?_)
      refine (new_any 400 (by omega) (by omega) w1).mono ?_
      rintro e w2 ⟨R, S, rfl, hd, hb, hR, hS⟩
      have m2 := Mine.new hb1 hd hb hR hS
      have hr2 := hr1.later hb
      clear hd hb hR hS hb1 hr1
      go_wp2_with (go_at_call 12; refine stop ?_)
      refine (open_lg w w2 R S _ _ [] 0 m2 (Lg.new 400) rfl (by show (0 : Nat) < 1000000; decide)).mono ?_
      rintro e w3 ⟨W, u3, v3, st3, rfl, lw3, hW3, hL3, hs3⟩
      have hr3 : Row w3 w.heap.size #[.int .i64 x0, .int .i64 x1] 49 := (hs3.block _ hr2.lt (hr2.ne m2.dk.row (by decide)) (hr2.ne m2.dk.sure (by decide)) (ownN_ne m2.dk.own hr2 (by decide))).trans hr2
      clear m2 hL3 hW3 hs3 hr2
      have hR0 : TornR w w3 W R S 400 6 L w.heap.size #[.int .i64 x0, .int .i64 x1] 0 := ⟨v3, _, 0, st3, by simpa using lw3, rfl, rfl, rfl, Nat.zero_le _, hr3⟩
      clear lw3 hr3
      go_wp2
      go_loopw [39] (fun i wr => ∃ k : Nat, k ≤ L.length ∧ i = .int .i64 k ∧ TornR w wr W R S 400 6 L w.heap.size #[.int .i64 x0, .int .i64 x1] k) (fun i _ => L.length - (intOf i).toNat)
      case atStart => exact ⟨0, Nat.zero_le _, rfl, hR0⟩
      case round =>
        obtain ⟨k, hk, rfl, v5, d5, e, st5, lw5, hn5, hc5, ha5, he5, hr5⟩ := hrel
        clear hR0
        have k0 : (0 : Int) ≤ (k : Int) := by omega
        have k1 : (k : Int) ≤ 8 := by omega
        have HE : Hid (e ≤ 6 * k) := he5
        have HN5 : Hid (d5.n = 400) := hn5
        have HC5 : Hid (d5.cnt = e) := hc5
        have hBw := lw5.mine.below
        clear he5 hn5 hc5
        by_cases hlt : k < L.length
        · have kl : (k : Int) < (L.length : Int) := by omega
          obtain ⟨g, off, u, rfl, hbl, hcell, hu⟩ := HC.out k hlt
          have hcell2 := (lw5.mine.below.cell (p := ⟨g, off + k, none⟩) hbl).trans hcell
          have hu5 := hu.later hBw
          have hts := take_snocD hlt
          have HK : Hid (k < L.length) := hlt
          clear hcell hlt hu
          have HLW : Hid (LogW w wr W R S v5 d5 (L.take k) e st5) := lw5
          clear lw5
          generalize L.getD k [] = l at *
          obtain ⟨h8, hml, pu, cu, rfl, _⟩ := id hu5
          have HU5 : Hid (BytesAt wr (.slice pu l.length cu) l) := hu5
          clear hu5 hml h8
          have b0 : (0 : Int) ≤ (l.length : Int) := by omega
          by_cases big : l.length ≤ 300
          · have b1 : (l.length : Int) ≤ 300 := by omega
            have HB3 : Hid (l.length ≤ 300) := big
            have HTS := (show Hid _ from hts)
            clear hts big
            go_wp2_with (go_at_call 13; refine stop ?_)
            have hs : secs l.length ≤ 6 := by have := HB3.out; unfold secs; omega
            refine (append_lg w _ W R S v5 _ d5 _ e st5 l HLW.out HU5.out (by have := HB3.out; omega) (by rw [HN5.out]; have := HE.out; have := HL.out; have := HK.out; omega) ha5 (by rw [HC5.out]; have := HE.out; have := HL.out; have := HK.out; omega)).mono ?_
            rintro en w6 ⟨v6, d6, st6, rfl, lw6, hA6, hn6, hc6, ha6⟩
            rw [← HTS.out] at lw6
            have hr6 : Row w6 w.heap.size #[.int .i64 x0, .int .i64 x1] 49 := (hA6.block _ hr5.lt (hr5.ne HLW.out.row (by decide)) (hr5.ne HLW.out.mine.dk.row (by decide)) (hr5.ne HLW.out.mine.dk.sure (by decide)) (ownN_ne HLW.out.mine.dk.own hr5 (by decide))).trans hr5
            have HR : TornR w w6 W R S 400 6 L w.heap.size #[.int .i64 x0, .int .i64 x1] (k + 1) := ⟨v6, d6, _, st6, lw6, hn6.trans HN5.out, by rw [hc6, HC5.out], ha6, by have := HE.out; omega, hr6⟩
            clear lw6 hA6 hn6 hc6 ha6 HLW ha5 hcell2 hs HU5 hr6 hr5
            go_wp2
            go_roundw
            case rel => exact ⟨k + 1, HK.out, by go_num, HR⟩
            case measure => simp [intOf]; have := HK.out; omega
          · have b1 : (300 : Int) < (l.length : Int) := by omega
            clear big
            go_wp2
            go_ret
            exact ⟨rfl, hBw⟩
        · obtain rfl : k = L.length := by omega
          rw [List.take_length] at lw5
          clear hlt
          have hb5 := HB.out.later hBw
          go_wp2_with (go_at_call 14; refine stop ?_)
          refine (size_any _ b wr hb5 (by have := HBL.out; omega)).mono ?_
          rintro en w7 ⟨rfl, hw7⟩
          obtain rfl := hw7.symm
          clear hw7
          obtain ⟨n, hn⟩ : ∃ n, n = secs b.length := ⟨_, rfl⟩
          rw [← hn]
          have n1 : 1 ≤ n := by rw [hn]; exact secs_pos _
          have n2 : n ≤ 11 := by rw [hn]; have := HBL.out; unfold secs; omega
          obtain ⟨ma, hma, ema⟩ := and_low16 x0 16 (by decide)
          obtain ⟨mc, hmc, emc⟩ := and_low16 x1 16 (by decide)
          replace ema : bits .and .i64 x0 65535 = (ma : Int) := ema
          replace emc : bits .and .i64 x1 65535 = (mc : Int) := emc
          have HNE : Hid (n = secs b.length) := hn
          have n0 : ¬ (n : Int) = 0 := by omega
          have n00 : ¬ n = 0 := by omega
          have n0' : ((n : Int) == 0) = false := by simp; omega
          have a0 : (0 : Int) ≤ (ma : Int) := by omega
          have e0 : (0 : Int) ≤ (mc : Int) := by omega
          have a1 : (ma : Int) < 65536 := by have : ma < 65536 := hma; omega
          have e1 : (mc : Int) < 65536 := by have : mc < 65536 := hmc; omega
          have ni : (n : Int) ≤ 11 := by omega
          have ni0 : (1 : Int) ≤ (n : Int) := by omega
          clear hn hma hmc
          go_wp2_with fail
          obtain ⟨ta, hta⟩ : ∃ t : Nat, t = ma % n := ⟨_, rfl⟩
          obtain ⟨tc, htc⟩ : ∃ t : Nat, t = mc % 60 := ⟨_, rfl⟩
          have eta : (ma : Int).tmod (n : Int) = (ta : Int) := by rw [Int.tmod_eq_emod_of_nonneg a0, hta, Int.natCast_emod]
          have etc : (mc : Int).tmod 60 = (tc : Int) := by rw [Int.tmod_eq_emod_of_nonneg e0, htc, Int.natCast_emod]; rfl
          have eta2 : (ma : Int) % (n : Int) = (ta : Int) := by rw [hta, Int.natCast_emod]
          have etc2 : (mc : Int) % 60 = (tc : Int) := by rw [htc, Int.natCast_emod]; rfl
          have HTA : Hid (ta < n) := by rw [hta]; exact Nat.mod_lt _ n1
          have HTC : Hid (tc < 60) := by rw [htc]; exact Nat.mod_lt _ (by decide)
          have y0 := hr5.cell 0
          have y1 := hr5.cell 1
          simp only [List.getElem?_toArray, List.getElem?_cons_zero, List.getElem?_cons_succ] at y0 y1
          clear hta htc
          refine wp_region_D (fun _ => true) (fun w' : World => w'.cell? ⟨w.heap.size, 0, none⟩ = some (.int .i64 x0) ∧ w'.cell? ⟨w.heap.size, 1, none⟩ = some (.int .i64 x1)) (by kernel_rfl) ?_
          have hS : (fun w' : World => w'.cell? ⟨w.heap.size, 0, none⟩ = some (.int .i64 x0) ∧ w'.cell? ⟨w.heap.size, 1, none⟩ = some (.int .i64 x1)) wr.drew := ⟨y0, y1⟩
          have lwd : LogW w wr.drew W R S v5 d5 L e st5 := lw5.later (Below.refl _ wr).drew
          clear y0 y1 lw5 hr5 hb5 hBw
          generalize wr.drew = wd at *
          refine' wpAnyD_take (i := 0) (v := _) rfl (by kernel_rfl) (by kernel_rfl) (by kernel_rfl) (by kernel_rfl) (fun _ _ _ h => h) (Or.inl ⟨by rfl, ?hy1⟩) hS ?re1
          case hy1 => (intro w hSw; (try dsimp only at hSw); go_simp; (try with_reducible rfl))
          simp only [Act.put, List.setIfInBounds_toArray, List.set_cons_zero, List.set_cons_succ]
          refine' wpAnyD_take (i := 1) (v := _) rfl (by kernel_rfl) (by kernel_rfl) (by kernel_rfl) (by kernel_rfl) (fun _ _ _ h => h) (Or.inl ⟨by rfl, ?hy2⟩) hS ?re2
          case hy2 => (intro w hSw; (try dsimp only at hSw); go_simp; (try with_reducible rfl))
          simp only [Act.put, List.setIfInBounds_toArray, List.set_cons_zero, List.set_cons_succ]
          refine' wpAnyD_take (i := 2) (v := _) rfl (by kernel_rfl) (by kernel_rfl) (by kernel_rfl) (by kernel_rfl) (fun _ _ _ h => h) (Or.inl ⟨by rfl, ?hy3⟩) hS ?re3
          case hy3 => (intro w hSw; (try dsimp only at hSw); go_simp; (try with_reducible rfl))
          simp only [Act.put, List.setIfInBounds_toArray, List.set_cons_zero, List.set_cons_succ]
          refine' wpAnyD_take (i := 3) (v := _) rfl (by kernel_rfl) (by kernel_rfl) (by kernel_rfl) (by kernel_rfl) (fun _ _ _ h => h) (Or.inl ⟨by rfl, ?hy4⟩) hS ?re4
          case hy4 => (intro w hSw; (try dsimp only at hSw); go_simp; (try with_reducible rfl))
          simp only [Act.put, List.setIfInBounds_toArray, List.set_cons_zero, List.set_cons_succ]
          refine' wpAnyD_take (i := 4) (v := _) rfl (by kernel_rfl) (by kernel_rfl) (by kernel_rfl) (by kernel_rfl) (fun _ _ _ h => h) (Or.inl ⟨by rfl, ?hy5⟩) hS ?re5
          case hy5 => (intro w hSw; (try dsimp only at hSw); go_simp; (try with_reducible rfl))
          simp only [Act.put, List.setIfInBounds_toArray, List.set_cons_zero, List.set_cons_succ]
          refine' wpAnyD_take (i := 5) (v := _) rfl (by kernel_rfl) (by kernel_rfl) (by kernel_rfl) (by kernel_rfl) (fun _ _ _ h => h) (Or.inl ⟨by rfl, ?hy6⟩) hS ?re6
          case hy6 => (intro w hSw; (try dsimp only at hSw); go_simp; (try with_reducible rfl))
          simp only [Act.put, List.setIfInBounds_toArray, List.set_cons_zero, List.set_cons_succ]
          refine' wpAnyD_take (i := 6) (v := _) rfl (by kernel_rfl) (by kernel_rfl) (by kernel_rfl) (by kernel_rfl) (fun _ _ _ h => h) (Or.inl ⟨by rfl, ?hy7⟩) hS ?re7
          case hy7 => (intro w hSw; (try dsimp only at hSw); go_simp; (try with_reducible rfl))
          simp only [Act.put, List.setIfInBounds_toArray, List.set_cons_zero, List.set_cons_succ]
          refine' wpAnyD_take (i := 7) (v := _) rfl (by kernel_rfl) (by kernel_rfl) (by kernel_rfl) (by kernel_rfl) (fun _ _ _ h => h) (Or.inl ⟨by rfl, ?hy8⟩) hS ?re8
          case hy8 => (intro w hSw; (try dsimp only at hSw); go_simp; (try with_reducible rfl))
          simp only [Act.put, List.setIfInBounds_toArray, List.set_cons_zero, List.set_cons_succ]
          refine' wpAnyD_take (i := 8) (v := _) rfl (by kernel_rfl) (by kernel_rfl) (by kernel_rfl) (by kernel_rfl) (fun _ _ _ h => h) (Or.inl ⟨by rfl, ?hy9⟩) hS ?re9
          case hy9 => (intro w hSw; (try dsimp only at hSw); go_simp; (try with_reducible rfl))
          simp only [Act.put, List.setIfInBounds_toArray, List.set_cons_zero, List.set_cons_succ]
          refine' wpAnyD_take (i := 9) (v := _) rfl (by kernel_rfl) (by kernel_rfl) (by kernel_rfl) (by kernel_rfl) (fun _ _ _ h => h) (Or.inl ⟨by rfl, ?hy10⟩) hS ?re10
          case hy10 => (intro w hSw; (try dsimp only at hSw); go_simp; (try with_reducible rfl))
          simp only [Act.put, List.setIfInBounds_toArray, List.set_cons_zero, List.set_cons_succ]
          refine' wpAnyD_take (i := 10) (v := _) rfl (by kernel_rfl) (by kernel_rfl) (by kernel_rfl) (by kernel_rfl) (fun _ _ _ h => h) (Or.inl ⟨by rfl, ?hy11⟩) hS ?re11
          case hy11 => (intro w hSw; (try dsimp only at hSw); go_simp; (try with_reducible rfl))
          simp only [Act.put, List.setIfInBounds_toArray, List.set_cons_zero, List.set_cons_succ]
          refine wpAnyD_done (by kernel_rfl) ?_ _
          clear hS eta etc eta2 etc2 ema emc a0 a1 e0 e1 n0 n00 n0'
          have hte : (ta : Int) < (n : Int) := by have := HTA.out; omega
          have htz : (0 : Int) ≤ (ta : Int) := by omega
          have hce : (tc : Int) < 60 := by have := HTC.out; omega
          have hcz : (0 : Int) ≤ (tc : Int) := by omega
          go_wp2_with (go_at_call 15; refine stop ?_)
          refine (arm_any (n : Int) (by omega) wd R S v5 d5 lwd.mine.dk).mono ?_
          rintro en w6 ⟨rfl, hD6, hs6⟩
          rw [Int.toNat_natCast] at hD6
          have lw6 : LogW w w6 W R S v5 { d5 with armed := true, left := n } L e st5 := ⟨lwd.mine.step hD6 hs6, (hs6.block W lwd.row.lt (lwd.row.ne lwd.mine.dk.row (by decide)) (lwd.row.ne lwd.mine.dk.sure (by decide)) (ownN_ne lwd.mine.dk.own lwd.row (by decide))).trans lwd.row, lwd.hW, lwd.st, lwd.lg.arm true n⟩
          have hb6 := HB.out.later lw6.mine.below
          have HLD : Hid (Lg d5 L e) := lwd.lg
          clear hD6 hs6 lwd
          go_wp2_with (go_at_call 13; refine stop ?_)
          have hroom : e + secs b.length ≤ d5.n := by rw [HN5.out, ← HNE.out]; have := HE.out; have := HL.out; omega
          refine (append_c w w6 W R S v5 _ { d5 with armed := true, left := n } L e st5 b lw6 hb6 (by have := HBL.out; omega) hroom (by show d5.cnt + 80 ≤ 1000000; rw [HC5.out]; have := HE.out; have := HL.out; omega)).mono ?_
          rintro en w7 ⟨v7, d7, hA7, hM7, hn7, hc7, ha7, hcase⟩
          rcases hcase with ⟨_, hdn, hlf, _⟩ | ⟨rfl, hdn, hws7, k7, s7, hk7, hs0, hs1, hd7⟩
          · exfalso
            have h1 : d7.left = n - secs b.length := hlf rfl
            rw [← HNE.out, Nat.sub_self] at h1
            have h2 : d7.armed = true := ha7
            simp [Dk.down, h1, h2] at hdn
          · have HK7 : Hid (k7 ≤ secs b.length) := hk7
            have HD7 : Hid (d7 = layN s7 (L.length + 1) b { d5 with armed := true, left := n } e k7) := hd7
            have HS0 : Hid (0 < s7) := hs0
            have HS1 : Hid (s7 < 4294967296) := hs1
            have HW7 : Hid (d7.ws.length ≤ 80) := hws7
            have HN7 : Hid (d7.n = d5.n) := hn7
            have HC7 : Hid (d7.cnt ≤ d5.cnt + secs b.length) := hc7
            have HM7 : Hid (Mine w w7 R S v7 d7) := hM7
            have HRM : Hid (e + secs b.length ≤ d5.n) := hroom
            have HFL : Hid (d5.F.length = 64 * d5.n) := lw6.mine.dk.ok.fl
            clear hk7 hd7 hs0 hs1 hws7 hn7 hc7 hM7 hA7 hb6 lw6 hdn ha7 hroom
            go_wp2_with (go_at_call 16; refine stop ?_)
            refine (crash_any 9223372036854775807 (by decide) (ta : Int) (tc : Int) w7 R S v7 d7 HM7.out.dk).mono ?_
            rintro en w8 ⟨rfl, hD8, hs8⟩
            have hM8 : Mine w w8 R S _ (crashed (kept 9223372036854775807 (ta : Int) (tc : Int)) d7) := HM7.out.step hD8 hs8
            clear hD8 hs8
            go_wp2_with (go_at_call 12; refine stop ?_)
            refine (open_c w w8 R S _ _ hM8 rfl (by show 0 + d7.n < 1000; rw [HN7.out, HN5.out]; decide) (by show d7.cnt + d7.n < 1000000; have := HN7.out; have := HN5.out; have := HC7.out; have := HC5.out; have := HE.out; have := HL.out; have := HNE.out; omega)).mono ?_
            rintro en w9 ⟨W9, u9, v9, st9, L9, e9, d9, rfl, hrl, lw9, _, hL9, _, _, _, _⟩
            have hLe : L9 = L := by
              have hrl2 : Rl ((crashed (kept 9223372036854775807 (ta : Int) (tc : Int)) (layN s7 (L.length + 1) b { d5 with armed := true, left := n } e k7)).curs ({ d5 with armed := true, left := n } : Dk).n) [] 0 L9 e9 := by
                rw [← HD7.out, show ({ d5 with armed := true, left := n } : Dk).n = d7.n from HN7.out.symm]
                exact hrl
              rcases crash_rl (HLD.out.arm true n) HFL.out (by show d5.n ≤ 4096; rw [HN5.out]; decide) HS0.out HS1.out HB8.out (by have := HBL.out; omega) (fun i => kept_le _ _ _ i) HRM.out HK7.out hrl2 with ⟨h, _⟩ | ⟨_, _, h⟩
              · exact h
              · exfalso
                have ht := HTA.out
                have h60 := (h ta (by rw [← HNE.out]; exact ht)).2
                have hkp : kept 9223372036854775807 (ta : Int) (tc : Int) ta ≤ tc := by
                  unfold kept
                  split
                  · exact Nat.zero_le _
                  · rw [if_pos rfl]; omega
                have := HTC.out
                omega
            subst hLe
            have hB9 := lw9.mine.below
            have hdk9 := lw9.mine.dk
            obtain ⟨pf, nf, cf, rfl, hnf⟩ := hL9.form
            subst hnf
            have HL9 : Hid (LogAt w9 w8.heap.size (.slice pf L9.length cf) L9) := hL9
            clear lw9 hL9 hrl hM8 HLD HD7
            have hC0 : CmpR w w8.heap.size w9 R S v9 d9 (.slice pf L9.length cf) L9 := ⟨HL9.out, hB9, hdk9⟩
            clear HL9 hB9 hdk9
            go_wp2
            go_loopw [92] (fun i wr => CmpR w w8.heap.size wr R S v9 d9 (.slice pf L9.length cf) L9 ∧ ∃ k : Nat, k ≤ L9.length ∧ i = .int .i64 k) (fun i _ => L9.length - (intOf i).toNat)
            case atStart => exact ⟨hC0, 0, Nat.zero_le _, rfl⟩
            case round =>
              obtain ⟨⟨hL7, hB7, hdk7⟩, q, hq, rfl⟩ := hrel
              clear hC0
              have q0 : (0 : Int) ≤ (q : Int) := by omega
              by_cases hql : q < L9.length
              · have q1 : (q : Int) < (L9.length : Int) := by omega
                obtain ⟨gb, off, u, hp0, hbl, hcell, hu⟩ := HC.out q hql
                subst hp0
                obtain ⟨g, cap, x, hpf, hcx, hbx⟩ := hL7.at (i := q) hql
                cases hpf
                have hcu := (hB7.cell (p := ⟨gb, off + q, none⟩) hbl).trans hcell
                have hbu := hu.later hB7
                have HQ : Hid (q < L9.length) := hql
                clear hcell hu hbl
                generalize L9.getD q [] = l at *
                obtain ⟨_, _, px, cx, rfl, _⟩ := id hbx
                obtain ⟨_, _, pu, cu, rfl, _⟩ := id hbu
                have HR : CmpR w w8.heap.size wr.drew R S v9 d9 (.slice (some ⟨g, 0, none⟩) L9.length cf) L9 := ⟨hL7.later (Below.refl _ wr).drew, hB7.drew, hdk7.drew⟩
                go_wp2_with fail
                refine wp_region_D (fun _ => true) (fun w' : World => (w'.cell? ⟨g, q, none⟩ = some (.slice px l.length cx) ∧ w'.cell? ⟨gb, off + q, none⟩ = some (.slice pu l.length cu)) ∧ BytesAt w' (.slice px l.length cx) l ∧ BytesAt w' (.slice pu l.length cu) l) (by kernel_rfl) ?_
                have hS : (fun w' : World => (w'.cell? ⟨g, q, none⟩ = some (.slice px l.length cx) ∧ w'.cell? ⟨gb, off + q, none⟩ = some (.slice pu l.length cu)) ∧ BytesAt w' (.slice px l.length cx) l ∧ BytesAt w' (.slice pu l.length cu) l) wr.drew := ⟨⟨hcx, hcu⟩, hbx.later (Below.refl _ wr).drew, hbu.later (Below.refl _ wr).drew⟩
                clear hcx hcu hbx hbu
                refine' wpAnyD_take (i := 0) (v := _) rfl (by kernel_rfl) (by kernel_rfl) (by kernel_rfl) (by kernel_rfl) (fun _ _ _ h => h) (Or.inl ⟨by rfl, ?hy12⟩) hS ?re12
                case hy12 => (intro w hSw; (try dsimp only at hSw); go_simp; (try with_reducible rfl))
                simp only [Act.put, List.setIfInBounds_toArray, List.set_cons_zero, List.set_cons_succ]
                refine' wpAnyD_take (i := 1) (v := _) rfl (by kernel_rfl) (by kernel_rfl) (by kernel_rfl) (by kernel_rfl) (fun _ _ _ h => h) (Or.inl ⟨by rfl, ?hy13⟩) hS ?re13
                case hy13 => (intro w hSw; (try dsimp only at hSw); go_simp; (try with_reducible rfl))
                simp only [Act.put, List.setIfInBounds_toArray, List.set_cons_zero, List.set_cons_succ]
                refine' wpAnyD_take (i := 2) (v := _) rfl (by kernel_rfl) (by kernel_rfl) (by kernel_rfl) (by kernel_rfl) (fun _ _ _ h => h) (Or.inl ⟨by rfl, ?hy14⟩) hS ?re14
                case hy14 => (intro w hSw; (try dsimp only at hSw); go_simp; (try with_reducible rfl))
                simp only [Act.put, List.setIfInBounds_toArray, List.set_cons_zero, List.set_cons_succ]
                refine' wpAnyD_take (i := 3) (v := _) rfl (by kernel_rfl) (by kernel_rfl) (by kernel_rfl) (by kernel_rfl) (fun _ _ _ h => h) (Or.inl ⟨by rfl, ?hy15⟩) hS ?re15
                case hy15 => (intro w hSw; (try dsimp only at hSw); go_simp; (try with_reducible rfl))
                simp only [Act.put, List.setIfInBounds_toArray, List.set_cons_zero, List.set_cons_succ]
                refine wpAnyD_take (i := 4) rfl (by kernel_rfl) (by kernel_rfl) (by kernel_rfl) (by kernel_rfl) (fun _ _ _ h => h) (yields_conv (by rfl) _ rfl (.slice px l.length cx) rfl l (fun _ h => h.2.1)) hS ?_
                simp only [Act.put, List.setIfInBounds_toArray, List.set_cons_zero, List.set_cons_succ]
                refine' wpAnyD_take (i := 5) (v := _) rfl (by kernel_rfl) (by kernel_rfl) (by kernel_rfl) (by kernel_rfl) (fun _ _ _ h => h) (Or.inl ⟨by rfl, ?hy16⟩) hS ?re16
                case hy16 => (intro w hSw; (try dsimp only at hSw); go_simp; (try with_reducible rfl))
                simp only [Act.put, List.setIfInBounds_toArray, List.set_cons_zero, List.set_cons_succ]
                refine' wpAnyD_take (i := 6) (v := _) rfl (by kernel_rfl) (by kernel_rfl) (by kernel_rfl) (by kernel_rfl) (fun _ _ _ h => h) (Or.inl ⟨by rfl, ?hy17⟩) hS ?re17
                case hy17 => (intro w hSw; (try dsimp only at hSw); go_simp; (try with_reducible rfl))
                simp only [Act.put, List.setIfInBounds_toArray, List.set_cons_zero, List.set_cons_succ]
                refine' wpAnyD_take (i := 7) (v := _) rfl (by kernel_rfl) (by kernel_rfl) (by kernel_rfl) (by kernel_rfl) (fun _ _ _ h => h) (Or.inl ⟨by rfl, ?hy18⟩) hS ?re18
                case hy18 => (intro w hSw; (try dsimp only at hSw); go_simp; (try with_reducible rfl))
                simp only [Act.put, List.setIfInBounds_toArray, List.set_cons_zero, List.set_cons_succ]
                refine' wpAnyD_take (i := 8) (v := _) rfl (by kernel_rfl) (by kernel_rfl) (by kernel_rfl) (by kernel_rfl) (fun _ _ _ h => h) (Or.inl ⟨by rfl, ?hy19⟩) hS ?re19
                case hy19 => (intro w hSw; (try dsimp only at hSw); go_simp; (try with_reducible rfl))
                simp only [Act.put, List.setIfInBounds_toArray, List.set_cons_zero, List.set_cons_succ]
                refine wpAnyD_take (i := 9) rfl (by kernel_rfl) (by kernel_rfl) (by kernel_rfl) (by kernel_rfl) (fun _ _ _ h => h) (yields_conv (by rfl) _ rfl (.slice pu l.length cu) rfl l (fun _ h => h.2.2)) hS ?_
                simp only [Act.put, List.setIfInBounds_toArray, List.set_cons_zero, List.set_cons_succ]
                refine' wpAnyD_take (i := 10) (v := _) rfl (by kernel_rfl) (by kernel_rfl) (by kernel_rfl) (by kernel_rfl) (fun _ _ _ h => h) (Or.inl ⟨by rfl, ?hy20⟩) hS ?re20
                case hy20 => (intro w hSw; (try dsimp only at hSw); go_simp; (try with_reducible rfl))
                simp only [Act.put, List.setIfInBounds_toArray, List.set_cons_zero, List.set_cons_succ]
                refine wpAnyD_done (by kernel_rfl) ?_ _
                clear hS
                go_wp2
                go_roundw
                case rel => exact ⟨HR, q + 1, HQ.out, by go_num⟩
                case measure => simp [intOf]; have := HQ.out; omega
              · obtain rfl : q = L9.length := by omega
                go_wp2
                go_ret
                exact ⟨rfl, hB7⟩
    · have l2 : (600 : Int) < (b.length : Int) := by omega
      go_wp2
      go_ret
      exact ⟨rfl, hb1⟩
  · have l1 : (8 : Int) < (L.length : Int) := by omega
    go_wp2
    go_ret
    exact ⟨rfl, hb1⟩
end Go.Proofs.Ytdaekgbghpikbaa
