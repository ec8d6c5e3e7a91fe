
/-
  WalBack: its walk. For every input.
-/
import Derived.Test.YtfhaphbfbmpbiaaWaL2
namespace Go.Proofs.Ytfhaphbfbmpbiaa
open Go.RowKit
set_option maxRecDepth 100000
set_option linter.unusedVariables false
set_option linter.unusedSimpArgs false

theorem take_snocD {L : List (List Nat)} {k : Nat} (h : k < L.length) : L.take (k + 1) = L.take k ++ [L.getD k []] := by
  rw [List.take_succ_eq_append_getElem h]
  simp [List.getD, h]
/-- What the law holds behind k records. -/
def BackR (w wr : World) (W R S N M : Nat) (L : List (List Nat)) (k e : Nat) : Prop :=
  ∃ v d st, LogW w wr W R S v d (L.take k) e st ∧ d.n = N ∧ d.cnt = e ∧ d.armed = false ∧ e ≤ M * k
/-- What was read, beside what was handed in. -/
structure CmpR (w : World) (B : Nat) (wr : World) (R S : Nat) (v : Value) (d : Dk) (u : Value) (L : List (List Nat)) : Prop where
  log : LogAt wr B u L
  below : Below w.heap.size w wr
  dk : DkAt wr R S v d
set_option maxHeartbeats 2000000 in
theorem walBack_walk (v0 : Value) (L : List (List Nat)) (w : World) (hl : PartsAt w v0 L) :
    Calls Try.prog 6 #[v0] w fun e w' => e = .returned (.bool true) ∧ Below w.heap.size w w' := by
  obtain ⟨hmx, p0, c0, rfl, hc⟩ := id hl
  have HC := (show Hid _ from hc)
  clear hl hc
  go_enter Try.func6, Try.ntmps6
  go_wp2_with (go_at_call 10; refine stop ?_)
  refine (fit5_any w).mono ?_
  rintro e w1 ⟨rfl, hb1⟩
  by_cases hlen : L.length ≤ 20
  · have l1 : (L.length : Int) ≤ 20 := by omega
    have l0 : (0 : Int) ≤ (L.length : Int) := by omega
    have HL := (show Hid _ from hlen)
    clear hmx hlen
    go_wp2_with (go_at_call 11; refine stop ?_)
    refine (new_any 1000 (by omega) (by omega) w1).mono ?_
    rintro e w2 ⟨R, S, rfl, hd, hb, hR, hS⟩
    have m2 := Mine.new hb1 hd hb hR hS
    clear hd hb hR hS hb1
    go_wp2_with (go_at_call 12; refine stop ?_)
    refine (open_lg w w2 R S _ _ [] 0 m2 (Lg.new 1000) rfl (by show (0 : Nat) < 1000000; decide)).mono ?_
    rintro e w3 ⟨W, u3, v3, st3, rfl, lw3, hW3, hL3, _⟩
    clear m2 hL3 hW3
    have hR0 : BackR w w3 W R S 1000 37 L 0 0 := ⟨v3, _, st3, by simpa using lw3, rfl, rfl, rfl, Nat.zero_le _⟩
    clear lw3
    go_wp2
    go_loopw [28, 7] (fun i j wr => ∃ k e : Nat, k ≤ L.length ∧ i = .int .i64 k ∧ j = .int .i64 e ∧ BackR w wr W R S 1000 37 L k e) (fun i _ _ => L.length - (intOf i).toNat)
    case atStart => exact ⟨0, 0, Nat.zero_le _, rfl, rfl, hR0⟩
    case round =>
      obtain ⟨k, e, hk, rfl, rfl, v5, d5, st5, lw5, hn5, hc5, ha5, he5⟩ := hrel
      clear hR0
      have HLW := (show Hid _ from lw5)
      have hl30 := HL.out
      have e1 : (e : Int) ≤ 740 := by omega
      have e0 : (0 : Int) ≤ (e : Int) := by omega
      have HE := (show Hid _ from he5)
      have HN5 := (show Hid _ from hn5)
      have HC5 := (show Hid _ from hc5)
      have k1 : (k : Int) ≤ 20 := by omega
      have k0 : (0 : Int) ≤ (k : Int) := by omega
      have hBw := lw5.mine.below
      by_cases hlt : k < L.length
      · have kl : (k : Int) < (L.length : Int) := by omega
        obtain ⟨b, off, u, rfl, hbl, hcell, hu⟩ := HC.out k hlt
        have hcell2 := (lw5.mine.below.cell (p := ⟨b, off + k, none⟩) hbl).trans hcell
        have hu5 := hu.later hBw
        have hts := take_snocD hlt
        have HK := (show Hid _ from hlt)
        have HUW : Hid (BytesAt w u (L.getD k [])) := hu
        clear hcell hlt hl30 he5 hn5 hc5 lw5
        generalize L.getD k [] = l at *
        obtain ⟨h8, hml, pu, cu, rfl, _⟩ := id hu5
        clear hu
        have HU5 : Hid (BytesAt wr (.slice pu l.length cu) l) := hu5
        have HML := (show Hid _ from hml)
        clear hu5 hml
        by_cases big : l.length ≤ 2000
        · have b1 : (l.length : Int) ≤ 2000 := by omega
          have b0 : (0 : Int) ≤ (l.length : Int) := by omega
          have HB := (show Hid _ from big)
          clear big
          have HTS := (show Hid _ from hts)
          clear hts
          go_wp2_with (go_at_call 13; refine stop ?_)
          have hs : secs l.length ≤ 37 := by have := HB.out; unfold secs; omega
          have hsp := secs_pos l.length
          refine (append_lg w _ W R S v5 _ d5 _ e st5 l HLW.out HU5.out (by have := HB.out; omega) (by rw [HN5.out]; have := HE.out; have := HL.out; have := HK.out; omega) ha5 (by rw [HC5.out]; have := HE.out; have := HL.out; have := HK.out; omega)).mono ?_
          rintro en w6 ⟨v6, d6, st6, rfl, lw6, hA6, hn6, hc6, ha6⟩
          rw [← HTS.out] at lw6
          have HR : BackR w w6 W R S 1000 37 L (k + 1) (e + secs l.length) := ⟨v6, d6, st6, lw6, hn6.trans HN5.out, by rw [hc6, HC5.out], ha6, by have := HE.out; omega⟩
          have hb6 := HUW.out.later lw6.mine.below
          have HB6 : Hid (BytesAt w6 (.slice pu l.length cu) l) := hb6
          have s1 : (secs l.length : Int) ≤ 37 := by omega
          have s0 : (0 : Int) ≤ (secs l.length : Int) := by omega
          clear lw6 hA6 hn6 hc6 ha6 HLW ha5 hcell2 hs hsp hb6 HU5 HUW
          go_wp2_with (go_at_call 14; refine stop ?_)
          refine (size_any _ l w6 HB6.out (by have := HB.out; omega)).mono ?_
          rintro en w7 ⟨rfl, hw7⟩
          obtain rfl := hw7.symm
          clear hw7
          go_wp2
          go_roundw
          case rel => exact ⟨k + 1, e + secs l.length, by have := HK.out; omega, by go_num, by go_num, HR⟩
          case measure => simp [intOf]; have := HK.out; omega
        · have b1 : (2000 : Int) < (l.length : Int) := by omega
          clear big
          go_wp2
          go_ret
          exact ⟨rfl, hBw⟩
      · obtain rfl : k = L.length := by omega
        rw [List.take_length] at lw5 HLW
        clear hlt hl30 he5 hn5 hc5 HLW
        go_wp2_with (go_at_call 12; refine stop ?_)
        refine (open_lg w wr R S v5 d5 _ _ lw5.mine lw5.lg ha5 (by rw [HC5.out]; have := HE.out; have := HL.out; omega)).mono ?_
        rintro en w6 ⟨W6, u6, v6, st6, rfl, lw6, _, hL6, _⟩
        have hB6 := lw6.mine.below
        have hdk := lw6.mine.dk
        have hrow := lw6.row
        have hws := lw6.lg.ws
        obtain ⟨pf, nf, cf, rfl, hnf⟩ := hL6.form
        subst hnf
        have HL6 := (show Hid _ from hL6)
        clear lw6 lw5 hBw hL6
        go_wp2_with (go_at_call 18; refine stop ?_)
        refine (walEnd_any w6 W6 R _ _ st6 hrow).mono ?_
        rintro en w7 ⟨rfl, hw7⟩
        obtain rfl := hw7.symm
        clear hw7
        go_wp2_with (go_at_call 17; refine stop ?_)
        refine (walLen_any w6 W6 R _ _ st6 hrow).mono ?_
        rintro en w7 ⟨rfl, hw7⟩
        obtain rfl := hw7.symm
        clear hw7
        go_wp2
        generalize wr.heap.size = B at *
        have hC0 : CmpR w B w6 R S v6 d5 (.slice pf L.length cf) L := ⟨HL6.out, hB6, hdk⟩
        clear HL6 hB6 hdk hrow
        go_loopw [74] (fun i wr => CmpR w B wr R S v6 d5 (.slice pf L.length cf) L ∧ ∃ k : Nat, k ≤ L.length ∧ i = .int .i64 k) (fun i _ => L.length - (intOf i).toNat)
        case atStart => exact ⟨hC0, 0, Nat.zero_le _, rfl⟩
        case round =>
          obtain ⟨⟨hL7, hB7, hdk7⟩, q, hq, rfl⟩ := hrel
          clear hC0
          have q0 : (0 : Int) ≤ (q : Int) := by omega
          by_cases hql : q < L.length
          · have q1 : (q : Int) < (L.length : Int) := by omega
            obtain ⟨b, off, u, hp0, hbl, hcell, hu⟩ := HC.out q hql
            subst hp0
            obtain ⟨g, cap, x, hpf, hcx, hbx⟩ := hL7.at (i := q) hql
            cases hpf
            have hcu := (hB7.cell (p := ⟨b, off + q, none⟩) hbl).trans hcell
            have hbu := hu.later hB7
            have HQ := (show Hid _ from hql)
            clear hcell hu hbl
            generalize L.getD q [] = l at *
            obtain ⟨_, _, px, cx, rfl, _⟩ := id hbx
            obtain ⟨_, _, pu, cu, rfl, _⟩ := id hbu
            have HR : CmpR w B wr.drew R S v6 d5 (.slice (some ⟨g, 0, none⟩) L.length cf) L := ⟨hL7.later (Below.refl _ wr).drew, hB7.drew, hdk7.drew⟩
            go_wp2_with fail
            refine wp_region_D (fun _ => true) (fun w' : World => (w'.cell? ⟨g, q, none⟩ = some (.slice px l.length cx) ∧ w'.cell? ⟨b, off + q, none⟩ = some (.slice pu l.length cu)) ∧ BytesAt w' (.slice px l.length cx) l ∧ BytesAt w' (.slice pu l.length cu) l) (by kernel_rfl) ?_
            have hS : (fun w' : World => (w'.cell? ⟨g, q, none⟩ = some (.slice px l.length cx) ∧ w'.cell? ⟨b, off + q, none⟩ = some (.slice pu l.length cu)) ∧ BytesAt w' (.slice px l.length cx) l ∧ BytesAt w' (.slice pu l.length cu) l) wr.drew := ⟨⟨hcx, hcu⟩, hbx.later (Below.refl _ wr).drew, hbu.later (Below.refl _ wr).drew⟩
            clear hcx hcu hbx hbu
            refine' wpAnyD_take (i := 0) (v := _) rfl (by kernel_rfl) (by kernel_rfl) (by kernel_rfl) (by kernel_rfl) (fun _ _ _ h => h) (Or.inl ⟨by rfl, ?hy1⟩) hS ?re1
            case hy1 => (intro w hSw; (try dsimp only at hSw); go_simp; (try with_reducible rfl))
            simp only [Act.put, List.setIfInBounds_toArray, List.set_cons_zero, List.set_cons_succ]
            refine' wpAnyD_take (i := 1) (v := _) rfl (by kernel_rfl) (by kernel_rfl) (by kernel_rfl) (by kernel_rfl) (fun _ _ _ h => h) (Or.inl ⟨by rfl, ?hy2⟩) hS ?re2
            case hy2 => (intro w hSw; (try dsimp only at hSw); go_simp; (try with_reducible rfl))
            simp only [Act.put, List.setIfInBounds_toArray, List.set_cons_zero, List.set_cons_succ]
            refine' wpAnyD_take (i := 2) (v := _) rfl (by kernel_rfl) (by kernel_rfl) (by kernel_rfl) (by kernel_rfl) (fun _ _ _ h => h) (Or.inl ⟨by rfl, ?hy3⟩) hS ?re3
            case hy3 => (intro w hSw; (try dsimp only at hSw); go_simp; (try with_reducible rfl))
            simp only [Act.put, List.setIfInBounds_toArray, List.set_cons_zero, List.set_cons_succ]
            refine' wpAnyD_take (i := 3) (v := _) rfl (by kernel_rfl) (by kernel_rfl) (by kernel_rfl) (by kernel_rfl) (fun _ _ _ h => h) (Or.inl ⟨by rfl, ?hy4⟩) hS ?re4
            case hy4 => (intro w hSw; (try dsimp only at hSw); go_simp; (try with_reducible rfl))
            simp only [Act.put, List.setIfInBounds_toArray, List.set_cons_zero, List.set_cons_succ]
            refine wpAnyD_take (i := 4) rfl (by kernel_rfl) (by kernel_rfl) (by kernel_rfl) (by kernel_rfl) (fun _ _ _ h => h) (yields_conv (by rfl) _ rfl (.slice px l.length cx) rfl l (fun _ h => h.2.1)) hS ?_
            simp only [Act.put, List.setIfInBounds_toArray, List.set_cons_zero, List.set_cons_succ]
            refine' wpAnyD_take (i := 5) (v := _) rfl (by kernel_rfl) (by kernel_rfl) (by kernel_rfl) (by kernel_rfl) (fun _ _ _ h => h) (Or.inl ⟨by rfl, ?hy5⟩) hS ?re5
            case hy5 => (intro w hSw; (try dsimp only at hSw); go_simp; (try with_reducible rfl))
            simp only [Act.put, List.setIfInBounds_toArray, List.set_cons_zero, List.set_cons_succ]
            refine' wpAnyD_take (i := 6) (v := _) rfl (by kernel_rfl) (by kernel_rfl) (by kernel_rfl) (by kernel_rfl) (fun _ _ _ h => h) (Or.inl ⟨by rfl, ?hy6⟩) hS ?re6
            case hy6 => (intro w hSw; (try dsimp only at hSw); go_simp; (try with_reducible rfl))
            simp only [Act.put, List.setIfInBounds_toArray, List.set_cons_zero, List.set_cons_succ]
            refine' wpAnyD_take (i := 7) (v := _) rfl (by kernel_rfl) (by kernel_rfl) (by kernel_rfl) (by kernel_rfl) (fun _ _ _ h => h) (Or.inl ⟨by rfl, ?hy7⟩) hS ?re7
            case hy7 => (intro w hSw; (try dsimp only at hSw); go_simp; (try with_reducible rfl))
            simp only [Act.put, List.setIfInBounds_toArray, List.set_cons_zero, List.set_cons_succ]
            refine' wpAnyD_take (i := 8) (v := _) rfl (by kernel_rfl) (by kernel_rfl) (by kernel_rfl) (by kernel_rfl) (fun _ _ _ h => h) (Or.inl ⟨by rfl, ?hy8⟩) hS ?re8
            case hy8 => (intro w hSw; (try dsimp only at hSw); go_simp; (try with_reducible rfl))
            simp only [Act.put, List.setIfInBounds_toArray, List.set_cons_zero, List.set_cons_succ]
            refine wpAnyD_take (i := 9) rfl (by kernel_rfl) (by kernel_rfl) (by kernel_rfl) (by kernel_rfl) (fun _ _ _ h => h) (yields_conv (by rfl) _ rfl (.slice pu l.length cu) rfl l (fun _ h => h.2.2)) hS ?_
            simp only [Act.put, List.setIfInBounds_toArray, List.set_cons_zero, List.set_cons_succ]
            refine' wpAnyD_take (i := 10) (v := _) rfl (by kernel_rfl) (by kernel_rfl) (by kernel_rfl) (by kernel_rfl) (fun _ _ _ h => h) (Or.inl ⟨by rfl, ?hy9⟩) hS ?re9
            case hy9 => (intro w hSw; (try dsimp only at hSw); go_simp; (try with_reducible rfl))
            simp only [Act.put, List.setIfInBounds_toArray, List.set_cons_zero, List.set_cons_succ]
            refine wpAnyD_done (by kernel_rfl) ?_ _
            clear hS
            go_wp2
            go_roundw
            case rel => exact ⟨HR, q + 1, HQ.out, by go_num⟩
            case measure => simp [intOf]; have := HQ.out; omega
          · obtain rfl : q = L.length := by omega
            go_wp2_with (go_at_call 23; refine stop ?_)
            refine (waits_any wr R S v6 d5 hdk7).mono ?_
            rintro en w7 ⟨rfl, hw7⟩
            obtain rfl := hw7.symm
            clear hw7
            rw [hws]
            go_wp2
            go_ret
            exact ⟨rfl, hB7⟩
  · have l1 : (20 : Int) < (L.length : Int) := by omega
    go_wp2
    go_ret
    exact ⟨rfl, hb1⟩
end Go.Proofs.Ytfhaphbfbmpbiaa
