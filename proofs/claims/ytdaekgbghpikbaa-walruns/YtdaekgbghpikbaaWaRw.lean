
/-
  WalRuns: its walk. For every input.
-/
import Derived.Test.YtdaekgbghpikbaaWaR
import Derived.Deep.CutBlock
namespace Go.Proofs.Ytdaekgbghpikbaa
open Go.RowKit
set_option maxRecDepth 100000
set_option linter.unusedVariables false
set_option linter.unusedSimpArgs false

set_option maxHeartbeats 4000000 in
theorem walRuns_walk (x0 : Int) (v1 : Value) (D : List CIn) (w : World) (hx0 : -9223372036854775808 ≤ x0 ∧ x0 ≤ 9223372036854775807) (hD : DeedsAt w v1 D) :
    Calls Try.prog 3 #[.int .i64 x0, v1] w fun e w' => e = .returned (.bool true) ∧ Below w.heap.size w w' := by
  obtain ⟨hlm, pu, cu, rfl, hrows⟩ := id hD.at0.rows
  clear hrows
  obtain ⟨a, ha, ea⟩ := and_low x0 6 (by decide)
  replace ea : bits .and .i64 x0 63 = (a : Int) := ea
  have a1 : (a : Int) < 64 := by have : a < 64 := ha; omega
  have a0 : (0 : Int) ≤ (a : Int) := by omega
  have HA : Hid (a < 64) := ha
  have HD : Hid (DeedsAt w (.slice pu D.length cu) D) := hD
  have l0 : (0 : Int) ≤ (D.length : Int) := by omega
  clear ha hx0 hD
  go_enter Try.func3, Try.ntmps3
  go_wp2_with (go_at_call 10; refine stop ?_)
  refine (fit5_any w).mono ?_
  rintro e w1 ⟨rfl, hb1⟩
  by_cases hlen : D.length ≤ 60
  · have l1 : (D.length : Int) ≤ 60 := by omega
    have HL : Hid (D.length ≤ 60) := hlen
    clear hlm hlen
    go_wp2_with (go_at_call 11; refine stop ?_)
    have hN : ((a : Int) + 1) = ((a + 1 : Nat) : Int) := by omega
    rw [hN]
    refine (new_any (a + 1) (by omega) (by have := HA.out; omega) w1).mono ?_
    rintro e w2 ⟨R, S, rfl, hd, hb, hR, hS⟩
    have m2 := Mine.new hb1 hd hb hR hS
    clear hd hb hR hS hb1 hN
    go_wp2_with (go_at_call 12; refine stop ?_)
    refine (open_lg w w2 R S _ _ [] 0 m2 (Lg.new (a + 1)) rfl (by show (0 : Nat) < 1000000; decide)).mono ?_
    rintro e w3 ⟨W, u3, v3, st3, rfl, lw3, hW3, hL3, _⟩
    clear m2 hL3 hW3
    have hR0 : RunN w w3 W R S (a + 1) 0 (.slice none 0 0) [] 0 := ⟨⟨v3, _, st3, lw3, rfl, Nat.zero_le _⟩, SureAt.nil _ _, Nat.le_refl _⟩
    clear lw3
    go_wp2
    go_loopw [39, 6, 9, 11, 12] (fun i wv sv wy us wr => ∃ (k W : Nat) (u : Value) (L : List (List Nat)) (e : Nat), k ≤ D.length ∧ i = .int .i64 k ∧ wv = .pointer (some ⟨W, 0, none⟩) ∧ sv = u ∧ wy = .bool false ∧ us = .int .i64 (e : Nat) ∧ RunN w wr W R S (a + 1) k u L e) (fun i _ _ _ _ _ => D.length - (intOf i).toNat)
    case atStart => exact ⟨0, W, _, [], 0, Nat.zero_le _, rfl, rfl, rfl, rfl, rfl, hR0⟩
    case round =>
      clear hR0
      obtain ⟨k, W, u, L, e, hk, rfl, rfl, rfl, rfl, rfl, ⟨v5, d5, st5, lw5, hn5, hc5⟩, hS5, hl5⟩ := hrel
      obtain ⟨ps, ns, cs, rfl, hns⟩ := hS5.form
      have hBw := lw5.mine.below
      have k0 : (0 : Int) ≤ (k : Int) := by omega
      have k1 : (k : Int) ≤ 60 := by omega
      have he5 : e ≤ a + 1 := by rw [← hn5]; exact lw5.lg.le
      have e0 : (0 : Int) ≤ (e : Int) := by omega
      have e1 : (e : Int) ≤ 64 := by omega
      have HE : Hid (e ≤ a + 1) := he5
      have HN5 : Hid (d5.n = a + 1) := hn5
      have HC5 : Hid (d5.cnt ≤ 100 * k) := hc5
      have HL5 : Hid (L.length ≤ k) := hl5
      subst hns
      have m0 : (0 : Int) ≤ (L.length : Int) := by omega
      have m1 : (L.length : Int) ≤ 60 := by have := HL5.out; omega
      clear he5 hn5 hc5 hl5
      by_cases hlt : k < D.length
      · have hlt' : (k : Int) < (D.length : Int) := by omega
        have HK : Hid (k + 1 ≤ D.length) := hlt
        have hmem : D.getD k CIn.none ∈ D := by simp only [List.getD]; rw [List.getElem?_eq_getElem hlt]; exact List.getElem_mem _
        have hok0 : (D.getD k CIn.none).ok w := HD.out.at0.each _ hmem
        obtain ⟨b, off, cc, eq, hb, hr, hok⟩ := (HD.out.at0.later hBw).at hlt
        cases eq
        generalize D.getD k CIn.none = c at *
        have hci : (Try.prog.info? 34).map (·.size) = some c.cs.toList.length := by kernel_rfl
        have hcj : (Try.prog.info? 34).map (·.size) = some c.cs.size := by kernel_rfl
        have hone : c.cs.all (·.oneCell') = true := by
          obtain ⟨_, _, p, q, e, _⟩ := hok.data
          simp [CIn.cs, e, Value.oneCell']
        clear hlt hmem
        go_wp2_with (first | refine wpList_load_mid rfl 34 _ rfl b (off + k * 6) rfl c.cs.toList _ hr Try.underlying34 rfl hci ?_ | (refine wpList_store_row rfl 34 _ _ rfl wr.heap.size c.cs rfl rfl 34 _ (heap_alloc_new wr _) hcj rfl hone ?_; refine stop ?_))
        unfold Stop
        clear hr hci hcj hone
        have rg := (Row.new wr #[.int .i64 0, .int .i64 0, .slice none 0 0, .int .u64 0, .int .i64 0, .int .i64 0] 34 rfl).setRow c.cs
        have b2 : Below wr.heap.size wr ((wr.alloc (.cells #[.int .i64 0, .int .i64 0, .slice none 0 0, .int .u64 0, .int .i64 0, .int .i64 0] 34)).setRow wr.heap.size c.cs) := Below.row (below1 wr _) _ (Nat.le_refl _)
        generalize (wr.alloc (.cells #[.int .i64 0, .int .i64 0, .slice none 0 0, .int .u64 0, .int .i64 0, .int .i64 0] 34)).setRow wr.heap.size c.cs = w4 at *
        have lw4 := lw5.later b2
        have hS4 := hS5.later b2
        have hB4 := lw4.mine.below
        have hdat := hok.data.later b2
        have HMS : Hid (c.mask < 2 ^ 64) := hok.mask
        have hdat0 := hok0.data
        clear lw5 hS5 hBw b2 hok hok0
        generalize wr.heap.size = gk at *
        obtain ⟨hd8, hdm, pd, cd, hcv, _⟩ := id hdat
        have q0 : w4.cell? ⟨gk, 0, none⟩ = some (.int .i64 c.kind) := rg.cell 0
        have q1 : w4.cell? ⟨gk, 1, none⟩ = some (.int .i64 c.at0) := rg.cell 1
        have q2 : w4.cell? ⟨gk, 2, none⟩ = some c.v := rg.cell 2
        have q3 : w4.cell? ⟨gk, 3, none⟩ = some (.int .u64 c.mask) := rg.cell 3
        have q4 : w4.cell? ⟨gk, 4, none⟩ = some (.int .i64 c.torn) := rg.cell 4
        have q5 : w4.cell? ⟨gk, 5, none⟩ = some (.int .i64 c.cut) := rg.cell 5
        rw [hcv] at q2 hdat hdat0
        have d0 : (0 : Int) ≤ (c.data.length : Int) := by omega
        have HDAT : Hid (BytesAt w4 (.slice pd c.data.length cd) c.data) := hdat
        have HDAT0 : Hid (BytesAt w (.slice pd c.data.length cd) c.data) := hdat0
        have HCV : Hid (c.v = .slice pd c.data.length cd) := hcv
        have HW8 : Hid (W8 c.data) := hd8
        clear hdat hdat0 hcv hd8 hdm
        by_cases hbig : c.data.length ≤ 600
        · have d1 : (c.data.length : Int) ≤ 600 := by omega
          have HB6 : Hid (c.data.length ≤ 600) := hbig
          clear hbig
          have HC2 : Hid (∀ w' : World, Row w' gk c.cs 34 → w'.cell? ⟨gk, 2, none⟩ = some (.slice pd c.data.length cd)) := fun w' h => by
            rw [← HCV.out]
            exact h.cell 2
          go_upto_block 2 with fail
          obtain ⟨hkq, hq0, hq4⟩ := kind_mod4 c.kind
          simp only [hkq]
          clear hkq q0
          have hqq : c.kind % 4 = 0 ∨ c.kind % 4 = 1 ∨ c.kind % 4 = 2 ∨ c.kind % 4 = 3 := by omega
          generalize c.kind % 4 = t at *
          clear hq0 hq4
          have q0 : True := trivial
          rcases hqq with rfl | rfl | rfl | rfl
          · skip
            as_aux_lemma =>
              have hs11 : secs c.data.length ≤ 11 := by have := HB6.out; unfold secs; omega
              have hs1 := secs_pos c.data.length
              have z0 : (1 : Int) ≤ (secs c.data.length : Int) := by omega
              have z1 : (secs c.data.length : Int) ≤ 11 := by omega
              have HS11 : Hid (secs c.data.length ≤ 11) := hs11
              clear hs11 hs1
              by_cases room : e + secs c.data.length ≤ a + 1
              · have HRM : Hid (e + secs c.data.length ≤ a + 1) := room
                have z3 : ¬ ((a : Int) + 1 < (e : Int) + (secs c.data.length : Int)) := by omega
                clear room
                go_wp2_with (go_at_call 13; refine stop ?_)
                refine (append_c w w4 W R S v5 _ d5 L e st5 c.data lw4 HDAT.out (by have := HB6.out; omega) (by rw [HN5.out]; exact HRM.out) (by have := HC5.out; have := HK.out; have := HL.out; omega)).mono ?_
                rintro en w6 ⟨v6, d6, hA6, hM6, hn6, hc6, ha6, hcase⟩
                have rg6 : Row w6 gk c.cs 34 := (hA6.block gk rg.lt (rg.ne lw4.row (by decide)) (rg.ne lw4.mine.dk.row (by decide)) (rg.ne lw4.mine.dk.sure (by decide)) (ownN_ne lw4.mine.dk.own rg (by decide))).trans rg
                have hS6 := hS4.astep lw4.row lw4.mine.dk hA6
                have p2 := HC2.out w6 rg6
                have hdat6 := HDAT0.out.later hM6.below
                have HDAT6 : Hid (BytesAt w6 (.slice pd c.data.length cd) c.data) := hdat6
                clear hdat6
                rcases hcase with ⟨rfl, hdn, _, st6, lw6⟩ | ⟨rfl, hdn, hws6, k6, s6, hk6, hs0, hs1, hd6⟩
                · obtain ⟨LL, hLL⟩ : ∃ LL, LL = L ++ [c.data] := ⟨_, rfl⟩
                  rw [← hLL] at lw6
                  have HLN : Hid (LL.length ≤ k + 1) := by rw [hLL, List.length_append, List.length_singleton]; have := HL5.out; show _ ≤ _; omega
                  have HLL : Hid (LL = L ++ [c.data]) := hLL
                  have HN6 : Hid (d6.n = a + 1) := hn6.trans HN5.out
                  have HC6 : Hid (d6.cnt ≤ 100 * (k + 1)) := by show _ ≤ _; have := HC5.out; have := HS11.out; omega
                  clear hLL hn6 hc6 ha6 hM6 hA6 hdn q0 q1 q2 q3 q4 q5 lw4 hS4 rg hB4 HDAT
                  go_wp2_with (go_at_call 14; refine stop ?_)
                  refine (size_any _ c.data w6 HDAT6.out (by have := HB6.out; omega)).mono ?_
                  rintro en wq ⟨rfl, hwq⟩
                  obtain rfl := hwq.symm
                  clear hwq
                  go_wp2_with fail
                  refine wp_region_D (fun _ => true) (fun w' : World => w'.cell? ⟨gk, 2, none⟩ = some (.slice pd c.data.length cd)) (by kernel_rfl) ?_
                  have hS : (fun w' : World => w'.cell? ⟨gk, 2, none⟩ = some (.slice pd c.data.length cd)) w6.drew := p2
                  have lwd := lw6.later (Below.refl _ w6).drew
                  have hSd := hS6.later (Below.refl _ w6).drew
                  have rgd : Row w6.drew gk c.cs 34 := rg6.drew
                  clear lw6 hS6 rg6 p2 HDAT6
                  generalize w6.drew = wd at *
                  obtain ⟨u7, w7, run7, hS7, hp7⟩ := hSd.put HDAT0.out rfl (by have := HL5.out; have := HK.out; have := HL.out; omega) lwd.mine.below.size
                  refine' wpAnyD_take (i := 0) (v := _) rfl (by kernel_rfl) (by kernel_rfl) (by kernel_rfl) (by kernel_rfl) (fun _ _ _ h => h) (Or.inl ⟨by rfl, ?hy1⟩) hS ?re1
                  case hy1 => (intro w hSw; (try dsimp only at hSw); go_simp; (try with_reducible rfl))
                  simp only [Act.put, List.setIfInBounds_toArray, List.set_cons_zero, List.set_cons_succ]
                  refine' wpAnyD_take (i := 1) (v := _) rfl (by kernel_rfl) (by kernel_rfl) (by kernel_rfl) (by kernel_rfl) (fun _ _ _ h => h) (Or.inl ⟨by rfl, ?hy2⟩) hS ?re2
                  case hy2 => (intro w hSw; (try dsimp only at hSw); go_simp; (try with_reducible rfl))
                  simp only [Act.put, List.setIfInBounds_toArray, List.set_cons_zero, List.set_cons_succ]
                  refine' wpAnyD_take (i := 2) (v := _) rfl (by kernel_rfl) (by kernel_rfl) (by kernel_rfl) (by kernel_rfl) (fun _ _ _ h => h) (Or.inl ⟨by rfl, ?hy3⟩) hS ?re3
                  case hy3 => (intro w hSw; (try dsimp only at hSw); go_simp; (try with_reducible rfl))
                  simp only [Act.put, List.setIfInBounds_toArray, List.set_cons_zero, List.set_cons_succ]
                  refine' wpAnyD_take (i := 5) (v := _) rfl (by kernel_rfl) (by kernel_rfl) (by kernel_rfl) (by kernel_rfl) (fun _ _ _ h => h) (Or.inl ⟨by rfl, ?hy4⟩) hS ?re4
                  case hy4 => (intro w hSw; (try dsimp only at hSw); go_simp; (try with_reducible rfl))
                  simp only [Act.put, List.setIfInBounds_toArray, List.set_cons_zero, List.set_cons_succ]
                  refine' wpAnyD_take (i := 6) (v := _) rfl (by kernel_rfl) (by kernel_rfl) (by kernel_rfl) (by kernel_rfl) (fun _ _ _ h => h) (Or.inl ⟨by rfl, ?hy5⟩) hS ?re5
                  case hy5 => (intro w hSw; (try dsimp only at hSw); go_simp; (try with_reducible rfl))
                  simp only [Act.put, List.setIfInBounds_toArray, List.set_cons_zero, List.set_cons_succ]
                  refine' wpAnyD_take (i := 7) (v := _) rfl (by kernel_rfl) (by kernel_rfl) (by kernel_rfl) (by kernel_rfl) (fun _ _ _ h => h) (Or.inl ⟨by rfl, ?hy6⟩) hS ?re6
                  case hy6 => (intro w hSw; (try dsimp only at hSw); go_simp; (try with_reducible rfl))
                  simp only [Act.put, List.setIfInBounds_toArray, List.set_cons_zero, List.set_cons_succ]
                  refine wpAnyD_only (i := 3) rfl (by kernel_rfl) (by rfl) (fun K hK => ?_)
                  go_simp
                  try dsimp only
                  have hSn := (HC2.out _ (rgd.alloc _) : (fun w' : World => w'.cell? ⟨gk, 2, none⟩ = some (.slice pd c.data.length cd)) (wd.alloc (.cells #[.slice pd c.data.length cd] 31)))
                  refine hK.out _ _ (fun _ => hSn) ?_
                  clear hK K hS
                  have hS := hSn
                  clear hSn
                  try simp only [Act.put, List.setIfInBounds_toArray, List.set_cons_zero, List.set_cons_succ]
                  refine wpAnyD_only (i := 4) rfl (by kernel_rfl) (by rfl) (fun K hK => ?_)
                  refine Lib.wp_append_run _ _ _ _ _ rfl _ _ rfl rfl _ _ run7 ?_
                  have rg7 := rgd.sstep hSd (by decide) hp7
                  have lw7 := lwd.sstep hSd hp7
                  rw [← HLL.out] at hS7
                  obtain ⟨p7, n7, c7, rfl, hn7⟩ := hS7.form
                  subst hn7
                  try dsimp only
                  have hSn := (HC2.out _ rg7 : (fun w' : World => w'.cell? ⟨gk, 2, none⟩ = some (.slice pd c.data.length cd)) w7)
                  refine hK.out _ _ (fun _ => hSn) ?_
                  clear hK K hS
                  have hS := hSn
                  clear hSn
                  try simp only [Act.put, List.setIfInBounds_toArray, List.set_cons_zero, List.set_cons_succ]
                  have HDAT7 : Hid (BytesAt w7 (.slice pd c.data.length cd) c.data) := HDAT0.out.later lw7.mine.below
                  clear run7 hp7 hSd lwd rgd
                  refine wpAnyD_only (i := 8) rfl (by kernel_rfl) (by rfl) (fun K hK => ?_)
                  go_simp
                  refine (size_any _ c.data w7 HDAT7.out (by have := HB6.out; omega)).mono ?_
                  rintro en wq ⟨rfl, hwq⟩
                  obtain rfl := hwq.symm
                  clear hwq
                  try dsimp only
                  have hSn := hS
                  refine hK.out _ _ (fun _ => hSn) ?_
                  clear hK K hS
                  have hS := hSn
                  clear hSn
                  try simp only [Act.put, List.setIfInBounds_toArray, List.set_cons_zero, List.set_cons_succ]
                  have hwr : IntKind.i64.wrap ((e : Int) + (secs c.data.length : Int)) = (e : Int) + (secs c.data.length : Int) := by rw [IntKind.wrap_i64]; omega
                  refine' wpAnyD_take (i := 9) (v := _) rfl (by kernel_rfl) (by kernel_rfl) (by kernel_rfl) (by kernel_rfl) (fun _ _ _ h => h) (Or.inl ⟨by rfl, ?hy7⟩) hS ?re7
                  case hy7 => (intro w hSw; (try dsimp only at hSw); go_simp; (try with_reducible rfl))
                  simp only [Act.put, List.setIfInBounds_toArray, List.set_cons_zero, List.set_cons_succ]
                  refine' wpAnyD_take (i := 10) (v := _) rfl (by kernel_rfl) (by kernel_rfl) (by kernel_rfl) (by kernel_rfl) (fun _ _ _ h => h) (Or.inl ⟨by rfl, ?hy8⟩) hS ?re8
                  case hy8 => (intro w hSw; (try dsimp only at hSw); go_simp; (try with_reducible rfl))
                  simp only [Act.put, List.setIfInBounds_toArray, List.set_cons_zero, List.set_cons_succ]
                  refine' wpAnyD_take (i := 11) (v := _) rfl (by kernel_rfl) (by kernel_rfl) (by kernel_rfl) (by kernel_rfl) (fun _ _ _ h => h) (Or.inl ⟨by rfl, ?hy9⟩) hS ?re9
                  case hy9 => (intro w hSw; (try dsimp only at hSw); go_simp; (try with_reducible rfl))
                  simp only [Act.put, List.setIfInBounds_toArray, List.set_cons_zero, List.set_cons_succ]
                  clear hwr
                  refine wpAnyD_done (by kernel_rfl) ?_ _
                  clear hS
                  have hrow := lw7.row
                  have HRN : Hid (RunN w w7 W R S (a + 1) (k + 1) (.slice p7 LL.length c7) LL (e + secs c.data.length)) := ⟨⟨v6, d6, st6, lw7, HN6.out, HC6.out⟩, hS7, HLN.out⟩
                  clear lw7 hS7 rg7
                  go_wp2_with (go_at_call 17; refine stop ?_)
                  refine (walLen_any w7 W R _ _ st6 hrow).mono ?_
                  rintro en wq ⟨rfl, hwq⟩
                  obtain rfl := hwq.symm
                  clear hwq
                  go_wp2_with (go_at_call 18; refine stop ?_)
                  refine (walEnd_any w7 W R _ _ st6 hrow).mono ?_
                  rintro en wq ⟨rfl, hwq⟩
                  obtain rfl := hwq.symm
                  clear hwq
                  go_wp2
                  go_roundw
                  case rel => exact ⟨k + 1, W, _, _, _, HK.out, by go_num, rfl, rfl, rfl, by go_num, HRN.out⟩
                  case measure => simp [intOf]; have := HK.out; omega
                · have HMY : Hid (Mine w w6 R S v6 d6) := hM6
                  have HSY : Hid (SureAt w w6 (.slice ps L.length cs) L) := hS6
                  have HNY : Hid (d6.n = a + 1) := hn6.trans HN5.out
                  have HCY : Hid (d6.cnt ≤ 100 * k + 11) := by show _ ≤ _; have := HC5.out; have := HS11.out; omega
                  have HPY : Hid (CrashP d6 L e c.data true) := by
                    have h := CrashP.way lw4.lg lw4.mine.dk.ok.fl lw4.mine.dk.ok.n2 hs0 hs1 HW8.out (by have := HB6.out; omega) (by rw [HN5.out]; exact HRM.out) hk6
                    rw [← hd6] at h
                    exact h
                  have p3 : w6.cell? ⟨gk, 3, none⟩ = some (.int .u64 c.mask) := rg6.cell 3
                  have p4 : w6.cell? ⟨gk, 4, none⟩ = some (.int .i64 c.torn) := rg6.cell 4
                  have p5 : w6.cell? ⟨gk, 5, none⟩ = some (.int .i64 c.cut) := rg6.cell 5
                  clear hd6 hs0 hs1 hk6 hws6 hdn hM6 hS6 hn6 hc6 ha6 hA6 q0 q1 q2 q3 q4 q5 lw4 hS4 rg hB4 HDAT rg6
                  go_wp2_with (go_at_call 14; refine stop ?_)
                  refine (size_any _ c.data w6 HDAT6.out (by have := HB6.out; omega)).mono ?_
                  rintro en wq ⟨rfl, hwq⟩
                  obtain rfl := hwq.symm
                  clear hwq HDAT6
                  go_wp2_with (go_at_call 16; refine stop ?_)
                  refine (crash_any c.mask HMS.out c.torn c.cut w6 R S v6 d6 HMY.out.dk).mono ?_
                  rintro en w8 ⟨rfl, hD8, hs8⟩
                  have hM8 : Mine w w8 R S _ (crashed (kept c.mask c.torn c.cut) d6) := HMY.out.step hD8 hs8
                  have hS8 := HSY.out.dstep HMY.out.dk hs8
                  clear hD8 hs8
                  go_wp2_with (go_at_call 12; refine stop ?_)
                  refine (open_c w w8 R S _ _ hM8 rfl (by show 0 + (d6).n < 1000; rw [HNY.out]; have := HA.out; omega) (by show (d6).cnt + (d6).n < 1000000; rw [HNY.out]; have := HA.out; have := HCY.out; have := HK.out; have := HL.out; omega)).mono ?_
                  rintro en w9 ⟨W9, u9, v9, st9, L9, e9, d9, rfl, hrl, lw9, _, hL9, hs9, hn9, ha9, hc9⟩
                  have hS9 := hS8.dstep hM8.dk hs9
                  have HSB := (show Hid _ from hS8.lt)
                  have HN9 : Hid (d9.n = a + 1) := hn9.trans HNY.out
                  have HC9 : Hid (d9.cnt ≤ 100 * (k + 1)) := by
                    have h1 : d9.cnt ≤ (d6).cnt + (d6).n := hc9
                    rw [HNY.out] at h1
                    have := HCY.out
                    have := HA.out
                    show d9.cnt ≤ 100 * (k + 1)
                    omega
                  have hcs := HPY.out _ (fun i => kept_le _ _ _ i) L9 e9 hrl
                  clear hM8 hS8 hrl hs9 hn9 ha9 hc9 HMY HSY HPY HNY HCY
                  obtain ⟨pf, nf, cf, rfl, hnf⟩ := hL9.form
                  clear p2 p3 p4 p5
                  rcases hcs with ⟨h1, h2⟩ | ⟨_, h1, h2⟩
                  · obtain rfl := h1.symm
                    subst h2 hnf
                    have HLN : Hid (L.length ≤ k + 1) := Nat.le_succ_of_le HL5.out
                    have f1 : ¬ ((L.length : Int) + 1 < (L.length : Int)) := by omega
                    have hC0 : Cmp2 w w8.heap.size w9 W9 R S v9 d9 L e9 st9 (.slice pf L.length cf) (.slice ps L.length cs) := ⟨hL9, hS9, lw9⟩
                    clear hL9 hS9 lw9
                    go_wp2
                    go_loopw [158] (fun i wr => Cmp2 w w8.heap.size wr W9 R S v9 d9 L (e9) st9 (.slice pf L.length cf) (.slice ps L.length cs) ∧ ∃ q : Nat, q ≤ L.length ∧ i = .int .i64 q) (fun i _ => L.length - (intOf i).toNat)
                    case atStart => exact ⟨hC0, 0, Nat.zero_le _, rfl⟩
                    case round =>
                      obtain ⟨hC7, q, hq, rfl⟩ := hrel
                      clear hC0
                      have q0 : (0 : Int) ≤ (q : Int) := by omega
                      by_cases hql : q < L.length
                      · have qi : (q : Int) < (L.length : Int) := by omega
                        obtain ⟨gb, cap2, y, hpy, hcu, hbu0⟩ := hC7.sure.at (i := q) (by skip; exact hql)
                        cases hpy
                        obtain ⟨g, cap, x, hpf, hcx, hbx⟩ := hC7.log.at (i := q) (by skip; exact hql)
                        cases hpf
                        have hbu := hbu0.later hC7.lw.mine.below
                        have HQ : Hid (q < L.length) := hql
                        have HR := hC7.later (Below.refl _ wr).drew
                        clear hbu0 hql
                        generalize (L).getD q [] = l at *
                        obtain ⟨_, _, px, cx, rfl, _⟩ := id hbx
                        obtain ⟨_, _, py, cy, rfl, _⟩ := id hbu
                        clear hC7
                        go_wp2_with fail
                        refine wp_region_D (fun _ => true) (fun w' : World => (w'.cell? ⟨g, q, none⟩ = some (.slice px l.length cx) ∧ w'.cell? ⟨gb, q, none⟩ = some (.slice py l.length cy)) ∧ BytesAt w' (.slice px l.length cx) l ∧ BytesAt w' (.slice py l.length cy) l) (by kernel_rfl) ?_
                        have hS : (fun w' : World => (w'.cell? ⟨g, q, none⟩ = some (.slice px l.length cx) ∧ w'.cell? ⟨gb, q, none⟩ = some (.slice py l.length cy)) ∧ BytesAt w' (.slice px l.length cx) l ∧ BytesAt w' (.slice py l.length cy) l) wr.drew := ⟨⟨hcx, hcu⟩, hbx.later (Below.refl _ wr).drew, hbu.later (Below.refl _ wr).drew⟩
                        clear hcx hcu hbx hbu
                        refine' wpAnyD_take (i := 0) (v := _) rfl (by kernel_rfl) (by kernel_rfl) (by kernel_rfl) (by kernel_rfl) (fun _ _ _ h => h) (Or.inl ⟨by rfl, ?hy10⟩) hS ?re10
                        case hy10 => (intro w hSw; (try dsimp only at hSw); go_simp; (try with_reducible rfl))
                        simp only [Act.put, List.setIfInBounds_toArray, List.set_cons_zero, List.set_cons_succ]
                        refine' wpAnyD_take (i := 1) (v := _) rfl (by kernel_rfl) (by kernel_rfl) (by kernel_rfl) (by kernel_rfl) (fun _ _ _ h => h) (Or.inl ⟨by rfl, ?hy11⟩) hS ?re11
                        case hy11 => (intro w hSw; (try dsimp only at hSw); go_simp; (try with_reducible rfl))
                        simp only [Act.put, List.setIfInBounds_toArray, List.set_cons_zero, List.set_cons_succ]
                        refine' wpAnyD_take (i := 2) (v := _) rfl (by kernel_rfl) (by kernel_rfl) (by kernel_rfl) (by kernel_rfl) (fun _ _ _ h => h) (Or.inl ⟨by rfl, ?hy12⟩) hS ?re12
                        case hy12 => (intro w hSw; (try dsimp only at hSw); go_simp; (try with_reducible rfl))
                        simp only [Act.put, List.setIfInBounds_toArray, List.set_cons_zero, List.set_cons_succ]
                        refine' wpAnyD_take (i := 3) (v := _) rfl (by kernel_rfl) (by kernel_rfl) (by kernel_rfl) (by kernel_rfl) (fun _ _ _ h => h) (Or.inl ⟨by rfl, ?hy13⟩) hS ?re13
                        case hy13 => (intro w hSw; (try dsimp only at hSw); go_simp; (try with_reducible rfl))
                        simp only [Act.put, List.setIfInBounds_toArray, List.set_cons_zero, List.set_cons_succ]
                        refine wpAnyD_take (i := 4) rfl (by kernel_rfl) (by kernel_rfl) (by kernel_rfl) (by kernel_rfl) (fun _ _ _ h => h) (yields_conv (by rfl) _ rfl (.slice px l.length cx) rfl l (fun _ h => h.2.1)) hS ?_
                        simp only [Act.put, List.setIfInBounds_toArray, List.set_cons_zero, List.set_cons_succ]
                        refine' wpAnyD_take (i := 5) (v := _) rfl (by kernel_rfl) (by kernel_rfl) (by kernel_rfl) (by kernel_rfl) (fun _ _ _ h => h) (Or.inl ⟨by rfl, ?hy14⟩) hS ?re14
                        case hy14 => (intro w hSw; (try dsimp only at hSw); go_simp; (try with_reducible rfl))
                        simp only [Act.put, List.setIfInBounds_toArray, List.set_cons_zero, List.set_cons_succ]
                        refine' wpAnyD_take (i := 6) (v := _) rfl (by kernel_rfl) (by kernel_rfl) (by kernel_rfl) (by kernel_rfl) (fun _ _ _ h => h) (Or.inl ⟨by rfl, ?hy15⟩) hS ?re15
                        case hy15 => (intro w hSw; (try dsimp only at hSw); go_simp; (try with_reducible rfl))
                        simp only [Act.put, List.setIfInBounds_toArray, List.set_cons_zero, List.set_cons_succ]
                        refine' wpAnyD_take (i := 7) (v := _) rfl (by kernel_rfl) (by kernel_rfl) (by kernel_rfl) (by kernel_rfl) (fun _ _ _ h => h) (Or.inl ⟨by rfl, ?hy16⟩) hS ?re16
                        case hy16 => (intro w hSw; (try dsimp only at hSw); go_simp; (try with_reducible rfl))
                        simp only [Act.put, List.setIfInBounds_toArray, List.set_cons_zero, List.set_cons_succ]
                        refine' wpAnyD_take (i := 8) (v := _) rfl (by kernel_rfl) (by kernel_rfl) (by kernel_rfl) (by kernel_rfl) (fun _ _ _ h => h) (Or.inl ⟨by rfl, ?hy17⟩) hS ?re17
                        case hy17 => (intro w hSw; (try dsimp only at hSw); go_simp; (try with_reducible rfl))
                        simp only [Act.put, List.setIfInBounds_toArray, List.set_cons_zero, List.set_cons_succ]
                        refine wpAnyD_take (i := 9) rfl (by kernel_rfl) (by kernel_rfl) (by kernel_rfl) (by kernel_rfl) (fun _ _ _ h => h) (yields_conv (by rfl) _ rfl (.slice py l.length cy) rfl l (fun _ h => h.2.2)) hS ?_
                        simp only [Act.put, List.setIfInBounds_toArray, List.set_cons_zero, List.set_cons_succ]
                        refine' wpAnyD_take (i := 10) (v := _) rfl (by kernel_rfl) (by kernel_rfl) (by kernel_rfl) (by kernel_rfl) (fun _ _ _ h => h) (Or.inl ⟨by rfl, ?hy18⟩) hS ?re18
                        case hy18 => (intro w hSw; (try dsimp only at hSw); go_simp; (try with_reducible rfl))
                        simp only [Act.put, List.setIfInBounds_toArray, List.set_cons_zero, List.set_cons_succ]
                        refine wpAnyD_done (by kernel_rfl) ?_ _
                        clear hS
                        go_wp2
                        go_roundw
                        case rel => exact ⟨HR, q + 1, HQ.out, by go_num⟩
                        case measure => simp [intOf]; have := HQ.out; omega
                      · obtain rfl : q = L.length := by omega
                        have hrow := hC7.lw.row
                        have HRN : Hid (RunN w wr W9 R S (a + 1) (k + 1) (.slice ps L.length cs) L (e9)) := ⟨⟨v9, d9, st9, hC7.lw, HN9.out, HC9.out⟩, hC7.sure, HLN.out⟩
                        clear hC7 hql
                        go_wp2_with (go_at_call 17; refine stop ?_)
                        refine (walLen_any wr W9 R _ _ st9 hrow).mono ?_
                        rintro en wq ⟨rfl, hwq⟩
                        obtain rfl := hwq.symm
                        clear hwq
                        go_wp2_with (go_at_call 18; refine stop ?_)
                        refine (walEnd_any wr W9 R _ _ st9 hrow).mono ?_
                        rintro en wq ⟨rfl, hwq⟩
                        obtain rfl := hwq.symm
                        clear hwq
                        go_wp2
                        go_roundw
                        case rel => exact ⟨k + 1, W9, _, _, _, HK.out, by go_num, rfl, rfl, rfl, by go_num, HRN.out⟩
                        case measure => simp [intOf]; have := HK.out; omega
                  · have HL9 : Hid (L9.length = L.length + 1) := by rw [h1, List.length_append, List.length_singleton]; rfl
                    subst hnf
                    have HLN : Hid (L9.length ≤ k + 1) := by show _ ≤ _; have := HL9.out; have := HL5.out; omega
                    have f1 : ¬ ((L9.length : Int) < (L.length : Int)) := by have := HL9.out; omega
                    have f2 : ¬ ((L.length : Int) + 1 < (L9.length : Int)) := by have := HL9.out; omega
                    have f3 : (L.length : Int) < (L9.length : Int) := by have := HL9.out; omega
                    have f4 : L.length < L9.length := by have := HL9.out; omega
                    obtain ⟨u7, w7, run7, hS7, hp7⟩ := hS9.put HDAT0.out rfl (by have := HL5.out; have := HK.out; have := HL.out; omega) lw9.mine.below.size
                    have lw7 := lw9.sstep hS9 hp7
                    have hL7 := hL9.sstep hS9 hp7 HSB.out
                    rw [← h1] at hS7
                    obtain ⟨p7, n7, c7, rfl, hn7⟩ := hS7.form
                    subst hn7
                    have HDAT7 : Hid (BytesAt w7 (.slice pd c.data.length cd) c.data) := HDAT0.out.later lw7.mine.below
                    have hC0 : Cmp2 w w8.heap.size w7 W9 R S v9 d9 L9 e9 st9 (.slice pf L9.length cf) (.slice p7 L9.length c7) := ⟨hL7, hS7, lw7⟩
                    have HE9 : Hid (e9 = e + secs c.data.length) := h2
                    clear hL9 hS9 lw9 lw7 hS7 hL7 h1 h2 hp7
                    go_wp2_with (first | (at_builtin; refine Lib.wpList_append_run _ rfl _ _ _ _ rfl _ _ rfl rfl _ _ run7 ?_) | (go_at_call 14; refine stop ?_))
                    refine (size_any _ c.data w7 HDAT7.out (by have := HB6.out; omega)).mono ?_
                    rintro en wq ⟨rfl, hwq⟩
                    obtain rfl := hwq.symm
                    clear hwq run7 HDAT7
                    obtain rfl := HE9.out.symm
                    go_wp2
                    go_loopw [158] (fun i wr => Cmp2 w w8.heap.size wr W9 R S v9 d9 L9 (e + secs c.data.length) st9 (.slice pf L9.length cf) (.slice p7 L9.length c7) ∧ ∃ q : Nat, q ≤ L9.length ∧ i = .int .i64 q) (fun i _ => L9.length - (intOf i).toNat)
                    case atStart => exact ⟨hC0, 0, Nat.zero_le _, rfl⟩
                    case round =>
                      obtain ⟨hC7, q, hq, rfl⟩ := hrel
                      clear hC0
                      have q0 : (0 : Int) ≤ (q : Int) := by omega
                      by_cases hql : q < L9.length
                      · have qi : (q : Int) < (L9.length : Int) := by omega
                        obtain ⟨gb, cap2, y, hpy, hcu, hbu0⟩ := hC7.sure.at (i := q) (by skip; exact hql)
                        cases hpy
                        obtain ⟨g, cap, x, hpf, hcx, hbx⟩ := hC7.log.at (i := q) (by skip; exact hql)
                        cases hpf
                        have hbu := hbu0.later hC7.lw.mine.below
                        have HQ : Hid (q < L9.length) := hql
                        have HR := hC7.later (Below.refl _ wr).drew
                        clear hbu0 hql
                        generalize (L9).getD q [] = l at *
                        obtain ⟨_, _, px, cx, rfl, _⟩ := id hbx
                        obtain ⟨_, _, py, cy, rfl, _⟩ := id hbu
                        clear hC7
                        go_wp2_with fail
                        refine wp_region_D (fun _ => true) (fun w' : World => (w'.cell? ⟨g, q, none⟩ = some (.slice px l.length cx) ∧ w'.cell? ⟨gb, q, none⟩ = some (.slice py l.length cy)) ∧ BytesAt w' (.slice px l.length cx) l ∧ BytesAt w' (.slice py l.length cy) l) (by kernel_rfl) ?_
                        have hS : (fun w' : World => (w'.cell? ⟨g, q, none⟩ = some (.slice px l.length cx) ∧ w'.cell? ⟨gb, q, none⟩ = some (.slice py l.length cy)) ∧ BytesAt w' (.slice px l.length cx) l ∧ BytesAt w' (.slice py l.length cy) l) wr.drew := ⟨⟨hcx, hcu⟩, hbx.later (Below.refl _ wr).drew, hbu.later (Below.refl _ wr).drew⟩
                        clear hcx hcu hbx hbu
                        refine' wpAnyD_take (i := 0) (v := _) rfl (by kernel_rfl) (by kernel_rfl) (by kernel_rfl) (by kernel_rfl) (fun _ _ _ h => h) (Or.inl ⟨by rfl, ?hy19⟩) hS ?re19
                        case hy19 => (intro w hSw; (try dsimp only at hSw); go_simp; (try with_reducible rfl))
                        simp only [Act.put, List.setIfInBounds_toArray, List.set_cons_zero, List.set_cons_succ]
                        refine' wpAnyD_take (i := 1) (v := _) rfl (by kernel_rfl) (by kernel_rfl) (by kernel_rfl) (by kernel_rfl) (fun _ _ _ h => h) (Or.inl ⟨by rfl, ?hy20⟩) hS ?re20
                        case hy20 => (intro w hSw; (try dsimp only at hSw); go_simp; (try with_reducible rfl))
                        simp only [Act.put, List.setIfInBounds_toArray, List.set_cons_zero, List.set_cons_succ]
                        refine' wpAnyD_take (i := 2) (v := _) rfl (by kernel_rfl) (by kernel_rfl) (by kernel_rfl) (by kernel_rfl) (fun _ _ _ h => h) (Or.inl ⟨by rfl, ?hy21⟩) hS ?re21
                        case hy21 => (intro w hSw; (try dsimp only at hSw); go_simp; (try with_reducible rfl))
                        simp only [Act.put, List.setIfInBounds_toArray, List.set_cons_zero, List.set_cons_succ]
                        refine' wpAnyD_take (i := 3) (v := _) rfl (by kernel_rfl) (by kernel_rfl) (by kernel_rfl) (by kernel_rfl) (fun _ _ _ h => h) (Or.inl ⟨by rfl, ?hy22⟩) hS ?re22
                        case hy22 => (intro w hSw; (try dsimp only at hSw); go_simp; (try with_reducible rfl))
                        simp only [Act.put, List.setIfInBounds_toArray, List.set_cons_zero, List.set_cons_succ]
                        refine wpAnyD_take (i := 4) rfl (by kernel_rfl) (by kernel_rfl) (by kernel_rfl) (by kernel_rfl) (fun _ _ _ h => h) (yields_conv (by rfl) _ rfl (.slice px l.length cx) rfl l (fun _ h => h.2.1)) hS ?_
                        simp only [Act.put, List.setIfInBounds_toArray, List.set_cons_zero, List.set_cons_succ]
                        refine' wpAnyD_take (i := 5) (v := _) rfl (by kernel_rfl) (by kernel_rfl) (by kernel_rfl) (by kernel_rfl) (fun _ _ _ h => h) (Or.inl ⟨by rfl, ?hy23⟩) hS ?re23
                        case hy23 => (intro w hSw; (try dsimp only at hSw); go_simp; (try with_reducible rfl))
                        simp only [Act.put, List.setIfInBounds_toArray, List.set_cons_zero, List.set_cons_succ]
                        refine' wpAnyD_take (i := 6) (v := _) rfl (by kernel_rfl) (by kernel_rfl) (by kernel_rfl) (by kernel_rfl) (fun _ _ _ h => h) (Or.inl ⟨by rfl, ?hy24⟩) hS ?re24
                        case hy24 => (intro w hSw; (try dsimp only at hSw); go_simp; (try with_reducible rfl))
                        simp only [Act.put, List.setIfInBounds_toArray, List.set_cons_zero, List.set_cons_succ]
                        refine' wpAnyD_take (i := 7) (v := _) rfl (by kernel_rfl) (by kernel_rfl) (by kernel_rfl) (by kernel_rfl) (fun _ _ _ h => h) (Or.inl ⟨by rfl, ?hy25⟩) hS ?re25
                        case hy25 => (intro w hSw; (try dsimp only at hSw); go_simp; (try with_reducible rfl))
                        simp only [Act.put, List.setIfInBounds_toArray, List.set_cons_zero, List.set_cons_succ]
                        refine' wpAnyD_take (i := 8) (v := _) rfl (by kernel_rfl) (by kernel_rfl) (by kernel_rfl) (by kernel_rfl) (fun _ _ _ h => h) (Or.inl ⟨by rfl, ?hy26⟩) hS ?re26
                        case hy26 => (intro w hSw; (try dsimp only at hSw); go_simp; (try with_reducible rfl))
                        simp only [Act.put, List.setIfInBounds_toArray, List.set_cons_zero, List.set_cons_succ]
                        refine wpAnyD_take (i := 9) rfl (by kernel_rfl) (by kernel_rfl) (by kernel_rfl) (by kernel_rfl) (fun _ _ _ h => h) (yields_conv (by rfl) _ rfl (.slice py l.length cy) rfl l (fun _ h => h.2.2)) hS ?_
                        simp only [Act.put, List.setIfInBounds_toArray, List.set_cons_zero, List.set_cons_succ]
                        refine' wpAnyD_take (i := 10) (v := _) rfl (by kernel_rfl) (by kernel_rfl) (by kernel_rfl) (by kernel_rfl) (fun _ _ _ h => h) (Or.inl ⟨by rfl, ?hy27⟩) hS ?re27
                        case hy27 => (intro w hSw; (try dsimp only at hSw); go_simp; (try with_reducible rfl))
                        simp only [Act.put, List.setIfInBounds_toArray, List.set_cons_zero, List.set_cons_succ]
                        refine wpAnyD_done (by kernel_rfl) ?_ _
                        clear hS
                        go_wp2
                        go_roundw
                        case rel => exact ⟨HR, q + 1, HQ.out, by go_num⟩
                        case measure => simp [intOf]; have := HQ.out; omega
                      · obtain rfl : q = L9.length := by omega
                        have hrow := hC7.lw.row
                        have HRN : Hid (RunN w wr W9 R S (a + 1) (k + 1) (.slice p7 L9.length c7) L9 (e + secs c.data.length)) := ⟨⟨v9, d9, st9, hC7.lw, HN9.out, HC9.out⟩, hC7.sure, HLN.out⟩
                        clear hC7 hql
                        go_wp2_with (go_at_call 17; refine stop ?_)
                        refine (walLen_any wr W9 R _ _ st9 hrow).mono ?_
                        rintro en wq ⟨rfl, hwq⟩
                        obtain rfl := hwq.symm
                        clear hwq
                        go_wp2_with (go_at_call 18; refine stop ?_)
                        refine (walEnd_any wr W9 R _ _ st9 hrow).mono ?_
                        rintro en wq ⟨rfl, hwq⟩
                        obtain rfl := hwq.symm
                        clear hwq
                        go_wp2
                        go_roundw
                        case rel => exact ⟨k + 1, W9, _, _, _, HK.out, by go_num, rfl, rfl, rfl, by go_num, HRN.out⟩
                        case measure => simp [intOf]; have := HK.out; omega
              · have z3 : (a : Int) + 1 < (e : Int) + (secs c.data.length : Int) := by omega
                go_wp2_with (go_at_call 13; refine stop ?_)
                refine (append_full w4 W R S v5 _ d5 _ _ st5 c.data lw4.mine.dk lw4.row (by rw [HN5.out]; exact HE.out) HDAT.out (by have := HB6.out; omega) (by rw [HN5.out]; exact Nat.lt_of_not_le room)).mono ?_
                rintro en w6 ⟨rfl, hb6⟩
                have lw6 := lw4.later hb6
                have hS6 := hS4.later hb6
                have p2 := HC2.out w6 (rg.later hb6)
                have HDAT6 : Hid (BytesAt w6 (.slice pd c.data.length cd) c.data) := HDAT.out.later hb6
                clear room lw4 hS4 rg hb6 q0 q1 q2 q3 q4 q5 hB4 HDAT
                go_wp2_with (go_at_call 14; refine stop ?_)
                refine (size_any _ c.data w6 HDAT6.out (by have := HB6.out; omega)).mono ?_
                rintro en wq ⟨rfl, hwq⟩
                obtain rfl := hwq.symm
                clear hwq
                have hrow := lw6.row
                have HRN : Hid (RunN w w6 W R S (a + 1) (k + 1) (.slice ps L.length cs) L e) := ⟨⟨v5, d5, st5, lw6, HN5.out, Nat.le_trans HC5.out (by omega)⟩, hS6, Nat.le_succ_of_le HL5.out⟩
                clear lw6 hS6 p2
                go_wp2_with (go_at_call 17; refine stop ?_)
                refine (walLen_any w6 W R _ _ st5 hrow).mono ?_
                rintro en wq ⟨rfl, hwq⟩
                obtain rfl := hwq.symm
                clear hwq
                go_wp2_with (go_at_call 18; refine stop ?_)
                refine (walEnd_any w6 W R _ _ st5 hrow).mono ?_
                rintro en wq ⟨rfl, hwq⟩
                obtain rfl := hwq.symm
                clear hwq
                go_wp2
                go_roundw
                case rel => exact ⟨k + 1, W, _, _, _, HK.out, by go_num, rfl, rfl, rfl, by go_num, HRN.out⟩
                case measure => simp [intOf]; have := HK.out; omega
          · skip
            as_aux_lemma =>
              have hs11 : secs c.data.length ≤ 11 := by have := HB6.out; unfold secs; omega
              have hs1 := secs_pos c.data.length
              have z0 : (1 : Int) ≤ (secs c.data.length : Int) := by omega
              have z1 : (secs c.data.length : Int) ≤ 11 := by omega
              have HS11 : Hid (secs c.data.length ≤ 11) := hs11
              clear hs11 hs1
              by_cases room : e + secs c.data.length ≤ a + 1
              · have HRM : Hid (e + secs c.data.length ≤ a + 1) := room
                have z3 : ¬ ((a : Int) + 1 < (e : Int) + (secs c.data.length : Int)) := by omega
                clear room
                go_wp2_with (go_at_call 13; refine stop ?_)
                refine (append_c w w4 W R S v5 _ d5 L e st5 c.data lw4 HDAT.out (by have := HB6.out; omega) (by rw [HN5.out]; exact HRM.out) (by have := HC5.out; have := HK.out; have := HL.out; omega)).mono ?_
                rintro en w6 ⟨v6, d6, hA6, hM6, hn6, hc6, ha6, hcase⟩
                have rg6 : Row w6 gk c.cs 34 := (hA6.block gk rg.lt (rg.ne lw4.row (by decide)) (rg.ne lw4.mine.dk.row (by decide)) (rg.ne lw4.mine.dk.sure (by decide)) (ownN_ne lw4.mine.dk.own rg (by decide))).trans rg
                have hS6 := hS4.astep lw4.row lw4.mine.dk hA6
                have p2 := HC2.out w6 rg6
                have hdat6 := HDAT0.out.later hM6.below
                have HDAT6 : Hid (BytesAt w6 (.slice pd c.data.length cd) c.data) := hdat6
                clear hdat6
                rcases hcase with ⟨rfl, hdn, _, st6, lw6⟩ | ⟨rfl, hdn, hws6, k6, s6, hk6, hs0, hs1, hd6⟩
                · obtain ⟨LL, hLL⟩ : ∃ LL, LL = L ++ [c.data] := ⟨_, rfl⟩
                  rw [← hLL] at lw6
                  have HLN : Hid (LL.length ≤ k + 1) := by rw [hLL, List.length_append, List.length_singleton]; have := HL5.out; show _ ≤ _; omega
                  have HLL : Hid (LL = L ++ [c.data]) := hLL
                  have HN6 : Hid (d6.n = a + 1) := hn6.trans HN5.out
                  have HC6 : Hid (d6.cnt ≤ 100 * (k + 1)) := by show _ ≤ _; have := HC5.out; have := HS11.out; omega
                  clear hLL hn6 hc6 ha6 hM6 hA6 hdn q0 q1 q2 q3 q4 q5 lw4 hS4 rg hB4 HDAT
                  go_wp2_with (go_at_call 14; refine stop ?_)
                  refine (size_any _ c.data w6 HDAT6.out (by have := HB6.out; omega)).mono ?_
                  rintro en wq ⟨rfl, hwq⟩
                  obtain rfl := hwq.symm
                  clear hwq
                  go_wp2_with fail
                  refine wp_region_D (fun _ => true) (fun w' : World => w'.cell? ⟨gk, 2, none⟩ = some (.slice pd c.data.length cd)) (by kernel_rfl) ?_
                  have hS : (fun w' : World => w'.cell? ⟨gk, 2, none⟩ = some (.slice pd c.data.length cd)) w6.drew := p2
                  have lwd := lw6.later (Below.refl _ w6).drew
                  have hSd := hS6.later (Below.refl _ w6).drew
                  have rgd : Row w6.drew gk c.cs 34 := rg6.drew
                  clear lw6 hS6 rg6 p2 HDAT6
                  generalize w6.drew = wd at *
                  obtain ⟨u7, w7, run7, hS7, hp7⟩ := hSd.put HDAT0.out rfl (by have := HL5.out; have := HK.out; have := HL.out; omega) lwd.mine.below.size
                  refine' wpAnyD_take (i := 0) (v := _) rfl (by kernel_rfl) (by kernel_rfl) (by kernel_rfl) (by kernel_rfl) (fun _ _ _ h => h) (Or.inl ⟨by rfl, ?hy28⟩) hS ?re28
                  case hy28 => (intro w hSw; (try dsimp only at hSw); go_simp; (try with_reducible rfl))
                  simp only [Act.put, List.setIfInBounds_toArray, List.set_cons_zero, List.set_cons_succ]
                  refine' wpAnyD_take (i := 1) (v := _) rfl (by kernel_rfl) (by kernel_rfl) (by kernel_rfl) (by kernel_rfl) (fun _ _ _ h => h) (Or.inl ⟨by rfl, ?hy29⟩) hS ?re29
                  case hy29 => (intro w hSw; (try dsimp only at hSw); go_simp; (try with_reducible rfl))
                  simp only [Act.put, List.setIfInBounds_toArray, List.set_cons_zero, List.set_cons_succ]
                  refine' wpAnyD_take (i := 2) (v := _) rfl (by kernel_rfl) (by kernel_rfl) (by kernel_rfl) (by kernel_rfl) (fun _ _ _ h => h) (Or.inl ⟨by rfl, ?hy30⟩) hS ?re30
                  case hy30 => (intro w hSw; (try dsimp only at hSw); go_simp; (try with_reducible rfl))
                  simp only [Act.put, List.setIfInBounds_toArray, List.set_cons_zero, List.set_cons_succ]
                  refine' wpAnyD_take (i := 5) (v := _) rfl (by kernel_rfl) (by kernel_rfl) (by kernel_rfl) (by kernel_rfl) (fun _ _ _ h => h) (Or.inl ⟨by rfl, ?hy31⟩) hS ?re31
                  case hy31 => (intro w hSw; (try dsimp only at hSw); go_simp; (try with_reducible rfl))
                  simp only [Act.put, List.setIfInBounds_toArray, List.set_cons_zero, List.set_cons_succ]
                  refine' wpAnyD_take (i := 6) (v := _) rfl (by kernel_rfl) (by kernel_rfl) (by kernel_rfl) (by kernel_rfl) (fun _ _ _ h => h) (Or.inl ⟨by rfl, ?hy32⟩) hS ?re32
                  case hy32 => (intro w hSw; (try dsimp only at hSw); go_simp; (try with_reducible rfl))
                  simp only [Act.put, List.setIfInBounds_toArray, List.set_cons_zero, List.set_cons_succ]
                  refine' wpAnyD_take (i := 7) (v := _) rfl (by kernel_rfl) (by kernel_rfl) (by kernel_rfl) (by kernel_rfl) (fun _ _ _ h => h) (Or.inl ⟨by rfl, ?hy33⟩) hS ?re33
                  case hy33 => (intro w hSw; (try dsimp only at hSw); go_simp; (try with_reducible rfl))
                  simp only [Act.put, List.setIfInBounds_toArray, List.set_cons_zero, List.set_cons_succ]
                  refine wpAnyD_only (i := 3) rfl (by kernel_rfl) (by rfl) (fun K hK => ?_)
                  go_simp
                  try dsimp only
                  have hSn := (HC2.out _ (rgd.alloc _) : (fun w' : World => w'.cell? ⟨gk, 2, none⟩ = some (.slice pd c.data.length cd)) (wd.alloc (.cells #[.slice pd c.data.length cd] 31)))
                  refine hK.out _ _ (fun _ => hSn) ?_
                  clear hK K hS
                  have hS := hSn
                  clear hSn
                  try simp only [Act.put, List.setIfInBounds_toArray, List.set_cons_zero, List.set_cons_succ]
                  refine wpAnyD_only (i := 4) rfl (by kernel_rfl) (by rfl) (fun K hK => ?_)
                  refine Lib.wp_append_run _ _ _ _ _ rfl _ _ rfl rfl _ _ run7 ?_
                  have rg7 := rgd.sstep hSd (by decide) hp7
                  have lw7 := lwd.sstep hSd hp7
                  rw [← HLL.out] at hS7
                  obtain ⟨p7, n7, c7, rfl, hn7⟩ := hS7.form
                  subst hn7
                  try dsimp only
                  have hSn := (HC2.out _ rg7 : (fun w' : World => w'.cell? ⟨gk, 2, none⟩ = some (.slice pd c.data.length cd)) w7)
                  refine hK.out _ _ (fun _ => hSn) ?_
                  clear hK K hS
                  have hS := hSn
                  clear hSn
                  try simp only [Act.put, List.setIfInBounds_toArray, List.set_cons_zero, List.set_cons_succ]
                  have HDAT7 : Hid (BytesAt w7 (.slice pd c.data.length cd) c.data) := HDAT0.out.later lw7.mine.below
                  clear run7 hp7 hSd lwd rgd
                  refine wpAnyD_only (i := 8) rfl (by kernel_rfl) (by rfl) (fun K hK => ?_)
                  go_simp
                  refine (size_any _ c.data w7 HDAT7.out (by have := HB6.out; omega)).mono ?_
                  rintro en wq ⟨rfl, hwq⟩
                  obtain rfl := hwq.symm
                  clear hwq
                  try dsimp only
                  have hSn := hS
                  refine hK.out _ _ (fun _ => hSn) ?_
                  clear hK K hS
                  have hS := hSn
                  clear hSn
                  try simp only [Act.put, List.setIfInBounds_toArray, List.set_cons_zero, List.set_cons_succ]
                  have hwr : IntKind.i64.wrap ((e : Int) + (secs c.data.length : Int)) = (e : Int) + (secs c.data.length : Int) := by rw [IntKind.wrap_i64]; omega
                  refine' wpAnyD_take (i := 9) (v := _) rfl (by kernel_rfl) (by kernel_rfl) (by kernel_rfl) (by kernel_rfl) (fun _ _ _ h => h) (Or.inl ⟨by rfl, ?hy34⟩) hS ?re34
                  case hy34 => (intro w hSw; (try dsimp only at hSw); go_simp; (try with_reducible rfl))
                  simp only [Act.put, List.setIfInBounds_toArray, List.set_cons_zero, List.set_cons_succ]
                  refine' wpAnyD_take (i := 10) (v := _) rfl (by kernel_rfl) (by kernel_rfl) (by kernel_rfl) (by kernel_rfl) (fun _ _ _ h => h) (Or.inl ⟨by rfl, ?hy35⟩) hS ?re35
                  case hy35 => (intro w hSw; (try dsimp only at hSw); go_simp; (try with_reducible rfl))
                  simp only [Act.put, List.setIfInBounds_toArray, List.set_cons_zero, List.set_cons_succ]
                  refine' wpAnyD_take (i := 11) (v := _) rfl (by kernel_rfl) (by kernel_rfl) (by kernel_rfl) (by kernel_rfl) (fun _ _ _ h => h) (Or.inl ⟨by rfl, ?hy36⟩) hS ?re36
                  case hy36 => (intro w hSw; (try dsimp only at hSw); go_simp; (try with_reducible rfl))
                  simp only [Act.put, List.setIfInBounds_toArray, List.set_cons_zero, List.set_cons_succ]
                  clear hwr
                  refine wpAnyD_done (by kernel_rfl) ?_ _
                  clear hS
                  have hrow := lw7.row
                  have HRN : Hid (RunN w w7 W R S (a + 1) (k + 1) (.slice p7 LL.length c7) LL (e + secs c.data.length)) := ⟨⟨v6, d6, st6, lw7, HN6.out, HC6.out⟩, hS7, HLN.out⟩
                  clear lw7 hS7 rg7
                  go_wp2_with (go_at_call 17; refine stop ?_)
                  refine (walLen_any w7 W R _ _ st6 hrow).mono ?_
                  rintro en wq ⟨rfl, hwq⟩
                  obtain rfl := hwq.symm
                  clear hwq
                  go_wp2_with (go_at_call 18; refine stop ?_)
                  refine (walEnd_any w7 W R _ _ st6 hrow).mono ?_
                  rintro en wq ⟨rfl, hwq⟩
                  obtain rfl := hwq.symm
                  clear hwq
                  go_wp2
                  go_roundw
                  case rel => exact ⟨k + 1, W, _, _, _, HK.out, by go_num, rfl, rfl, rfl, by go_num, HRN.out⟩
                  case measure => simp [intOf]; have := HK.out; omega
                · have HMY : Hid (Mine w w6 R S v6 d6) := hM6
                  have HSY : Hid (SureAt w w6 (.slice ps L.length cs) L) := hS6
                  have HNY : Hid (d6.n = a + 1) := hn6.trans HN5.out
                  have HCY : Hid (d6.cnt ≤ 100 * k + 11) := by show _ ≤ _; have := HC5.out; have := HS11.out; omega
                  have HPY : Hid (CrashP d6 L e c.data true) := by
                    have h := CrashP.way lw4.lg lw4.mine.dk.ok.fl lw4.mine.dk.ok.n2 hs0 hs1 HW8.out (by have := HB6.out; omega) (by rw [HN5.out]; exact HRM.out) hk6
                    rw [← hd6] at h
                    exact h
                  have p3 : w6.cell? ⟨gk, 3, none⟩ = some (.int .u64 c.mask) := rg6.cell 3
                  have p4 : w6.cell? ⟨gk, 4, none⟩ = some (.int .i64 c.torn) := rg6.cell 4
                  have p5 : w6.cell? ⟨gk, 5, none⟩ = some (.int .i64 c.cut) := rg6.cell 5
                  clear hd6 hs0 hs1 hk6 hws6 hdn hM6 hS6 hn6 hc6 ha6 hA6 q0 q1 q2 q3 q4 q5 lw4 hS4 rg hB4 HDAT rg6
                  go_wp2_with (go_at_call 14; refine stop ?_)
                  refine (size_any _ c.data w6 HDAT6.out (by have := HB6.out; omega)).mono ?_
                  rintro en wq ⟨rfl, hwq⟩
                  obtain rfl := hwq.symm
                  clear hwq HDAT6
                  go_wp2_with (go_at_call 16; refine stop ?_)
                  refine (crash_any c.mask HMS.out c.torn c.cut w6 R S v6 d6 HMY.out.dk).mono ?_
                  rintro en w8 ⟨rfl, hD8, hs8⟩
                  have hM8 : Mine w w8 R S _ (crashed (kept c.mask c.torn c.cut) d6) := HMY.out.step hD8 hs8
                  have hS8 := HSY.out.dstep HMY.out.dk hs8
                  clear hD8 hs8
                  go_wp2_with (go_at_call 12; refine stop ?_)
                  refine (open_c w w8 R S _ _ hM8 rfl (by show 0 + (d6).n < 1000; rw [HNY.out]; have := HA.out; omega) (by show (d6).cnt + (d6).n < 1000000; rw [HNY.out]; have := HA.out; have := HCY.out; have := HK.out; have := HL.out; omega)).mono ?_
                  rintro en w9 ⟨W9, u9, v9, st9, L9, e9, d9, rfl, hrl, lw9, _, hL9, hs9, hn9, ha9, hc9⟩
                  have hS9 := hS8.dstep hM8.dk hs9
                  have HSB := (show Hid _ from hS8.lt)
                  have HN9 : Hid (d9.n = a + 1) := hn9.trans HNY.out
                  have HC9 : Hid (d9.cnt ≤ 100 * (k + 1)) := by
                    have h1 : d9.cnt ≤ (d6).cnt + (d6).n := hc9
                    rw [HNY.out] at h1
                    have := HCY.out
                    have := HA.out
                    show d9.cnt ≤ 100 * (k + 1)
                    omega
                  have hcs := HPY.out _ (fun i => kept_le _ _ _ i) L9 e9 hrl
                  clear hM8 hS8 hrl hs9 hn9 ha9 hc9 HMY HSY HPY HNY HCY
                  obtain ⟨pf, nf, cf, rfl, hnf⟩ := hL9.form
                  clear p2 p3 p4 p5
                  rcases hcs with ⟨h1, h2⟩ | ⟨_, h1, h2⟩
                  · obtain rfl := h1.symm
                    subst h2 hnf
                    have HLN : Hid (L.length ≤ k + 1) := Nat.le_succ_of_le HL5.out
                    have f1 : ¬ ((L.length : Int) + 1 < (L.length : Int)) := by omega
                    have hC0 : Cmp2 w w8.heap.size w9 W9 R S v9 d9 L e9 st9 (.slice pf L.length cf) (.slice ps L.length cs) := ⟨hL9, hS9, lw9⟩
                    clear hL9 hS9 lw9
                    go_wp2
                    go_loopw [158] (fun i wr => Cmp2 w w8.heap.size wr W9 R S v9 d9 L (e9) st9 (.slice pf L.length cf) (.slice ps L.length cs) ∧ ∃ q : Nat, q ≤ L.length ∧ i = .int .i64 q) (fun i _ => L.length - (intOf i).toNat)
                    case atStart => exact ⟨hC0, 0, Nat.zero_le _, rfl⟩
                    case round =>
                      obtain ⟨hC7, q, hq, rfl⟩ := hrel
                      clear hC0
                      have q0 : (0 : Int) ≤ (q : Int) := by omega
                      by_cases hql : q < L.length
                      · have qi : (q : Int) < (L.length : Int) := by omega
                        obtain ⟨gb, cap2, y, hpy, hcu, hbu0⟩ := hC7.sure.at (i := q) (by skip; exact hql)
                        cases hpy
                        obtain ⟨g, cap, x, hpf, hcx, hbx⟩ := hC7.log.at (i := q) (by skip; exact hql)
                        cases hpf
                        have hbu := hbu0.later hC7.lw.mine.below
                        have HQ : Hid (q < L.length) := hql
                        have HR := hC7.later (Below.refl _ wr).drew
                        clear hbu0 hql
                        generalize (L).getD q [] = l at *
                        obtain ⟨_, _, px, cx, rfl, _⟩ := id hbx
                        obtain ⟨_, _, py, cy, rfl, _⟩ := id hbu
                        clear hC7
                        go_wp2_with fail
                        refine wp_region_D (fun _ => true) (fun w' : World => (w'.cell? ⟨g, q, none⟩ = some (.slice px l.length cx) ∧ w'.cell? ⟨gb, q, none⟩ = some (.slice py l.length cy)) ∧ BytesAt w' (.slice px l.length cx) l ∧ BytesAt w' (.slice py l.length cy) l) (by kernel_rfl) ?_
                        have hS : (fun w' : World => (w'.cell? ⟨g, q, none⟩ = some (.slice px l.length cx) ∧ w'.cell? ⟨gb, q, none⟩ = some (.slice py l.length cy)) ∧ BytesAt w' (.slice px l.length cx) l ∧ BytesAt w' (.slice py l.length cy) l) wr.drew := ⟨⟨hcx, hcu⟩, hbx.later (Below.refl _ wr).drew, hbu.later (Below.refl _ wr).drew⟩
                        clear hcx hcu hbx hbu
                        refine' wpAnyD_take (i := 0) (v := _) rfl (by kernel_rfl) (by kernel_rfl) (by kernel_rfl) (by kernel_rfl) (fun _ _ _ h => h) (Or.inl ⟨by rfl, ?hy37⟩) hS ?re37
                        case hy37 => (intro w hSw; (try dsimp only at hSw); go_simp; (try with_reducible rfl))
                        simp only [Act.put, List.setIfInBounds_toArray, List.set_cons_zero, List.set_cons_succ]
                        refine' wpAnyD_take (i := 1) (v := _) rfl (by kernel_rfl) (by kernel_rfl) (by kernel_rfl) (by kernel_rfl) (fun _ _ _ h => h) (Or.inl ⟨by rfl, ?hy38⟩) hS ?re38
                        case hy38 => (intro w hSw; (try dsimp only at hSw); go_simp; (try with_reducible rfl))
                        simp only [Act.put, List.setIfInBounds_toArray, List.set_cons_zero, List.set_cons_succ]
                        refine' wpAnyD_take (i := 2) (v := _) rfl (by kernel_rfl) (by kernel_rfl) (by kernel_rfl) (by kernel_rfl) (fun _ _ _ h => h) (Or.inl ⟨by rfl, ?hy39⟩) hS ?re39
                        case hy39 => (intro w hSw; (try dsimp only at hSw); go_simp; (try with_reducible rfl))
                        simp only [Act.put, List.setIfInBounds_toArray, List.set_cons_zero, List.set_cons_succ]
                        refine' wpAnyD_take (i := 3) (v := _) rfl (by kernel_rfl) (by kernel_rfl) (by kernel_rfl) (by kernel_rfl) (fun _ _ _ h => h) (Or.inl ⟨by rfl, ?hy40⟩) hS ?re40
                        case hy40 => (intro w hSw; (try dsimp only at hSw); go_simp; (try with_reducible rfl))
                        simp only [Act.put, List.setIfInBounds_toArray, List.set_cons_zero, List.set_cons_succ]
                        refine wpAnyD_take (i := 4) rfl (by kernel_rfl) (by kernel_rfl) (by kernel_rfl) (by kernel_rfl) (fun _ _ _ h => h) (yields_conv (by rfl) _ rfl (.slice px l.length cx) rfl l (fun _ h => h.2.1)) hS ?_
                        simp only [Act.put, List.setIfInBounds_toArray, List.set_cons_zero, List.set_cons_succ]
                        refine' wpAnyD_take (i := 5) (v := _) rfl (by kernel_rfl) (by kernel_rfl) (by kernel_rfl) (by kernel_rfl) (fun _ _ _ h => h) (Or.inl ⟨by rfl, ?hy41⟩) hS ?re41
                        case hy41 => (intro w hSw; (try dsimp only at hSw); go_simp; (try with_reducible rfl))
                        simp only [Act.put, List.setIfInBounds_toArray, List.set_cons_zero, List.set_cons_succ]
                        refine' wpAnyD_take (i := 6) (v := _) rfl (by kernel_rfl) (by kernel_rfl) (by kernel_rfl) (by kernel_rfl) (fun _ _ _ h => h) (Or.inl ⟨by rfl, ?hy42⟩) hS ?re42
                        case hy42 => (intro w hSw; (try dsimp only at hSw); go_simp; (try with_reducible rfl))
                        simp only [Act.put, List.setIfInBounds_toArray, List.set_cons_zero, List.set_cons_succ]
                        refine' wpAnyD_take (i := 7) (v := _) rfl (by kernel_rfl) (by kernel_rfl) (by kernel_rfl) (by kernel_rfl) (fun _ _ _ h => h) (Or.inl ⟨by rfl, ?hy43⟩) hS ?re43
                        case hy43 => (intro w hSw; (try dsimp only at hSw); go_simp; (try with_reducible rfl))
                        simp only [Act.put, List.setIfInBounds_toArray, List.set_cons_zero, List.set_cons_succ]
                        refine' wpAnyD_take (i := 8) (v := _) rfl (by kernel_rfl) (by kernel_rfl) (by kernel_rfl) (by kernel_rfl) (fun _ _ _ h => h) (Or.inl ⟨by rfl, ?hy44⟩) hS ?re44
                        case hy44 => (intro w hSw; (try dsimp only at hSw); go_simp; (try with_reducible rfl))
                        simp only [Act.put, List.setIfInBounds_toArray, List.set_cons_zero, List.set_cons_succ]
                        refine wpAnyD_take (i := 9) rfl (by kernel_rfl) (by kernel_rfl) (by kernel_rfl) (by kernel_rfl) (fun _ _ _ h => h) (yields_conv (by rfl) _ rfl (.slice py l.length cy) rfl l (fun _ h => h.2.2)) hS ?_
                        simp only [Act.put, List.setIfInBounds_toArray, List.set_cons_zero, List.set_cons_succ]
                        refine' wpAnyD_take (i := 10) (v := _) rfl (by kernel_rfl) (by kernel_rfl) (by kernel_rfl) (by kernel_rfl) (fun _ _ _ h => h) (Or.inl ⟨by rfl, ?hy45⟩) hS ?re45
                        case hy45 => (intro w hSw; (try dsimp only at hSw); go_simp; (try with_reducible rfl))
                        simp only [Act.put, List.setIfInBounds_toArray, List.set_cons_zero, List.set_cons_succ]
                        refine wpAnyD_done (by kernel_rfl) ?_ _
                        clear hS
                        go_wp2
                        go_roundw
                        case rel => exact ⟨HR, q + 1, HQ.out, by go_num⟩
                        case measure => simp [intOf]; have := HQ.out; omega
                      · obtain rfl : q = L.length := by omega
                        have hrow := hC7.lw.row
                        have HRN : Hid (RunN w wr W9 R S (a + 1) (k + 1) (.slice ps L.length cs) L (e9)) := ⟨⟨v9, d9, st9, hC7.lw, HN9.out, HC9.out⟩, hC7.sure, HLN.out⟩
                        clear hC7 hql
                        go_wp2_with (go_at_call 17; refine stop ?_)
                        refine (walLen_any wr W9 R _ _ st9 hrow).mono ?_
                        rintro en wq ⟨rfl, hwq⟩
                        obtain rfl := hwq.symm
                        clear hwq
                        go_wp2_with (go_at_call 18; refine stop ?_)
                        refine (walEnd_any wr W9 R _ _ st9 hrow).mono ?_
                        rintro en wq ⟨rfl, hwq⟩
                        obtain rfl := hwq.symm
                        clear hwq
                        go_wp2
                        go_roundw
                        case rel => exact ⟨k + 1, W9, _, _, _, HK.out, by go_num, rfl, rfl, rfl, by go_num, HRN.out⟩
                        case measure => simp [intOf]; have := HK.out; omega
                  · have HL9 : Hid (L9.length = L.length + 1) := by rw [h1, List.length_append, List.length_singleton]; rfl
                    subst hnf
                    have HLN : Hid (L9.length ≤ k + 1) := by show _ ≤ _; have := HL9.out; have := HL5.out; omega
                    have f1 : ¬ ((L9.length : Int) < (L.length : Int)) := by have := HL9.out; omega
                    have f2 : ¬ ((L.length : Int) + 1 < (L9.length : Int)) := by have := HL9.out; omega
                    have f3 : (L.length : Int) < (L9.length : Int) := by have := HL9.out; omega
                    have f4 : L.length < L9.length := by have := HL9.out; omega
                    obtain ⟨u7, w7, run7, hS7, hp7⟩ := hS9.put HDAT0.out rfl (by have := HL5.out; have := HK.out; have := HL.out; omega) lw9.mine.below.size
                    have lw7 := lw9.sstep hS9 hp7
                    have hL7 := hL9.sstep hS9 hp7 HSB.out
                    rw [← h1] at hS7
                    obtain ⟨p7, n7, c7, rfl, hn7⟩ := hS7.form
                    subst hn7
                    have HDAT7 : Hid (BytesAt w7 (.slice pd c.data.length cd) c.data) := HDAT0.out.later lw7.mine.below
                    have hC0 : Cmp2 w w8.heap.size w7 W9 R S v9 d9 L9 e9 st9 (.slice pf L9.length cf) (.slice p7 L9.length c7) := ⟨hL7, hS7, lw7⟩
                    have HE9 : Hid (e9 = e + secs c.data.length) := h2
                    clear hL9 hS9 lw9 lw7 hS7 hL7 h1 h2 hp7
                    go_wp2_with (first | (at_builtin; refine Lib.wpList_append_run _ rfl _ _ _ _ rfl _ _ rfl rfl _ _ run7 ?_) | (go_at_call 14; refine stop ?_))
                    refine (size_any _ c.data w7 HDAT7.out (by have := HB6.out; omega)).mono ?_
                    rintro en wq ⟨rfl, hwq⟩
                    obtain rfl := hwq.symm
                    clear hwq run7 HDAT7
                    obtain rfl := HE9.out.symm
                    go_wp2
                    go_loopw [158] (fun i wr => Cmp2 w w8.heap.size wr W9 R S v9 d9 L9 (e + secs c.data.length) st9 (.slice pf L9.length cf) (.slice p7 L9.length c7) ∧ ∃ q : Nat, q ≤ L9.length ∧ i = .int .i64 q) (fun i _ => L9.length - (intOf i).toNat)
                    case atStart => exact ⟨hC0, 0, Nat.zero_le _, rfl⟩
                    case round =>
                      obtain ⟨hC7, q, hq, rfl⟩ := hrel
                      clear hC0
                      have q0 : (0 : Int) ≤ (q : Int) := by omega
                      by_cases hql : q < L9.length
                      · have qi : (q : Int) < (L9.length : Int) := by omega
                        obtain ⟨gb, cap2, y, hpy, hcu, hbu0⟩ := hC7.sure.at (i := q) (by skip; exact hql)
                        cases hpy
                        obtain ⟨g, cap, x, hpf, hcx, hbx⟩ := hC7.log.at (i := q) (by skip; exact hql)
                        cases hpf
                        have hbu := hbu0.later hC7.lw.mine.below
                        have HQ : Hid (q < L9.length) := hql
                        have HR := hC7.later (Below.refl _ wr).drew
                        clear hbu0 hql
                        generalize (L9).getD q [] = l at *
                        obtain ⟨_, _, px, cx, rfl, _⟩ := id hbx
                        obtain ⟨_, _, py, cy, rfl, _⟩ := id hbu
                        clear hC7
                        go_wp2_with fail
                        refine wp_region_D (fun _ => true) (fun w' : World => (w'.cell? ⟨g, q, none⟩ = some (.slice px l.length cx) ∧ w'.cell? ⟨gb, q, none⟩ = some (.slice py l.length cy)) ∧ BytesAt w' (.slice px l.length cx) l ∧ BytesAt w' (.slice py l.length cy) l) (by kernel_rfl) ?_
                        have hS : (fun w' : World => (w'.cell? ⟨g, q, none⟩ = some (.slice px l.length cx) ∧ w'.cell? ⟨gb, q, none⟩ = some (.slice py l.length cy)) ∧ BytesAt w' (.slice px l.length cx) l ∧ BytesAt w' (.slice py l.length cy) l) wr.drew := ⟨⟨hcx, hcu⟩, hbx.later (Below.refl _ wr).drew, hbu.later (Below.refl _ wr).drew⟩
                        clear hcx hcu hbx hbu
                        refine' wpAnyD_take (i := 0) (v := _) rfl (by kernel_rfl) (by kernel_rfl) (by kernel_rfl) (by kernel_rfl) (fun _ _ _ h => h) (Or.inl ⟨by rfl, ?hy46⟩) hS ?re46
                        case hy46 => (intro w hSw; (try dsimp only at hSw); go_simp; (try with_reducible rfl))
                        simp only [Act.put, List.setIfInBounds_toArray, List.set_cons_zero, List.set_cons_succ]
                        refine' wpAnyD_take (i := 1) (v := _) rfl (by kernel_rfl) (by kernel_rfl) (by kernel_rfl) (by kernel_rfl) (fun _ _ _ h => h) (Or.inl ⟨by rfl, ?hy47⟩) hS ?re47
                        case hy47 => (intro w hSw; (try dsimp only at hSw); go_simp; (try with_reducible rfl))
                        simp only [Act.put, List.setIfInBounds_toArray, List.set_cons_zero, List.set_cons_succ]
                        refine' wpAnyD_take (i := 2) (v := _) rfl (by kernel_rfl) (by kernel_rfl) (by kernel_rfl) (by kernel_rfl) (fun _ _ _ h => h) (Or.inl ⟨by rfl, ?hy48⟩) hS ?re48
                        case hy48 => (intro w hSw; (try dsimp only at hSw); go_simp; (try with_reducible rfl))
                        simp only [Act.put, List.setIfInBounds_toArray, List.set_cons_zero, List.set_cons_succ]
                        refine' wpAnyD_take (i := 3) (v := _) rfl (by kernel_rfl) (by kernel_rfl) (by kernel_rfl) (by kernel_rfl) (fun _ _ _ h => h) (Or.inl ⟨by rfl, ?hy49⟩) hS ?re49
                        case hy49 => (intro w hSw; (try dsimp only at hSw); go_simp; (try with_reducible rfl))
                        simp only [Act.put, List.setIfInBounds_toArray, List.set_cons_zero, List.set_cons_succ]
                        refine wpAnyD_take (i := 4) rfl (by kernel_rfl) (by kernel_rfl) (by kernel_rfl) (by kernel_rfl) (fun _ _ _ h => h) (yields_conv (by rfl) _ rfl (.slice px l.length cx) rfl l (fun _ h => h.2.1)) hS ?_
                        simp only [Act.put, List.setIfInBounds_toArray, List.set_cons_zero, List.set_cons_succ]
                        refine' wpAnyD_take (i := 5) (v := _) rfl (by kernel_rfl) (by kernel_rfl) (by kernel_rfl) (by kernel_rfl) (fun _ _ _ h => h) (Or.inl ⟨by rfl, ?hy50⟩) hS ?re50
                        case hy50 => (intro w hSw; (try dsimp only at hSw); go_simp; (try with_reducible rfl))
                        simp only [Act.put, List.setIfInBounds_toArray, List.set_cons_zero, List.set_cons_succ]
                        refine' wpAnyD_take (i := 6) (v := _) rfl (by kernel_rfl) (by kernel_rfl) (by kernel_rfl) (by kernel_rfl) (fun _ _ _ h => h) (Or.inl ⟨by rfl, ?hy51⟩) hS ?re51
                        case hy51 => (intro w hSw; (try dsimp only at hSw); go_simp; (try with_reducible rfl))
                        simp only [Act.put, List.setIfInBounds_toArray, List.set_cons_zero, List.set_cons_succ]
                        refine' wpAnyD_take (i := 7) (v := _) rfl (by kernel_rfl) (by kernel_rfl) (by kernel_rfl) (by kernel_rfl) (fun _ _ _ h => h) (Or.inl ⟨by rfl, ?hy52⟩) hS ?re52
                        case hy52 => (intro w hSw; (try dsimp only at hSw); go_simp; (try with_reducible rfl))
                        simp only [Act.put, List.setIfInBounds_toArray, List.set_cons_zero, List.set_cons_succ]
                        refine' wpAnyD_take (i := 8) (v := _) rfl (by kernel_rfl) (by kernel_rfl) (by kernel_rfl) (by kernel_rfl) (fun _ _ _ h => h) (Or.inl ⟨by rfl, ?hy53⟩) hS ?re53
                        case hy53 => (intro w hSw; (try dsimp only at hSw); go_simp; (try with_reducible rfl))
                        simp only [Act.put, List.setIfInBounds_toArray, List.set_cons_zero, List.set_cons_succ]
                        refine wpAnyD_take (i := 9) rfl (by kernel_rfl) (by kernel_rfl) (by kernel_rfl) (by kernel_rfl) (fun _ _ _ h => h) (yields_conv (by rfl) _ rfl (.slice py l.length cy) rfl l (fun _ h => h.2.2)) hS ?_
                        simp only [Act.put, List.setIfInBounds_toArray, List.set_cons_zero, List.set_cons_succ]
                        refine' wpAnyD_take (i := 10) (v := _) rfl (by kernel_rfl) (by kernel_rfl) (by kernel_rfl) (by kernel_rfl) (fun _ _ _ h => h) (Or.inl ⟨by rfl, ?hy54⟩) hS ?re54
                        case hy54 => (intro w hSw; (try dsimp only at hSw); go_simp; (try with_reducible rfl))
                        simp only [Act.put, List.setIfInBounds_toArray, List.set_cons_zero, List.set_cons_succ]
                        refine wpAnyD_done (by kernel_rfl) ?_ _
                        clear hS
                        go_wp2
                        go_roundw
                        case rel => exact ⟨HR, q + 1, HQ.out, by go_num⟩
                        case measure => simp [intOf]; have := HQ.out; omega
                      · obtain rfl : q = L9.length := by omega
                        have hrow := hC7.lw.row
                        have HRN : Hid (RunN w wr W9 R S (a + 1) (k + 1) (.slice p7 L9.length c7) L9 (e + secs c.data.length)) := ⟨⟨v9, d9, st9, hC7.lw, HN9.out, HC9.out⟩, hC7.sure, HLN.out⟩
                        clear hC7 hql
                        go_wp2_with (go_at_call 17; refine stop ?_)
                        refine (walLen_any wr W9 R _ _ st9 hrow).mono ?_
                        rintro en wq ⟨rfl, hwq⟩
                        obtain rfl := hwq.symm
                        clear hwq
                        go_wp2_with (go_at_call 18; refine stop ?_)
                        refine (walEnd_any wr W9 R _ _ st9 hrow).mono ?_
                        rintro en wq ⟨rfl, hwq⟩
                        obtain rfl := hwq.symm
                        clear hwq
                        go_wp2
                        go_roundw
                        case rel => exact ⟨k + 1, W9, _, _, _, HK.out, by go_num, rfl, rfl, rfl, by go_num, HRN.out⟩
                        case measure => simp [intOf]; have := HK.out; omega
              · have z3 : (a : Int) + 1 < (e : Int) + (secs c.data.length : Int) := by omega
                go_wp2_with (go_at_call 13; refine stop ?_)
                refine (append_full w4 W R S v5 _ d5 _ _ st5 c.data lw4.mine.dk lw4.row (by rw [HN5.out]; exact HE.out) HDAT.out (by have := HB6.out; omega) (by rw [HN5.out]; exact Nat.lt_of_not_le room)).mono ?_
                rintro en w6 ⟨rfl, hb6⟩
                have lw6 := lw4.later hb6
                have hS6 := hS4.later hb6
                have p2 := HC2.out w6 (rg.later hb6)
                have HDAT6 : Hid (BytesAt w6 (.slice pd c.data.length cd) c.data) := HDAT.out.later hb6
                clear room lw4 hS4 rg hb6 q0 q1 q2 q3 q4 q5 hB4 HDAT
                go_wp2_with (go_at_call 14; refine stop ?_)
                refine (size_any _ c.data w6 HDAT6.out (by have := HB6.out; omega)).mono ?_
                rintro en wq ⟨rfl, hwq⟩
                obtain rfl := hwq.symm
                clear hwq
                have hrow := lw6.row
                have HRN : Hid (RunN w w6 W R S (a + 1) (k + 1) (.slice ps L.length cs) L e) := ⟨⟨v5, d5, st5, lw6, HN5.out, Nat.le_trans HC5.out (by omega)⟩, hS6, Nat.le_succ_of_le HL5.out⟩
                clear lw6 hS6 p2
                go_wp2_with (go_at_call 17; refine stop ?_)
                refine (walLen_any w6 W R _ _ st5 hrow).mono ?_
                rintro en wq ⟨rfl, hwq⟩
                obtain rfl := hwq.symm
                clear hwq
                go_wp2_with (go_at_call 18; refine stop ?_)
                refine (walEnd_any w6 W R _ _ st5 hrow).mono ?_
                rintro en wq ⟨rfl, hwq⟩
                obtain rfl := hwq.symm
                clear hwq
                go_wp2
                go_roundw
                case rel => exact ⟨k + 1, W, _, _, _, HK.out, by go_num, rfl, rfl, rfl, by go_num, HRN.out⟩
                case measure => simp [intOf]; have := HK.out; omega
          · skip
            as_aux_lemma =>
              obtain ⟨j, hj, ej⟩ := and15 c.at0
              have j0 : (0 : Int) ≤ (j : Int) := by omega
              have j1 : (j : Int) ≤ 15 := by omega
              go_wp2_with (go_at_call 15; refine stop ?_)
              refine (arm_any (j : Int) (by omega) w4 R S v5 d5 lw4.mine.dk).mono ?_
              rintro en w6 ⟨rfl, hD6, hs6⟩
              have lw6 : LogW w w6 W R S v5 _ L e st5 := ⟨lw4.mine.step hD6 hs6, (hs6.block W lw4.row.lt (lw4.row.ne lw4.mine.dk.row (by decide)) (lw4.row.ne lw4.mine.dk.sure (by decide)) (ownN_ne lw4.mine.dk.own lw4.row (by decide))).trans lw4.row, lw4.hW, lw4.st, lw4.lg.arm true _⟩
              have hS6 := hS4.dstep lw4.mine.dk hs6
              have hrow := lw6.row
              have HRN : Hid (RunN w w6 W R S (a + 1) (k + 1) (.slice ps L.length cs) L e) := ⟨⟨v5, _, st5, lw6, HN5.out, Nat.le_trans HC5.out (by omega)⟩, hS6, Nat.le_succ_of_le HL5.out⟩
              clear lw6 hS6 hD6 hs6 lw4 hS4 rg q1 q2 q3 q4 q5 hB4
              go_wp2_with (go_at_call 17; refine stop ?_)
              refine (walLen_any w6 W R _ _ st5 hrow).mono ?_
              rintro en wq ⟨rfl, hwq⟩
              obtain rfl := hwq.symm
              clear hwq
              go_wp2_with (go_at_call 18; refine stop ?_)
              refine (walEnd_any w6 W R _ _ st5 hrow).mono ?_
              rintro en wq ⟨rfl, hwq⟩
              obtain rfl := hwq.symm
              clear hwq
              go_wp2
              go_roundw
              case rel => exact ⟨k + 1, W, _, _, _, HK.out, by go_num, rfl, rfl, rfl, by go_num, HRN.out⟩
              case measure => simp [intOf]; have := HK.out; omega
          · skip
            as_aux_lemma =>
              have HMY : Hid (Mine w w4 R S v5 d5) := lw4.mine
              have HSY : Hid (SureAt w w4 (.slice ps L.length cs) L) := hS4
              have HNY : Hid (d5.n = a + 1) := HN5.out
              have HCY : Hid (d5.cnt ≤ 100 * k + 11) := by show _ ≤ _; have := HC5.out; omega
              have HPY : Hid (CrashP d5 L e c.data false) := CrashP.calm lw4.lg _
              clear lw4 hS4 rg hB4
              go_wp2_with (go_at_call 16; refine stop ?_)
              refine (crash_any c.mask HMS.out c.torn c.cut w4 R S v5 d5 HMY.out.dk).mono ?_
              rintro en w8 ⟨rfl, hD8, hs8⟩
              have hM8 : Mine w w8 R S _ (crashed (kept c.mask c.torn c.cut) d5) := HMY.out.step hD8 hs8
              have hS8 := HSY.out.dstep HMY.out.dk hs8
              clear hD8 hs8
              go_wp2_with (go_at_call 12; refine stop ?_)
              refine (open_c w w8 R S _ _ hM8 rfl (by show 0 + (d5).n < 1000; rw [HNY.out]; have := HA.out; omega) (by show (d5).cnt + (d5).n < 1000000; rw [HNY.out]; have := HA.out; have := HCY.out; have := HK.out; have := HL.out; omega)).mono ?_
              rintro en w9 ⟨W9, u9, v9, st9, L9, e9, d9, rfl, hrl, lw9, _, hL9, hs9, hn9, ha9, hc9⟩
              have hS9 := hS8.dstep hM8.dk hs9
              have HSB := (show Hid _ from hS8.lt)
              have HN9 : Hid (d9.n = a + 1) := hn9.trans HNY.out
              have HC9 : Hid (d9.cnt ≤ 100 * (k + 1)) := by
                have h1 : d9.cnt ≤ (d5).cnt + (d5).n := hc9
                rw [HNY.out] at h1
                have := HCY.out
                have := HA.out
                show d9.cnt ≤ 100 * (k + 1)
                omega
              have hcs := HPY.out _ (fun i => kept_le _ _ _ i) L9 e9 hrl
              clear hM8 hS8 hrl hs9 hn9 ha9 hc9 HMY HSY HPY HNY HCY
              obtain ⟨pf, nf, cf, rfl, hnf⟩ := hL9.form
              clear q1 q2 q3 q4 q5
              rcases hcs with ⟨h1, h2⟩ | ⟨h0, _, _⟩
              · obtain rfl := h1.symm
                subst h2 hnf
                have HLN : Hid (L.length ≤ k + 1) := Nat.le_succ_of_le HL5.out
                have f1 : ¬ ((L.length : Int) + 1 < (L.length : Int)) := by omega
                have hC0 : Cmp2 w w8.heap.size w9 W9 R S v9 d9 L e9 st9 (.slice pf L.length cf) (.slice ps L.length cs) := ⟨hL9, hS9, lw9⟩
                clear hL9 hS9 lw9
                go_wp2
                go_loopw [158] (fun i wr => Cmp2 w w8.heap.size wr W9 R S v9 d9 L (e9) st9 (.slice pf L.length cf) (.slice ps L.length cs) ∧ ∃ q : Nat, q ≤ L.length ∧ i = .int .i64 q) (fun i _ => L.length - (intOf i).toNat)
                case atStart => exact ⟨hC0, 0, Nat.zero_le _, rfl⟩
                case round =>
                  obtain ⟨hC7, q, hq, rfl⟩ := hrel
                  clear hC0
                  have q0 : (0 : Int) ≤ (q : Int) := by omega
                  by_cases hql : q < L.length
                  · have qi : (q : Int) < (L.length : Int) := by omega
                    obtain ⟨gb, cap2, y, hpy, hcu, hbu0⟩ := hC7.sure.at (i := q) (by skip; exact hql)
                    cases hpy
                    obtain ⟨g, cap, x, hpf, hcx, hbx⟩ := hC7.log.at (i := q) (by skip; exact hql)
                    cases hpf
                    have hbu := hbu0.later hC7.lw.mine.below
                    have HQ : Hid (q < L.length) := hql
                    have HR := hC7.later (Below.refl _ wr).drew
                    clear hbu0 hql
                    generalize (L).getD q [] = l at *
                    obtain ⟨_, _, px, cx, rfl, _⟩ := id hbx
                    obtain ⟨_, _, py, cy, rfl, _⟩ := id hbu
                    clear hC7
                    go_wp2_with fail
                    refine wp_region_D (fun _ => true) (fun w' : World => (w'.cell? ⟨g, q, none⟩ = some (.slice px l.length cx) ∧ w'.cell? ⟨gb, q, none⟩ = some (.slice py l.length cy)) ∧ BytesAt w' (.slice px l.length cx) l ∧ BytesAt w' (.slice py l.length cy) l) (by kernel_rfl) ?_
                    have hS : (fun w' : World => (w'.cell? ⟨g, q, none⟩ = some (.slice px l.length cx) ∧ w'.cell? ⟨gb, q, none⟩ = some (.slice py l.length cy)) ∧ BytesAt w' (.slice px l.length cx) l ∧ BytesAt w' (.slice py l.length cy) l) wr.drew := ⟨⟨hcx, hcu⟩, hbx.later (Below.refl _ wr).drew, hbu.later (Below.refl _ wr).drew⟩
                    clear hcx hcu hbx hbu
                    refine' wpAnyD_take (i := 0) (v := _) rfl (by kernel_rfl) (by kernel_rfl) (by kernel_rfl) (by kernel_rfl) (fun _ _ _ h => h) (Or.inl ⟨by rfl, ?hy55⟩) hS ?re55
                    case hy55 => (intro w hSw; (try dsimp only at hSw); go_simp; (try with_reducible rfl))
                    simp only [Act.put, List.setIfInBounds_toArray, List.set_cons_zero, List.set_cons_succ]
                    refine' wpAnyD_take (i := 1) (v := _) rfl (by kernel_rfl) (by kernel_rfl) (by kernel_rfl) (by kernel_rfl) (fun _ _ _ h => h) (Or.inl ⟨by rfl, ?hy56⟩) hS ?re56
                    case hy56 => (intro w hSw; (try dsimp only at hSw); go_simp; (try with_reducible rfl))
                    simp only [Act.put, List.setIfInBounds_toArray, List.set_cons_zero, List.set_cons_succ]
                    refine' wpAnyD_take (i := 2) (v := _) rfl (by kernel_rfl) (by kernel_rfl) (by kernel_rfl) (by kernel_rfl) (fun _ _ _ h => h) (Or.inl ⟨by rfl, ?hy57⟩) hS ?re57
                    case hy57 => (intro w hSw; (try dsimp only at hSw); go_simp; (try with_reducible rfl))
                    simp only [Act.put, List.setIfInBounds_toArray, List.set_cons_zero, List.set_cons_succ]
                    refine' wpAnyD_take (i := 3) (v := _) rfl (by kernel_rfl) (by kernel_rfl) (by kernel_rfl) (by kernel_rfl) (fun _ _ _ h => h) (Or.inl ⟨by rfl, ?hy58⟩) hS ?re58
                    case hy58 => (intro w hSw; (try dsimp only at hSw); go_simp; (try with_reducible rfl))
                    simp only [Act.put, List.setIfInBounds_toArray, List.set_cons_zero, List.set_cons_succ]
                    refine wpAnyD_take (i := 4) rfl (by kernel_rfl) (by kernel_rfl) (by kernel_rfl) (by kernel_rfl) (fun _ _ _ h => h) (yields_conv (by rfl) _ rfl (.slice px l.length cx) rfl l (fun _ h => h.2.1)) hS ?_
                    simp only [Act.put, List.setIfInBounds_toArray, List.set_cons_zero, List.set_cons_succ]
                    refine' wpAnyD_take (i := 5) (v := _) rfl (by kernel_rfl) (by kernel_rfl) (by kernel_rfl) (by kernel_rfl) (fun _ _ _ h => h) (Or.inl ⟨by rfl, ?hy59⟩) hS ?re59
                    case hy59 => (intro w hSw; (try dsimp only at hSw); go_simp; (try with_reducible rfl))
                    simp only [Act.put, List.setIfInBounds_toArray, List.set_cons_zero, List.set_cons_succ]
                    refine' wpAnyD_take (i := 6) (v := _) rfl (by kernel_rfl) (by kernel_rfl) (by kernel_rfl) (by kernel_rfl) (fun _ _ _ h => h) (Or.inl ⟨by rfl, ?hy60⟩) hS ?re60
                    case hy60 => (intro w hSw; (try dsimp only at hSw); go_simp; (try with_reducible rfl))
                    simp only [Act.put, List.setIfInBounds_toArray, List.set_cons_zero, List.set_cons_succ]
                    refine' wpAnyD_take (i := 7) (v := _) rfl (by kernel_rfl) (by kernel_rfl) (by kernel_rfl) (by kernel_rfl) (fun _ _ _ h => h) (Or.inl ⟨by rfl, ?hy61⟩) hS ?re61
                    case hy61 => (intro w hSw; (try dsimp only at hSw); go_simp; (try with_reducible rfl))
                    simp only [Act.put, List.setIfInBounds_toArray, List.set_cons_zero, List.set_cons_succ]
                    refine' wpAnyD_take (i := 8) (v := _) rfl (by kernel_rfl) (by kernel_rfl) (by kernel_rfl) (by kernel_rfl) (fun _ _ _ h => h) (Or.inl ⟨by rfl, ?hy62⟩) hS ?re62
                    case hy62 => (intro w hSw; (try dsimp only at hSw); go_simp; (try with_reducible rfl))
                    simp only [Act.put, List.setIfInBounds_toArray, List.set_cons_zero, List.set_cons_succ]
                    refine wpAnyD_take (i := 9) rfl (by kernel_rfl) (by kernel_rfl) (by kernel_rfl) (by kernel_rfl) (fun _ _ _ h => h) (yields_conv (by rfl) _ rfl (.slice py l.length cy) rfl l (fun _ h => h.2.2)) hS ?_
                    simp only [Act.put, List.setIfInBounds_toArray, List.set_cons_zero, List.set_cons_succ]
                    refine' wpAnyD_take (i := 10) (v := _) rfl (by kernel_rfl) (by kernel_rfl) (by kernel_rfl) (by kernel_rfl) (fun _ _ _ h => h) (Or.inl ⟨by rfl, ?hy63⟩) hS ?re63
                    case hy63 => (intro w hSw; (try dsimp only at hSw); go_simp; (try with_reducible rfl))
                    simp only [Act.put, List.setIfInBounds_toArray, List.set_cons_zero, List.set_cons_succ]
                    refine wpAnyD_done (by kernel_rfl) ?_ _
                    clear hS
                    go_wp2
                    go_roundw
                    case rel => exact ⟨HR, q + 1, HQ.out, by go_num⟩
                    case measure => simp [intOf]; have := HQ.out; omega
                  · obtain rfl : q = L.length := by omega
                    have hrow := hC7.lw.row
                    have HRN : Hid (RunN w wr W9 R S (a + 1) (k + 1) (.slice ps L.length cs) L (e9)) := ⟨⟨v9, d9, st9, hC7.lw, HN9.out, HC9.out⟩, hC7.sure, HLN.out⟩
                    clear hC7 hql
                    go_wp2_with (go_at_call 17; refine stop ?_)
                    refine (walLen_any wr W9 R _ _ st9 hrow).mono ?_
                    rintro en wq ⟨rfl, hwq⟩
                    obtain rfl := hwq.symm
                    clear hwq
                    go_wp2_with (go_at_call 18; refine stop ?_)
                    refine (walEnd_any wr W9 R _ _ st9 hrow).mono ?_
                    rintro en wq ⟨rfl, hwq⟩
                    obtain rfl := hwq.symm
                    clear hwq
                    go_wp2
                    go_roundw
                    case rel => exact ⟨k + 1, W9, _, _, _, HK.out, by go_num, rfl, rfl, rfl, by go_num, HRN.out⟩
                    case measure => simp [intOf]; have := HK.out; omega
              · cases h0
        · have d1 : (600 : Int) < (c.data.length : Int) := by omega
          clear hbig
          go_wp2
          go_ret
          exact ⟨rfl, hB4⟩
      · obtain rfl : k = D.length := by omega
        clear hlt
        go_wp2
        go_ret
        exact ⟨rfl, hBw⟩
  · have l1 : (60 : Int) < (D.length : Int) := by omega
    go_wp2
    go_ret
    exact ⟨rfl, hb1⟩
end Go.Proofs.Ytdaekgbghpikbaa
