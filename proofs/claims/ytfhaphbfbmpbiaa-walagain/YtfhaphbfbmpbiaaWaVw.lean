
/-
  WalAgain: its walk. For every input.
-/
import Derived.Test.YtfhaphbfbmpbiaaWaV
namespace Go.Proofs.Ytfhaphbfbmpbiaa
open Go.RowKit
set_option maxRecDepth 100000
set_option linter.unusedVariables false
set_option linter.unusedSimpArgs false

/-- What the law holds behind k records. -/
def AgR (w wr : World) (W R S : Nat) (u : Value) (L : List (List Nat)) (k : Nat) : Prop :=
  ∃ v d e st, LogW w wr W R S v d (L.take k) e st ∧ d.n = 64 ∧ d.cnt = e ∧ d.armed = false ∧ e ≤ 6 * k ∧ SureAt w wr u (L.take k)
/-- What it holds from then on. -/
structure AgJ (w wr : World) (W R S : Nat) (u : Value) (L : List (List Nat)) (e st B : Nat) (calm : Bool) : Prop where
  ex : ∃ v d, Mine w wr R S v d ∧ Jk d L e ∧ d.n = 64 ∧ d.cnt ≤ B ∧ d.armed = false ∧ d.ws.length ≤ B ∧ (calm = true → d.ws = [])
  row : Row wr W (walV R L.length e st) 75
  sure : SureAt w wr u L
theorem AgJ.uncalm {w wr : World} {W R S : Nat} {u : Value} {L : List (List Nat)} {e st B : Nat} (h : AgJ w wr W R S u L e st B true) : AgJ w wr W R S u L e st B false := by
  obtain ⟨⟨v, d, h1, h2, h3, h4, h5, h6, _⟩, h8, h9⟩ := h
  exact ⟨⟨v, d, h1, h2, h3, h4, h5, h6, fun h => by cases h⟩, h8, h9⟩
theorem AgJ.below {w wr : World} {W R S : Nat} {u : Value} {L : List (List Nat)} {e st B : Nat} {c : Bool} (h : AgJ w wr W R S u L e st B c) : Below w.heap.size w wr := by
  obtain ⟨⟨v, d, h1, _⟩, _⟩ := h
  exact h1.below
theorem AgJ.later {w wr w' : World} {W R S : Nat} {u : Value} {L : List (List Nat)} {e st B : Nat} {c : Bool} (h : AgJ w wr W R S u L e st B c) (hb : Below wr.heap.size wr w') : AgJ w w' W R S u L e st B c := by
  obtain ⟨⟨v, d, h1, h2⟩, h8, h9⟩ := h
  exact ⟨⟨v, d, h1.later hb, h2⟩, h8.later hb, h9.later hb⟩
theorem AgJ.mk2 {w wr w' : World} {W R S : Nat} {u v v' : Value} {d d' : Dk} {L : List (List Nat)} {e st B : Nat} {c : Bool} (hm : Mine w wr R S v d) (hrow : Row wr W (walV R L.length e st) 75) (hsu : SureAt w wr u L) (hD : DkAt w' R S v' d') (hs : DStep wr w' R S v v')
    (hj : Jk d' L e) (hn : d'.n = 64) (hc : d'.cnt ≤ B) (ha : d'.armed = false) (hws : d'.ws.length ≤ B) (hcalm : c = true → d'.ws = []) : AgJ w w' W R S u L e st B c :=
  ⟨⟨v', d', hm.step hD hs, hj, hn, hc, ha, hws, hcalm⟩, (hs.block W hrow.lt (hrow.ne hm.dk.row (by decide)) (hrow.ne hm.dk.sure (by decide)) (ownN_ne hm.dk.own hrow (by decide))).trans hrow, hsu.dstep hm.dk hs⟩
theorem Row.dst {w w' : World} {R S g : Nat} {v v' : Value} {d : Dk} {cs : Array Value} {t : TypeId} (h : Row w g cs t) (hD : DkAt w R S v d) (hs : DStep w w' R S v v') (h1 : t ≠ 66) (h2 : t ≠ 79) (h3 : 81 ≠ t) : Row w' g cs t :=
  (hs.block g h.lt (h.ne hD.row h1) (h.ne hD.sure h2) (ownN_ne hD.own h h3)).trans h
set_option maxHeartbeats 4000000 in
theorem walAgain_walk (v0 : Value) (L : List (List Nat)) (v1 : Value) (D : List CIn) (mask : Nat) (w : World) (hl : PartsAt w v0 L) (hD : DeedsAt w v1 D) (hmask : mask < 2 ^ 64) :
    Calls Try.prog 4 #[v0, v1, .int .u64 (mask : Nat)] w fun e w' => e = .returned (.bool true) ∧ Below w.heap.size w w' := by
  obtain ⟨hmx, p0, c0, rfl, hc⟩ := id hl
  obtain ⟨hlm, pu, cu, rfl, hrows⟩ := id hD.at0.rows
  have HC := (show Hid _ from hc)
  have HD : Hid (DeedsAt w (.slice pu D.length cu) D) := hD
  have HM : Hid (mask < 2 ^ 64) := hmask
  have l0 : (0 : Int) ≤ (L.length : Int) := by omega
  have d0 : (0 : Int) ≤ (D.length : Int) := by omega
  clear hl hc hrows hD hmask
  go_enter Try.func4, Try.ntmps4
  go_wp2_with (go_at_call 10; refine stop ?_)
  refine (fit5_any w).mono ?_
  rintro e w1 ⟨rfl, hb1⟩
  by_cases hlen : L.length ≤ 10
  · have l1 : (L.length : Int) ≤ 10 := by omega
    have HL : Hid (L.length ≤ 10) := hlen
    clear hlen hmx
    by_cases hdl : D.length ≤ 20
    · have d1 : (D.length : Int) ≤ 20 := by omega
      have HDL : Hid (D.length ≤ 20) := hdl
      clear hdl hlm
      go_wp2_with (go_at_call 11; refine stop ?_)
      refine (new_any 64 (by omega) (by omega) w1).mono ?_
      rintro e w2 ⟨R, S, rfl, hd, hb, hR, hS⟩
      have m2 := Mine.new hb1 hd hb hR hS
      clear hd hb hR hS hb1
      go_wp2_with (go_at_call 12; refine stop ?_)
      refine (open_lg w w2 R S _ _ [] 0 m2 (Lg.new 64) rfl (by show (0 : Nat) < 1000000; decide)).mono ?_
      rintro e w3 ⟨W, u3, v3, st3, rfl, lw3, hW3, hL3, _⟩
      clear m2 hL3 hW3
      have hR0 : AgR w w3 W R S (.slice none 0 0) L 0 := ⟨v3, _, 0, st3, by simpa using lw3, rfl, rfl, rfl, Nat.zero_le _, by simpa using SureAt.nil _ _⟩
      clear lw3
      go_wp2
      go_loopw [44, 11] (fun i sv wr => ∃ (k : Nat) (u : Value), k ≤ L.length ∧ i = .int .i64 k ∧ sv = u ∧ AgR w wr W R S u L k) (fun i _ _ => L.length - (intOf i).toNat)
      case atStart => exact ⟨0, _, Nat.zero_le _, rfl, rfl, hR0⟩
      case round =>
        obtain ⟨k, u, hk, rfl, rfl, v5, d5, e, st5, lw5, hn5, hc5, ha5, he5, hS5⟩ := hrel
        clear hR0
        obtain ⟨ps, ns, cs, rfl, hns⟩ := hS5.form
        have HNS : Hid (ns = (L.take k).length) := hns
        clear hns
        have k0 : (0 : Int) ≤ (k : Int) := by omega
        have k1 : (k : Int) ≤ 10 := by omega
        have HE : Hid (e ≤ 6 * k) := he5
        have HN5 : Hid (d5.n = 64) := hn5
        have HC5 : Hid (d5.cnt = e) := hc5
        have hBw := lw5.mine.below
        clear he5 hn5 hc5
        by_cases hlt : k < L.length
        · have kl : (k : Int) < (L.length : Int) := by omega
          obtain ⟨g, off, x, rfl, hbl, hcell, hu⟩ := HC.out k hlt
          have hcell2 := (lw5.mine.below.cell (p := ⟨g, off + k, none⟩) hbl).trans hcell
          have hu5 := hu.later hBw
          have HU : Hid (BytesAt w x (L.getD k [])) := hu
          have hts := take_snocD hlt
          have HK : Hid (k < L.length) := hlt
          clear hcell hlt hu
          have HLW : Hid (LogW w wr W R S v5 d5 (L.take k) e st5) := lw5
          have HSU : Hid (SureAt w wr (.slice ps ns cs) (L.take k)) := hS5
          clear lw5 hS5
          generalize L.getD k [] = l at *
          obtain ⟨h8, hml, px, cx, rfl, _⟩ := id hu5
          have HU5 : Hid (BytesAt wr (.slice px l.length cx) l) := hu5
          clear hu5 hml h8
          have b0 : (0 : Int) ≤ (l.length : Int) := by omega
          by_cases big : l.length ≤ 300
          · have b1 : (l.length : Int) ≤ 300 := by omega
            have HB3 : Hid (l.length ≤ 300) := big
            have HTS := (show Hid _ from hts)
            clear hts big
            go_wp2_with (go_at_call 13; refine stop ?_)
            have hs : secs l.length ≤ 6 := by have := HB3.out; unfold secs; omega
            refine (append_lg w _ W R S v5 _ d5 _ e st5 l HLW.out HU5.out (by have := HB3.out; omega) (by rw [HN5.out]; have := HE.out; have := HL.out; have := HK.out; omega) ha5 (by rw [HC5.out]; have := HE.out; have := HL.out; have := HK.out; omega)).mono ?_
            rintro en w6 ⟨v6, d6, st6, rfl, lw6, hA6, hn6, hc6, ha6⟩
            have hS6 := HSU.out.astep HLW.out.row HLW.out.mine.dk hA6
            have hlk : (L.take k).length ≤ 1000 := by rw [List.length_take]; have := HL.out; omega
            obtain ⟨u7, w7, run7, hS7, hp7⟩ := hS6.put HU.out rfl hlk lw6.mine.below.size
            have lw7 := lw6.sstep hS6 hp7
            rw [← HTS.out] at lw7 hS7
            have HR : AgR w w7 W R S u7 L (k + 1) := ⟨v6, d6, _, st6, lw7, hn6.trans HN5.out, by rw [hc6, HC5.out], ha6, by have := HE.out; omega, hS7⟩
            obtain ⟨p7, n7, c7, rfl, hn7⟩ := hS7.form
            clear lw6 hA6 hn6 hc6 ha6 HLW ha5 hcell2 hs HU5 hS6 hS7 hp7 lw7 hn7
            go_wp2_with (at_builtin; refine Lib.wpList_append_run _ rfl _ _ _ _ rfl _ _ rfl rfl _ _ run7 ?_)
            go_roundw
            case rel => exact ⟨k + 1, _, HK.out, by go_num, rfl, HR⟩
            case measure => simp [intOf]; have := HK.out; omega
          · have b1 : (300 : Int) < (l.length : Int) := by omega
            clear big
            go_wp2
            go_ret
            exact ⟨rfl, hBw⟩
        · obtain rfl : k = L.length := by omega
          rw [List.take_length] at lw5 hS5
          clear hlt
          obtain rfl : ns = L.length := by have := HNS.out; rwa [List.take_length] at this
          clear HNS
          have HJ : AgJ w wr W R S (.slice ps L.length cs) L e st5 60 true := ⟨⟨v5, d5, lw5.mine, lw5.lg.jk, HN5.out, by have := HE.out; have := HL.out; have := HC5.out; omega, ha5, by rw [lw5.lg.ws]; exact Nat.zero_le _, fun _ => lw5.lg.ws⟩, lw5.row, hS5⟩
          have HE60 : Hid (e ≤ 60) := by show _ ≤ _; have := HE.out; have := HL.out; omega
          clear lw5 hS5 ha5 HE HC5 HN5 hBw
          go_wp2
          go_loopw [62] (fun i wr => ∃ k : Nat, k ≤ D.length ∧ i = .int .i64 k ∧ AgJ w wr W R S (.slice ps L.length cs) L e st5 (60 + k) false) (fun i _ => D.length - (intOf i).toNat)
          case atStart => exact ⟨0, Nat.zero_le _, rfl, HJ.uncalm⟩
          case round =>
            clear HJ
            obtain ⟨k, hk, rfl, HJ⟩ := hrel
            have k0 : (0 : Int) ≤ (k : Int) := by omega
            have k1 : (k : Int) ≤ 20 := by omega
            have hBw := HJ.below
            by_cases hlt : k < D.length
            · have hlt' : (k : Int) < (D.length : Int) := by omega
              have HK : Hid (k + 1 ≤ D.length) := hlt
              have hmem : D.getD k CIn.none ∈ D := by simp only [List.getD]; rw [List.getElem?_eq_getElem hlt]; exact List.getElem_mem _
              have hok0 : (D.getD k CIn.none).ok w := HD.out.at0.each _ hmem
              have hcp := HD.out.cap _ hmem
              obtain ⟨b, off, cc, eq, hb, hr, hok⟩ := (HD.out.at0.later hBw).at hlt
              cases eq
              generalize D.getD k CIn.none = c at *
              have hci : (Try.prog.info? 34).map (·.size) = some c.cs.toList.length := by kernel_rfl
              have hcj : (Try.prog.info? 34).map (·.size) = some c.cs.size := by kernel_rfl
              have hone : c.cs.all (·.oneCell') = true := by
                obtain ⟨_, _, p, q, e, _⟩ := hok.data
                simp [CIn.cs, e, Value.oneCell']
              clear hlt hmem
              go_wp2_with (first | refine wpList_load_mid rfl 34 _ rfl b (off + k * 6) rfl c.cs.toList _ hr Try.underlying34 rfl hci ?_ | (refine wpList_store_row rfl 34 _ _ rfl wr.heap.size c.cs rfl rfl 34 _ (heap_alloc_new wr _) hcj rfl hone ?_; refine stop ?_))
              unfold Stop
              clear hr hci hcj hone
              have rg := (Row.new wr #[.int .i64 0, .int .i64 0, .slice none 0 0, .int .u64 0, .int .i64 0, .int .i64 0] 34 rfl).setRow c.cs
              have b2 : Below wr.heap.size wr ((wr.alloc (.cells #[.int .i64 0, .int .i64 0, .slice none 0 0, .int .u64 0, .int .i64 0, .int .i64 0] 34)).setRow wr.heap.size c.cs) := Below.row (below1 wr _) _ (Nat.le_refl _)
              generalize (wr.alloc (.cells #[.int .i64 0, .int .i64 0, .slice none 0 0, .int .u64 0, .int .i64 0, .int .i64 0] 34)).setRow wr.heap.size c.cs = w4 at *
              have HJ4 := HJ.later b2
              have hB4 := HJ4.below
              have hdat := hok.data.later b2
              have HMS : Hid (c.mask < 2 ^ 64) := hok.mask
              clear HJ hBw b2 hok hok0
              generalize wr.heap.size = gk at *
              obtain ⟨hd8, hdm, pd, cd, hcv, _⟩ := id hdat
              have q1 : w4.cell? ⟨gk, 1, none⟩ = some (.int .i64 c.at0) := rg.cell 1
              have q2 : w4.cell? ⟨gk, 2, none⟩ = some c.v := rg.cell 2
              have q4 : w4.cell? ⟨gk, 4, none⟩ = some (.int .i64 c.torn) := rg.cell 4
              have q5 : w4.cell? ⟨gk, 5, none⟩ = some (.int .i64 c.cut) := rg.cell 5
              rw [hcv] at q2 hdat
              have hcap : c.data.length ≤ cd := hcp _ _ _ hcv
              have hcapi : (c.data.length : Int) ≤ (cd : Int) := by omega
              clear hcp
              have dd0 : (0 : Int) ≤ (c.data.length : Int) := by omega
              have HDAT : Hid (BytesAt w4 (.slice pd c.data.length cd) c.data) := hdat
              have HCV : Hid (c.v = .slice pd c.data.length cd) := hcv
              clear hdat hcv hd8 hdm
              by_cases hbig : c.data.length ≤ 600
              · have d1 : (c.data.length : Int) ≤ 600 := by omega
                have HB6 : Hid (c.data.length ≤ 600) := hbig
                clear hbig
                obtain ⟨j, hj7, ej⟩ := and7 c.at0
                have HE := HE60.out
                have jx : (j : Int) ≤ 7 := by omega
                have j0 : (0 : Int) ≤ (j : Int) := by omega
                have e0 : (0 : Int) ≤ (e : Int) := by omega
                have ex : (e : Int) ≤ 60 := by omega
                have w1 : IntKind.i64.wrap ((e : Int) + 1) = (e : Int) + 1 := by rw [IntKind.wrap_i64]; omega
                have w2 : IntKind.i64.wrap ((e : Int) + 1 + (j : Int)) = (e : Int) + 1 + (j : Int) := by rw [IntKind.wrap_i64]; omega
                cases pd with
                | none =>
                  have hmn : min (c.data.length : Int) 64 = (c.data.length : Int) := by
                    obtain ⟨_, _, p, q, e, hcc⟩ := HDAT.out
                    cases e
                    cases hcd : c.data.length with
                    | zero => rfl
                    | succ n => obtain ⟨_, _, e, _⟩ := hcc 0 (by omega); cases e
                  go_wp2_with fail
                  refine wp_region_D (fun i => i != 15) (fun w' : World => w'.cell? ⟨gk, 1, none⟩ = some (.int .i64 c.at0) ∧ w'.cell? ⟨gk, 2, none⟩ = some (.slice none c.data.length cd)) (by kernel_rfl) ?_
                  have hS : (fun w' : World => w'.cell? ⟨gk, 1, none⟩ = some (.int .i64 c.at0) ∧ w'.cell? ⟨gk, 2, none⟩ = some (.slice none c.data.length cd)) w4.drew := ⟨q1, q2⟩
                  have HJd := HJ4.later (Below.refl _ w4).drew
                  have HDATd : Hid (BytesAt w4.drew (.slice none c.data.length cd) c.data) := HDAT.out.later (Below.refl _ w4).drew
                  clear HJ4 HDAT q1 q2 q4 q5 rg hB4
                  generalize w4.drew = wd at *
                  refine' wpAnyD_take (i := 0) (v := _) rfl (by kernel_rfl) (by kernel_rfl) (by kernel_rfl) (by kernel_rfl) (fun _ _ _ h => h) (Or.inl ⟨by rfl, ?hy1⟩) hS ?re1
                  case hy1 => (intro w hSw; (try dsimp only at hSw); go_simp; (try with_reducible rfl))
                  simp only [Act.put, List.setIfInBounds_toArray, List.set_cons_zero, List.set_cons_succ]
                  refine' wpAnyD_take (i := 1) (v := _) rfl (by kernel_rfl) (by kernel_rfl) (by kernel_rfl) (by kernel_rfl) (fun _ _ _ h => h) (Or.inl ⟨by rfl, ?hy2⟩) hS ?re2
                  case hy2 => (intro w hSw; (try dsimp only at hSw); go_simp; (try with_reducible rfl))
                  simp only [Act.put, List.setIfInBounds_toArray, List.set_cons_zero, List.set_cons_succ]
                  refine' wpAnyD_take (i := 4) (v := _) rfl (by kernel_rfl) (by kernel_rfl) (by kernel_rfl) (by kernel_rfl) (fun _ _ _ h => h) (Or.inl ⟨by rfl, ?hy3⟩) hS ?re3
                  case hy3 => (intro w hSw; (try dsimp only at hSw); go_simp; (try with_reducible rfl))
                  simp only [Act.put, List.setIfInBounds_toArray, List.set_cons_zero, List.set_cons_succ]
                  refine' wpAnyD_take (i := 5) (v := _) rfl (by kernel_rfl) (by kernel_rfl) (by kernel_rfl) (by kernel_rfl) (fun _ _ _ h => h) (Or.inl ⟨by rfl, ?hy4⟩) hS ?re4
                  case hy4 => (intro w hSw; (try dsimp only at hSw); go_simp; (try with_reducible rfl))
                  simp only [Act.put, List.setIfInBounds_toArray, List.set_cons_zero, List.set_cons_succ]
                  refine' wpAnyD_take (i := 6) (v := _) rfl (by kernel_rfl) (by kernel_rfl) (by kernel_rfl) (by kernel_rfl) (fun _ _ _ h => h) (Or.inl ⟨by rfl, ?hy5⟩) hS ?re5
                  case hy5 => (intro w hSw; (try dsimp only at hSw); go_simp; (try with_reducible rfl))
                  simp only [Act.put, List.setIfInBounds_toArray, List.set_cons_zero, List.set_cons_succ]
                  refine' wpAnyD_take (i := 8) (v := _) rfl (by kernel_rfl) (by kernel_rfl) (by kernel_rfl) (by kernel_rfl) (fun _ _ _ h => h) (Or.inl ⟨by rfl, ?hy6⟩) hS ?re6
                  case hy6 => (intro w hSw; (try dsimp only at hSw); go_simp; (try with_reducible rfl))
                  simp only [Act.put, List.setIfInBounds_toArray, List.set_cons_zero, List.set_cons_succ]
                  refine' wpAnyD_take (i := 9) (v := _) rfl (by kernel_rfl) (by kernel_rfl) (by kernel_rfl) (by kernel_rfl) (fun _ _ _ h => h) (Or.inl ⟨by rfl, ?hy7⟩) hS ?re7
                  case hy7 => (intro w hSw; (try dsimp only at hSw); go_simp; (try with_reducible rfl))
                  simp only [Act.put, List.setIfInBounds_toArray, List.set_cons_zero, List.set_cons_succ]
                  refine' wpAnyD_take (i := 10) (v := _) rfl (by kernel_rfl) (by kernel_rfl) (by kernel_rfl) (by kernel_rfl) (fun _ _ _ h => h) (Or.inl ⟨by rfl, ?hy8⟩) hS ?re8
                  case hy8 => (intro w hSw; (try dsimp only at hSw); go_simp; (try with_reducible rfl))
                  simp only [Act.put, List.setIfInBounds_toArray, List.set_cons_zero, List.set_cons_succ]
                  refine' wpAnyD_take (i := 11) (v := _) rfl (by kernel_rfl) (by kernel_rfl) (by kernel_rfl) (by kernel_rfl) (fun _ _ _ h => h) (Or.inl ⟨by rfl, ?hy9⟩) hS ?re9
                  case hy9 => (intro w hSw; (try dsimp only at hSw); go_simp; (try with_reducible rfl))
                  simp only [Act.put, List.setIfInBounds_toArray, List.set_cons_zero, List.set_cons_succ]
                  refine' wpAnyD_take (i := 12) (v := _) rfl (by kernel_rfl) (by kernel_rfl) (by kernel_rfl) (by kernel_rfl) (fun _ _ _ h => h) (Or.inl ⟨by rfl, ?hy10⟩) hS ?re10
                  case hy10 => (intro w hSw; (try dsimp only at hSw); go_simp; (try with_reducible rfl))
                  simp only [Act.put, List.setIfInBounds_toArray, List.set_cons_zero, List.set_cons_succ]
                  refine' wpAnyD_take (i := 13) (v := _) rfl (by kernel_rfl) (by kernel_rfl) (by kernel_rfl) (by kernel_rfl) (fun _ _ _ h => h) (Or.inl ⟨by rfl, ?hy11⟩) hS ?re11
                  case hy11 => (intro w hSw; (try dsimp only at hSw); go_simp; (try with_reducible rfl))
                  simp only [Act.put, List.setIfInBounds_toArray, List.set_cons_zero, List.set_cons_succ]
                  try simp only [hmn]
                  refine' wpAnyD_take (i := 14) (v := _) rfl (by kernel_rfl) (by kernel_rfl) (by kernel_rfl) (by kernel_rfl) (fun _ _ _ h => h) (Or.inl ⟨by rfl, ?hy12⟩) hS ?re12
                  case hy12 => (intro w hSw; (try dsimp only at hSw); go_simp; (try with_reducible rfl))
                  simp only [Act.put, List.setIfInBounds_toArray, List.set_cons_zero, List.set_cons_succ]
                  refine wpAnyD_only (i := 2) rfl (by kernel_rfl) (by rfl) (fun K hK => ?_)
                  go_simp
                  refine (walEnd_any wd W R _ _ _ HJd.row).mono ?_
                  rintro en wq ⟨rfl, hwq⟩
                  obtain rfl := hwq.symm
                  clear hwq
                  try dsimp only
                  have hSn := hS
                  refine hK.out _ _ (fun _ => hSn) ?_
                  clear hK K hS
                  have hS := hSn
                  clear hSn
                  try simp only [Act.put, List.setIfInBounds_toArray, List.set_cons_zero, List.set_cons_succ]
                  refine' wpAnyD_take (i := 3) (v := _) rfl (by kernel_rfl) (by kernel_rfl) (by kernel_rfl) (by kernel_rfl) (fun _ _ _ h => h) (Or.inl ⟨by rfl, ?hy13⟩) hS ?re13
                  case hy13 => (intro w hSw; (try dsimp only at hSw); go_simp; (try with_reducible rfl))
                  simp only [Act.put, List.setIfInBounds_toArray, List.set_cons_zero, List.set_cons_succ]
                  refine' wpAnyD_take (i := 7) (v := _) rfl (by kernel_rfl) (by kernel_rfl) (by kernel_rfl) (by kernel_rfl) (fun _ _ _ h => h) (Or.inl ⟨by rfl, ?hy14⟩) hS ?re14
                  case hy14 => (intro w hSw; (try dsimp only at hSw); go_simp; (try with_reducible rfl))
                  simp only [Act.put, List.setIfInBounds_toArray, List.set_cons_zero, List.set_cons_succ]
                  obtain ⟨⟨v, d, hm, hj, hn, hc, ha, hws, _⟩, hrow, hsu⟩ := HJd
                  have hbt : BytesAt wd (.slice none c.data.length cd) (c.data.take c.data.length) := HDATd.out.take (m := 0) _ (by omega) _
                  refine wpAnyD_only (i := 15) rfl (by kernel_rfl) (by rfl) (fun K hK => ?_)
                  go_simp
                  by_cases hin : e + 1 + j < 64
                  · rw [show (e : Int) + 1 + (j : Int) = ((e + 1 + j : Nat) : Int) by omega]
                    refine (write_any (e + 1 + j) _ (c.data.take c.data.length) wd R S v d hm.dk hbt (by rw [hn]; exact hin) (by rw [List.length_take]; omega) (by simp [Dk.down, ha]) (by omega) (by omega)).mono ?_
                    rintro en w6 ⟨v6, rfl, hD6, hs6⟩
                    have HJ6 : AgJ w w6 W R S (.slice ps L.length cs) L e st5 (60 + (k + 1)) false := AgJ.mk2 hm hrow hsu hD6 hs6 (hj.put (by omega) _) hn (by show d.cnt + 1 ≤ _; omega) ha (by show (d.ws ++ [_]).length ≤ _; rw [List.length_append, List.length_singleton]; omega) (fun h => by cases h)
                    refine hK.out _ _ (fun h => by cases h) ?_
                    clear hm hj hn hc ha hws hrow hsu hbt hK hS HDATd
                    refine wpAnyD_done (by kernel_rfl) ?_ _
                    go_wp2
                    go_roundw
                    case rel => exact ⟨k + 1, HK.out, by go_num, HJ6⟩
                    case measure => simp [intOf]; have := HK.out; omega
                  · refine (write_bad _ _ (c.data.take c.data.length) wd R S v d hm.dk hbt (Or.inl (by rw [hn]; omega))).mono ?_
                    rintro en wq ⟨rfl, hwq⟩
                    obtain rfl := hwq.symm
                    clear hwq
                    have HJ6 : AgJ w wd W R S (.slice ps L.length cs) L e st5 (60 + (k + 1)) false := ⟨⟨v, d, hm, hj, hn, by omega, ha, by omega, fun h => by cases h⟩, hrow, hsu⟩
                    refine hK.out _ _ (fun h => by cases h) ?_
                    clear hm hj hn hc ha hws hrow hsu hbt hK hS HDATd
                    refine wpAnyD_done (by kernel_rfl) ?_ _
                    go_wp2
                    go_roundw
                    case rel => exact ⟨k + 1, HK.out, by go_num, HJ6⟩
                    case measure => simp [intOf]; have := HK.out; omega
                | some pa =>
                  by_cases hs : c.data.length ≤ 64
                  · have hmn : min (c.data.length : Int) 64 = (c.data.length : Int) := by omega
                    go_wp2_with fail
                    refine wp_region_D (fun i => i != 15) (fun w' : World => w'.cell? ⟨gk, 1, none⟩ = some (.int .i64 c.at0) ∧ w'.cell? ⟨gk, 2, none⟩ = some (.slice (some pa) c.data.length cd)) (by kernel_rfl) ?_
                    have hS : (fun w' : World => w'.cell? ⟨gk, 1, none⟩ = some (.int .i64 c.at0) ∧ w'.cell? ⟨gk, 2, none⟩ = some (.slice (some pa) c.data.length cd)) w4.drew := ⟨q1, q2⟩
                    have HJd := HJ4.later (Below.refl _ w4).drew
                    have HDATd : Hid (BytesAt w4.drew (.slice (some pa) c.data.length cd) c.data) := HDAT.out.later (Below.refl _ w4).drew
                    clear HJ4 HDAT q1 q2 q4 q5 rg hB4
                    generalize w4.drew = wd at *
                    refine' wpAnyD_take (i := 0) (v := _) rfl (by kernel_rfl) (by kernel_rfl) (by kernel_rfl) (by kernel_rfl) (fun _ _ _ h => h) (Or.inl ⟨by rfl, ?hy15⟩) hS ?re15
                    case hy15 => (intro w hSw; (try dsimp only at hSw); go_simp; (try with_reducible rfl))
                    simp only [Act.put, List.setIfInBounds_toArray, List.set_cons_zero, List.set_cons_succ]
                    refine' wpAnyD_take (i := 1) (v := _) rfl (by kernel_rfl) (by kernel_rfl) (by kernel_rfl) (by kernel_rfl) (fun _ _ _ h => h) (Or.inl ⟨by rfl, ?hy16⟩) hS ?re16
                    case hy16 => (intro w hSw; (try dsimp only at hSw); go_simp; (try with_reducible rfl))
                    simp only [Act.put, List.setIfInBounds_toArray, List.set_cons_zero, List.set_cons_succ]
                    refine' wpAnyD_take (i := 4) (v := _) rfl (by kernel_rfl) (by kernel_rfl) (by kernel_rfl) (by kernel_rfl) (fun _ _ _ h => h) (Or.inl ⟨by rfl, ?hy17⟩) hS ?re17
                    case hy17 => (intro w hSw; (try dsimp only at hSw); go_simp; (try with_reducible rfl))
                    simp only [Act.put, List.setIfInBounds_toArray, List.set_cons_zero, List.set_cons_succ]
                    refine' wpAnyD_take (i := 5) (v := _) rfl (by kernel_rfl) (by kernel_rfl) (by kernel_rfl) (by kernel_rfl) (fun _ _ _ h => h) (Or.inl ⟨by rfl, ?hy18⟩) hS ?re18
                    case hy18 => (intro w hSw; (try dsimp only at hSw); go_simp; (try with_reducible rfl))
                    simp only [Act.put, List.setIfInBounds_toArray, List.set_cons_zero, List.set_cons_succ]
                    refine' wpAnyD_take (i := 6) (v := _) rfl (by kernel_rfl) (by kernel_rfl) (by kernel_rfl) (by kernel_rfl) (fun _ _ _ h => h) (Or.inl ⟨by rfl, ?hy19⟩) hS ?re19
                    case hy19 => (intro w hSw; (try dsimp only at hSw); go_simp; (try with_reducible rfl))
                    simp only [Act.put, List.setIfInBounds_toArray, List.set_cons_zero, List.set_cons_succ]
                    refine' wpAnyD_take (i := 8) (v := _) rfl (by kernel_rfl) (by kernel_rfl) (by kernel_rfl) (by kernel_rfl) (fun _ _ _ h => h) (Or.inl ⟨by rfl, ?hy20⟩) hS ?re20
                    case hy20 => (intro w hSw; (try dsimp only at hSw); go_simp; (try with_reducible rfl))
                    simp only [Act.put, List.setIfInBounds_toArray, List.set_cons_zero, List.set_cons_succ]
                    refine' wpAnyD_take (i := 9) (v := _) rfl (by kernel_rfl) (by kernel_rfl) (by kernel_rfl) (by kernel_rfl) (fun _ _ _ h => h) (Or.inl ⟨by rfl, ?hy21⟩) hS ?re21
                    case hy21 => (intro w hSw; (try dsimp only at hSw); go_simp; (try with_reducible rfl))
                    simp only [Act.put, List.setIfInBounds_toArray, List.set_cons_zero, List.set_cons_succ]
                    refine' wpAnyD_take (i := 10) (v := _) rfl (by kernel_rfl) (by kernel_rfl) (by kernel_rfl) (by kernel_rfl) (fun _ _ _ h => h) (Or.inl ⟨by rfl, ?hy22⟩) hS ?re22
                    case hy22 => (intro w hSw; (try dsimp only at hSw); go_simp; (try with_reducible rfl))
                    simp only [Act.put, List.setIfInBounds_toArray, List.set_cons_zero, List.set_cons_succ]
                    refine' wpAnyD_take (i := 11) (v := _) rfl (by kernel_rfl) (by kernel_rfl) (by kernel_rfl) (by kernel_rfl) (fun _ _ _ h => h) (Or.inl ⟨by rfl, ?hy23⟩) hS ?re23
                    case hy23 => (intro w hSw; (try dsimp only at hSw); go_simp; (try with_reducible rfl))
                    simp only [Act.put, List.setIfInBounds_toArray, List.set_cons_zero, List.set_cons_succ]
                    refine' wpAnyD_take (i := 12) (v := _) rfl (by kernel_rfl) (by kernel_rfl) (by kernel_rfl) (by kernel_rfl) (fun _ _ _ h => h) (Or.inl ⟨by rfl, ?hy24⟩) hS ?re24
                    case hy24 => (intro w hSw; (try dsimp only at hSw); go_simp; (try with_reducible rfl))
                    simp only [Act.put, List.setIfInBounds_toArray, List.set_cons_zero, List.set_cons_succ]
                    refine' wpAnyD_take (i := 13) (v := _) rfl (by kernel_rfl) (by kernel_rfl) (by kernel_rfl) (by kernel_rfl) (fun _ _ _ h => h) (Or.inl ⟨by rfl, ?hy25⟩) hS ?re25
                    case hy25 => (intro w hSw; (try dsimp only at hSw); go_simp; (try with_reducible rfl))
                    simp only [Act.put, List.setIfInBounds_toArray, List.set_cons_zero, List.set_cons_succ]
                    try simp only [hmn]
                    refine' wpAnyD_take (i := 14) (v := _) rfl (by kernel_rfl) (by kernel_rfl) (by kernel_rfl) (by kernel_rfl) (fun _ _ _ h => h) (Or.inl ⟨by rfl, ?hy26⟩) hS ?re26
                    case hy26 => (intro w hSw; (try dsimp only at hSw); go_simp; (try with_reducible rfl))
                    simp only [Act.put, List.setIfInBounds_toArray, List.set_cons_zero, List.set_cons_succ]
                    refine wpAnyD_only (i := 2) rfl (by kernel_rfl) (by rfl) (fun K hK => ?_)
                    go_simp
                    refine (walEnd_any wd W R _ _ _ HJd.row).mono ?_
                    rintro en wq ⟨rfl, hwq⟩
                    obtain rfl := hwq.symm
                    clear hwq
                    try dsimp only
                    have hSn := hS
                    refine hK.out _ _ (fun _ => hSn) ?_
                    clear hK K hS
                    have hS := hSn
                    clear hSn
                    try simp only [Act.put, List.setIfInBounds_toArray, List.set_cons_zero, List.set_cons_succ]
                    refine' wpAnyD_take (i := 3) (v := _) rfl (by kernel_rfl) (by kernel_rfl) (by kernel_rfl) (by kernel_rfl) (fun _ _ _ h => h) (Or.inl ⟨by rfl, ?hy27⟩) hS ?re27
                    case hy27 => (intro w hSw; (try dsimp only at hSw); go_simp; (try with_reducible rfl))
                    simp only [Act.put, List.setIfInBounds_toArray, List.set_cons_zero, List.set_cons_succ]
                    refine' wpAnyD_take (i := 7) (v := _) rfl (by kernel_rfl) (by kernel_rfl) (by kernel_rfl) (by kernel_rfl) (fun _ _ _ h => h) (Or.inl ⟨by rfl, ?hy28⟩) hS ?re28
                    case hy28 => (intro w hSw; (try dsimp only at hSw); go_simp; (try with_reducible rfl))
                    simp only [Act.put, List.setIfInBounds_toArray, List.set_cons_zero, List.set_cons_succ]
                    obtain ⟨⟨v, d, hm, hj, hn, hc, ha, hws, _⟩, hrow, hsu⟩ := HJd
                    have hbt : BytesAt wd (.slice (some pa) c.data.length cd) (c.data.take c.data.length) := HDATd.out.take (m := 0) _ (by omega) _
                    refine wpAnyD_only (i := 15) rfl (by kernel_rfl) (by rfl) (fun K hK => ?_)
                    go_simp
                    by_cases hin : e + 1 + j < 64
                    · rw [show (e : Int) + 1 + (j : Int) = ((e + 1 + j : Nat) : Int) by omega]
                      refine (write_any (e + 1 + j) _ (c.data.take c.data.length) wd R S v d hm.dk hbt (by rw [hn]; exact hin) (by rw [List.length_take]; omega) (by simp [Dk.down, ha]) (by omega) (by omega)).mono ?_
                      rintro en w6 ⟨v6, rfl, hD6, hs6⟩
                      have HJ6 : AgJ w w6 W R S (.slice ps L.length cs) L e st5 (60 + (k + 1)) false := AgJ.mk2 hm hrow hsu hD6 hs6 (hj.put (by omega) _) hn (by show d.cnt + 1 ≤ _; omega) ha (by show (d.ws ++ [_]).length ≤ _; rw [List.length_append, List.length_singleton]; omega) (fun h => by cases h)
                      refine hK.out _ _ (fun h => by cases h) ?_
                      clear hm hj hn hc ha hws hrow hsu hbt hK hS HDATd
                      refine wpAnyD_done (by kernel_rfl) ?_ _
                      go_wp2
                      go_roundw
                      case rel => exact ⟨k + 1, HK.out, by go_num, HJ6⟩
                      case measure => simp [intOf]; have := HK.out; omega
                    · refine (write_bad _ _ (c.data.take c.data.length) wd R S v d hm.dk hbt (Or.inl (by rw [hn]; omega))).mono ?_
                      rintro en wq ⟨rfl, hwq⟩
                      obtain rfl := hwq.symm
                      clear hwq
                      have HJ6 : AgJ w wd W R S (.slice ps L.length cs) L e st5 (60 + (k + 1)) false := ⟨⟨v, d, hm, hj, hn, by omega, ha, by omega, fun h => by cases h⟩, hrow, hsu⟩
                      refine hK.out _ _ (fun h => by cases h) ?_
                      clear hm hj hn hc ha hws hrow hsu hbt hK hS HDATd
                      refine wpAnyD_done (by kernel_rfl) ?_ _
                      go_wp2
                      go_roundw
                      case rel => exact ⟨k + 1, HK.out, by go_num, HJ6⟩
                      case measure => simp [intOf]; have := HK.out; omega
                  · have hmn : min (c.data.length : Int) 64 = (64 : Int) := by omega
                    have hsi : (64 : Int) ≤ (cd : Int) := by omega
                    go_wp2_with fail
                    refine wp_region_D (fun i => i != 15) (fun w' : World => w'.cell? ⟨gk, 1, none⟩ = some (.int .i64 c.at0) ∧ w'.cell? ⟨gk, 2, none⟩ = some (.slice (some pa) c.data.length cd)) (by kernel_rfl) ?_
                    have hS : (fun w' : World => w'.cell? ⟨gk, 1, none⟩ = some (.int .i64 c.at0) ∧ w'.cell? ⟨gk, 2, none⟩ = some (.slice (some pa) c.data.length cd)) w4.drew := ⟨q1, q2⟩
                    have HJd := HJ4.later (Below.refl _ w4).drew
                    have HDATd : Hid (BytesAt w4.drew (.slice (some pa) c.data.length cd) c.data) := HDAT.out.later (Below.refl _ w4).drew
                    clear HJ4 HDAT q1 q2 q4 q5 rg hB4
                    generalize w4.drew = wd at *
                    refine' wpAnyD_take (i := 0) (v := _) rfl (by kernel_rfl) (by kernel_rfl) (by kernel_rfl) (by kernel_rfl) (fun _ _ _ h => h) (Or.inl ⟨by rfl, ?hy29⟩) hS ?re29
                    case hy29 => (intro w hSw; (try dsimp only at hSw); go_simp; (try with_reducible rfl))
                    simp only [Act.put, List.setIfInBounds_toArray, List.set_cons_zero, List.set_cons_succ]
                    refine' wpAnyD_take (i := 1) (v := _) rfl (by kernel_rfl) (by kernel_rfl) (by kernel_rfl) (by kernel_rfl) (fun _ _ _ h => h) (Or.inl ⟨by rfl, ?hy30⟩) hS ?re30
                    case hy30 => (intro w hSw; (try dsimp only at hSw); go_simp; (try with_reducible rfl))
                    simp only [Act.put, List.setIfInBounds_toArray, List.set_cons_zero, List.set_cons_succ]
                    refine' wpAnyD_take (i := 4) (v := _) rfl (by kernel_rfl) (by kernel_rfl) (by kernel_rfl) (by kernel_rfl) (fun _ _ _ h => h) (Or.inl ⟨by rfl, ?hy31⟩) hS ?re31
                    case hy31 => (intro w hSw; (try dsimp only at hSw); go_simp; (try with_reducible rfl))
                    simp only [Act.put, List.setIfInBounds_toArray, List.set_cons_zero, List.set_cons_succ]
                    refine' wpAnyD_take (i := 5) (v := _) rfl (by kernel_rfl) (by kernel_rfl) (by kernel_rfl) (by kernel_rfl) (fun _ _ _ h => h) (Or.inl ⟨by rfl, ?hy32⟩) hS ?re32
                    case hy32 => (intro w hSw; (try dsimp only at hSw); go_simp; (try with_reducible rfl))
                    simp only [Act.put, List.setIfInBounds_toArray, List.set_cons_zero, List.set_cons_succ]
                    refine' wpAnyD_take (i := 6) (v := _) rfl (by kernel_rfl) (by kernel_rfl) (by kernel_rfl) (by kernel_rfl) (fun _ _ _ h => h) (Or.inl ⟨by rfl, ?hy33⟩) hS ?re33
                    case hy33 => (intro w hSw; (try dsimp only at hSw); go_simp; (try with_reducible rfl))
                    simp only [Act.put, List.setIfInBounds_toArray, List.set_cons_zero, List.set_cons_succ]
                    refine' wpAnyD_take (i := 8) (v := _) rfl (by kernel_rfl) (by kernel_rfl) (by kernel_rfl) (by kernel_rfl) (fun _ _ _ h => h) (Or.inl ⟨by rfl, ?hy34⟩) hS ?re34
                    case hy34 => (intro w hSw; (try dsimp only at hSw); go_simp; (try with_reducible rfl))
                    simp only [Act.put, List.setIfInBounds_toArray, List.set_cons_zero, List.set_cons_succ]
                    refine' wpAnyD_take (i := 9) (v := _) rfl (by kernel_rfl) (by kernel_rfl) (by kernel_rfl) (by kernel_rfl) (fun _ _ _ h => h) (Or.inl ⟨by rfl, ?hy35⟩) hS ?re35
                    case hy35 => (intro w hSw; (try dsimp only at hSw); go_simp; (try with_reducible rfl))
                    simp only [Act.put, List.setIfInBounds_toArray, List.set_cons_zero, List.set_cons_succ]
                    refine' wpAnyD_take (i := 10) (v := _) rfl (by kernel_rfl) (by kernel_rfl) (by kernel_rfl) (by kernel_rfl) (fun _ _ _ h => h) (Or.inl ⟨by rfl, ?hy36⟩) hS ?re36
                    case hy36 => (intro w hSw; (try dsimp only at hSw); go_simp; (try with_reducible rfl))
                    simp only [Act.put, List.setIfInBounds_toArray, List.set_cons_zero, List.set_cons_succ]
                    refine' wpAnyD_take (i := 11) (v := _) rfl (by kernel_rfl) (by kernel_rfl) (by kernel_rfl) (by kernel_rfl) (fun _ _ _ h => h) (Or.inl ⟨by rfl, ?hy37⟩) hS ?re37
                    case hy37 => (intro w hSw; (try dsimp only at hSw); go_simp; (try with_reducible rfl))
                    simp only [Act.put, List.setIfInBounds_toArray, List.set_cons_zero, List.set_cons_succ]
                    refine' wpAnyD_take (i := 12) (v := _) rfl (by kernel_rfl) (by kernel_rfl) (by kernel_rfl) (by kernel_rfl) (fun _ _ _ h => h) (Or.inl ⟨by rfl, ?hy38⟩) hS ?re38
                    case hy38 => (intro w hSw; (try dsimp only at hSw); go_simp; (try with_reducible rfl))
                    simp only [Act.put, List.setIfInBounds_toArray, List.set_cons_zero, List.set_cons_succ]
                    refine' wpAnyD_take (i := 13) (v := _) rfl (by kernel_rfl) (by kernel_rfl) (by kernel_rfl) (by kernel_rfl) (fun _ _ _ h => h) (Or.inl ⟨by rfl, ?hy39⟩) hS ?re39
                    case hy39 => (intro w hSw; (try dsimp only at hSw); go_simp; (try with_reducible rfl))
                    simp only [Act.put, List.setIfInBounds_toArray, List.set_cons_zero, List.set_cons_succ]
                    try simp only [hmn]
                    refine' wpAnyD_take (i := 14) (v := _) rfl (by kernel_rfl) (by kernel_rfl) (by kernel_rfl) (by kernel_rfl) (fun _ _ _ h => h) (Or.inl ⟨by rfl, ?hy40⟩) hS ?re40
                    case hy40 => (intro w hSw; (try dsimp only at hSw); go_simp; (try with_reducible rfl))
                    simp only [Act.put, List.setIfInBounds_toArray, List.set_cons_zero, List.set_cons_succ]
                    refine wpAnyD_only (i := 2) rfl (by kernel_rfl) (by rfl) (fun K hK => ?_)
                    go_simp
                    refine (walEnd_any wd W R _ _ _ HJd.row).mono ?_
                    rintro en wq ⟨rfl, hwq⟩
                    obtain rfl := hwq.symm
                    clear hwq
                    try dsimp only
                    have hSn := hS
                    refine hK.out _ _ (fun _ => hSn) ?_
                    clear hK K hS
                    have hS := hSn
                    clear hSn
                    try simp only [Act.put, List.setIfInBounds_toArray, List.set_cons_zero, List.set_cons_succ]
                    refine' wpAnyD_take (i := 3) (v := _) rfl (by kernel_rfl) (by kernel_rfl) (by kernel_rfl) (by kernel_rfl) (fun _ _ _ h => h) (Or.inl ⟨by rfl, ?hy41⟩) hS ?re41
                    case hy41 => (intro w hSw; (try dsimp only at hSw); go_simp; (try with_reducible rfl))
                    simp only [Act.put, List.setIfInBounds_toArray, List.set_cons_zero, List.set_cons_succ]
                    refine' wpAnyD_take (i := 7) (v := _) rfl (by kernel_rfl) (by kernel_rfl) (by kernel_rfl) (by kernel_rfl) (fun _ _ _ h => h) (Or.inl ⟨by rfl, ?hy42⟩) hS ?re42
                    case hy42 => (intro w hSw; (try dsimp only at hSw); go_simp; (try with_reducible rfl))
                    simp only [Act.put, List.setIfInBounds_toArray, List.set_cons_zero, List.set_cons_succ]
                    obtain ⟨⟨v, d, hm, hj, hn, hc, ha, hws, _⟩, hrow, hsu⟩ := HJd
                    have hbt : BytesAt wd (.slice (some pa) 64 cd) (c.data.take 64) := HDATd.out.take (m := 0) _ (by omega) _
                    refine wpAnyD_only (i := 15) rfl (by kernel_rfl) (by rfl) (fun K hK => ?_)
                    go_simp
                    by_cases hin : e + 1 + j < 64
                    · rw [show (e : Int) + 1 + (j : Int) = ((e + 1 + j : Nat) : Int) by omega]
                      refine (write_any (e + 1 + j) _ (c.data.take 64) wd R S v d hm.dk hbt (by rw [hn]; exact hin) (by rw [List.length_take]; omega) (by simp [Dk.down, ha]) (by omega) (by omega)).mono ?_
                      rintro en w6 ⟨v6, rfl, hD6, hs6⟩
                      have HJ6 : AgJ w w6 W R S (.slice ps L.length cs) L e st5 (60 + (k + 1)) false := AgJ.mk2 hm hrow hsu hD6 hs6 (hj.put (by omega) _) hn (by show d.cnt + 1 ≤ _; omega) ha (by show (d.ws ++ [_]).length ≤ _; rw [List.length_append, List.length_singleton]; omega) (fun h => by cases h)
                      refine hK.out _ _ (fun h => by cases h) ?_
                      clear hm hj hn hc ha hws hrow hsu hbt hK hS HDATd
                      refine wpAnyD_done (by kernel_rfl) ?_ _
                      go_wp2
                      go_roundw
                      case rel => exact ⟨k + 1, HK.out, by go_num, HJ6⟩
                      case measure => simp [intOf]; have := HK.out; omega
                    · refine (write_bad _ _ (c.data.take 64) wd R S v d hm.dk hbt (Or.inl (by rw [hn]; omega))).mono ?_
                      rintro en wq ⟨rfl, hwq⟩
                      obtain rfl := hwq.symm
                      clear hwq
                      have HJ6 : AgJ w wd W R S (.slice ps L.length cs) L e st5 (60 + (k + 1)) false := ⟨⟨v, d, hm, hj, hn, by omega, ha, by omega, fun h => by cases h⟩, hrow, hsu⟩
                      refine hK.out _ _ (fun h => by cases h) ?_
                      clear hm hj hn hc ha hws hrow hsu hbt hK hS HDATd
                      refine wpAnyD_done (by kernel_rfl) ?_ _
                      go_wp2
                      go_roundw
                      case rel => exact ⟨k + 1, HK.out, by go_num, HJ6⟩
                      case measure => simp [intOf]; have := HK.out; omega
              · have d1 : (600 : Int) < (c.data.length : Int) := by omega
                clear hbig
                go_wp2
                go_ret
                exact ⟨rfl, hB4⟩
            · obtain rfl : k = D.length := by omega
              clear hlt
              obtain ⟨⟨v, d, hm, hj, hn, hc, ha, hws, _⟩, hrow, hsu⟩ := HJ
              go_wp2_with (go_at_call 20; refine stop ?_)
              refine (flush_any wr R S v d hm.dk (by simp [Dk.down, ha])).mono ?_
              rintro en w6 ⟨rfl, hD6, hs6⟩
              have HJ6 : AgJ w w6 W R S (.slice ps L.length cs) L e st5 80 true := AgJ.mk2 hm hrow hsu hD6 hs6 (hj.flushed hm.dk.ok) hn (by show d.cnt ≤ 80; have := HDL.out; omega) ha (Nat.zero_le _) (fun _ => rfl)
              clear hm hj hn hc ha hws hrow hsu hD6 hs6 hBw
              go_wp2
              go_loopw [91] (fun i wr => ∃ k : Nat, k ≤ D.length ∧ i = .int .i64 k ∧ AgJ w wr W R S (.slice ps L.length cs) L e st5 (80 + 64 * k) true) (fun i _ => D.length - (intOf i).toNat)
              case atStart => exact ⟨0, Nat.zero_le _, rfl, HJ6⟩
              case round =>
                clear HJ6
                obtain ⟨k, hk, rfl, HJ⟩ := hrel
                have k0 : (0 : Int) ≤ (k : Int) := by omega
                have k1 : (k : Int) ≤ 20 := by omega
                have hBw := HJ.below
                by_cases hlt : k < D.length
                · have hlt' : (k : Int) < (D.length : Int) := by omega
                  have HK : Hid (k + 1 ≤ D.length) := hlt
                  have hmem : D.getD k CIn.none ∈ D := by simp only [List.getD]; rw [List.getElem?_eq_getElem hlt]; exact List.getElem_mem _
                  have hok0 : (D.getD k CIn.none).ok w := HD.out.at0.each _ hmem
                  have hcp := HD.out.cap _ hmem
                  obtain ⟨b, off, cc, eq, hb, hr, hok⟩ := (HD.out.at0.later hBw).at hlt
                  cases eq
                  generalize D.getD k CIn.none = c at *
                  have hci : (Try.prog.info? 34).map (·.size) = some c.cs.toList.length := by kernel_rfl
                  have hcj : (Try.prog.info? 34).map (·.size) = some c.cs.size := by kernel_rfl
                  have hone : c.cs.all (·.oneCell') = true := by
                    obtain ⟨_, _, p, q, e, _⟩ := hok.data
                    simp [CIn.cs, e, Value.oneCell']
                  clear hlt hmem
                  go_wp2_with (first | refine wpList_load_mid rfl 34 _ rfl b (off + k * 6) rfl c.cs.toList _ hr Try.underlying34 rfl hci ?_ | (refine wpList_store_row rfl 34 _ _ rfl wr.heap.size c.cs rfl rfl 34 _ (heap_alloc_new wr _) hcj rfl hone ?_; refine stop ?_))
                  unfold Stop
                  clear hr hci hcj hone
                  have rg := (Row.new wr #[.int .i64 0, .int .i64 0, .slice none 0 0, .int .u64 0, .int .i64 0, .int .i64 0] 34 rfl).setRow c.cs
                  have b2 : Below wr.heap.size wr ((wr.alloc (.cells #[.int .i64 0, .int .i64 0, .slice none 0 0, .int .u64 0, .int .i64 0, .int .i64 0] 34)).setRow wr.heap.size c.cs) := Below.row (below1 wr _) _ (Nat.le_refl _)
                  generalize (wr.alloc (.cells #[.int .i64 0, .int .i64 0, .slice none 0 0, .int .u64 0, .int .i64 0, .int .i64 0] 34)).setRow wr.heap.size c.cs = w4 at *
                  have HJ4 := HJ.later b2
                  have hB4 := HJ4.below
                  have hdat := hok.data.later b2
                  have HMS : Hid (c.mask < 2 ^ 64) := hok.mask
                  clear HJ hBw b2 hok hok0
                  generalize wr.heap.size = gk at *
                  obtain ⟨hd8, hdm, pd, cd, hcv, _⟩ := id hdat
                  have q1 : w4.cell? ⟨gk, 1, none⟩ = some (.int .i64 c.at0) := rg.cell 1
                  have q2 : w4.cell? ⟨gk, 2, none⟩ = some c.v := rg.cell 2
                  have q4 : w4.cell? ⟨gk, 4, none⟩ = some (.int .i64 c.torn) := rg.cell 4
                  have q5 : w4.cell? ⟨gk, 5, none⟩ = some (.int .i64 c.cut) := rg.cell 5
                  rw [hcv] at q2 hdat
                  have hcap : c.data.length ≤ cd := hcp _ _ _ hcv
                  have hcapi : (c.data.length : Int) ≤ (cd : Int) := by omega
                  clear hcp
                  have dd0 : (0 : Int) ≤ (c.data.length : Int) := by omega
                  have HDAT : Hid (BytesAt w4 (.slice pd c.data.length cd) c.data) := hdat
                  have HCV : Hid (c.v = .slice pd c.data.length cd) := hcv
                  clear hdat hcv hd8 hdm
                  clear q2 HDAT HCV dd0 hcap hcapi hB4
                  obtain ⟨j, hj7, ej⟩ := and7 c.at0
                  have jx : (j : Int) ≤ 7 := by omega
                  have j0 : (0 : Int) ≤ (j : Int) := by omega
                  obtain ⟨⟨v, d, hm, hj, hn, hc, ha, hws, hcalm⟩, hrow, hsu⟩ := HJ4
                  have hw0 := hcalm rfl
                  go_wp2_with (go_at_call 15; refine stop ?_)
                  refine (arm_any (j : Int) (by omega) w4 R S v d hm.dk).mono ?_
                  rintro en w6 ⟨rfl, hD6, hs6⟩
                  have hM6 := hm.step hD6 hs6
                  have rg6 := rg.dst hm.dk hs6 (by decide) (by decide) (by decide)
                  clear q1 q4 q5 rg
                  go_wp2_with (go_at_call 12; refine stop ?_)
                  refine (open_j w w6 R S v _ L e hM6 (hj.arm true _) hw0 (by show d.n < 1000; omega) (by show d.cnt + d.n < 1000000; have := HDL.out; have := HK.out; omega)).mono ?_
                  rintro en w7 ⟨x7, y7, n7, v7, d7, rfl, hM7, hs7, hn7, hc7, hcr⟩
                  have rg7 := rg6.dst hM6.dk hs7 (by decide) (by decide) (by decide)
                  have q4 : w7.cell? ⟨gk, 4, none⟩ = some (.int .i64 c.torn) := rg7.cell 4
                  have q5 : w7.cell? ⟨gk, 5, none⟩ = some (.int .i64 c.cut) := rg7.cell 5
                  have HC7 : Hid (d7.cnt ≤ d.cnt + d.n) := hc7
                  have HN7 : Hid (d7.n = d.n) := hn7
                  have HS67 := (show Hid _ from hs6.trans hs7)
                  have HMM : Hid (Mine w w4 R S v d) := hm
                  have HCR := (show Hid _ from hcr)
                  have HM7 := (show Hid _ from hM7)
                  have HROW := (show Hid _ from hrow)
                  have HSU := (show Hid _ from hsu)
                  have HN : Hid (d.n = 64) := hn
                  have HCC : Hid (d.cnt ≤ 80 + 64 * k) := hc
                  clear rg6 rg7 hM6 hs6 hs7 hc7 hn7 hj hn hc ha hws hcalm hw0 hm hD6 hcr hM7 hrow hsu
                  go_wp2_with (go_at_call 16; refine stop ?_)
                  rw [show ((mask : Int) / 2 ^ k) = ((mask / 2 ^ k : Nat) : Int) by push_cast; rfl]
                  refine (crash_any (mask / 2 ^ k) (Nat.lt_of_le_of_lt (Nat.div_le_self _ _) HM.out) c.torn c.cut w7 R S v7 d7 HM7.out.dk).mono ?_
                  rintro en w8 ⟨rfl, hD8, hs8⟩
                  have HJ8 : AgJ w w8 W R S (.slice ps L.length cs) L e st5 (80 + 64 * (k + 1)) true := AgJ.mk2 HMM.out HROW.out HSU.out hD8 (HS67.out.trans hs8) (HCR.out _ (kept_le _ _ _)) (by show d7.n = 64; have := HN7.out; have := HN.out; omega) (by show d7.cnt ≤ _; have := HC7.out; have := HN.out; have := HCC.out; omega) rfl (Nat.zero_le _) (fun _ => rfl)
                  clear hD8 hs8 q4 q5
                  go_wp2
                  go_roundw
                  case rel => exact ⟨k + 1, HK.out, by go_num, HJ8⟩
                  case measure => simp [intOf]; have := HK.out; omega
                · obtain rfl : k = D.length := by omega
                  clear hlt
                  obtain ⟨⟨v, d, hm, hj, hn, hc, ha, hws, hcalm⟩, hrow, hsu⟩ := HJ
                  have hw0 := hcalm rfl
                  go_wp2_with (go_at_call 12; refine stop ?_)
                  refine (open_c w wr R S _ _ hm ha (by rw [hw0]; show 0 + d.n < 1000; omega) (by have := HDL.out; omega)).mono ?_
                  rintro en w9 ⟨W9, u9, v9, st9, L9, e9, d9, rfl, hrl, lw9, _, hL9, hs9, hn9, ha9, hc9⟩
                  obtain ⟨rfl, rfl⟩ := hj.rd.done hj.nw hrl
                  have hS9 := hsu.dstep hm.dk hs9
                  have HN9 : Hid (d9.n = 64) := hn9.trans hn
                  obtain ⟨pf, nf, cf, rfl, hnf⟩ := hL9.form
                  subst hnf
                  obtain ⟨B, hC0⟩ : ∃ B, Cmp2 w B w9 W9 R S v9 d9 L9 e9 st9 (.slice pf L9.length cf) (.slice ps L9.length cs) := ⟨_, hL9, hS9, lw9⟩
                  have hrow9 := lw9.row
                  clear hL9 hS9 lw9 hm hj hn hc ha hws hcalm hrow hsu hw0 hrl hs9 hn9 ha9 hc9 hBw
                  go_wp2_with (go_at_call 17; refine stop ?_)
                  refine (walLen_any w9 W9 R _ _ st9 hrow9).mono ?_
                  rintro en wq ⟨rfl, hwq⟩
                  obtain rfl := hwq.symm
                  clear hwq hrow9
                  go_wp2
                  go_loopw [138] (fun i wz => Cmp2 w B wz W9 R S v9 d9 L9 e9 st9 (.slice pf L9.length cf) (.slice ps L9.length cs) ∧ ∃ q : Nat, q ≤ L9.length ∧ i = .int .i64 q) (fun i _ => L9.length - (intOf i).toNat)
                  case atStart => exact ⟨hC0, 0, Nat.zero_le _, rfl⟩
                  case round =>
                    obtain ⟨hC7, q, hq, rfl⟩ := hrel
                    clear hC0
                    have q0 : (0 : Int) ≤ (q : Int) := by omega
                    by_cases hql : q < L9.length
                    · have qi : (q : Int) < (L9.length : Int) := by omega
                      obtain ⟨gb, cap2, y, hpy, hcu, hbu0⟩ := hC7.sure.at (i := q) hql
                      cases hpy
                      obtain ⟨g, cap, x, hpf, hcx, hbx⟩ := hC7.log.at (i := q) hql
                      cases hpf
                      have hbu := hbu0.later hC7.lw.mine.below
                      have HQ : Hid (q < L9.length) := hql
                      have HR := hC7.later (Below.refl _ wr).drew
                      clear hbu0 hql
                      generalize L9.getD q [] = l at *
                      obtain ⟨_, _, px, cx, rfl, _⟩ := id hbx
                      obtain ⟨_, _, py, cy, rfl, _⟩ := id hbu
                      clear hC7
                      go_wp2_with fail
                      refine wp_region_D (fun _ => true) (fun w' : World => (w'.cell? ⟨g, q, none⟩ = some (.slice px l.length cx) ∧ w'.cell? ⟨gb, q, none⟩ = some (.slice py l.length cy)) ∧ BytesAt w' (.slice px l.length cx) l ∧ BytesAt w' (.slice py l.length cy) l) (by kernel_rfl) ?_
                      have hS : (fun w' : World => (w'.cell? ⟨g, q, none⟩ = some (.slice px l.length cx) ∧ w'.cell? ⟨gb, q, none⟩ = some (.slice py l.length cy)) ∧ BytesAt w' (.slice px l.length cx) l ∧ BytesAt w' (.slice py l.length cy) l) wr.drew := ⟨⟨hcx, hcu⟩, hbx.later (Below.refl _ wr).drew, hbu.later (Below.refl _ wr).drew⟩
                      clear hcx hcu hbx hbu
                      refine' wpAnyD_take (i := 0) (v := _) rfl (by kernel_rfl) (by kernel_rfl) (by kernel_rfl) (by kernel_rfl) (fun _ _ _ h => h) (Or.inl ⟨by rfl, ?hy43⟩) hS ?re43
                      case hy43 => (intro w hSw; (try dsimp only at hSw); go_simp; (try with_reducible rfl))
                      simp only [Act.put, List.setIfInBounds_toArray, List.set_cons_zero, List.set_cons_succ]
                      refine' wpAnyD_take (i := 1) (v := _) rfl (by kernel_rfl) (by kernel_rfl) (by kernel_rfl) (by kernel_rfl) (fun _ _ _ h => h) (Or.inl ⟨by rfl, ?hy44⟩) hS ?re44
                      case hy44 => (intro w hSw; (try dsimp only at hSw); go_simp; (try with_reducible rfl))
                      simp only [Act.put, List.setIfInBounds_toArray, List.set_cons_zero, List.set_cons_succ]
                      refine' wpAnyD_take (i := 2) (v := _) rfl (by kernel_rfl) (by kernel_rfl) (by kernel_rfl) (by kernel_rfl) (fun _ _ _ h => h) (Or.inl ⟨by rfl, ?hy45⟩) hS ?re45
                      case hy45 => (intro w hSw; (try dsimp only at hSw); go_simp; (try with_reducible rfl))
                      simp only [Act.put, List.setIfInBounds_toArray, List.set_cons_zero, List.set_cons_succ]
                      refine' wpAnyD_take (i := 3) (v := _) rfl (by kernel_rfl) (by kernel_rfl) (by kernel_rfl) (by kernel_rfl) (fun _ _ _ h => h) (Or.inl ⟨by rfl, ?hy46⟩) hS ?re46
                      case hy46 => (intro w hSw; (try dsimp only at hSw); go_simp; (try with_reducible rfl))
                      simp only [Act.put, List.setIfInBounds_toArray, List.set_cons_zero, List.set_cons_succ]
                      refine wpAnyD_take (i := 4) rfl (by kernel_rfl) (by kernel_rfl) (by kernel_rfl) (by kernel_rfl) (fun _ _ _ h => h) (yields_conv (by rfl) _ rfl (.slice px l.length cx) rfl l (fun _ h => h.2.1)) hS ?_
                      simp only [Act.put, List.setIfInBounds_toArray, List.set_cons_zero, List.set_cons_succ]
                      refine' wpAnyD_take (i := 5) (v := _) rfl (by kernel_rfl) (by kernel_rfl) (by kernel_rfl) (by kernel_rfl) (fun _ _ _ h => h) (Or.inl ⟨by rfl, ?hy47⟩) hS ?re47
                      case hy47 => (intro w hSw; (try dsimp only at hSw); go_simp; (try with_reducible rfl))
                      simp only [Act.put, List.setIfInBounds_toArray, List.set_cons_zero, List.set_cons_succ]
                      refine' wpAnyD_take (i := 6) (v := _) rfl (by kernel_rfl) (by kernel_rfl) (by kernel_rfl) (by kernel_rfl) (fun _ _ _ h => h) (Or.inl ⟨by rfl, ?hy48⟩) hS ?re48
                      case hy48 => (intro w hSw; (try dsimp only at hSw); go_simp; (try with_reducible rfl))
                      simp only [Act.put, List.setIfInBounds_toArray, List.set_cons_zero, List.set_cons_succ]
                      refine' wpAnyD_take (i := 7) (v := _) rfl (by kernel_rfl) (by kernel_rfl) (by kernel_rfl) (by kernel_rfl) (fun _ _ _ h => h) (Or.inl ⟨by rfl, ?hy49⟩) hS ?re49
                      case hy49 => (intro w hSw; (try dsimp only at hSw); go_simp; (try with_reducible rfl))
                      simp only [Act.put, List.setIfInBounds_toArray, List.set_cons_zero, List.set_cons_succ]
                      refine' wpAnyD_take (i := 8) (v := _) rfl (by kernel_rfl) (by kernel_rfl) (by kernel_rfl) (by kernel_rfl) (fun _ _ _ h => h) (Or.inl ⟨by rfl, ?hy50⟩) hS ?re50
                      case hy50 => (intro w hSw; (try dsimp only at hSw); go_simp; (try with_reducible rfl))
                      simp only [Act.put, List.setIfInBounds_toArray, List.set_cons_zero, List.set_cons_succ]
                      refine wpAnyD_take (i := 9) rfl (by kernel_rfl) (by kernel_rfl) (by kernel_rfl) (by kernel_rfl) (fun _ _ _ h => h) (yields_conv (by rfl) _ rfl (.slice py l.length cy) rfl l (fun _ h => h.2.2)) hS ?_
                      simp only [Act.put, List.setIfInBounds_toArray, List.set_cons_zero, List.set_cons_succ]
                      refine' wpAnyD_take (i := 10) (v := _) rfl (by kernel_rfl) (by kernel_rfl) (by kernel_rfl) (by kernel_rfl) (fun _ _ _ h => h) (Or.inl ⟨by rfl, ?hy51⟩) hS ?re51
                      case hy51 => (intro w hSw; (try dsimp only at hSw); go_simp; (try with_reducible rfl))
                      simp only [Act.put, List.setIfInBounds_toArray, List.set_cons_zero, List.set_cons_succ]
                      refine wpAnyD_done (by kernel_rfl) ?_ _
                      clear hS
                      go_wp2
                      go_roundw
                      case rel => exact ⟨HR, q + 1, HQ.out, by go_num⟩
                      case measure => simp [intOf]; have := HQ.out; omega
                    · obtain rfl : q = L9.length := by omega
                      clear hql
                      have hrow7 := hC7.lw.row
                      have HLW : Hid (LogW w wr W9 R S v9 d9 L9 e9 st9) := hC7.lw
                      have ze : (0 : Int) ≤ (e9 : Int) := by omega
                      clear hC7
                      go_wp2_with (go_at_call 18; refine stop ?_)
                      refine (walEnd_any wr W9 R _ _ st9 hrow7).mono ?_
                      rintro en wq ⟨rfl, hwq⟩
                      obtain rfl := hwq.symm
                      clear hwq hrow7
                      go_wp2
                      go_loopw [22] (fun i wz => ∃ q : Nat, e9 ≤ q ∧ q ≤ 64 ∧ i = .int .i64 q ∧ Hid (LogW w wz W9 R S v9 d9 L9 e9 st9)) (fun i _ => 64 - (intOf i).toNat)
                      case atStart => exact ⟨e9, Nat.le_refl _, by have := HE60.out; omega, rfl, HLW⟩
                      case round =>
                        clear HLW
                        obtain ⟨q, hq1, hq, rfl, HLW⟩ := hrel
                        have q0 : (0 : Int) ≤ (q : Int) := by omega
                        by_cases hql : q < 64
                        · have qi : (q : Int) < 64 := by omega
                          have hz := HLW.out.lg.ze q hq1 (by rw [HN9.out]; exact hql)
                          have HQ : Hid (e9 ≤ q ∧ q < 64) := ⟨hq1, hql⟩
                          clear hq1 hq hql
                          go_wp2_with (go_at_call 21; refine stop ?_)
                          refine (read_any q wr R S v9 d9 HLW.out.mine.dk (by rw [HN9.out]; exact HQ.out.2)).mono ?_
                          rintro en w5 ⟨g, rfl, hg, hge, hb⟩
                          rw [hz] at hg
                          have HL5 : Hid (LogW w w5 W9 R S v9 d9 L9 e9 st9) := HLW.out.later hb
                          have hby : BytesAt w5 (.slice (some ⟨g, 0, none⟩) 64 64) (zs 64) := hg.bytes (zs_w8 64) (by rw [zs_len]; decide) 64 64 (by rw [zs_len])
                          clear hz HLW hg hge hb
                          go_wp2_with fail
                          refine wp_region_D (fun _ => true) (fun w' : World => BytesAt w' (.slice (some ⟨g, 0, none⟩) 64 64) (zs 64)) (by kernel_rfl) ?_
                          have hS : (fun w' : World => BytesAt w' (.slice (some ⟨g, 0, none⟩) 64 64) (zs 64)) w5.drew := hby.later (Below.refl _ w5).drew
                          have HLd : Hid (LogW w w5.drew W9 R S v9 d9 L9 e9 st9) := HL5.out.later (Below.refl _ w5).drew
                          clear hby HL5
                          generalize w5.drew = wd at *
                          refine' wpAnyD_take (i := 0) (v := _) rfl (by kernel_rfl) (by kernel_rfl) (by kernel_rfl) (by kernel_rfl) (fun _ _ _ h => h) (Or.inl ⟨by rfl, ?hy52⟩) hS ?re52
                          case hy52 => (intro w hSw; (try dsimp only at hSw); go_simp; (try with_reducible rfl))
                          simp only [Act.put, List.setIfInBounds_toArray, List.set_cons_zero, List.set_cons_succ]
                          refine wpAnyD_take (i := 1) rfl (by kernel_rfl) (by kernel_rfl) (by kernel_rfl) (by kernel_rfl) (fun _ _ _ h => h) (yields_conv (by rfl) _ rfl (.slice (some ⟨g, 0, none⟩) 64 64) rfl (zs 64) (fun _ h => h)) hS ?_
                          simp only [Act.put, List.setIfInBounds_toArray, List.set_cons_zero, List.set_cons_succ]
                          have hmk : (Instr.makeSlice 31 (.int .i64 64) (.int .i64 64)).run Try.prog wd = .ok (.slice (some ⟨wd.heap.size, 0, none⟩) 64 64) (wd.alloc (.cells (bytesL (zs 64)) 5)) := make_bytes 64 (by decide) wd
                          refine wpAnyD_only (i := 2) rfl (by kernel_rfl) (by rfl) (fun K hK => ?_)
                          go_simp
                          have hnb : BytesAt (wd.alloc (.cells (bytesL (zs 64)) 5)) (.slice (some ⟨wd.heap.size, 0, none⟩) 64 64) (zs 64) := (Row.new wd _ _ rfl).bytes (zs_w8 64) (by rw [zs_len]; decide) 64 64 (by rw [zs_len])
                          have hbz := below1 wd (.cells (bytesL (zs 64)) 5)
                          have HLz : Hid (LogW w (wd.alloc (.cells (bytesL (zs 64)) 5)) W9 R S v9 d9 L9 e9 st9) := HLd.out.later hbz
                          try dsimp only
                          have hSn := hS.later hbz
                          refine hK.out _ _ (fun _ => hSn) ?_
                          refine wpAnyD_more (S2 := (fun w' : World => BytesAt w' (.slice (some ⟨g, 0, none⟩) 64 64) (zs 64) ∧ BytesAt w' (.slice (some ⟨wd.heap.size, 0, none⟩) 64 64) (zs 64))) (fun _ h => h.1) _ _ _ _ ?_
                          clear hK K hS hmk
                          have hS : (fun w' : World => BytesAt w' (.slice (some ⟨g, 0, none⟩) 64 64) (zs 64) ∧ BytesAt w' (.slice (some ⟨wd.heap.size, 0, none⟩) 64 64) (zs 64)) _ := ⟨hSn, hnb⟩
                          clear hSn hnb hbz HLd
                          try simp only [Act.put, List.setIfInBounds_toArray, List.set_cons_zero, List.set_cons_succ]
                          refine wpAnyD_take (i := 3) rfl (by kernel_rfl) (by kernel_rfl) (by kernel_rfl) (by kernel_rfl) (fun _ _ _ h => h) (yields_conv (by rfl) _ rfl (.slice (some ⟨wd.heap.size, 0, none⟩) 64 64) rfl (zs 64) (fun _ h => h.2)) hS ?_
                          simp only [Act.put, List.setIfInBounds_toArray, List.set_cons_zero, List.set_cons_succ]
                          refine' wpAnyD_take (i := 4) (v := _) rfl (by kernel_rfl) (by kernel_rfl) (by kernel_rfl) (by kernel_rfl) (fun _ _ _ h => h) (Or.inl ⟨by rfl, ?hy53⟩) hS ?re53
                          case hy53 => (intro w hSw; (try dsimp only at hSw); go_simp; (try with_reducible rfl))
                          simp only [Act.put, List.setIfInBounds_toArray, List.set_cons_zero, List.set_cons_succ]
                          refine wpAnyD_done (by kernel_rfl) ?_ _
                          clear hS
                          go_wp2
                          go_roundw
                          case rel => exact ⟨q + 1, by have := HQ.out; omega, by have := HQ.out; omega, by go_num, HLz⟩
                          case measure => simp [intOf]; have := HQ.out; omega
                        · obtain rfl : q = 64 := by omega
                          have hbe := HLW.out.mine.below
                          go_wp2
                          go_ret
                          exact ⟨rfl, hbe⟩
    · have d1 : (20 : Int) < (D.length : Int) := by omega
      go_wp2
      go_ret
      exact ⟨rfl, hb1⟩
  · have l1 : (10 : Int) < (L.length : Int) := by omega
    go_wp2
    go_ret
    exact ⟨rfl, hb1⟩
end Go.Proofs.Ytfhaphbfbmpbiaa
