
/-
  WalFull: its walk. For every input.
-/
import Derived.Test.YtfhaphbfbmpbiaaWaJ
namespace Go.Proofs.Ytfhaphbfbmpbiaa
open Go.RowKit
set_option maxRecDepth 100000
set_option linter.unusedVariables false
set_option linter.unusedSimpArgs false

theorem LogW.setB {w0 w : World} {W R S g : Nat} {v x : Value} {d : Dk} {L : List (List Nat)} {e st : Nat} {cs : Array Value} (h : LogW w0 w W R S v d L e st) (hg : Row w g cs 5) (hge : w0.heap.size ≤ g) (i : Nat) : LogW w0 (w.setCell ⟨g, i, none⟩ x) W R S v d L e st := by
  have hm := h.mine
  have oth : ∀ k, k ≠ g → (w.setCell ⟨g, i, none⟩ x).heap[k]? = w.heap[k]? := fun k hk => heap_setCell_other w ⟨g, i, none⟩ k _ hk
  refine ⟨⟨hm.dk.keep (oth R (hm.dk.row.ne hg (by decide))) (oth S (hm.dk.sure.ne hg (by decide))) (fun k hk => oth k (fun e => ownN_ne hm.dk.own hg (by decide) (by rw [hk, e]))), ⟨hm.below.os, hm.below.tape, hm.below.output, by simpa [World.setCell] using hm.below.size, fun k hk => (oth k (by omega)).trans (hm.below.block k hk)⟩, hm.hR, hm.hS, hm.hv⟩, (oth W (h.row.ne hg (by decide))).trans h.row, h.hW, h.st, h.lg⟩
theorem AStep.rowB {w0 w w' : World} {W R S g : Nat} {v v' : Value} {d : Dk} {L : List (List Nat)} {e st : Nat} {cs : Array Value} (hs : AStep w w' W R S v v') (h : LogW w0 w W R S v d L e st) (hg : Row w g cs 5) : Row w' g cs 5 :=
  (hs.block g hg.lt (fun e => h.row.ne hg (by decide) e.symm) (fun e => h.mine.dk.row.ne hg (by decide) e.symm) (fun e => h.mine.dk.sure.ne hg (by decide) e.symm) (ownN_ne h.mine.dk.own hg (by decide))).trans hg
/-- What the law holds behind k records. -/
def FullR (w wr : World) (W R S g N : Nat) (l : List Nat) (k : Nat) : Prop :=
  ∃ v d st, k * secs l.length ≤ N ∧ LogW w wr W R S v d (List.replicate k l) (k * secs l.length) st ∧ d.n = N ∧ d.cnt = k * secs l.length ∧ d.armed = false ∧ Row wr g (bytesL l) 5
def FillR (w wr : World) (W R S g : Nat) (v : Value) (d : Dk) (st m : Nat) : Prop :=
  ∃ l : List Nat, l.length = m ∧ W8 l ∧ Row wr g (bytesL l) 5 ∧ LogW w wr W R S v d [] 0 st
set_option maxHeartbeats 2000000 in
theorem walFull_walk (x0 x1 : Int) (w : World) (h0 : -9223372036854775808 ≤ x0 ∧ x0 ≤ 9223372036854775807) (h1 : -9223372036854775808 ≤ x1 ∧ x1 ≤ 9223372036854775807) :
    Calls Try.prog 5 #[.int .i64 x0, .int .i64 x1] w fun e w' => e = .returned (.bool true) ∧ Below w.heap.size w w' := by
  obtain ⟨a, ha, ea⟩ := and_low x0 5 (by decide)
  obtain ⟨m, hm, em⟩ := and_low x1 8 (by decide)
  replace ea : bits .and .i64 x0 31 = (a : Int) := ea
  replace em : bits .and .i64 x1 255 = (m : Int) := em
  have ha2 : a < 32 := ha
  have hm2 : m < 256 := hm
  have a1 : (a : Int) < 32 := by omega
  have a0 : (0 : Int) ≤ (a : Int) := by omega
  have m1 : (m : Int) < 256 := by omega
  have m0 : (0 : Int) ≤ (m : Int) := by omega
  have HA : Hid (a < 32) := ha2
  have HM : Hid (m < 256) := hm2
  clear ha hm ha2 hm2 h0 h1
  go_enter Try.func5, Try.ntmps5
  go_wp2_with (go_at_call 10; refine stop ?_)
  refine (fit5_any w).mono ?_
  rintro e w1 ⟨rfl, hb1⟩
  go_wp2_with (go_at_call 11; refine stop ?_)
  have hN : ((a : Int) + 1) = ((a + 1 : Nat) : Int) := by omega
  rw [hN]
  refine (new_any (a + 1) (by omega) (by have := HA.out; omega) w1).mono ?_
  rintro e w2 ⟨R, S, rfl, hd, hb, hR, hS⟩
  have m2 := Mine.new hb1 hd hb hR hS
  clear hd hb hR hS hb1 hN
  go_wp2_with (go_at_call 12; refine stop ?_)
  refine (open_lg w w2 R S _ _ [] 0 m2 (Lg.new (a + 1)) rfl (by show (0 : Nat) < 1000000; decide)).mono ?_
  rintro e w3 ⟨W, u3, v3, st3, rfl, lw3, hW3, hL3, _⟩
  obtain ⟨pu, nu, cu, rfl, hnu⟩ := hL3.form
  have hnu0 : nu = 0 := hnu
  subst hnu0
  clear m2 hL3 hnu hW3
  have hmk := make_bytes m (by have := HM.out; omega) w3
  have lw4 := lw3.later (below1 w3 (.cells (bytesL (List.replicate m 0)) 5))
  have hr4 := Row.new w3 (bytesL (List.replicate m 0)) 5 rfl
  have hg4 : w.heap.size ≤ w3.heap.size := lw3.mine.below.size
  have hlen4 : (List.replicate m 0).length = m := by simp
  have hw84 : W8 (List.replicate m 0) := zs_w8 m
  clear lw3
  go_wp2
  have hF0 : FillR w (w3.alloc (.cells (bytesL (List.replicate m 0)) 5)) W R S w3.heap.size v3 (Dk.new (a + 1)) st3 m := ⟨_, hlen4, hw84, hr4, lw4⟩
  clear hlen4 hw84 hr4 lw4 hmk
  generalize w3.alloc (.cells (bytesL (List.replicate m 0)) 5) = w4 at *
  generalize w3.heap.size = g at *
  go_loopw [37] (fun i wr => ∃ k : Nat, k ≤ m ∧ i = .int .i64 k ∧ FillR w wr W R S g v3 (Dk.new (a + 1)) st3 m) (fun i _ => m - (intOf i).toNat)
  case atStart => exact ⟨0, Nat.zero_le _, rfl, hF0⟩
  case round =>
    obtain ⟨k, hk, rfl, l, hlen, hw8, hr, lw⟩ := hrel
    clear hF0
    by_cases hlt : k < m
    · have k1 : (k : Int) < (m : Int) := by omega
      have k0 : (0 : Int) ≤ (k : Int) := by omega
      obtain ⟨z, hz⟩ : ∃ z : Nat, z = (k + 1) % 256 := ⟨_, rfl⟩
      have hzz : IntKind.u8.wrap ((k : Int) + 1) = (z : Int) := by rw [IntKind.wrap_u8]; omega
      have hc := hr.cell k
      rw [bytesL_at l k (by omega)] at hc
      have hf := hr.frozen k
      have hz2 : z < 256 := by omega
      have HR : FillR w (wr.setCell ⟨g, k, none⟩ (.int .u8 (z : Nat))) W R S g v3 (Dk.new (a + 1)) st3 m := by
        refine ⟨l.set k z, by rw [List.length_set]; exact hlen, hw8.set k hz2, ?_, lw.setB hr hg4 k⟩
        rw [← bytesL_set]
        exact hr.set k _
      clear hr lw hw8 hlen hz hz2
      go_wp2
      go_roundw
      case rel => exact ⟨k + 1, by omega, by go_num, HR⟩
      case measure => simp [intOf]; omega
    · obtain rfl : k = m := by omega
      have hb := hr.bytes hw8 (by rw [hlen]; have := HM.out; unfold maxLen; omega) k k hlen.symm
      have hR0 : FullR w wr W R S g (a + 1) l 0 := ⟨v3, _, st3, by omega, by rw [Nat.zero_mul]; exact lw, rfl, by rw [Nat.zero_mul]; rfl, rfl, hr⟩
      have HL : Hid (l.length = k) := hlen
      have H8 := (show Hid _ from hw8)
      clear hr lw hw8 hlen hb
      go_wp2
      go_loopw [11] (fun i wr => ∃ q : Nat, i = .int .i64 q ∧ FullR w wr W R S g (a + 1) l q) (fun i _ => a + 1 - (intOf i).toNat)
      case atStart => exact ⟨0, rfl, hR0⟩
      case round =>
        obtain ⟨q, rfl, v5, d5, st5, hq, lw5, hn5, hc5, ha5, hr5⟩ := hrel
        clear hR0
        have hsp := secs_pos l.length
        have hll : l.length ≤ 4096 := by have := HL.out; have := HM.out; omega
        have hb5 : BytesAt wr (.slice (some ⟨g, 0, none⟩) k k) l := hr5.bytes H8.out (by rw [HL.out]; have := HM.out; unfold maxLen; omega) k k HL.out.symm
        have hqa : q ≤ a + 1 := Nat.le_trans (Nat.le_mul_of_pos_right q hsp) hq
        have HQA := (show Hid _ from hqa)
        have q1 : (q : Int) ≤ 32 := by have := HA.out; omega
        have HLW := (show Hid _ from lw5)
        have HLL := (show Hid _ from hll)
        by_cases room : q * secs l.length + secs l.length ≤ a + 1
        · have hq2 : q + 1 ≤ a + 1 := by
            have : (q + 1) * secs l.length ≤ a + 1 := by rw [Nat.succ_mul]; exact room
            exact Nat.le_trans (Nat.le_mul_of_pos_right (q + 1) hsp) this
          have q2 : ¬ ((a : Int) + 1 < (q : Int) + 1) := by omega
          have q3 : decide ((a : Int) + 1 < (q : Int) + 1) = false := by simp; omega
          have HQ2 := (show Hid _ from hq2)
          have HRM := (show Hid _ from room)
          have HC5 := (show Hid _ from hc5)
          have HN5 := (show Hid _ from hn5)
          clear room hq2 hq hqa hc5 hn5 hll lw5
          go_wp2_with (go_at_call 13; refine stop ?_)
          refine (append_lg w wr W R S v5 _ d5 _ _ st5 l HLW.out hb5 HLL.out (by rw [HN5.out]; exact HRM.out) ha5 (by rw [HC5.out]; have := HRM.out; have := HA.out; omega)).mono ?_
          rintro e w6 ⟨v6, d6, st6, rfl, lw6, hA6, hn6, hc6, ha6⟩
          have HR : FullR w w6 W R S g (a + 1) l (q + 1) := by
            refine ⟨v6, d6, st6, by rw [Nat.succ_mul]; exact HRM.out, ?_, hn6.trans HN5.out, by rw [hc6, HC5.out, Nat.succ_mul], ha6, hA6.rowB HLW.out hr5⟩
            rw [Nat.succ_mul, List.replicate_succ']
            exact lw6
          clear lw6 hA6 hn6 hc6 ha6 hb5 hr5 HLW ha5
          go_wp2
          go_roundw
          case rel => exact ⟨q + 1, by go_num, HR⟩
          case measure => simp [intOf]; have := HQ2.out; omega
        · have HRM := (show Hid _ from room)
          have HC5 := (show Hid _ from hc5)
          have HN5 := (show Hid _ from hn5)
          have HQ := (show Hid _ from hq)
          clear room hqa hc5 hn5 hq
          go_wp2_with (go_at_call 13; refine stop ?_)
          refine (append_full wr W R S v5 _ d5 _ _ st5 l lw5.mine.dk lw5.row (by rw [HN5.out]; exact HQ.out) hb5 HLL.out (by rw [HN5.out]; exact Nat.lt_of_not_le HRM.out)).mono ?_
          rintro e w6 ⟨rfl, hb6⟩
          have lw6 := lw5.later hb6
          have hr6 := hr5.later hb6
          clear lw5 HLW hb5 hr5 hb6 hll
          go_wp2_with (go_at_call 22; refine stop ?_)
          refine (writes_any w6 R S v5 d5 lw6.mine.dk).mono ?_
          rintro e w7 ⟨rfl, hw7⟩
          obtain rfl := hw7.symm
          clear hw7
          go_wp2_with fail
          refine wp_region_D (fun _ => true) (fun _ => True) (by kernel_rfl) ?_
          have hS : (fun _ : World => True) w6.drew := trivial
          have lwd : LogW w w6.drew W R S v5 d5 (List.replicate q l) (q * secs l.length) st5 := lw6.later (Below.refl _ w6).drew
          have hrd : Row w6.drew g (bytesL l) 5 := hr6.drew
          clear lw6 hr6
          generalize w6.drew = d at *
          refine' wpAnyD_take (i := 0) (v := _) rfl (by kernel_rfl) (by kernel_rfl) (by kernel_rfl) (by kernel_rfl) (fun _ _ _ h => h) (Or.inl ⟨by rfl, ?hy1⟩) hS ?re1
          case hy1 => (intro w hSw; (try dsimp only at hSw); go_simp; (try with_reducible rfl))
          simp only [Act.put, List.setIfInBounds_toArray, List.set_cons_zero, List.set_cons_succ]
          refine' wpAnyD_take (i := 1) (v := _) rfl (by kernel_rfl) (by kernel_rfl) (by kernel_rfl) (by kernel_rfl) (fun _ _ _ h => h) (Or.inl ⟨by rfl, ?hy2⟩) hS ?re2
          case hy2 => (intro w hSw; (try dsimp only at hSw); go_simp; (try with_reducible rfl))
          simp only [Act.put, List.setIfInBounds_toArray, List.set_cons_zero, List.set_cons_succ]
          refine' wpAnyD_take (i := 3) (v := _) rfl (by kernel_rfl) (by kernel_rfl) (by kernel_rfl) (by kernel_rfl) (fun _ _ _ h => h) (Or.inl ⟨by rfl, ?hy3⟩) hS ?re3
          case hy3 => (intro w hSw; (try dsimp only at hSw); go_simp; (try with_reducible rfl))
          simp only [Act.put, List.setIfInBounds_toArray, List.set_cons_zero, List.set_cons_succ]
          refine wpAnyD_all (rs := [2, 4]) (by kernel_rfl) (by simp) ?_
          refine AllD.cons (i := 2) rfl (by rfl) (fun K hK => ?_) ?_
          · go_simp
            refine (append_full d W R S v5 _ d5 _ _ st5 l lwd.mine.dk lwd.row (by rw [HN5.out]; exact HQ.out) (hrd.bytes H8.out (by rw [HL.out]; have := HM.out; unfold maxLen; omega) k k HL.out.symm) HLL.out (by rw [HN5.out]; exact Nat.lt_of_not_le HRM.out)).mono ?_
            rintro e a7 ⟨rfl, hq⟩
            have lwa7 := lwd.later hq
            have hra7 := hrd.later hq
            try have hma7 := hmd.later hq
            clear hq
            try dsimp only
            have hSn := trivial
            refine hK.out _ _ (fun _ => hSn) ?_
            clear hK K hS
            have hS := hSn
            clear hSn
            try simp only [Act.put, List.setIfInBounds_toArray, List.set_cons_zero, List.set_cons_succ]
            refine wpAnyD_only (i := 4) rfl (by kernel_rfl) (by rfl) (fun K hK => ?_)
            go_simp
            have hmk : (Instr.makeSlice 31 (.int .i64 4097) (.int .i64 4097)).run Try.prog a7 = .ok (.slice (some ⟨(a7 : World).heap.size, 0, none⟩) 4097 4097) ((a7 : World).alloc (.cells (bytesL (zs 4097)) 5)) := make_bytes 4097 (by decide) a7
            rw [hmk]
            go_simp
            have hma8 := Row.new a7 (bytesL (zs 4097)) 5 rfl
            have hq := below1 a7 (.cells (bytesL (zs 4097)) 5)
            have lwa8 := lwa7.later hq
            have hra8 := hra7.later hq
            clear hmk hq
            try dsimp only
            have hSn := trivial
            refine hK.out _ _ (fun _ => hSn) ?_
            clear hK K hS
            have hS := hSn
            clear hSn
            try simp only [Act.put, List.setIfInBounds_toArray, List.set_cons_zero, List.set_cons_succ]
            generalize hG : (a7 : World).heap.size = G at *
            clear hG
            generalize (a7 : World).alloc (.cells (bytesL (zs 4097)) 5) = a8 at *
            refine wpAnyD_only (i := 5) rfl (by kernel_rfl) (by rfl) (fun K hK => ?_)
            go_simp
            refine (append_long a8 W _ (zs 4097) (hma8.bytes (zs_w8 _) (by rw [zs_len]; unfold maxLen; omega) 4097 4097 (zs_len _).symm) (by rw [zs_len]; omega) (by rw [zs_len]; omega)).mono ?_
            rintro e wz ⟨rfl, hwz⟩
            obtain rfl := hwz.symm
            clear hwz hma8
            try dsimp only
            have hSn := trivial
            refine hK.out _ _ (fun _ => hSn) ?_
            clear hK K hS
            have hS := hSn
            clear hSn
            try simp only [Act.put, List.setIfInBounds_toArray, List.set_cons_zero, List.set_cons_succ]
            refine' wpAnyD_take (i := 6) (v := _) rfl (by kernel_rfl) (by kernel_rfl) (by kernel_rfl) (by kernel_rfl) (fun _ _ _ h => h) (Or.inl ⟨by rfl, ?hy4⟩) hS ?re4
            case hy4 => (intro w hSw; (try dsimp only at hSw); go_simp; (try with_reducible rfl))
            simp only [Act.put, List.setIfInBounds_toArray, List.set_cons_zero, List.set_cons_succ]
            refine' wpAnyD_take (i := 7) (v := _) rfl (by kernel_rfl) (by kernel_rfl) (by kernel_rfl) (by kernel_rfl) (fun _ _ _ h => h) (Or.inl ⟨by rfl, ?hy5⟩) hS ?re5
            case hy5 => (intro w hSw; (try dsimp only at hSw); go_simp; (try with_reducible rfl))
            simp only [Act.put, List.setIfInBounds_toArray, List.set_cons_zero, List.set_cons_succ]
            refine wpAnyD_done (by kernel_rfl) ?_ _
            clear hS
            go_wp2_with (go_at_call 12; refine stop ?_)
            refine (open_lg w a8 R S v5 d5 _ _ lwa8.mine lwa8.lg ha5 (by rw [HC5.out]; have := HQ.out; have := HA.out; omega)).mono ?_
            rintro e wf ⟨Wf, uf, vf, stf, rfl, lwf, _, hLf, hsf⟩
            have hrf : Row wf g (bytesL l) 5 := (AStep.of hsf).rowB lwa8 hra8
            have hWf : Row wf W (walV R (List.replicate q l).length (q * secs l.length) st5) 75 := (hsf.block W lwa8.row.lt (lwa8.row.ne lwa8.mine.dk.row (by decide)) (lwa8.row.ne lwa8.mine.dk.sure (by decide)) (ownN_ne lwa8.mine.dk.own lwa8.row (by decide))).trans lwa8.row
            obtain ⟨pf, nf, cf, rfl, hnf⟩ := hLf.form
            rw [List.length_replicate] at hnf
            subst hnf
            have hbf := hrf.bytes H8.out (by rw [HL.out]; have := HM.out; unfold maxLen; omega) k k HL.out.symm
            have hBf := lwf.mine.below
            have hDf := lwf.mine.dk
            clear hLf lwf hsf lwa8 hra8 hrf
            have hsl := secs_le l.length HLL.out
            obtain ⟨E, hE⟩ : ∃ E, E = nf * secs l.length := ⟨_, rfl⟩
            have hmul : (nf : Int) * (secs l.length : Int) = (E : Int) := by rw [hE, Int.natCast_mul]
            have hdn : (a + 1) / secs l.length = nf := Nat.div_eq_of_lt_le HQ.out (by rw [Nat.succ_mul]; exact Nat.lt_of_not_le HRM.out)
            have hdiv : ((a : Int) + 1) / (secs l.length : Int) = (nf : Int) := by
              rw [← hdn, Int.natCast_ediv]
              rfl
            have hdivt : ((a : Int) + 1).tdiv (secs l.length : Int) = (nf : Int) := by rw [Int.tdiv_eq_ediv_of_nonneg (by omega)]; exact hdiv
            have E1 : (E : Int) ≤ 32 := by have := HQ.out; have := HA.out; omega
            have HCE : Hid (d5.cnt = E) := by rw [hE]; exact HC5.out
            rw [← hE] at hWf
            have s1 : (1 : Int) ≤ (secs l.length : Int) := by omega
            have s2 : (secs l.length : Int) ≤ 74 := by omega
            have s3 : ¬ (secs l.length : Int) = 0 := by omega
            have HLB : Hid (l.length ≤ 1048576) := Nat.le_trans HLL.out (by decide)
            have hcnt := hDf.ok.cl
            have HSZ : ∀ x, x = wf → Calls Try.prog 14 #[.slice (some ⟨g, 0, none⟩) k k] x fun e w' => e = .returned (.int .i64 (secs l.length : Nat)) ∧ w' = x := fun x hx => by subst hx; exact size_any _ l _ hbf HLB.out
            have HSZ2 := (show Hid _ from HSZ)
            clear HSZ hE hdn hsl hsp hbf hcnt HRM HQ HC5 HQA
            generalize secs l.length = sq at *
            go_wp2_with (go_at_call 14; refine stop ?_)
            refine (HSZ2.out wf rfl).mono ?_
            rintro e wz ⟨rfl, hwz⟩
            obtain rfl := hwz.symm
            clear hwz
            go_wp2_with (go_at_call 18; refine stop ?_)
            refine (walEnd_any wf W R _ E st5 hWf).mono ?_
            rintro e wz ⟨rfl, hwz⟩
            obtain rfl := hwz.symm
            clear hwz
            go_wp2_with (go_at_call 14; refine stop ?_)
            refine (HSZ2.out wf rfl).mono ?_
            rintro e wz ⟨rfl, hwz⟩
            obtain rfl := hwz.symm
            clear hwz
            go_wp2_with (go_at_call 22; refine stop ?_)
            refine (writes_any wf R S _ d5 hDf).mono ?_
            rintro e wz ⟨rfl, hwz⟩
            obtain rfl := hwz.symm
            clear hwz
            go_wp2
            go_ret
            exact ⟨rfl, hBf⟩
          · refine AllD.cons (i := 4) rfl (by rfl) (fun K hK => ?_) AllD.nil
            go_simp
            have hmk : (Instr.makeSlice 31 (.int .i64 4097) (.int .i64 4097)).run Try.prog d = .ok (.slice (some ⟨(d : World).heap.size, 0, none⟩) 4097 4097) ((d : World).alloc (.cells (bytesL (zs 4097)) 5)) := make_bytes 4097 (by decide) d
            rw [hmk]
            go_simp
            have hma7 := Row.new d (bytesL (zs 4097)) 5 rfl
            have hq := below1 d (.cells (bytesL (zs 4097)) 5)
            have lwa7 := lwd.later hq
            have hra7 := hrd.later hq
            clear hmk hq
            try dsimp only
            have hSn := trivial
            refine hK.out _ _ (fun _ => hSn) ?_
            clear hK K hS
            have hS := hSn
            clear hSn
            try simp only [Act.put, List.setIfInBounds_toArray, List.set_cons_zero, List.set_cons_succ]
            generalize hG : (d : World).heap.size = G at *
            clear hG
            generalize (d : World).alloc (.cells (bytesL (zs 4097)) 5) = a7 at *
            refine wpAnyD_only (i := 2) rfl (by kernel_rfl) (by rfl) (fun K hK => ?_)
            go_simp
            refine (append_full a7 W R S v5 _ d5 _ _ st5 l lwa7.mine.dk lwa7.row (by rw [HN5.out]; exact HQ.out) (hra7.bytes H8.out (by rw [HL.out]; have := HM.out; unfold maxLen; omega) k k HL.out.symm) HLL.out (by rw [HN5.out]; exact Nat.lt_of_not_le HRM.out)).mono ?_
            rintro e a8 ⟨rfl, hq⟩
            have lwa8 := lwa7.later hq
            have hra8 := hra7.later hq
            try have hma8 := hma7.later hq
            clear hq
            try dsimp only
            have hSn := trivial
            refine hK.out _ _ (fun _ => hSn) ?_
            clear hK K hS
            have hS := hSn
            clear hSn
            try simp only [Act.put, List.setIfInBounds_toArray, List.set_cons_zero, List.set_cons_succ]
            refine wpAnyD_only (i := 5) rfl (by kernel_rfl) (by rfl) (fun K hK => ?_)
            go_simp
            refine (append_long a8 W _ (zs 4097) (hma8.bytes (zs_w8 _) (by rw [zs_len]; unfold maxLen; omega) 4097 4097 (zs_len _).symm) (by rw [zs_len]; omega) (by rw [zs_len]; omega)).mono ?_
            rintro e wz ⟨rfl, hwz⟩
            obtain rfl := hwz.symm
            clear hwz hma8
            try dsimp only
            have hSn := trivial
            refine hK.out _ _ (fun _ => hSn) ?_
            clear hK K hS
            have hS := hSn
            clear hSn
            try simp only [Act.put, List.setIfInBounds_toArray, List.set_cons_zero, List.set_cons_succ]
            refine' wpAnyD_take (i := 6) (v := _) rfl (by kernel_rfl) (by kernel_rfl) (by kernel_rfl) (by kernel_rfl) (fun _ _ _ h => h) (Or.inl ⟨by rfl, ?hy6⟩) hS ?re6
            case hy6 => (intro w hSw; (try dsimp only at hSw); go_simp; (try with_reducible rfl))
            simp only [Act.put, List.setIfInBounds_toArray, List.set_cons_zero, List.set_cons_succ]
            refine' wpAnyD_take (i := 7) (v := _) rfl (by kernel_rfl) (by kernel_rfl) (by kernel_rfl) (by kernel_rfl) (fun _ _ _ h => h) (Or.inl ⟨by rfl, ?hy7⟩) hS ?re7
            case hy7 => (intro w hSw; (try dsimp only at hSw); go_simp; (try with_reducible rfl))
            simp only [Act.put, List.setIfInBounds_toArray, List.set_cons_zero, List.set_cons_succ]
            refine wpAnyD_done (by kernel_rfl) ?_ _
            clear hS
            go_wp2_with (go_at_call 12; refine stop ?_)
            refine (open_lg w a8 R S v5 d5 _ _ lwa8.mine lwa8.lg ha5 (by rw [HC5.out]; have := HQ.out; have := HA.out; omega)).mono ?_
            rintro e wf ⟨Wf, uf, vf, stf, rfl, lwf, _, hLf, hsf⟩
            have hrf : Row wf g (bytesL l) 5 := (AStep.of hsf).rowB lwa8 hra8
            have hWf : Row wf W (walV R (List.replicate q l).length (q * secs l.length) st5) 75 := (hsf.block W lwa8.row.lt (lwa8.row.ne lwa8.mine.dk.row (by decide)) (lwa8.row.ne lwa8.mine.dk.sure (by decide)) (ownN_ne lwa8.mine.dk.own lwa8.row (by decide))).trans lwa8.row
            obtain ⟨pf, nf, cf, rfl, hnf⟩ := hLf.form
            rw [List.length_replicate] at hnf
            subst hnf
            have hbf := hrf.bytes H8.out (by rw [HL.out]; have := HM.out; unfold maxLen; omega) k k HL.out.symm
            have hBf := lwf.mine.below
            have hDf := lwf.mine.dk
            clear hLf lwf hsf lwa8 hra8 hrf
            have hsl := secs_le l.length HLL.out
            obtain ⟨E, hE⟩ : ∃ E, E = nf * secs l.length := ⟨_, rfl⟩
            have hmul : (nf : Int) * (secs l.length : Int) = (E : Int) := by rw [hE, Int.natCast_mul]
            have hdn : (a + 1) / secs l.length = nf := Nat.div_eq_of_lt_le HQ.out (by rw [Nat.succ_mul]; exact Nat.lt_of_not_le HRM.out)
            have hdiv : ((a : Int) + 1) / (secs l.length : Int) = (nf : Int) := by
              rw [← hdn, Int.natCast_ediv]
              rfl
            have hdivt : ((a : Int) + 1).tdiv (secs l.length : Int) = (nf : Int) := by rw [Int.tdiv_eq_ediv_of_nonneg (by omega)]; exact hdiv
            have E1 : (E : Int) ≤ 32 := by have := HQ.out; have := HA.out; omega
            have HCE : Hid (d5.cnt = E) := by rw [hE]; exact HC5.out
            rw [← hE] at hWf
            have s1 : (1 : Int) ≤ (secs l.length : Int) := by omega
            have s2 : (secs l.length : Int) ≤ 74 := by omega
            have s3 : ¬ (secs l.length : Int) = 0 := by omega
            have HLB : Hid (l.length ≤ 1048576) := Nat.le_trans HLL.out (by decide)
            have hcnt := hDf.ok.cl
            have HSZ : ∀ x, x = wf → Calls Try.prog 14 #[.slice (some ⟨g, 0, none⟩) k k] x fun e w' => e = .returned (.int .i64 (secs l.length : Nat)) ∧ w' = x := fun x hx => by subst hx; exact size_any _ l _ hbf HLB.out
            have HSZ2 := (show Hid _ from HSZ)
            clear HSZ hE hdn hsl hsp hbf hcnt HRM HQ HC5 HQA
            generalize secs l.length = sq at *
            go_wp2_with (go_at_call 14; refine stop ?_)
            refine (HSZ2.out wf rfl).mono ?_
            rintro e wz ⟨rfl, hwz⟩
            obtain rfl := hwz.symm
            clear hwz
            go_wp2_with (go_at_call 18; refine stop ?_)
            refine (walEnd_any wf W R _ E st5 hWf).mono ?_
            rintro e wz ⟨rfl, hwz⟩
            obtain rfl := hwz.symm
            clear hwz
            go_wp2_with (go_at_call 14; refine stop ?_)
            refine (HSZ2.out wf rfl).mono ?_
            rintro e wz ⟨rfl, hwz⟩
            obtain rfl := hwz.symm
            clear hwz
            go_wp2_with (go_at_call 22; refine stop ?_)
            refine (writes_any wf R S _ d5 hDf).mono ?_
            rintro e wz ⟨rfl, hwz⟩
            obtain rfl := hwz.symm
            clear hwz
            go_wp2
            go_ret
            exact ⟨rfl, hBf⟩
end Go.Proofs.Ytfhaphbfbmpbiaa
