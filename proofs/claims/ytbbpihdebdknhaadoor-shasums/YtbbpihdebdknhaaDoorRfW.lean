/-
  Walks of the reference's small functions: turn, mul, above.
-/
import Derived.Test.YtbbpihdebdknhaaDoorShE
import Derived.Test.YtbbpihdebdknhaaDoorRfM
namespace Go.Proofs.YtbbpihdebdknhaaDoor
open Go.RowKit

theorem rturn_i (x : Nat) (m : Int) (h1 : 1 ≤ m) (h2 : m ≤ 31) (hx : x < 4294967296) (w : World) :
    Calls Tryd.prog 17 #[.int .u32 x, .int .u64 m] w fun e w' => e = .returned (.int .u32 (rotr x m.toNat : Nat)) ∧ w' = w := by
  obtain ⟨n, rfl⟩ := Int.eq_ofNat_of_zero_le (show 0 ≤ m by omega)
  have g1 : (1 : Int) ≤ (n : Int) := h1
  have g2 : (n : Int) ≤ 31 := h2
  go_enter Tryd.func17, Tryd.ntmps17
  go_wp2
  go_ret
  refine ⟨ret_int ?_, rfl⟩
  rw [Int.toNat_natCast, ← rot_num x n hx]
  have e0 : (x : Int) * 2 ^ (32 - n) % 4294967296 = ((x * 2 ^ (32 - n) % 4294967296 : Nat) : Int) := by rw [Int.natCast_emod, Int.natCast_mul, Int.natCast_pow]; rfl
  have e2 : (x : Int) / 2 ^ n = ((x / 2 ^ n : Nat) : Int) := by rw [Int.natCast_ediv, Int.natCast_pow]; rfl
  rw [e0, e2, u32_or_nat _ _ (div_lt hx) (Nat.mod_lt _ (by decide)), u32_or_nat _ _ (Nat.mod_lt _ (by decide)) (div_lt hx), Nat.or_comm]

theorem inF_len (a : List Nat) (m k : Nat) (o : List Nat) : ∀ i, (inF a m k o i).1.length = o.length
  | 0 => rfl
  | i + 1 => by rw [inF, List.length_set]; exact inF_len a m k o i
theorem prod_le {x y : Nat} (hx : x < 4294967296) (hy : y < 4294967296) : x * y ≤ 18446744065119617025 := by
  have := Nat.mul_le_mul (show x ≤ 4294967295 by omega) (show y ≤ 4294967295 by omega)
  omega
theorem inF_ok {a : List Nat} {m k : Nat} {o : List Nat} (ha : W32 a) (hm : m < 4294967296) (ho : W32 o) : ∀ i, W32 (inF a m k o i).1 ∧ (inF a m k o i).2 < 4294967296
  | 0 => ⟨ho, by simp [inF]⟩
  | i + 1 => by
    obtain ⟨h1, h2⟩ := inF_ok ha hm ho i
    have h3 := prod_le (ha.at i) hm
    have h4 := h1.at (i + k)
    refine ⟨by rw [inF]; exact h1.set _ (Nat.mod_lt _ (by decide)), ?_⟩
    rw [inF]
    dsimp only
    omega
theorem mulP_len (a : List Nat) (y : Nat) : ∀ k, (mulP a y k).length = 4
  | 0 => rfl
  | k + 1 => by rw [mulP, inF_len]; exact mulP_len a y k
theorem mulP_ok {a : List Nat} {y : Nat} (ha : W32 a) : ∀ k, W32 (mulP a y k)
  | 0 => show W32 [0, 0, 0, 0] by unfold W32; decide
  | k + 1 => (inF_ok ha (Nat.mod_lt _ (by decide)) (mulP_ok ha k) _).1

theorem zeros4 : (#[.int .u32 0, .int .u32 0, .int .u32 0, .int .u32 0] : Array Value) = wordsL [0, 0, 0, 0] := by kernel_rfl
theorem info4 : (Tryd.prog.info? 63).map (·.size) = some 4 := by kernel_rfl

theorem val_u64 {a b : Int} (h : a = b) : Value.int .u64 a = .int .u64 b := by rw [h]
structure MuR (w wr : World) (a l : List Nat) : Prop where
  ar : Row wr w.heap.size (wordsL a) 63
  rr : Row wr (w.heap.size + 1) (wordsL [0, 0, 0, 0]) 63
  lr : Row wr (w.heap.size + 1 + 1) (wordsL l) 63
  bel : Below w.heap.size w wr
theorem MuR.set {w wr : World} {a l : List Nat} (h : MuR w wr a l) (i x : Nat) : MuR w (wr.setCell ⟨w.heap.size + 1 + 1, i, none⟩ (.int .u32 (x : Nat))) a (l.set i x) :=
  ⟨h.ar.setOther _ (by simp; omega), h.rr.setOther _ (by simp), by rw [← wordsL_set]; exact h.lr.set _ _, h.bel.setCell (by simp; omega) _⟩
theorem MuR.drewN {w wr : World} {a l : List Nat} (h : MuR w wr a l) (n : Nat) : MuR w (wr.drewN n) a l := ⟨h.ar, h.rr, h.lr, below_drewN h.bel n⟩

set_option maxHeartbeats 1000000 in
set_option maxRecDepth 100000 in
theorem mul_any (a : List Nat) (y : Nat) (w : World) (hl : a.length = 4) (ha : W32 a) (hy : y < 18446744073709551616) :
    Calls Tryd.prog 26 #[.agg (wordsL a), .int .u64 y] w fun e w' => e = .returned (.agg (wordsL (mulF a y))) ∧ Below w.heap.size w w' := by
  have y0 : (0 : Int) ≤ (y : Int) := by omega
  go_enter Tryd.func26, Tryd.ntmps26
  go_wp2
  rw [zeros4]
  go_loopw [6, 7, 8, 9, 10] (fun k _ _ _ _ wr => ∃ kk : Nat, kk ≤ 2 ∧ k = .int .i64 kk ∧ MuR w wr a (mulP a y kk)) (fun k _ _ _ _ _ => 2 - (intOf k).toNat)
  case atStart => exact ⟨0, by omega, rfl, ((Row.new _ _ _ rfl).alloc _).alloc _, (Row.new _ _ _ (by simp)).alloc _, Row.new _ _ _ (by simp), below3 _ _ _ _⟩
  case round =>
    obtain ⟨k, hk, rfl, hr⟩ := hrel
    have hpl := mulP_len a y k
    have hpo := mulP_ok (y := y) ha k
    by_cases hlt : k < 2
    · have HP : Hid (mulP a y (k + 1) = (inF a (mK y k) k (mulP a y k) (4 - k)).1) := show _ = _ from rfl
      have hm : mK y k < 4294967296 := Nat.mod_lt _ (by decide)
      have HR : Hid (MuR w wr a (mulP a y k)) := hr
      clear hr
      generalize mulP a y k = o at *
      have g0 : (0 : Int) ≤ (k : Int) := by omega
      have g1 : (k : Int) < 2 := by omega
      have e1 : bits .and .u64 ((y : Int) / 2 ^ (32 * k)) 4294967295 = (mK y k : Nat) := by
        have h := u64_and_nat (y / 2 ^ (32 * k)) 4294967295 (Nat.lt_of_le_of_lt (Nat.div_le_self _ _) hy) (by decide)
        rw [show (4294967295 : Nat) = 2 ^ 32 - 1 from rfl, Nat.and_two_pow_sub_one_eq_mod] at h
        rw [Int.natCast_ediv, Int.natCast_pow] at h
        exact h
      go_wp2
      clear e1
      generalize mK y k = mm at *
      go_loopw [9, 8, 10] (fun i c _ wr => ∃ j : Nat, j ≤ 4 - k ∧ i = .int .i64 j ∧ c = .int .u64 ((inF a mm k o j).2 : Nat) ∧ MuR w wr a (inF a mm k o j).1) (fun i _ _ _ => 4 - k - (intOf i).toNat)
      case atStart => exact ⟨0, by omega, rfl, rfl, HR.out⟩
      case round =>
        clear HR
        obtain ⟨j, hj, rfl, rfl, hr⟩ := hrel
        obtain ⟨ho1, ho2⟩ := inF_ok (k := k) ha hm hpo j
        have hil := inF_len a mm k o j
        by_cases hjl : j < 4 - k
        · have c0 := (hr.ar.cell j).trans (wordsL_at _ j (by omega))
          have c1 := (hr.lr.cell (j + k)).trans (wordsL_at _ (j + k) (by omega))
          have f1 := hr.lr.frozen (j + k)
          have b0 := ha.at j
          have b1 := ho1.at (j + k)
          have hpr := prod_le b0 hm
          have HX : Hid (inF a mm k o (j + 1) = ((inF a mm k o j).1.set (j + k) ((a.getD j 0 * mm + (inF a mm k o j).1.getD (j + k) 0 + (inF a mm k o j).2) % 4294967296), (a.getD j 0 * mm + (inF a mm k o j).1.getD (j + k) 0 + (inF a mm k o j).2) / 4294967296)) := show _ = _ from rfl
          have HR : Hid (MuR w wr a (inF a mm k o j).1) := hr
          clear hr
          generalize (inF a mm k o j).2 = cc at *
          generalize (inF a mm k o j).1 = oo at *
          generalize a.getD j 0 = aj at *
          generalize oo.getD (j + k) 0 = oj at *
          have j0 : (0 : Int) ≤ (j : Int) := by omega
          have j1 : (j : Int) + (k : Int) < 4 := by omega
          have j2 : (j : Int) < 4 := by omega
          have q0 : (0 : Int) ≤ (aj : Int) * (mm : Int) := by rw [← Int.natCast_mul]; omega
          have q1 : (aj : Int) * (mm : Int) ≤ 18446744065119617025 := by rw [← Int.natCast_mul]; omega
          have HQ : Hid (((aj * mm : Nat) : Int) = (aj : Int) * (mm : Int)) := Int.natCast_mul _ _
          generalize hpq : (aj : Int) * (mm : Int) = pq at *
          go_wp2
          go_quiet (fail)
          go_wp2
          go_roundw
          case rel =>
            rw [← HQ.out]
            refine ⟨j + 1, by omega, by go_num, ?_⟩
            rw [HX.out]
            refine ⟨val_u64 (by dsimp only; omega), ?_⟩
            rw [show (((aj * mm : Nat) : Int) + oj + cc) % 4294967296 = (((aj * mm + oj + cc) % 4294967296 : Nat) : Int) from by omega]
            exact (HR.out.drewN _).set _ _
          case measure => simp [intOf]; omega
        · obtain rfl : j = 4 - k := by omega
          have HR2 : Hid (MuR w wr a (mulP a y (k + 1))) := show MuR w wr a (mulP a y (k + 1)) from by rw [HP.out]; exact hr
          clear hr
          generalize (inF a mm k o (4 - k)).2 = cc at *
          have j1 : ¬ ((4 - k : Nat) : Int) + (k : Int) < 4 := by omega
          have j2 : ((4 - k : Nat) : Int) ≤ 4 := by omega
          generalize 4 - k = jj at *
          go_wp2
          go_roundw
          case rel => exact ⟨k + 1, by omega, by go_num, HR2.out⟩
          case measure => simp [intOf]; omega
    · obtain rfl : k = 2 := by omega
      rw [show ((2 : Nat) : Int) = 2 from rfl]
      have hsz : (Tryd.prog.info? 63).map (·.size) = some (wordsL (mulP a y 2)).size := by rw [wordsL_size, hpl]; exact info4
      have hlr := hr.lr
      have hrr := hr.rr
      have hbel := hr.bel
      have HL : Hid (mulF a y = mulP a y 2) := show _ = _ from rfl
      clear hr
      generalize mulP a y 2 = L at *
      go_wp2_with (first | refine wpList_load_row rfl 63 _ rfl (w.heap.size + 1 + 1) rfl 63 (wordsL L) (0, 0) _ hlr Tryd.underlying63 rfl hsz ?_ | refine wpList_store_row rfl 63 _ _ rfl (w.heap.size + 1) (wordsL L) rfl rfl 63 _ hrr hsz (by simp [wordsL_size, hpl]) (wordsL_one _) ?_)
      refine bodyPost_ret (v := .agg (wordsL L)) (results_cell_row Tryd.results26 _ _ (w.heap.size + 1) 63 (wordsL L) (0, 0) _ ?hp ?hg Tryd.underlying63 rfl hsz) rfl ⟨by rw [HL.out], Below.row hbel _ (by omega)⟩
      case hp => rfl
      case hg => exact hrr.setRow _

theorem mulF_len (a : List Nat) (y : Nat) : (mulF a y).length = 4 := mulP_len a y 2
theorem mulF_ok {a : List Nat} {y : Nat} (ha : W32 a) : W32 (mulF a y) := mulP_ok ha 2
theorem sq_ok (y : Nat) : W32 [y % 4294967296, y / 4294967296 % 4294967296, 0, 0] := by
  intro x hx
  simp at hx
  omega

end Go.Proofs.YtbbpihdebdknhaaDoor
