
/-
  sha.spread: the words of a block, for every block.
-/
import Derived.Test.YtepohpniflmblaaDoorShB
import Derived.Deep.QuietTactic
import Derived.BigQuiet
namespace Go.Proofs.YtepohpniflmblaaDoor
open Go.RowKit

theorem pwL_len (z : List Nat) : ∀ k, (pwL z k).length = 64
  | 0 => by simp [pwL]
  | k + 1 => by rw [pwL, List.length_set]; exact pwL_len z k
theorem pwL_ok (z : List Nat) (hz : W8 z) : ∀ k, W32 (pwL z k)
  | 0 => by intro x hx; simp [pwL] at hx; omega
  | k + 1 => by
    rw [pwL]
    exact (pwL_ok z hz k).set _ (or_lt (Nat.mod_lt _ (by decide)) (Nat.lt_trans (hz.at k) (by decide)))
theorem exL_len (l : List Nat) (h : l.length = 64) : ∀ k, (exL l k).length = 64
  | 0 => h
  | k + 1 => by rw [exL, List.length_set]; exact exL_len l h k
theorem exL_ok (l : List Nat) (h : W32 l) : ∀ k, W32 (exL l k)
  | 0 => h
  | k + 1 => by rw [exL]; exact (exL_ok l h k).set _ (Nat.mod_lt _ (by decide))

theorem zeros64 : (#[.int .u32 0, .int .u32 0, .int .u32 0, .int .u32 0, .int .u32 0, .int .u32 0, .int .u32 0, .int .u32 0, .int .u32 0, .int .u32 0, .int .u32 0, .int .u32 0, .int .u32 0, .int .u32 0, .int .u32 0, .int .u32 0, .int .u32 0, .int .u32 0, .int .u32 0, .int .u32 0, .int .u32 0, .int .u32 0, .int .u32 0, .int .u32 0, .int .u32 0, .int .u32 0, .int .u32 0, .int .u32 0, .int .u32 0, .int .u32 0, .int .u32 0, .int .u32 0, .int .u32 0, .int .u32 0, .int .u32 0, .int .u32 0, .int .u32 0, .int .u32 0, .int .u32 0, .int .u32 0, .int .u32 0, .int .u32 0, .int .u32 0, .int .u32 0, .int .u32 0, .int .u32 0, .int .u32 0, .int .u32 0, .int .u32 0, .int .u32 0, .int .u32 0, .int .u32 0, .int .u32 0, .int .u32 0, .int .u32 0, .int .u32 0, .int .u32 0, .int .u32 0, .int .u32 0, .int .u32 0, .int .u32 0, .int .u32 0, .int .u32 0, .int .u32 0] : Array Value) = wordsL (List.replicate 64 0) := by kernel_rfl

structure SpR (w wr : World) (z l : List Nat) : Prop where
  zr : Row wr w.heap.size (bytesL z) 74
  rr : Row wr (w.heap.size + 1) (wordsL (List.replicate 64 0)) 76
  lr : Row wr (w.heap.size + 1 + 1) (wordsL l) 76
  bel : Below w.heap.size w wr

theorem SpR.set {w wr : World} {z l : List Nat} (h : SpR w wr z l) (i x : Nat) : SpR w (wr.setCell ⟨w.heap.size + 1 + 1, i, none⟩ (.int .u32 (x : Nat))) z (l.set i x) :=
  ⟨h.zr.setOther _ (by simp; omega), h.rr.setOther _ (by simp), by rw [← wordsL_set]; exact h.lr.set _ _, h.bel.setCell (by simp; omega) _⟩
theorem SpR.drew {w wr : World} {z l : List Nat} (h : SpR w wr z l) : SpR w wr.drew z l := ⟨h.zr, h.rr, h.lr, h.bel.drew⟩

theorem SpR.drewN {w wr : World} {z l : List Nat} (h : SpR w wr z l) (n : Nat) : SpR w (wr.drewN n) z l := ⟨h.zr, h.rr, h.lr, below_drewN h.bel n⟩

set_option maxHeartbeats 1000000 in
set_option maxRecDepth 100000 in
theorem spread_any (z : List Nat) (w : World) (hl : z.length = 64) (hz : W8 z) :
    Calls Tryd.prog 40 #[.agg (bytesL z)] w fun e w' => e = .returned (.agg (wordsL (spreadF z))) ∧ Below w.heap.size w w' := by
  go_enter Tryd.func40, Tryd.ntmps40
  go_wp2
  go_loopw [8] (fun i wr => ∃ k : Nat, k ≤ 64 ∧ i = .int .i64 k ∧ SpR w wr z (pwL z k)) (fun i _ => 64 - (intOf i).toNat)
  case atStart =>
    refine ⟨0, by omega, rfl, ?_⟩
    rw [zeros64]
    exact ⟨((Row.new _ _ _ rfl).alloc _).alloc _, (Row.new _ _ _ (by simp)).alloc _, Row.new _ _ _ (by simp), below3 _ _ _ _⟩
  case round =>
    obtain ⟨k, hk, rfl, hr⟩ := hrel
    by_cases hlt : k < 64
    · have c0 := (hr.lr.cell (k / 4)).trans (wordsL_at _ (k / 4) (by rw [pwL_len]; omega))
      have f0 := hr.lr.frozen (k / 4)
      have c1 := (hr.zr.cell k).trans (bytesL_at _ k (by omega))
      have b0 := (pwL_ok z hz k).at (k / 4)
      have b1 := hz.at k
      have g0 : (0 : Int) ≤ (k : Int) := by omega
      have g1 : (k : Int) < 64 := by omega
      have HR : Hid (SpR w wr z (pwL z k)) := hr
      clear hr
      have H1 : Hid (pwL z (k + 1) = (pwL z k).set (k / 4) ((pwL z k).getD (k / 4) 0 * 256 % 4294967296 ||| z.getD k 0)) := show _ = _ from rfl
      generalize (pwL z k).getD (k / 4) 0 = x at *
      generalize z.getD k 0 = y at *
      go_wp2
      go_region
      go_wp2
      go_roundw
      case rel =>
        have e : bits BinOp.or IntKind.u32 ((x : Int) * 256 % 4294967296) (y : Int) = ((x * 256 % 4294967296 ||| y : Nat) : Int) := by
          rw [show (x : Int) * 256 % 4294967296 = ((x * 256 % 4294967296 : Nat) : Int) from by omega]
          exact u32_or_nat _ _ (by omega) (by omega)
        rw [e]
        refine ⟨k + 1, by omega, by go_num, ?_⟩
        rw [H1.out]
        exact (HR.out.set _ _).drew
      case measure => simp [intOf]; omega
    · have hp : (pwL z k).length = 64 := pwL_len z k
      have ho : W32 (pwL z k) := pwL_ok z hz k
      have HF : Hid (spreadF z = exL (pwL z k) 48) := show _ = _ from by rw [show k = 64 from by omega]; rfl
      have HR : Hid (SpR w wr z (pwL z k)) := hr
      clear hr
      generalize pwL z k = l at *
      obtain rfl : k = 64 := by omega
      rw [show ((64 : Nat) : Int) = 64 from rfl]
      clear hlt hk
      go_wp2
      go_loopw [25] (fun i wr => ∃ k : Nat, k ≤ 48 ∧ i = .int .i64 k ∧ SpR w wr z (exL l k)) (fun i _ => 48 - (intOf i).toNat)
      case atStart => exact ⟨0, by omega, rfl, HR.out⟩
      case round =>
        obtain ⟨k, hk, rfl, hr⟩ := hrel
        have hel := exL_len l hp k
        have heo := exL_ok l ho k
        by_cases hlt : k < 48
        · have c0 := (hr.lr.cell (k + 1)).trans (wordsL_at _ (k + 1) (by omega))
          have c1 := (hr.lr.cell (k + 14)).trans (wordsL_at _ (k + 14) (by omega))
          have c2 := (hr.lr.cell k).trans (wordsL_at _ k (by omega))
          have c3 := (hr.lr.cell (k + 9)).trans (wordsL_at _ (k + 9) (by omega))
          have c4 := (hr.lr.cell (k + 16)).trans (wordsL_at _ (k + 16) (by omega))
          have f0 := hr.lr.frozen (k + 16)
          have b0 := heo.at (k + 1)
          have b1 := heo.at (k + 14)
          have b2 := heo.at k
          have b3 := heo.at (k + 9)
          have g0 : (0 : Int) ≤ (k : Int) := by omega
          have g1 : (k : Int) < 48 := by omega
          have HR2 : Hid (SpR w wr z (exL l k)) := hr
          clear hr
          have H1 : Hid (exL l (k + 1) = (exL l k).set (k + 16) (((((exL l k).getD k 0 + sg0 ((exL l k).getD (k + 1) 0)) % 4294967296 + (exL l k).getD (k + 9) 0) % 4294967296 + sg1 ((exL l k).getD (k + 14) 0)) % 4294967296)) := show _ = _ from rfl
          generalize (exL l k).getD (k + 1) 0 = x1 at *
          generalize (exL l k).getD (k + 14) 0 = x14 at *
          generalize (exL l k).getD k 0 = x0 at *
          generalize (exL l k).getD (k + 9) 0 = x9 at *
          generalize (exL l k).getD (k + 16) 0 = x16 at *
          go_wp2
          go_quiet (fail)
          have s0 := sg0_num x1 b0
          have s1 := sg1_num x14 b1
          have l0 := sg0_lt b0
          have l1 := sg1_lt b1
          go_wp2_with (go_at_call 44; refine (turn_i _ _ (by decide) (by decide) (by assumption) _).mono ?_; rintro e w' ⟨rfl, rfl⟩)
          go_region
          go_wp2
          go_roundw
          case rel =>
            refine ⟨k + 1, by omega, by go_num, ?_⟩
            rw [H1.out, show ((x0 : Int) + (sg0 x1 : Nat) + x9 + (sg1 x14 : Nat)) % 4294967296 = (((((x0 + sg0 x1) % 4294967296 + x9) % 4294967296 + sg1 x14) % 4294967296 : Nat) : Int) from by omega]
            exact (HR2.out.drewN _).set _ _
          case measure => simp [intOf]; omega
        · obtain rfl : k = 48 := by omega
          rw [show ((48 : Nat) : Int) = 48 from rfl]
          have e : exL l 48 = spreadF z := HF.out.symm
          rw [e] at hr hel
          have hsz : (Tryd.prog.info? 76).map (·.size) = some (wordsL (spreadF z)).size := by rw [wordsL_size, hel]; kernel_rfl
          have hlr := hr.lr
          have hrr := hr.rr
          have hbel := hr.bel
          clear hr e heo HF HR
          generalize hL : spreadF z = L at *
          have HL : Hid (L = spreadF z) := hL.symm
          clear hL
          go_wp2_with (first | refine wpList_load_row rfl 76 _ rfl (w.heap.size + 1 + 1) rfl 76 (wordsL L) (0, 0) _ hlr Tryd.underlying76 rfl hsz ?_ | refine wpList_store_row rfl 76 _ _ rfl (w.heap.size + 1) (wordsL L) rfl rfl 76 _ hrr hsz (by simp [wordsL_size, hel]) (wordsL_one _) ?_)
          refine bodyPost_ret (v := .agg (wordsL L)) (results_cell_row Tryd.results40 _ _ (w.heap.size + 1) 76 (wordsL L) (0, 0) _ ?hp ?hg Tryd.underlying76 rfl hsz) rfl ⟨by rw [HL.out], Below.row hbel _ (by omega)⟩
          case hp => rfl
          case hg => exact hrr.setRow _
end Go.Proofs.YtepohpniflmblaaDoor
