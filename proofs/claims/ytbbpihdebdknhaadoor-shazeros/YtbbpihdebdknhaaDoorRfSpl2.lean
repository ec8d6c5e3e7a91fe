import Derived.Test.YtbbpihdebdknhaaDoorRfS0
namespace Go.Proofs.YtbbpihdebdknhaaDoor
open Go.RowKit

set_option maxHeartbeats 40000000 in
set_option maxRecDepth 100000 in
theorem rfSPack_l2 : rfSPack.p_l2 := by
  intro m w hw8 p c HF hpm hp8 n hn hl hpl hpf hl0 hl1 iq1 w1 iq2 u1 v2 u2 B hw1 iq3 iq4 u34 u35 u36 u37 u38 u39 u40 iq5 iq6 iq7 hz64 v0 v1 HV P1 HPE hP8 hPl iq8 iq9 iq10 iq11 iq12 wr u41 u42 u43 u44 u45 u46 u47 u48 u49 u50 u51 u52 u53 t ht hrr hbel hB vp vn vc ho hll hvn' htl
  have t0 : (0 : Int) ≤ (t : Int) := by omega
  have t1 : (t : Int) < 8 := by omega
  obtain ⟨bv, hbv⟩ : ∃ bv, bv = n * 8 / 2 ^ (8 * (7 - t)) % 256 := ⟨_, rfl⟩
  have e1 : (n : Int) * 8 / 2 ^ (8 * (7 - t)) % 256 = (bv : Int) := by rw [hbv, Int.natCast_emod, Int.natCast_ediv, Int.natCast_pow, Int.natCast_mul]; rfl
  have hown2 : Own (wr.alloc (.cells #[.int .u8 (bv : Int)] 5)) B (.slice vp vn vc) (P1 ++ (lenB n).take t) := ho.later (below1 _ _)
  obtain ⟨v3, u3, run3, own3, gr3, nil3⟩ := append_bytes _ B 22 _ _ hown2 _ [bv] (BytesAt.new1 wr bv (by omega)) (by simp [hPl, hll]; omega) (by simp; omega)
  have hbu3 : Below B wr u3 := below_grown ((Below.refl _ _).alloc hB _) (by simp; omega) gr3 (fun j hj => (hown2.lt j hj).1)
  have e3 : P1 ++ (lenB n).take t ++ [bv] = P1 ++ (lenB n).take (t + 1) := by
    rw [List.take_succ_eq_append_getElem (i := t) (l := lenB n) (by omega), List.append_assoc]
    simp [lenB, hbv]
  rw [e3] at own3
  have hrr3 : Row u3 w.heap.size (bytesL (List.replicate 32 0)) 24 := (hbu3.block w.heap.size (by omega)).trans hrr
  have hbel3 : Below w.heap.size w u3 := hbel.trans (hbu3.mono (by omega))
  have hB3 : B ≤ u3.heap.size := Nat.le_trans hB hbu3.size
  clear nil3 hown2 gr3 hbu3 e3 ho hrr hbel hB hvn' hbv
  go_wp2_with (at_builtin; refine Lib.wpList_append_run _ rfl _ _ _ _ rfl _ _ rfl rfl _ _ run3 ?_)
  go_roundw
  case rel => exact ⟨t + 1, _, by omega, val_i64 (by omega), rfl, own3, hrr3, hbel3, hB3⟩
  case measure => simp [intOf]; omega
end Go.Proofs.YtbbpihdebdknhaaDoor
