import Derived.Test.YtbbpihdebdknhaaDoorRfS0
namespace Go.Proofs.YtbbpihdebdknhaaDoor
open Go.RowKit

set_option maxHeartbeats 40000000 in
set_option maxRecDepth 100000 in
theorem rfSPack_l1 : rfSPack.p_l1 := by
  intro m w hw8 p c HF hpm hp8 n hn hl HPE hpl hpf hl0 hl1 iq1 w1 iq2 u1 v2 u2 B hw1 iq3 iq4 wr u34 u35 u36 u37 u38 u39 u40 k hk hrr hbel hB vp vn vc ho hvn' hz64 v0 v1 hlt
  have hne : ((vn : Int) % 64 != 56) = true := by simp only [bne_iff_ne, ne_eq]; unfold zc at hlt hk; omega
  have HV : Hid (vn = n + 1 + k) := hvn'
  have hown2 : Own (wr.alloc (.cells #[.int .u8 0] 5)) B (.slice vp vn vc) (m ++ [128] ++ List.replicate k 0) := ho.later (below1 _ _)
  obtain ⟨v3, u3, run3, own3, gr3, nil3⟩ := append_bytes _ B 22 _ _ hown2 _ [0] (BytesAt.new1 wr 0 (by decide)) (by simp [hn]; omega) (by simp; omega)
  have hbu3 : Below B wr u3 := below_grown ((Below.refl _ _).alloc hB _) (by simp; omega) gr3 (fun j hj => (hown2.lt j hj).1)
  have e3 : m ++ [128] ++ List.replicate k 0 ++ [0] = m ++ [128] ++ List.replicate (k + 1) 0 := by rw [List.replicate_succ', ← List.append_assoc]
  rw [e3] at own3
  obtain ⟨p3, n3, c3, rfl, hn3⟩ := own3.form
  have hn3' : n3 = vn + 1 := by rw [hn3]; simp [hn]; omega
  have HN3 : Hid (n3 = vn + 1) := hn3'
  have hrr3 : Row u3 w.heap.size (bytesL (List.replicate 32 0)) 24 := (hbu3.block w.heap.size (by omega)).trans hrr
  have hbel3 : Below w.heap.size w u3 := hbel.trans (hbu3.mono (by omega))
  have hB3 : B ≤ u3.heap.size := Nat.le_trans hB hbu3.size
  clear nil3 hown2 gr3 hbu3 e3 hn3 hn3' ho hrr hbel hB hvn'
  go_wp2_with (at_builtin; refine Lib.wpList_append_run _ rfl _ _ _ _ rfl _ _ rfl rfl _ _ run3 ?_)
  go_roundw
  case rel => exact ⟨k + 1, _, by omega, rfl, own3, hrr3, hbel3, hB3⟩
  case measure => simp [lenV]; have := HN3.out; have := HV.out; omega
end Go.Proofs.YtbbpihdebdknhaaDoor
