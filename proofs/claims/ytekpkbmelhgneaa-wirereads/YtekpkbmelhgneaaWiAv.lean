
/-
  package wire: Row, Account. What they write, for all cells.
-/
import Derived.Test.YtekpkbmelhgneaaWiB
import Derived.Test.YtekpkbmelhgneaaWiHa
import Derived.Deep.MidRow
namespace Go.Proofs.Ytekpkbmelhgneaa
open Go.RowKit
set_option maxRecDepth 100000
set_option linter.unusedSimpArgs false
set_option linter.unusedVariables false

def rowB (H0 L0 : Nat) (tm rs : Int) (H1 L1 H2 L2 H3 L3 H4 L4 H5 L5 : Nat) : List Nat := numB (H0, L0) ++ (intB 6 tm ++ (intB 2 (rs + 1) ++ (numB (H1, L1) ++ (numB (H2, L2) ++ (numB (H3, L3) ++ (numB (H4, L4) ++ numB (H5, L5)))))))
theorem rowB_len (H0 L0 : Nat) (tm rs : Int) (H1 L1 H2 L2 H3 L3 H4 L4 H5 L5 : Nat) : (rowB H0 L0 tm rs H1 L1 H2 L2 H3 L3 H4 L4 H5 L5).length = 104 := by simp [rowB, numB_len, intB_len]
def accB (H0 L0 : Nat) (led fl : Int) (H1 L1 H2 L2 H3 L3 H4 L4 : Nat) (tm un : Int) (t : List Nat) : List Nat := acB H0 L0 led fl ++ (numB (H1, L1) ++ (numB (H2, L2) ++ (numB (H3, L3) ++ (numB (H4, L4) ++ (intB 6 tm ++ (intB 6 un ++ t))))))
theorem info_row : (Try.prog.info? 44).map (·.size) = some 14 := by kernel_rfl

set_option maxHeartbeats 4000000 in
theorem wrow_any (cs : Array Value) (H0 L0 : Nat) (tm rs : Int) (H1 L1 H2 L2 H3 L3 H4 L4 H5 L5 : Nat) (hwH0 : Word64 (H0, L0)) (hwH1 : Word64 (H1, L1)) (hwH2 : Word64 (H2, L2)) (hwH3 : Word64 (H3, L3)) (hwH4 : Word64 (H4, L4)) (hwH5 : Word64 (H5, L5)) (k0 : cs[0]? = some (.int .u64 (H0 : Nat))) (k1 : cs[1]? = some (.int .u64 (L0 : Nat))) (k2 : cs[2]? = some (.int .i64 tm)) (k3 : cs[3]? = some (.int .i64 rs)) (k4 : cs[4]? = some (.int .u64 (H1 : Nat))) (k5 : cs[5]? = some (.int .u64 (L1 : Nat))) (k6 : cs[6]? = some (.int .u64 (H2 : Nat))) (k7 : cs[7]? = some (.int .u64 (L2 : Nat))) (k8 : cs[8]? = some (.int .u64 (H3 : Nat))) (k9 : cs[9]? = some (.int .u64 (L3 : Nat))) (k10 : cs[10]? = some (.int .u64 (H4 : Nat))) (k11 : cs[11]? = some (.int .u64 (L4 : Nat))) (k12 : cs[12]? = some (.int .u64 (H5 : Nat))) (k13 : cs[13]? = some (.int .u64 (L5 : Nat))) (rs0 : -1 ≤ rs) (rs1 : rs ≤ 65534) (w : World) :
    Calls Try.prog 18 #[.agg cs] w fun e w' => ∃ v', e = .returned v' ∧ Own w' w.heap.size v' (rowB H0 L0 tm rs H1 L1 H2 L2 H3 L3 H4 L4 H5 L5) ∧ Below w.heap.size w w' := by
  have b0 := below2 w (.cells cs 44) (.cells #[.slice none 0 0] 54)
  have r0 : Row ((w.alloc (.cells cs 44)).alloc (.cells #[.slice none 0 0] 54)) w.heap.size cs 44 := (Row.new w cs 44 rfl).alloc _
  have h0 : WrAt ((w.alloc (.cells cs 44)).alloc (.cells #[.slice none 0 0] 54)) (w.heap.size + 1) (.slice none 0 0) [] := by have := wr_new (w.alloc (.cells cs 44)); simpa using this
  obtain ⟨b, hb⟩ : ∃ b, w.heap.size + 1 = b := ⟨_, rfl⟩
  have hAb : w.heap.size ≠ b := by omega
  have z0 : Hid (b + 1 = ((w.alloc (.cells cs 44)).alloc (.cells #[.slice none 0 0] 54)).heap.size) := by show _ = _; rw [← hb]; simp
  have HB : Hid (w.heap.size + 1 = b) := hb
  rw [hb] at h0
  have s0 : WStep ((w.alloc (.cells cs 44)).alloc (.cells #[.slice none 0 0] 54)) ((w.alloc (.cells cs 44)).alloc (.cells #[.slice none 0 0] 54)) b (.slice none 0 0) (.slice none 0 0) := WStep.refl _ _ _
  go_enter Try.func18, Try.ntmps18
  have c0_0 := (r0.cell 0).trans k0
  have c0_1 := (r0.cell 1).trans k1
  go_wp2_with (go_at_call 26; refine stop ?_)
  clear hb
  generalize (w.alloc (.cells cs 44)).alloc (.cells #[.slice none 0 0] 54) = u0 at *
  have hp0 := nums_new h0 #[.int .u64 (H0 : Nat), .int .u64 (L0 : Nat)] [(H0, L0)] (by simp) _ 1 1 z0.out rfl (fun j hj => by
    match j, hj with
    | 0, _ => exact ⟨rfl, rfl, hwH0⟩) 26
  have ha0 := h0.alloc (.cells #[.int .u64 (H0 : Nat), .int .u64 (L0 : Nat)] 26)
  have ra0 := r0.alloc (.cells #[.int .u64 (H0 : Nat), .int .u64 (L0 : Nat)] 26)
  have sa0 := s0.alloc (.cells #[.int .u64 (H0 : Nat), .int .u64 (L0 : Nat)] 26)
  have hf0 : Far b _ w.heap.size := ⟨hAb, own_ne ha0.own ra0 (by decide)⟩
  refine (wnum_any _ [(H0, L0)] _ b _ _ ha0 hp0 (by first | omega | (simp [numB_len, intB_len]; omega) | simp [numB_len, intB_len])).mono ?_
  rintro e u1 ⟨v1, rfl, h1, q0⟩
  have r1 : Row u1 w.heap.size cs 44 := (q0.far hf0 ra0.lt).trans ra0
  have s1 := sa0.trans q0
  simp only [List.flatMap_cons, List.flatMap_nil, List.append_nil] at h1
  clear hp0 ha0 ra0 sa0 hf0 q0 r0 s0 h0 z0 c0_0 c0_1
  have c1_2 := (r1.cell 2).trans k2
  go_wp2_with (go_at_call 24; refine stop ?_)
  have hp1 := ints_new h1 [tm] (by simp) _ 1 1 rfl rfl _ rfl 3
  have ha1 := h1.alloc (.cells #[.int .i64 tm] 3)
  have ra1 := r1.alloc (.cells #[.int .i64 tm] 3)
  have sa1 := s1.alloc (.cells #[.int .i64 tm] 3)
  have hf1 : Far b _ w.heap.size := ⟨hAb, own_ne ha1.own ra1 (by decide)⟩
  refine (wint' 6 (by decide) _ rfl _ [tm] _ b _ _ ha1 hp1 (by first | omega | (simp [numB_len, intB_len]; omega) | simp [numB_len, intB_len])).mono ?_
  rintro e u2 ⟨v2, rfl, h2, q1⟩
  have r2 : Row u2 w.heap.size cs 44 := (q1.far hf1 ra1.lt).trans ra1
  have s2 := sa1.trans q1
  simp only [List.flatMap_cons, List.flatMap_nil, List.append_nil] at h2
  clear hp1 ha1 ra1 sa1 hf1 q1 r1 s1 h1 c1_2
  have c2_3 := (r2.cell 3).trans k3
  go_wp2_with (go_at_call 24; refine stop ?_)
  have hp2 := ints_new h2 [(rs + 1)] (by simp) _ 1 1 rfl rfl _ rfl 3
  have ha2 := h2.alloc (.cells #[.int .i64 (rs + 1)] 3)
  have ra2 := r2.alloc (.cells #[.int .i64 (rs + 1)] 3)
  have sa2 := s2.alloc (.cells #[.int .i64 (rs + 1)] 3)
  have hf2 : Far b _ w.heap.size := ⟨hAb, own_ne ha2.own ra2 (by decide)⟩
  refine (wint' 2 (by decide) _ rfl _ [(rs + 1)] _ b _ _ ha2 hp2 (by first | omega | (simp [numB_len, intB_len]; omega) | simp [numB_len, intB_len])).mono ?_
  rintro e u3 ⟨v3, rfl, h3, q2⟩
  have r3 : Row u3 w.heap.size cs 44 := (q2.far hf2 ra2.lt).trans ra2
  have s3 := sa2.trans q2
  simp only [List.flatMap_cons, List.flatMap_nil, List.append_nil] at h3
  clear hp2 ha2 ra2 sa2 hf2 q2 r2 s2 h2 c2_3
  have c3_4 := (r3.cell 4).trans k4
  have c3_5 := (r3.cell 5).trans k5
  go_wp2_with (go_at_call 26; refine stop ?_)
  have hp3 := nums_new h3 #[.int .u64 (H1 : Nat), .int .u64 (L1 : Nat)] [(H1, L1)] (by simp) _ 1 1 rfl rfl (fun j hj => by
    match j, hj with
    | 0, _ => exact ⟨rfl, rfl, hwH1⟩) 26
  have ha3 := h3.alloc (.cells #[.int .u64 (H1 : Nat), .int .u64 (L1 : Nat)] 26)
  have ra3 := r3.alloc (.cells #[.int .u64 (H1 : Nat), .int .u64 (L1 : Nat)] 26)
  have sa3 := s3.alloc (.cells #[.int .u64 (H1 : Nat), .int .u64 (L1 : Nat)] 26)
  have hf3 : Far b _ w.heap.size := ⟨hAb, own_ne ha3.own ra3 (by decide)⟩
  refine (wnum_any _ [(H1, L1)] _ b _ _ ha3 hp3 (by first | omega | (simp [numB_len, intB_len]; omega) | simp [numB_len, intB_len])).mono ?_
  rintro e u4 ⟨v4, rfl, h4, q3⟩
  have r4 : Row u4 w.heap.size cs 44 := (q3.far hf3 ra3.lt).trans ra3
  have s4 := sa3.trans q3
  simp only [List.flatMap_cons, List.flatMap_nil, List.append_nil] at h4
  clear hp3 ha3 ra3 sa3 hf3 q3 r3 s3 h3 c3_4 c3_5
  have c4_6 := (r4.cell 6).trans k6
  have c4_7 := (r4.cell 7).trans k7
  have c4_8 := (r4.cell 8).trans k8
  have c4_9 := (r4.cell 9).trans k9
  have c4_10 := (r4.cell 10).trans k10
  have c4_11 := (r4.cell 11).trans k11
  have c4_12 := (r4.cell 12).trans k12
  have c4_13 := (r4.cell 13).trans k13
  go_wp2_with (go_at_call 26; refine stop ?_)
  have hp4 := nums_new h4 #[.int .u64 (H2 : Nat), .int .u64 (L2 : Nat), .int .u64 (H3 : Nat), .int .u64 (L3 : Nat), .int .u64 (H4 : Nat), .int .u64 (L4 : Nat), .int .u64 (H5 : Nat), .int .u64 (L5 : Nat)] [(H2, L2), (H3, L3), (H4, L4), (H5, L5)] (by simp) _ 4 4 rfl rfl (fun j hj => by
    match j, hj with
    | 0, _ => exact ⟨rfl, rfl, hwH2⟩
    | 1, _ => exact ⟨rfl, rfl, hwH3⟩
    | 2, _ => exact ⟨rfl, rfl, hwH4⟩
    | 3, _ => exact ⟨rfl, rfl, hwH5⟩) 26
  have ha4 := h4.alloc (.cells #[.int .u64 (H2 : Nat), .int .u64 (L2 : Nat), .int .u64 (H3 : Nat), .int .u64 (L3 : Nat), .int .u64 (H4 : Nat), .int .u64 (L4 : Nat), .int .u64 (H5 : Nat), .int .u64 (L5 : Nat)] 26)
  have ra4 := r4.alloc (.cells #[.int .u64 (H2 : Nat), .int .u64 (L2 : Nat), .int .u64 (H3 : Nat), .int .u64 (L3 : Nat), .int .u64 (H4 : Nat), .int .u64 (L4 : Nat), .int .u64 (H5 : Nat), .int .u64 (L5 : Nat)] 26)
  have sa4 := s4.alloc (.cells #[.int .u64 (H2 : Nat), .int .u64 (L2 : Nat), .int .u64 (H3 : Nat), .int .u64 (L3 : Nat), .int .u64 (H4 : Nat), .int .u64 (L4 : Nat), .int .u64 (H5 : Nat), .int .u64 (L5 : Nat)] 26)
  have hf4 : Far b _ w.heap.size := ⟨hAb, own_ne ha4.own ra4 (by decide)⟩
  refine (wnum_any _ [(H2, L2), (H3, L3), (H4, L4), (H5, L5)] _ b _ _ ha4 hp4 (by first | omega | (simp [numB_len, intB_len]; omega) | simp [numB_len, intB_len])).mono ?_
  rintro e u5 ⟨v5, rfl, h5, q4⟩
  have r5 : Row u5 w.heap.size cs 44 := (q4.far hf4 ra4.lt).trans ra4
  have s5 := sa4.trans q4
  simp only [List.flatMap_cons, List.flatMap_nil, List.append_nil] at h5
  clear hp4 ha4 ra4 sa4 hf4 q4 r4 s4 h4 c4_6 c4_7 c4_8 c4_9 c4_10 c4_11 c4_12 c4_13
  go_wp2_with (go_at_call 28; refine stop ?_)
  refine (wbytes_any _ b _ _ h5 (by simp [numB_len, intB_len, acB])).mono ?_
  rintro e uz ⟨vz, rfl, oz, bz⟩
  have bf : Below w.heap.size w u5 := below_of_wstep b0 s5 (by have := HB.out; omega) (fun g hg => by cases hg)
  obtain ⟨pz, nz, cz, rfl, hz⟩ := oz.form
  clear hz
  have oz2 : Own uz w.heap.size (.slice pz nz cz) _ := ⟨oz.1, oz.2.imp id fun ⟨g, cap, cur, e, h1, h2⟩ => ⟨g, cap, cur, e, Nat.le_trans bf.size h1, h2⟩⟩
  clear oz
  go_wp2
  go_ret
  refine ⟨_, rfl, ?_, chain bf bz⟩
  simpa [rowB, List.append_assoc] using oz2
end Go.Proofs.Ytekpkbmelhgneaa
