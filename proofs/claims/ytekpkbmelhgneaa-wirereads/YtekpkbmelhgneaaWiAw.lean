
/-
  package wire: Account.
-/
import Derived.Test.YtekpkbmelhgneaaWiAv
import Derived.Test.YtekpkbmelhgneaaWiV
namespace Go.Proofs.Ytekpkbmelhgneaa
open Go.RowKit
set_option maxRecDepth 100000
set_option linter.unusedSimpArgs false
set_option linter.unusedVariables false

set_option maxHeartbeats 4000000 in
theorem wacc_any (cs : Array Value) (hcs : cs.size = 46) (H0 L0 : Nat) (led fl : Int) (H1 L1 H2 L2 H3 L3 H4 L4 : Nat) (tm un : Int) (t : List Nat) (ht : t.length = 32) (h8 : W8 t) (hwH0 : Word64 (H0, L0)) (hwH1 : Word64 (H1, L1)) (hwH2 : Word64 (H2, L2)) (hwH3 : Word64 (H3, L3)) (hwH4 : Word64 (H4, L4)) (k0 : cs[0]? = some (.int .u64 (H0 : Nat))) (k1 : cs[1]? = some (.int .u64 (L0 : Nat))) (k2 : cs[2]? = some (.int .i64 led)) (k3 : cs[3]? = some (.int .i64 fl)) (k4 : cs[4]? = some (.int .u64 (H1 : Nat))) (k5 : cs[5]? = some (.int .u64 (L1 : Nat))) (k6 : cs[6]? = some (.int .u64 (H2 : Nat))) (k7 : cs[7]? = some (.int .u64 (L2 : Nat))) (k8 : cs[8]? = some (.int .u64 (H3 : Nat))) (k9 : cs[9]? = some (.int .u64 (L3 : Nat))) (k10 : cs[10]? = some (.int .u64 (H4 : Nat))) (k11 : cs[11]? = some (.int .u64 (L4 : Nat))) (k12 : cs[12]? = some (.int .i64 tm)) (k13 : cs[13]? = some (.int .i64 un)) (kt : ∀ j, j < 32 → cs[14 + j]? = some (.int .u8 (t.getD j 0 : Nat))) (w : World) :
    Calls Try.prog 17 #[.agg cs] w fun e w' => ∃ v', e = .returned v' ∧ Own w' w.heap.size v' (accB H0 L0 led fl H1 L1 H2 L2 H3 L3 H4 L4 tm un t) ∧ Below w.heap.size w w' := by
  have hinf : (Try.prog.info? 42).map (·.size) = some cs.size := by rw [hcs]; exact info_acc
  have hinft := info_hash' ht
  have HT : Hid (t.length = 32) := ht
  clear ht
  have b0 := below2 w (.cells cs 42) (.cells #[.slice none 0 0] 54)
  have r0 : Row ((w.alloc (.cells cs 42)).alloc (.cells #[.slice none 0 0] 54)) w.heap.size cs 42 := (Row.new w cs 42 rfl).alloc _
  have h0 : WrAt ((w.alloc (.cells cs 42)).alloc (.cells #[.slice none 0 0] 54)) (w.heap.size + 1) (.slice none 0 0) [] := by have := wr_new (w.alloc (.cells cs 42)); simpa using this
  obtain ⟨b, hb⟩ : ∃ b, w.heap.size + 1 = b := ⟨_, rfl⟩
  have hAb : w.heap.size ≠ b := by omega
  have z0 : Hid (b + 1 = ((w.alloc (.cells cs 42)).alloc (.cells #[.slice none 0 0] 54)).heap.size) := by show _ = _; rw [← hb]; simp
  have HB : Hid (w.heap.size + 1 = b) := hb
  rw [hb] at h0
  have s0 : WStep ((w.alloc (.cells cs 42)).alloc (.cells #[.slice none 0 0] 54)) ((w.alloc (.cells cs 42)).alloc (.cells #[.slice none 0 0] 54)) b (.slice none 0 0) (.slice none 0 0) := WStep.refl _ _ _
  go_enter Try.func17, Try.ntmps17
  go_wp2_with (first | refine wpList_load_row rfl 42 _ rfl w.heap.size rfl 42 cs (0, 0) _ r0 Try.underlying42 rfl hinf ?_ | (go_at_call 36; refine stop ?_))
  clear hb
  generalize (w.alloc (.cells cs 42)).alloc (.cells #[.slice none 0 0] 54) = u0 at *
  have hf0 : Far b _ w.heap.size := ⟨hAb, own_ne h0.own r0 (by decide)⟩
  refine (writeAc_any cs H0 L0 led fl hwH0 k0 k1 k2 k3 _ b _ _ h0 (by simp)).mono ?_
  rintro e u1 ⟨v1, rfl, h1, q0⟩
  have r1 : Row u1 w.heap.size cs 42 := (q0.far hf0 r0.lt).trans r0
  have s1 := s0.trans q0
  rw [List.nil_append] at h1
  have hac : (acB H0 L0 led fl).length ≤ 100 := by simp [acB, numB_len, intB_len]
  clear hf0 q0 r0 s0 h0 z0
  have c1_4 := (r1.cell 4).trans k4
  have c1_5 := (r1.cell 5).trans k5
  have c1_6 := (r1.cell 6).trans k6
  have c1_7 := (r1.cell 7).trans k7
  have c1_8 := (r1.cell 8).trans k8
  have c1_9 := (r1.cell 9).trans k9
  have c1_10 := (r1.cell 10).trans k10
  have c1_11 := (r1.cell 11).trans k11
  go_wp2_with (go_at_call 26; refine stop ?_)
  have hp1 := nums_new h1 #[.int .u64 (H1 : Nat), .int .u64 (L1 : Nat), .int .u64 (H2 : Nat), .int .u64 (L2 : Nat), .int .u64 (H3 : Nat), .int .u64 (L3 : Nat), .int .u64 (H4 : Nat), .int .u64 (L4 : Nat)] [(H1, L1), (H2, L2), (H3, L3), (H4, L4)] (by simp) _ 4 4 rfl rfl (fun j hj => by
    match j, hj with
    | 0, _ => exact ⟨rfl, rfl, hwH1⟩
    | 1, _ => exact ⟨rfl, rfl, hwH2⟩
    | 2, _ => exact ⟨rfl, rfl, hwH3⟩
    | 3, _ => exact ⟨rfl, rfl, hwH4⟩) 26
  have ha1 := h1.alloc (.cells #[.int .u64 (H1 : Nat), .int .u64 (L1 : Nat), .int .u64 (H2 : Nat), .int .u64 (L2 : Nat), .int .u64 (H3 : Nat), .int .u64 (L3 : Nat), .int .u64 (H4 : Nat), .int .u64 (L4 : Nat)] 26)
  have ra1 := r1.alloc (.cells #[.int .u64 (H1 : Nat), .int .u64 (L1 : Nat), .int .u64 (H2 : Nat), .int .u64 (L2 : Nat), .int .u64 (H3 : Nat), .int .u64 (L3 : Nat), .int .u64 (H4 : Nat), .int .u64 (L4 : Nat)] 26)
  have sa1 := s1.alloc (.cells #[.int .u64 (H1 : Nat), .int .u64 (L1 : Nat), .int .u64 (H2 : Nat), .int .u64 (L2 : Nat), .int .u64 (H3 : Nat), .int .u64 (L3 : Nat), .int .u64 (H4 : Nat), .int .u64 (L4 : Nat)] 26)
  have hf1 : Far b _ w.heap.size := ⟨hAb, own_ne ha1.own ra1 (by decide)⟩
  refine (wnum_any _ [(H1, L1), (H2, L2), (H3, L3), (H4, L4)] _ b _ _ ha1 hp1 (by first | omega | (simp [numB_len, intB_len, acB]; done) | simp [numB_len, intB_len])).mono ?_
  rintro e u2 ⟨v2, rfl, h2, q1⟩
  have r2 : Row u2 w.heap.size cs 42 := (q1.far hf1 ra1.lt).trans ra1
  have s2 := sa1.trans q1
  simp only [List.flatMap_cons, List.flatMap_nil, List.append_nil] at h2
  clear hp1 ha1 ra1 sa1 hf1 q1 r1 s1 h1 c1_4 c1_5 c1_6 c1_7 c1_8 c1_9 c1_10 c1_11
  have c2_12 := (r2.cell 12).trans k12
  have c2_13 := (r2.cell 13).trans k13
  go_wp2_with (go_at_call 24; refine stop ?_)
  have hp2 := ints_new h2 [tm, un] (by simp) _ 2 2 rfl rfl _ rfl 3
  have ha2 := h2.alloc (.cells #[.int .i64 tm, .int .i64 un] 3)
  have ra2 := r2.alloc (.cells #[.int .i64 tm, .int .i64 un] 3)
  have sa2 := s2.alloc (.cells #[.int .i64 tm, .int .i64 un] 3)
  have hf2 : Far b _ w.heap.size := ⟨hAb, own_ne ha2.own ra2 (by decide)⟩
  refine (wint' 6 (by decide) _ rfl _ [tm, un] _ b _ _ ha2 hp2 (by first | omega | (simp [numB_len, intB_len, acB]; done) | simp [numB_len, intB_len])).mono ?_
  rintro e u3 ⟨v3, rfl, h3, q2⟩
  have r3 : Row u3 w.heap.size cs 42 := (q2.far hf2 ra2.lt).trans ra2
  have s3 := sa2.trans q2
  simp only [List.flatMap_cons, List.flatMap_nil, List.append_nil] at h3
  clear hp2 ha2 ra2 sa2 hf2 q2 r2 s2 h2 c2_12 c2_13
  have hrg : World.rangeAt u3 w.heap.size 14 (bytesL t).toList := fun j v hj => by
    have hj2 : j < (bytesL t).toList.length := (List.getElem?_eq_some_iff.1 hj).1
    have hj3 : j < t.length := by simpa [bytesL] using hj2
    rw [r3.cell (14 + j), kt j (by rw [← HT.out]; exact hj3), ← hj, Array.getElem?_toList, bytesL_at t j hj3]
  go_wp2_with (first | (refine wpList_load_mid rfl 40 _ rfl w.heap.size 14 rfl (bytesL t).toList _ hrg Try.underlying40 rfl (by rw [Array.length_toList]; exact hinft) ?_; refine stop ?_))
  rw [Array.toArray_toList]
  unfold Stop
  have hbs : (bytesL t).size = 32 := by rw [bytesL_size]; exact HT.out
  clear hrg
  go_wp2_with (go_at_call 25; refine stop ?_)
  rw [lay_all _ (bytesL t) _ hbs rfl]
  clear hbs
  have haz := h3.alloc (.cells (bytesL t) 40)
  have saz := s3.alloc (.cells (bytesL t) 40)
  have hfz := h3.far (Nat.le_refl _)
  refine (whash_any _ t HT.out h8 _ b _ _ haz (Row.new u3 _ _ rfl) hfz (by simp [numB_len, intB_len, acB])).mono ?_
  rintro e u4 ⟨v4, rfl, h4, qz⟩
  have s4 := saz.trans qz
  clear haz saz hfz qz r3 s3 h3
  go_wp2_with (go_at_call 28; refine stop ?_)
  refine (wbytes_any _ b _ _ h4 (by simp [numB_len, intB_len, acB, HT.out])).mono ?_
  rintro e uz ⟨vz, rfl, oz, bz⟩
  have bf : Below w.heap.size w u4 := below_of_wstep b0 s4 (by have := HB.out; omega) (fun g hg => by cases hg)
  obtain ⟨pz, nz, cz, rfl, hz⟩ := oz.form
  clear hz
  have oz2 : Own uz w.heap.size (.slice pz nz cz) _ := ⟨oz.1, oz.2.imp id fun ⟨g, cap, cur, e, h1, h2⟩ => ⟨g, cap, cur, e, Nat.le_trans bf.size h1, h2⟩⟩
  clear oz
  go_wp2
  go_ret
  refine ⟨_, rfl, ?_, chain bf bz⟩
  simpa [accB, List.append_assoc] using oz2
end Go.Proofs.Ytekpkbmelhgneaa
