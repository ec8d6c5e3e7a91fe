
/-
  package wire: writeNewAccount, writeNewTransfer, for all values of their fields.
-/
import Derived.Test.YtekpkbmelhgneaaWiI
import Derived.Test.YtekpkbmelhgneaaWiE
namespace Go.Proofs.Ytekpkbmelhgneaa
open Go.RowKit
set_option maxRecDepth 100000
set_option linter.unusedSimpArgs false

theorem WrAt.alloc {w : World} {b : Nat} {v : Value} {l : List Nat} (h : WrAt w b v l) (o : Obj) : WrAt (w.alloc o) b v l := h.later (below1 _ _)
theorem WStep.alloc {w w1 : World} {b : Nat} {v v1 : Value} (h : WStep w w1 b v v1) (o : Obj) : WStep w (w1.alloc o) b v v1 := h.trans (WStep.of (below1 _ _) _ _)
/-- Numbers that were laid in a new block. -/
theorem nums_new {w : World} {b : Nat} {v : Value} {l : List Nat} (h : WrAt w b v l) (cs : Array Value) (L : List (Nat × Nat)) (hL : L.length ≤ 1000) (g n c : Nat) (hg : g = w.heap.size) (hn : n = L.length)
    (hc : ∀ i, i < L.length → cs[i * 2]? = some (.int .u64 ((L.getD i (0, 0)).1 : Nat)) ∧ cs[i * 2 + 1]? = some (.int .u64 ((L.getD i (0, 0)).2 : Nat)) ∧ Word64 (L.getD i (0, 0))) (t : TypeId) :
    NumsOff (w.alloc (.cells cs t)) (Far b v) (.slice (some ⟨g, 0, none⟩) n c) L := by
  subst hg hn
  refine ⟨hL, _, _, rfl, fun i hi => ⟨w.heap.size, 0, rfl, h.far (Nat.le_refl _), by simp, ?_, ?_, (hc i hi).2.2⟩⟩
  · rw [World.cell?_alloc_at _ _ _ _ rfl, Nat.zero_add]; exact (hc i hi).1
  · rw [World.cell?_alloc_at _ _ _ _ rfl, Nat.zero_add]; exact (hc i hi).2.1
theorem ints_new {w : World} {b : Nat} {v : Value} {l : List Nat} (h : WrAt w b v l) (L : List Int) (hL : L.length ≤ 1000) (g n c : Nat) (hg : g = w.heap.size) (hn : n = L.length) (cs : Array Value) (hcs : cs = (L.map fun x => Value.int .i64 x).toArray) (t : TypeId) :
    IntsOff (w.alloc (.cells cs t)) (Far b v) (.slice (some ⟨g, 0, none⟩) n c) L := by
  subst hg hn hcs
  refine ⟨hL, _, _, rfl, fun i hi => ⟨w.heap.size, 0, rfl, h.far (Nat.le_refl _), by simp, ?_⟩⟩
  rw [World.cell?_alloc_at _ _ _ _ rfl, Nat.zero_add]
  simp [hi]
theorem num1 {w : World} {b : Nat} {v : Value} {l : List Nat} (h : WrAt w b v l) (x y : Nat) (hw : Word64 (x, y)) (g : Nat) (hg : g = w.heap.size) (t : TypeId) :
    NumsOff (w.alloc (.cells #[.int .u64 (x : Nat), .int .u64 (y : Nat)] t)) (Far b v) (.slice (some ⟨g, 0, none⟩) 1 1) [(x, y)] :=
  nums_new h _ [(x, y)] (by simp) g 1 1 hg rfl (fun i hi => by
    obtain rfl : i = 0 := by simpa using hi
    exact ⟨rfl, rfl, hw⟩) t
theorem int1 {w : World} {b : Nat} {v : Value} {l : List Nat} (h : WrAt w b v l) (x : Int) (g : Nat) (hg : g = w.heap.size) (t : TypeId) :
    IntsOff (w.alloc (.cells #[.int .i64 x] t)) (Far b v) (.slice (some ⟨g, 0, none⟩) 1 1) [x] := ints_new h [x] (by simp) g 1 1 hg rfl _ rfl t
theorem int2 {w : World} {b : Nat} {v : Value} {l : List Nat} (h : WrAt w b v l) (x y : Int) (g : Nat) (hg : g = w.heap.size) (t : TypeId) :
    IntsOff (w.alloc (.cells #[.int .i64 x, .int .i64 y] t)) (Far b v) (.slice (some ⟨g, 0, none⟩) 2 2) [x, y] := ints_new h [x, y] (by simp) g 2 2 hg rfl _ rfl t
theorem wint' (n : Nat) (hn : n ≤ 8) (m : Int) (hm : m = n) (pv : Value) (L : List Int) (w : World) (b : Nat) (v : Value) (l : List Nat) (h : WrAt w b v l) (hp : IntsOff w (Far b v) pv L) (hT : l.length ≤ 1000000) :
    Calls Try.prog 24 #[.pointer (some ⟨b, 0, none⟩), .int .i64 m, pv] w fun e w' => ∃ v', e = .returned (.pointer (some ⟨b, 0, none⟩)) ∧ WrAt w' b v' (l ++ L.flatMap (intB n)) ∧ WStep w w' b v v' := by
  subst hm
  exact wint_any n hn pv L w b v l h hp hT

/-- The bytes of an account as a request tells it. -/
def acB (hi lo : Nat) (led fl : Int) : List Nat := numB (hi, lo) ++ intB 4 led ++ intB 2 fl
theorem acB_len (hi lo : Nat) (led fl : Int) : (acB hi lo led fl).length = 22 := by simp [acB, numB_len, intB_len]

/-- The bytes of a transfer as a request tells it. -/
def trB (h1 l1 h2 l2 h3 l3 h4 l4 h5 l5 : Nat) (tm led fl : Int) : List Nat := numB (h1, l1) ++ (numB (h2, l2) ++ (numB (h3, l3) ++ (numB (h4, l4) ++ numB (h5, l5)))) ++ (intB 4 tm ++ intB 4 led) ++ intB 2 fl
theorem trB_len (h1 l1 h2 l2 h3 l3 h4 l4 h5 l5 : Nat) (tm led fl : Int) : (trB h1 l1 h2 l2 h3 l3 h4 l4 h5 l5 tm led fl).length = 90 := by simp [trB, numB_len, intB_len]

set_option maxHeartbeats 2000000 in
theorem writeAc_any (cs : Array Value) (hi lo : Nat) (led fl : Int) (hwhi : Word64 (hi, lo)) (k0 : cs[0]? = some (.int .u64 (hi : Nat))) (k1 : cs[1]? = some (.int .u64 (lo : Nat))) (k2 : cs[2]? = some (.int .i64 led)) (k3 : cs[3]? = some (.int .i64 fl))
    (w : World) (b : Nat) (v : Value) (l : List Nat) (h : WrAt w b v l) (hT : l.length ≤ 900000) :
    Calls Try.prog 36 #[.pointer (some ⟨b, 0, none⟩), .agg cs] w fun e w' => ∃ v', e = .returned (.tuple #[]) ∧ WrAt w' b v' (l ++ acB hi lo led fl) ∧ WStep w w' b v v' := by
  have hlt := h.lt
  have hAb : w.heap.size ≠ b := by omega
  have r0 := Row.new w cs 42 rfl
  have h0 := h.alloc (.cells cs 42)
  have s0 := (WStep.refl w b v).alloc (.cells cs 42)
  have z0 : Hid (w.heap.size + 1 = (w.alloc (.cells cs 42)).heap.size) := by show _ = _; simp
  go_enter Try.func36, Try.ntmps36
  have c0_0 := (r0.cell 0).trans k0
  have c0_1 := (r0.cell 1).trans k1
  go_wp2_with (go_at_call 26; refine stop ?_)
  generalize w.alloc (.cells cs 42) = u0 at *
  have hp0 := nums_new h0 #[.int .u64 (hi : Nat), .int .u64 (lo : Nat)] [(hi, lo)] (by simp) _ 1 1 z0.out rfl (fun j hj => by
    match j, hj with
    | 0, _ => exact ⟨rfl, rfl, hwhi⟩) 26
  have ha0 := h0.alloc (.cells #[.int .u64 (hi : Nat), .int .u64 (lo : Nat)] 26)
  have ra0 := r0.alloc (.cells #[.int .u64 (hi : Nat), .int .u64 (lo : Nat)] 26)
  have sa0 := s0.alloc (.cells #[.int .u64 (hi : Nat), .int .u64 (lo : Nat)] 26)
  have hf0 : Far b _ w.heap.size := ⟨hAb, own_ne ha0.own ra0 (by decide)⟩
  refine (wnum_any _ [(hi, lo)] _ b _ _ ha0 hp0 (by first | omega | (simp [numB_len, intB_len]; omega))).mono ?_
  rintro e u1 ⟨v1, rfl, h1, q0⟩
  have r1 : Row u1 w.heap.size cs 42 := (q0.far hf0 ra0.lt).trans ra0
  have s1 := sa0.trans q0
  simp only [List.flatMap_cons, List.flatMap_nil, List.append_nil] at h1
  clear hp0 ha0 ra0 sa0 hf0 q0 r0 s0 h0 z0 c0_0 c0_1
  have c1_2 := (r1.cell 2).trans k2
  go_wp2_with (go_at_call 24; refine stop ?_)
  have hp1 := ints_new h1 [led] (by simp) _ 1 1 rfl rfl _ rfl 3
  have ha1 := h1.alloc (.cells #[.int .i64 led] 3)
  have ra1 := r1.alloc (.cells #[.int .i64 led] 3)
  have sa1 := s1.alloc (.cells #[.int .i64 led] 3)
  have hf1 : Far b _ w.heap.size := ⟨hAb, own_ne ha1.own ra1 (by decide)⟩
  refine (wint' 4 (by decide) _ rfl _ [led] _ b _ _ ha1 hp1 (by first | omega | (simp [numB_len, intB_len]; omega))).mono ?_
  rintro e u2 ⟨v2, rfl, h2, q1⟩
  have r2 : Row u2 w.heap.size cs 42 := (q1.far hf1 ra1.lt).trans ra1
  have s2 := sa1.trans q1
  simp only [List.flatMap_cons, List.flatMap_nil, List.append_nil] at h2
  clear hp1 ha1 ra1 sa1 hf1 q1 r1 s1 h1 c1_2
  have c2_3 := (r2.cell 3).trans k3
  go_wp2_with (go_at_call 24; refine stop ?_)
  have hp2 := ints_new h2 [fl] (by simp) _ 1 1 rfl rfl _ rfl 3
  have ha2 := h2.alloc (.cells #[.int .i64 fl] 3)
  have ra2 := r2.alloc (.cells #[.int .i64 fl] 3)
  have sa2 := s2.alloc (.cells #[.int .i64 fl] 3)
  have hf2 : Far b _ w.heap.size := ⟨hAb, own_ne ha2.own ra2 (by decide)⟩
  refine (wint' 2 (by decide) _ rfl _ [fl] _ b _ _ ha2 hp2 (by first | omega | (simp [numB_len, intB_len]; omega))).mono ?_
  rintro e u3 ⟨v3, rfl, h3, q2⟩
  have r3 : Row u3 w.heap.size cs 42 := (q2.far hf2 ra2.lt).trans ra2
  have s3 := sa2.trans q2
  simp only [List.flatMap_cons, List.flatMap_nil, List.append_nil] at h3
  clear hp2 ha2 ra2 sa2 hf2 q2 r2 s2 h2 c2_3
  go_wp2
  exact bodyPost_end (v := .tuple #[]) (by simp [results, Try.results36]) rfl ⟨_, rfl, by simpa only [acB, List.append_assoc] using h3, s3⟩

set_option maxHeartbeats 2000000 in
theorem writeTr_any (cs : Array Value) (H1 L1 H2 L2 H3 L3 H4 L4 H5 L5 : Nat) (tm led fl : Int) (hwH1 : Word64 (H1, L1)) (hwH2 : Word64 (H2, L2)) (hwH3 : Word64 (H3, L3)) (hwH4 : Word64 (H4, L4)) (hwH5 : Word64 (H5, L5)) (k0 : cs[0]? = some (.int .u64 (H1 : Nat))) (k1 : cs[1]? = some (.int .u64 (L1 : Nat))) (k2 : cs[2]? = some (.int .u64 (H2 : Nat))) (k3 : cs[3]? = some (.int .u64 (L2 : Nat))) (k4 : cs[4]? = some (.int .u64 (H3 : Nat))) (k5 : cs[5]? = some (.int .u64 (L3 : Nat))) (k6 : cs[6]? = some (.int .u64 (H4 : Nat))) (k7 : cs[7]? = some (.int .u64 (L4 : Nat))) (k8 : cs[8]? = some (.int .u64 (H5 : Nat))) (k9 : cs[9]? = some (.int .u64 (L5 : Nat))) (k10 : cs[10]? = some (.int .i64 tm)) (k11 : cs[11]? = some (.int .i64 led)) (k12 : cs[12]? = some (.int .i64 fl))
    (w : World) (b : Nat) (v : Value) (l : List Nat) (h : WrAt w b v l) (hT : l.length ≤ 900000) :
    Calls Try.prog 38 #[.pointer (some ⟨b, 0, none⟩), .agg cs] w fun e w' => ∃ v', e = .returned (.tuple #[]) ∧ WrAt w' b v' (l ++ trB H1 L1 H2 L2 H3 L3 H4 L4 H5 L5 tm led fl) ∧ WStep w w' b v v' := by
  have hlt := h.lt
  have hAb : w.heap.size ≠ b := by omega
  have r0 := Row.new w cs 71 rfl
  have h0 := h.alloc (.cells cs 71)
  have s0 := (WStep.refl w b v).alloc (.cells cs 71)
  have z0 : Hid (w.heap.size + 1 = (w.alloc (.cells cs 71)).heap.size) := by show _ = _; simp
  go_enter Try.func38, Try.ntmps38
  have c0_0 := (r0.cell 0).trans k0
  have c0_1 := (r0.cell 1).trans k1
  have c0_2 := (r0.cell 2).trans k2
  have c0_3 := (r0.cell 3).trans k3
  have c0_4 := (r0.cell 4).trans k4
  have c0_5 := (r0.cell 5).trans k5
  have c0_6 := (r0.cell 6).trans k6
  have c0_7 := (r0.cell 7).trans k7
  have c0_8 := (r0.cell 8).trans k8
  have c0_9 := (r0.cell 9).trans k9
  go_wp2_with (go_at_call 26; refine stop ?_)
  generalize w.alloc (.cells cs 71) = u0 at *
  have hp0 := nums_new h0 #[.int .u64 (H1 : Nat), .int .u64 (L1 : Nat), .int .u64 (H2 : Nat), .int .u64 (L2 : Nat), .int .u64 (H3 : Nat), .int .u64 (L3 : Nat), .int .u64 (H4 : Nat), .int .u64 (L4 : Nat), .int .u64 (H5 : Nat), .int .u64 (L5 : Nat)] [(H1, L1), (H2, L2), (H3, L3), (H4, L4), (H5, L5)] (by simp) _ 5 5 z0.out rfl (fun j hj => by
    match j, hj with
    | 0, _ => exact ⟨rfl, rfl, hwH1⟩
    | 1, _ => exact ⟨rfl, rfl, hwH2⟩
    | 2, _ => exact ⟨rfl, rfl, hwH3⟩
    | 3, _ => exact ⟨rfl, rfl, hwH4⟩
    | 4, _ => exact ⟨rfl, rfl, hwH5⟩) 26
  have ha0 := h0.alloc (.cells #[.int .u64 (H1 : Nat), .int .u64 (L1 : Nat), .int .u64 (H2 : Nat), .int .u64 (L2 : Nat), .int .u64 (H3 : Nat), .int .u64 (L3 : Nat), .int .u64 (H4 : Nat), .int .u64 (L4 : Nat), .int .u64 (H5 : Nat), .int .u64 (L5 : Nat)] 26)
  have ra0 := r0.alloc (.cells #[.int .u64 (H1 : Nat), .int .u64 (L1 : Nat), .int .u64 (H2 : Nat), .int .u64 (L2 : Nat), .int .u64 (H3 : Nat), .int .u64 (L3 : Nat), .int .u64 (H4 : Nat), .int .u64 (L4 : Nat), .int .u64 (H5 : Nat), .int .u64 (L5 : Nat)] 26)
  have sa0 := s0.alloc (.cells #[.int .u64 (H1 : Nat), .int .u64 (L1 : Nat), .int .u64 (H2 : Nat), .int .u64 (L2 : Nat), .int .u64 (H3 : Nat), .int .u64 (L3 : Nat), .int .u64 (H4 : Nat), .int .u64 (L4 : Nat), .int .u64 (H5 : Nat), .int .u64 (L5 : Nat)] 26)
  have hf0 : Far b _ w.heap.size := ⟨hAb, own_ne ha0.own ra0 (by decide)⟩
  refine (wnum_any _ [(H1, L1), (H2, L2), (H3, L3), (H4, L4), (H5, L5)] _ b _ _ ha0 hp0 (by first | omega | (simp [numB_len, intB_len]; omega))).mono ?_
  rintro e u1 ⟨v1, rfl, h1, q0⟩
  have r1 : Row u1 w.heap.size cs 71 := (q0.far hf0 ra0.lt).trans ra0
  have s1 := sa0.trans q0
  simp only [List.flatMap_cons, List.flatMap_nil, List.append_nil] at h1
  clear hp0 ha0 ra0 sa0 hf0 q0 r0 s0 h0 z0 c0_0 c0_1 c0_2 c0_3 c0_4 c0_5 c0_6 c0_7 c0_8 c0_9
  have c1_10 := (r1.cell 10).trans k10
  have c1_11 := (r1.cell 11).trans k11
  go_wp2_with (go_at_call 24; refine stop ?_)
  have hp1 := ints_new h1 [tm, led] (by simp) _ 2 2 rfl rfl _ rfl 3
  have ha1 := h1.alloc (.cells #[.int .i64 tm, .int .i64 led] 3)
  have ra1 := r1.alloc (.cells #[.int .i64 tm, .int .i64 led] 3)
  have sa1 := s1.alloc (.cells #[.int .i64 tm, .int .i64 led] 3)
  have hf1 : Far b _ w.heap.size := ⟨hAb, own_ne ha1.own ra1 (by decide)⟩
  refine (wint' 4 (by decide) _ rfl _ [tm, led] _ b _ _ ha1 hp1 (by first | omega | (simp [numB_len, intB_len]; omega))).mono ?_
  rintro e u2 ⟨v2, rfl, h2, q1⟩
  have r2 : Row u2 w.heap.size cs 71 := (q1.far hf1 ra1.lt).trans ra1
  have s2 := sa1.trans q1
  simp only [List.flatMap_cons, List.flatMap_nil, List.append_nil] at h2
  clear hp1 ha1 ra1 sa1 hf1 q1 r1 s1 h1 c1_10 c1_11
  have c2_12 := (r2.cell 12).trans k12
  go_wp2_with (go_at_call 24; refine stop ?_)
  have hp2 := ints_new h2 [fl] (by simp) _ 1 1 rfl rfl _ rfl 3
  have ha2 := h2.alloc (.cells #[.int .i64 fl] 3)
  have ra2 := r2.alloc (.cells #[.int .i64 fl] 3)
  have sa2 := s2.alloc (.cells #[.int .i64 fl] 3)
  have hf2 : Far b _ w.heap.size := ⟨hAb, own_ne ha2.own ra2 (by decide)⟩
  refine (wint' 2 (by decide) _ rfl _ [fl] _ b _ _ ha2 hp2 (by first | omega | (simp [numB_len, intB_len]; omega))).mono ?_
  rintro e u3 ⟨v3, rfl, h3, q2⟩
  have r3 : Row u3 w.heap.size cs 71 := (q2.far hf2 ra2.lt).trans ra2
  have s3 := sa2.trans q2
  simp only [List.flatMap_cons, List.flatMap_nil, List.append_nil] at h3
  clear hp2 ha2 ra2 sa2 hf2 q2 r2 s2 h2 c2_12
  go_wp2
  exact bodyPost_end (v := .tuple #[]) (by simp [results, Try.results38]) rfl ⟨_, rfl, by simpa only [trB, List.append_assoc] using h3, s3⟩
end Go.Proofs.Ytekpkbmelhgneaa
