
/-
  package wire: Request, kind by kind.
-/
import Derived.Test.YtekpkbmelhgneaaWiY
import Derived.Test.YtekpkbmelhgneaaWiF
namespace Go.Proofs.Ytekpkbmelhgneaa
open Go.RowKit
set_option maxRecDepth 100000
set_option linter.unusedSimpArgs false
set_option linter.unusedVariables false

/-- The bytes of a request. -/
def Rq.body (q : Rq) : List Nat :=
  if q.kind = 1 then intB 1 (q.acs.length : Nat) ++ q.acs.flatMap Ac.bytes
  else if q.kind = 2 then intB 1 (q.trs.length : Nat) ++ q.trs.flatMap Tr.bytes
  else if q.kind = 3 then intB 4 (q.fr : Nat)
  else if q.kind = 4 ∨ q.kind = 5 ∨ q.kind = 7 then numB (q.hi, q.lo)
  else if q.kind = 6 ∨ q.kind = 8 then numB (q.hi, q.lo) ++ (intB 6 (q.fr : Nat) ++ intB 6 (q.to : Nat)) ++ intB 1 (q.lim : Nat)
  else intB 4 (q.fr : Nat) ++ intB 4 (q.to : Nat)
def Rq.bytes (q : Rq) : List Nat := intB 1 (q.kind : Nat) ++ q.body
theorem wr_new (w : World) : WrAt (w.alloc (.cells #[.slice none 0 0] 54)) w.heap.size (.slice none 0 0) [] := ⟨Row.new _ _ _ rfl, World.ownsRow_nil _ _ _ _, W8.nil⟩
/-- What Request leaves: all that was there. -/
theorem below_of_wstep {w w1 w2 : World} {b : Nat} {v v' : Value} (hb : Below w.heap.size w w1) (h : WStep w1 w2 b v v') (h1 : w.heap.size ≤ b) (h2 : ∀ g, v.ownBlock = some g → w.heap.size ≤ g) : Below w.heap.size w w2 :=
  ⟨h.os.trans hb.os, h.tape.trans hb.tape, h.output.trans hb.output, Nat.le_trans hb.size h.size, fun k hk => (h.block k (Nat.lt_of_lt_of_le hk hb.size) (by omega) (fun e => by have := h2 k e; omega)).trans (hb.block k hk)⟩

set_option maxHeartbeats 4000000 in
theorem reqB_tick (K : Nat) (hk : K = 3) (va vt : Value) (hi lo fr to lim : Nat) (w : World) (base : Nat) (hwhi : Word64 (hi, lo)) (h1a : va.oneCell' = true) (h1t : vt.oneCell' = true) :
    Calls Try.prog 14 #[.agg (rqC K va vt hi lo fr to lim)] w fun e w' => ∃ v', e = .returned v' ∧ Own w' w.heap.size v' (intB 1 (K : Nat) ++ intB 4 (fr : Nat)) ∧ Below w.heap.size w w' := by
  subst hk
  have b0 := below2 w (.cells (rqC 3 va vt hi lo fr to lim) 28) (.cells #[.slice none 0 0] 54)
  have r0 : Row ((w.alloc (.cells (rqC 3 va vt hi lo fr to lim) 28)).alloc (.cells #[.slice none 0 0] 54)) w.heap.size (rqC 3 va vt hi lo fr to lim) 28 := (Row.new w (rqC 3 va vt hi lo fr to lim) 28 rfl).alloc _
  have h0 : WrAt ((w.alloc (.cells (rqC 3 va vt hi lo fr to lim) 28)).alloc (.cells #[.slice none 0 0] 54)) (w.heap.size + 1) (.slice none 0 0) [] := by have := wr_new (w.alloc (.cells (rqC 3 va vt hi lo fr to lim) 28)); simpa using this
  have k0 : (rqC 3 va vt hi lo fr to lim)[0]? = some (.int .i64 (3 : Nat)) := rfl
  have k1 : (rqC 3 va vt hi lo fr to lim)[1]? = some va := rfl
  have k2 : (rqC 3 va vt hi lo fr to lim)[2]? = some vt := rfl
  have k3 : (rqC 3 va vt hi lo fr to lim)[3]? = some (.int .u64 (hi : Nat)) := rfl
  have k4 : (rqC 3 va vt hi lo fr to lim)[4]? = some (.int .u64 (lo : Nat)) := rfl
  have k5 : (rqC 3 va vt hi lo fr to lim)[5]? = some (.int .i64 (fr : Nat)) := rfl
  have k6 : (rqC 3 va vt hi lo fr to lim)[6]? = some (.int .i64 (to : Nat)) := rfl
  have k7 : (rqC 3 va vt hi lo fr to lim)[7]? = some (.int .i64 (lim : Nat)) := rfl
  have hcs : (rqC 3 va vt hi lo fr to lim).size = 8 := rfl
  obtain ⟨b, hb⟩ : ∃ b, w.heap.size + 1 = b := ⟨_, rfl⟩
  have hAb : w.heap.size ≠ b := by omega
  have z0 : Hid (b + 1 = ((w.alloc (.cells (rqC 3 va vt hi lo fr to lim) 28)).alloc (.cells #[.slice none 0 0] 54)).heap.size) := by show _ = _; rw [← hb]; simp
  have HB : Hid (w.heap.size + 1 = b) := hb
  rw [hb] at h0
  have s0 : WStep ((w.alloc (.cells (rqC 3 va vt hi lo fr to lim) 28)).alloc (.cells #[.slice none 0 0] 54)) ((w.alloc (.cells (rqC 3 va vt hi lo fr to lim) 28)).alloc (.cells #[.slice none 0 0] 54)) b (.slice none 0 0) (.slice none 0 0) := WStep.refl _ _ _
  generalize (rqC 3 va vt hi lo fr to lim) = cs at *
  have ce0 := (r0.cell 0).trans k0
  go_enter Try.func14, Try.ntmps14
  have c0_0 := (r0.cell 0).trans k0
  go_wp2_with (go_at_call 24; refine stop ?_)
  clear hb
  generalize (w.alloc (.cells cs 28)).alloc (.cells #[.slice none 0 0] 54) = u0 at *
  have hp0 := ints_new h0 [3] (by simp) _ 1 1 z0.out rfl _ rfl 3
  have ha0 := h0.alloc (.cells #[.int .i64 3] 3)
  have ra0 := r0.alloc (.cells #[.int .i64 3] 3)
  have sa0 := s0.alloc (.cells #[.int .i64 3] 3)
  have hf0 : Far b _ w.heap.size := ⟨hAb, own_ne ha0.own ra0 (by decide)⟩
  refine (wint' 1 (by decide) _ rfl _ [3] _ b _ _ ha0 hp0 (by first | omega | (simp [numB_len, intB_len]; omega) | simp [numB_len, intB_len])).mono ?_
  rintro e u1 ⟨v1, rfl, h1, q0⟩
  have r1 : Row u1 w.heap.size cs 28 := (q0.far hf0 ra0.lt).trans ra0
  have s1 := sa0.trans q0
  have c0 := (r1.cell 0).trans k0
  simp only [List.flatMap_cons, List.flatMap_nil, List.append_nil] at h1
  clear hp0 ha0 ra0 sa0 hf0 q0 r0 s0 h0 z0 c0_0
  have c1_5 := (r1.cell 5).trans k5
  go_wp2_with (go_at_call 24; refine stop ?_)
  have hp1 := ints_new h1 [(fr : Nat)] (by simp) _ 1 1 rfl rfl _ rfl 3
  have ha1 := h1.alloc (.cells #[.int .i64 (fr : Nat)] 3)
  have ra1 := r1.alloc (.cells #[.int .i64 (fr : Nat)] 3)
  have sa1 := s1.alloc (.cells #[.int .i64 (fr : Nat)] 3)
  have hf1 : Far b _ w.heap.size := ⟨hAb, own_ne ha1.own ra1 (by decide)⟩
  refine (wint' 4 (by decide) _ rfl _ [(fr : Nat)] _ b _ _ ha1 hp1 (by first | omega | (simp [numB_len, intB_len]; omega) | simp [numB_len, intB_len])).mono ?_
  rintro e u2 ⟨v2, rfl, h2, q1⟩
  have r2 : Row u2 w.heap.size cs 28 := (q1.far hf1 ra1.lt).trans ra1
  have s2 := sa1.trans q1
  simp only [List.flatMap_cons, List.flatMap_nil, List.append_nil] at h2
  clear hp1 ha1 ra1 sa1 hf1 q1 r1 s1 h1 c1_5
  go_wp2_with (go_at_call 28; refine stop ?_)
  refine (wbytes_any _ b _ _ h2 (by simp [numB_len, intB_len])).mono ?_
  rintro e uz ⟨vz, rfl, oz, bz⟩
  have bf : Below w.heap.size w u2 := below_of_wstep b0 s2 (by have := HB.out; omega) (fun g hg => by cases hg)
  obtain ⟨pz, nz, cz, rfl, hz⟩ := oz.form
  clear hz
  have oz2 : Own uz w.heap.size (.slice pz nz cz) _ := ⟨oz.1, oz.2.imp id fun ⟨g, cap, cur, e, h1, h2⟩ => ⟨g, cap, cur, e, Nat.le_trans bf.size h1, h2⟩⟩
  clear oz
  go_wp2
  go_ret
  refine ⟨_, rfl, ?_, chain bf bz⟩
  simpa [List.append_assoc] using oz2

set_option maxHeartbeats 4000000 in
theorem reqB_find (K : Nat) (hk : K = 4 ∨ K = 5 ∨ K = 7) (va vt : Value) (hi lo fr to lim : Nat) (w : World) (base : Nat) (hwhi : Word64 (hi, lo)) (h1a : va.oneCell' = true) (h1t : vt.oneCell' = true) :
    Calls Try.prog 14 #[.agg (rqC K va vt hi lo fr to lim)] w fun e w' => ∃ v', e = .returned v' ∧ Own w' w.heap.size v' (intB 1 (K : Nat) ++ numB (hi, lo)) ∧ Below w.heap.size w w' := by
  rcases hk with rfl | rfl | rfl
  · have b0 := below2 w (.cells (rqC 4 va vt hi lo fr to lim) 28) (.cells #[.slice none 0 0] 54)
    have r0 : Row ((w.alloc (.cells (rqC 4 va vt hi lo fr to lim) 28)).alloc (.cells #[.slice none 0 0] 54)) w.heap.size (rqC 4 va vt hi lo fr to lim) 28 := (Row.new w (rqC 4 va vt hi lo fr to lim) 28 rfl).alloc _
    have h0 : WrAt ((w.alloc (.cells (rqC 4 va vt hi lo fr to lim) 28)).alloc (.cells #[.slice none 0 0] 54)) (w.heap.size + 1) (.slice none 0 0) [] := by have := wr_new (w.alloc (.cells (rqC 4 va vt hi lo fr to lim) 28)); simpa using this
    have k0 : (rqC 4 va vt hi lo fr to lim)[0]? = some (.int .i64 (4 : Nat)) := rfl
    have k1 : (rqC 4 va vt hi lo fr to lim)[1]? = some va := rfl
    have k2 : (rqC 4 va vt hi lo fr to lim)[2]? = some vt := rfl
    have k3 : (rqC 4 va vt hi lo fr to lim)[3]? = some (.int .u64 (hi : Nat)) := rfl
    have k4 : (rqC 4 va vt hi lo fr to lim)[4]? = some (.int .u64 (lo : Nat)) := rfl
    have k5 : (rqC 4 va vt hi lo fr to lim)[5]? = some (.int .i64 (fr : Nat)) := rfl
    have k6 : (rqC 4 va vt hi lo fr to lim)[6]? = some (.int .i64 (to : Nat)) := rfl
    have k7 : (rqC 4 va vt hi lo fr to lim)[7]? = some (.int .i64 (lim : Nat)) := rfl
    have hcs : (rqC 4 va vt hi lo fr to lim).size = 8 := rfl
    obtain ⟨b, hb⟩ : ∃ b, w.heap.size + 1 = b := ⟨_, rfl⟩
    have hAb : w.heap.size ≠ b := by omega
    have z0 : Hid (b + 1 = ((w.alloc (.cells (rqC 4 va vt hi lo fr to lim) 28)).alloc (.cells #[.slice none 0 0] 54)).heap.size) := by show _ = _; rw [← hb]; simp
    have HB : Hid (w.heap.size + 1 = b) := hb
    rw [hb] at h0
    have s0 : WStep ((w.alloc (.cells (rqC 4 va vt hi lo fr to lim) 28)).alloc (.cells #[.slice none 0 0] 54)) ((w.alloc (.cells (rqC 4 va vt hi lo fr to lim) 28)).alloc (.cells #[.slice none 0 0] 54)) b (.slice none 0 0) (.slice none 0 0) := WStep.refl _ _ _
    generalize (rqC 4 va vt hi lo fr to lim) = cs at *
    have ce0 := (r0.cell 0).trans k0
    go_enter Try.func14, Try.ntmps14
    have c0_0 := (r0.cell 0).trans k0
    go_wp2_with (go_at_call 24; refine stop ?_)
    clear hb
    generalize (w.alloc (.cells cs 28)).alloc (.cells #[.slice none 0 0] 54) = u0 at *
    have hp0 := ints_new h0 [4] (by simp) _ 1 1 z0.out rfl _ rfl 3
    have ha0 := h0.alloc (.cells #[.int .i64 4] 3)
    have ra0 := r0.alloc (.cells #[.int .i64 4] 3)
    have sa0 := s0.alloc (.cells #[.int .i64 4] 3)
    have hf0 : Far b _ w.heap.size := ⟨hAb, own_ne ha0.own ra0 (by decide)⟩
    refine (wint' 1 (by decide) _ rfl _ [4] _ b _ _ ha0 hp0 (by first | omega | (simp [numB_len, intB_len]; omega) | simp [numB_len, intB_len])).mono ?_
    rintro e u1 ⟨v1, rfl, h1, q0⟩
    have r1 : Row u1 w.heap.size cs 28 := (q0.far hf0 ra0.lt).trans ra0
    have s1 := sa0.trans q0
    have c0 := (r1.cell 0).trans k0
    simp only [List.flatMap_cons, List.flatMap_nil, List.append_nil] at h1
    clear hp0 ha0 ra0 sa0 hf0 q0 r0 s0 h0 z0 c0_0
    have c1_3 := (r1.cell 3).trans k3
    have c1_4 := (r1.cell 4).trans k4
    go_wp2_with (go_at_call 26; refine stop ?_)
    have hp1 := nums_new h1 #[.int .u64 (hi : Nat), .int .u64 (lo : Nat)] [(hi, lo)] (by simp) _ 1 1 rfl rfl (fun j hj => by
      match j, hj with
      | 0, _ => exact ⟨rfl, rfl, hwhi⟩) 26
    have ha1 := h1.alloc (.cells #[.int .u64 (hi : Nat), .int .u64 (lo : Nat)] 26)
    have ra1 := r1.alloc (.cells #[.int .u64 (hi : Nat), .int .u64 (lo : Nat)] 26)
    have sa1 := s1.alloc (.cells #[.int .u64 (hi : Nat), .int .u64 (lo : Nat)] 26)
    have hf1 : Far b _ w.heap.size := ⟨hAb, own_ne ha1.own ra1 (by decide)⟩
    refine (wnum_any _ [(hi, lo)] _ b _ _ ha1 hp1 (by first | omega | (simp [numB_len, intB_len]; omega) | simp [numB_len, intB_len])).mono ?_
    rintro e u2 ⟨v2, rfl, h2, q1⟩
    have r2 : Row u2 w.heap.size cs 28 := (q1.far hf1 ra1.lt).trans ra1
    have s2 := sa1.trans q1
    simp only [List.flatMap_cons, List.flatMap_nil, List.append_nil] at h2
    clear hp1 ha1 ra1 sa1 hf1 q1 r1 s1 h1 c1_3 c1_4
    go_wp2_with (go_at_call 28; refine stop ?_)
    refine (wbytes_any _ b _ _ h2 (by simp [numB_len, intB_len])).mono ?_
    rintro e uz ⟨vz, rfl, oz, bz⟩
    have bf : Below w.heap.size w u2 := below_of_wstep b0 s2 (by have := HB.out; omega) (fun g hg => by cases hg)
    obtain ⟨pz, nz, cz, rfl, hz⟩ := oz.form
    clear hz
    have oz2 : Own uz w.heap.size (.slice pz nz cz) _ := ⟨oz.1, oz.2.imp id fun ⟨g, cap, cur, e, h1, h2⟩ => ⟨g, cap, cur, e, Nat.le_trans bf.size h1, h2⟩⟩
    clear oz
    go_wp2
    go_ret
    refine ⟨_, rfl, ?_, chain bf bz⟩
    simpa [List.append_assoc] using oz2
  · have b0 := below2 w (.cells (rqC 5 va vt hi lo fr to lim) 28) (.cells #[.slice none 0 0] 54)
    have r0 : Row ((w.alloc (.cells (rqC 5 va vt hi lo fr to lim) 28)).alloc (.cells #[.slice none 0 0] 54)) w.heap.size (rqC 5 va vt hi lo fr to lim) 28 := (Row.new w (rqC 5 va vt hi lo fr to lim) 28 rfl).alloc _
    have h0 : WrAt ((w.alloc (.cells (rqC 5 va vt hi lo fr to lim) 28)).alloc (.cells #[.slice none 0 0] 54)) (w.heap.size + 1) (.slice none 0 0) [] := by have := wr_new (w.alloc (.cells (rqC 5 va vt hi lo fr to lim) 28)); simpa using this
    have k0 : (rqC 5 va vt hi lo fr to lim)[0]? = some (.int .i64 (5 : Nat)) := rfl
    have k1 : (rqC 5 va vt hi lo fr to lim)[1]? = some va := rfl
    have k2 : (rqC 5 va vt hi lo fr to lim)[2]? = some vt := rfl
    have k3 : (rqC 5 va vt hi lo fr to lim)[3]? = some (.int .u64 (hi : Nat)) := rfl
    have k4 : (rqC 5 va vt hi lo fr to lim)[4]? = some (.int .u64 (lo : Nat)) := rfl
    have k5 : (rqC 5 va vt hi lo fr to lim)[5]? = some (.int .i64 (fr : Nat)) := rfl
    have k6 : (rqC 5 va vt hi lo fr to lim)[6]? = some (.int .i64 (to : Nat)) := rfl
    have k7 : (rqC 5 va vt hi lo fr to lim)[7]? = some (.int .i64 (lim : Nat)) := rfl
    have hcs : (rqC 5 va vt hi lo fr to lim).size = 8 := rfl
    obtain ⟨b, hb⟩ : ∃ b, w.heap.size + 1 = b := ⟨_, rfl⟩
    have hAb : w.heap.size ≠ b := by omega
    have z0 : Hid (b + 1 = ((w.alloc (.cells (rqC 5 va vt hi lo fr to lim) 28)).alloc (.cells #[.slice none 0 0] 54)).heap.size) := by show _ = _; rw [← hb]; simp
    have HB : Hid (w.heap.size + 1 = b) := hb
    rw [hb] at h0
    have s0 : WStep ((w.alloc (.cells (rqC 5 va vt hi lo fr to lim) 28)).alloc (.cells #[.slice none 0 0] 54)) ((w.alloc (.cells (rqC 5 va vt hi lo fr to lim) 28)).alloc (.cells #[.slice none 0 0] 54)) b (.slice none 0 0) (.slice none 0 0) := WStep.refl _ _ _
    generalize (rqC 5 va vt hi lo fr to lim) = cs at *
    have ce0 := (r0.cell 0).trans k0
    go_enter Try.func14, Try.ntmps14
    have c0_0 := (r0.cell 0).trans k0
    go_wp2_with (go_at_call 24; refine stop ?_)
    clear hb
    generalize (w.alloc (.cells cs 28)).alloc (.cells #[.slice none 0 0] 54) = u0 at *
    have hp0 := ints_new h0 [5] (by simp) _ 1 1 z0.out rfl _ rfl 3
    have ha0 := h0.alloc (.cells #[.int .i64 5] 3)
    have ra0 := r0.alloc (.cells #[.int .i64 5] 3)
    have sa0 := s0.alloc (.cells #[.int .i64 5] 3)
    have hf0 : Far b _ w.heap.size := ⟨hAb, own_ne ha0.own ra0 (by decide)⟩
    refine (wint' 1 (by decide) _ rfl _ [5] _ b _ _ ha0 hp0 (by first | omega | (simp [numB_len, intB_len]; omega) | simp [numB_len, intB_len])).mono ?_
    rintro e u1 ⟨v1, rfl, h1, q0⟩
    have r1 : Row u1 w.heap.size cs 28 := (q0.far hf0 ra0.lt).trans ra0
    have s1 := sa0.trans q0
    have c0 := (r1.cell 0).trans k0
    simp only [List.flatMap_cons, List.flatMap_nil, List.append_nil] at h1
    clear hp0 ha0 ra0 sa0 hf0 q0 r0 s0 h0 z0 c0_0
    have c1_3 := (r1.cell 3).trans k3
    have c1_4 := (r1.cell 4).trans k4
    go_wp2_with (go_at_call 26; refine stop ?_)
    have hp1 := nums_new h1 #[.int .u64 (hi : Nat), .int .u64 (lo : Nat)] [(hi, lo)] (by simp) _ 1 1 rfl rfl (fun j hj => by
      match j, hj with
      | 0, _ => exact ⟨rfl, rfl, hwhi⟩) 26
    have ha1 := h1.alloc (.cells #[.int .u64 (hi : Nat), .int .u64 (lo : Nat)] 26)
    have ra1 := r1.alloc (.cells #[.int .u64 (hi : Nat), .int .u64 (lo : Nat)] 26)
    have sa1 := s1.alloc (.cells #[.int .u64 (hi : Nat), .int .u64 (lo : Nat)] 26)
    have hf1 : Far b _ w.heap.size := ⟨hAb, own_ne ha1.own ra1 (by decide)⟩
    refine (wnum_any _ [(hi, lo)] _ b _ _ ha1 hp1 (by first | omega | (simp [numB_len, intB_len]; omega) | simp [numB_len, intB_len])).mono ?_
    rintro e u2 ⟨v2, rfl, h2, q1⟩
    have r2 : Row u2 w.heap.size cs 28 := (q1.far hf1 ra1.lt).trans ra1
    have s2 := sa1.trans q1
    simp only [List.flatMap_cons, List.flatMap_nil, List.append_nil] at h2
    clear hp1 ha1 ra1 sa1 hf1 q1 r1 s1 h1 c1_3 c1_4
    go_wp2_with (go_at_call 28; refine stop ?_)
    refine (wbytes_any _ b _ _ h2 (by simp [numB_len, intB_len])).mono ?_
    rintro e uz ⟨vz, rfl, oz, bz⟩
    have bf : Below w.heap.size w u2 := below_of_wstep b0 s2 (by have := HB.out; omega) (fun g hg => by cases hg)
    obtain ⟨pz, nz, cz, rfl, hz⟩ := oz.form
    clear hz
    have oz2 : Own uz w.heap.size (.slice pz nz cz) _ := ⟨oz.1, oz.2.imp id fun ⟨g, cap, cur, e, h1, h2⟩ => ⟨g, cap, cur, e, Nat.le_trans bf.size h1, h2⟩⟩
    clear oz
    go_wp2
    go_ret
    refine ⟨_, rfl, ?_, chain bf bz⟩
    simpa [List.append_assoc] using oz2
  · have b0 := below2 w (.cells (rqC 7 va vt hi lo fr to lim) 28) (.cells #[.slice none 0 0] 54)
    have r0 : Row ((w.alloc (.cells (rqC 7 va vt hi lo fr to lim) 28)).alloc (.cells #[.slice none 0 0] 54)) w.heap.size (rqC 7 va vt hi lo fr to lim) 28 := (Row.new w (rqC 7 va vt hi lo fr to lim) 28 rfl).alloc _
    have h0 : WrAt ((w.alloc (.cells (rqC 7 va vt hi lo fr to lim) 28)).alloc (.cells #[.slice none 0 0] 54)) (w.heap.size + 1) (.slice none 0 0) [] := by have := wr_new (w.alloc (.cells (rqC 7 va vt hi lo fr to lim) 28)); simpa using this
    have k0 : (rqC 7 va vt hi lo fr to lim)[0]? = some (.int .i64 (7 : Nat)) := rfl
    have k1 : (rqC 7 va vt hi lo fr to lim)[1]? = some va := rfl
    have k2 : (rqC 7 va vt hi lo fr to lim)[2]? = some vt := rfl
    have k3 : (rqC 7 va vt hi lo fr to lim)[3]? = some (.int .u64 (hi : Nat)) := rfl
    have k4 : (rqC 7 va vt hi lo fr to lim)[4]? = some (.int .u64 (lo : Nat)) := rfl
    have k5 : (rqC 7 va vt hi lo fr to lim)[5]? = some (.int .i64 (fr : Nat)) := rfl
    have k6 : (rqC 7 va vt hi lo fr to lim)[6]? = some (.int .i64 (to : Nat)) := rfl
    have k7 : (rqC 7 va vt hi lo fr to lim)[7]? = some (.int .i64 (lim : Nat)) := rfl
    have hcs : (rqC 7 va vt hi lo fr to lim).size = 8 := rfl
    obtain ⟨b, hb⟩ : ∃ b, w.heap.size + 1 = b := ⟨_, rfl⟩
    have hAb : w.heap.size ≠ b := by omega
    have z0 : Hid (b + 1 = ((w.alloc (.cells (rqC 7 va vt hi lo fr to lim) 28)).alloc (.cells #[.slice none 0 0] 54)).heap.size) := by show _ = _; rw [← hb]; simp
    have HB : Hid (w.heap.size + 1 = b) := hb
    rw [hb] at h0
    have s0 : WStep ((w.alloc (.cells (rqC 7 va vt hi lo fr to lim) 28)).alloc (.cells #[.slice none 0 0] 54)) ((w.alloc (.cells (rqC 7 va vt hi lo fr to lim) 28)).alloc (.cells #[.slice none 0 0] 54)) b (.slice none 0 0) (.slice none 0 0) := WStep.refl _ _ _
    generalize (rqC 7 va vt hi lo fr to lim) = cs at *
    have ce0 := (r0.cell 0).trans k0
    go_enter Try.func14, Try.ntmps14
    have c0_0 := (r0.cell 0).trans k0
    go_wp2_with (go_at_call 24; refine stop ?_)
    clear hb
    generalize (w.alloc (.cells cs 28)).alloc (.cells #[.slice none 0 0] 54) = u0 at *
    have hp0 := ints_new h0 [7] (by simp) _ 1 1 z0.out rfl _ rfl 3
    have ha0 := h0.alloc (.cells #[.int .i64 7] 3)
    have ra0 := r0.alloc (.cells #[.int .i64 7] 3)
    have sa0 := s0.alloc (.cells #[.int .i64 7] 3)
    have hf0 : Far b _ w.heap.size := ⟨hAb, own_ne ha0.own ra0 (by decide)⟩
    refine (wint' 1 (by decide) _ rfl _ [7] _ b _ _ ha0 hp0 (by first | omega | (simp [numB_len, intB_len]; omega) | simp [numB_len, intB_len])).mono ?_
    rintro e u1 ⟨v1, rfl, h1, q0⟩
    have r1 : Row u1 w.heap.size cs 28 := (q0.far hf0 ra0.lt).trans ra0
    have s1 := sa0.trans q0
    have c0 := (r1.cell 0).trans k0
    simp only [List.flatMap_cons, List.flatMap_nil, List.append_nil] at h1
    clear hp0 ha0 ra0 sa0 hf0 q0 r0 s0 h0 z0 c0_0
    have c1_3 := (r1.cell 3).trans k3
    have c1_4 := (r1.cell 4).trans k4
    go_wp2_with (go_at_call 26; refine stop ?_)
    have hp1 := nums_new h1 #[.int .u64 (hi : Nat), .int .u64 (lo : Nat)] [(hi, lo)] (by simp) _ 1 1 rfl rfl (fun j hj => by
      match j, hj with
      | 0, _ => exact ⟨rfl, rfl, hwhi⟩) 26
    have ha1 := h1.alloc (.cells #[.int .u64 (hi : Nat), .int .u64 (lo : Nat)] 26)
    have ra1 := r1.alloc (.cells #[.int .u64 (hi : Nat), .int .u64 (lo : Nat)] 26)
    have sa1 := s1.alloc (.cells #[.int .u64 (hi : Nat), .int .u64 (lo : Nat)] 26)
    have hf1 : Far b _ w.heap.size := ⟨hAb, own_ne ha1.own ra1 (by decide)⟩
    refine (wnum_any _ [(hi, lo)] _ b _ _ ha1 hp1 (by first | omega | (simp [numB_len, intB_len]; omega) | simp [numB_len, intB_len])).mono ?_
    rintro e u2 ⟨v2, rfl, h2, q1⟩
    have r2 : Row u2 w.heap.size cs 28 := (q1.far hf1 ra1.lt).trans ra1
    have s2 := sa1.trans q1
    simp only [List.flatMap_cons, List.flatMap_nil, List.append_nil] at h2
    clear hp1 ha1 ra1 sa1 hf1 q1 r1 s1 h1 c1_3 c1_4
    go_wp2_with (go_at_call 28; refine stop ?_)
    refine (wbytes_any _ b _ _ h2 (by simp [numB_len, intB_len])).mono ?_
    rintro e uz ⟨vz, rfl, oz, bz⟩
    have bf : Below w.heap.size w u2 := below_of_wstep b0 s2 (by have := HB.out; omega) (fun g hg => by cases hg)
    obtain ⟨pz, nz, cz, rfl, hz⟩ := oz.form
    clear hz
    have oz2 : Own uz w.heap.size (.slice pz nz cz) _ := ⟨oz.1, oz.2.imp id fun ⟨g, cap, cur, e, h1, h2⟩ => ⟨g, cap, cur, e, Nat.le_trans bf.size h1, h2⟩⟩
    clear oz
    go_wp2
    go_ret
    refine ⟨_, rfl, ?_, chain bf bz⟩
    simpa [List.append_assoc] using oz2

set_option maxHeartbeats 4000000 in
theorem reqB_grow (K : Nat) (hk : K = 9) (va vt : Value) (hi lo fr to lim : Nat) (w : World) (base : Nat) (hwhi : Word64 (hi, lo)) (h1a : va.oneCell' = true) (h1t : vt.oneCell' = true) :
    Calls Try.prog 14 #[.agg (rqC K va vt hi lo fr to lim)] w fun e w' => ∃ v', e = .returned v' ∧ Own w' w.heap.size v' (intB 1 (K : Nat) ++ (intB 4 (fr : Nat) ++ intB 4 (to : Nat))) ∧ Below w.heap.size w w' := by
  subst hk
  have b0 := below2 w (.cells (rqC 9 va vt hi lo fr to lim) 28) (.cells #[.slice none 0 0] 54)
  have r0 : Row ((w.alloc (.cells (rqC 9 va vt hi lo fr to lim) 28)).alloc (.cells #[.slice none 0 0] 54)) w.heap.size (rqC 9 va vt hi lo fr to lim) 28 := (Row.new w (rqC 9 va vt hi lo fr to lim) 28 rfl).alloc _
  have h0 : WrAt ((w.alloc (.cells (rqC 9 va vt hi lo fr to lim) 28)).alloc (.cells #[.slice none 0 0] 54)) (w.heap.size + 1) (.slice none 0 0) [] := by have := wr_new (w.alloc (.cells (rqC 9 va vt hi lo fr to lim) 28)); simpa using this
  have k0 : (rqC 9 va vt hi lo fr to lim)[0]? = some (.int .i64 (9 : Nat)) := rfl
  have k1 : (rqC 9 va vt hi lo fr to lim)[1]? = some va := rfl
  have k2 : (rqC 9 va vt hi lo fr to lim)[2]? = some vt := rfl
  have k3 : (rqC 9 va vt hi lo fr to lim)[3]? = some (.int .u64 (hi : Nat)) := rfl
  have k4 : (rqC 9 va vt hi lo fr to lim)[4]? = some (.int .u64 (lo : Nat)) := rfl
  have k5 : (rqC 9 va vt hi lo fr to lim)[5]? = some (.int .i64 (fr : Nat)) := rfl
  have k6 : (rqC 9 va vt hi lo fr to lim)[6]? = some (.int .i64 (to : Nat)) := rfl
  have k7 : (rqC 9 va vt hi lo fr to lim)[7]? = some (.int .i64 (lim : Nat)) := rfl
  have hcs : (rqC 9 va vt hi lo fr to lim).size = 8 := rfl
  obtain ⟨b, hb⟩ : ∃ b, w.heap.size + 1 = b := ⟨_, rfl⟩
  have hAb : w.heap.size ≠ b := by omega
  have z0 : Hid (b + 1 = ((w.alloc (.cells (rqC 9 va vt hi lo fr to lim) 28)).alloc (.cells #[.slice none 0 0] 54)).heap.size) := by show _ = _; rw [← hb]; simp
  have HB : Hid (w.heap.size + 1 = b) := hb
  rw [hb] at h0
  have s0 : WStep ((w.alloc (.cells (rqC 9 va vt hi lo fr to lim) 28)).alloc (.cells #[.slice none 0 0] 54)) ((w.alloc (.cells (rqC 9 va vt hi lo fr to lim) 28)).alloc (.cells #[.slice none 0 0] 54)) b (.slice none 0 0) (.slice none 0 0) := WStep.refl _ _ _
  generalize (rqC 9 va vt hi lo fr to lim) = cs at *
  have ce0 := (r0.cell 0).trans k0
  go_enter Try.func14, Try.ntmps14
  have c0_0 := (r0.cell 0).trans k0
  go_wp2_with (go_at_call 24; refine stop ?_)
  clear hb
  generalize (w.alloc (.cells cs 28)).alloc (.cells #[.slice none 0 0] 54) = u0 at *
  have hp0 := ints_new h0 [9] (by simp) _ 1 1 z0.out rfl _ rfl 3
  have ha0 := h0.alloc (.cells #[.int .i64 9] 3)
  have ra0 := r0.alloc (.cells #[.int .i64 9] 3)
  have sa0 := s0.alloc (.cells #[.int .i64 9] 3)
  have hf0 : Far b _ w.heap.size := ⟨hAb, own_ne ha0.own ra0 (by decide)⟩
  refine (wint' 1 (by decide) _ rfl _ [9] _ b _ _ ha0 hp0 (by first | omega | (simp [numB_len, intB_len]; omega) | simp [numB_len, intB_len])).mono ?_
  rintro e u1 ⟨v1, rfl, h1, q0⟩
  have r1 : Row u1 w.heap.size cs 28 := (q0.far hf0 ra0.lt).trans ra0
  have s1 := sa0.trans q0
  have c0 := (r1.cell 0).trans k0
  simp only [List.flatMap_cons, List.flatMap_nil, List.append_nil] at h1
  clear hp0 ha0 ra0 sa0 hf0 q0 r0 s0 h0 z0 c0_0
  have c1_5 := (r1.cell 5).trans k5
  have c1_6 := (r1.cell 6).trans k6
  go_wp2_with (go_at_call 24; refine stop ?_)
  have hp1 := ints_new h1 [(fr : Nat), (to : Nat)] (by simp) _ 2 2 rfl rfl _ rfl 3
  have ha1 := h1.alloc (.cells #[.int .i64 (fr : Nat), .int .i64 (to : Nat)] 3)
  have ra1 := r1.alloc (.cells #[.int .i64 (fr : Nat), .int .i64 (to : Nat)] 3)
  have sa1 := s1.alloc (.cells #[.int .i64 (fr : Nat), .int .i64 (to : Nat)] 3)
  have hf1 : Far b _ w.heap.size := ⟨hAb, own_ne ha1.own ra1 (by decide)⟩
  refine (wint' 4 (by decide) _ rfl _ [(fr : Nat), (to : Nat)] _ b _ _ ha1 hp1 (by first | omega | (simp [numB_len, intB_len]; omega) | simp [numB_len, intB_len])).mono ?_
  rintro e u2 ⟨v2, rfl, h2, q1⟩
  have r2 : Row u2 w.heap.size cs 28 := (q1.far hf1 ra1.lt).trans ra1
  have s2 := sa1.trans q1
  simp only [List.flatMap_cons, List.flatMap_nil, List.append_nil] at h2
  clear hp1 ha1 ra1 sa1 hf1 q1 r1 s1 h1 c1_5 c1_6
  go_wp2_with (go_at_call 28; refine stop ?_)
  refine (wbytes_any _ b _ _ h2 (by simp [numB_len, intB_len])).mono ?_
  rintro e uz ⟨vz, rfl, oz, bz⟩
  have bf : Below w.heap.size w u2 := below_of_wstep b0 s2 (by have := HB.out; omega) (fun g hg => by cases hg)
  obtain ⟨pz, nz, cz, rfl, hz⟩ := oz.form
  clear hz
  have oz2 : Own uz w.heap.size (.slice pz nz cz) _ := ⟨oz.1, oz.2.imp id fun ⟨g, cap, cur, e, h1, h2⟩ => ⟨g, cap, cur, e, Nat.le_trans bf.size h1, h2⟩⟩
  clear oz
  go_wp2
  go_ret
  refine ⟨_, rfl, ?_, chain bf bz⟩
  simpa [List.append_assoc] using oz2

set_option maxHeartbeats 4000000 in
theorem reqB_acs (K : Nat) (hk : K = 1) (va vt : Value) (hi lo fr to lim : Nat) (w : World) (base : Nat) (hwhi : Word64 (hi, lo)) (h1a : va.oneCell' = true) (h1t : vt.oneCell' = true) (L : List Ac) (ha : AcsAt w base va L) (hok : ∀ a ∈ L, Ac.ok a) (hL : L.length ≤ 1000) :
    Calls Try.prog 14 #[.agg (rqC K va vt hi lo fr to lim)] w fun e w' => ∃ v', e = .returned v' ∧ Own w' w.heap.size v' (intB 1 (K : Nat) ++ (intB 1 (L.length : Nat) ++ L.flatMap Ac.bytes)) ∧ Below w.heap.size w w' := by
  subst hk
  have b0 := below2 w (.cells (rqC 1 va vt hi lo fr to lim) 28) (.cells #[.slice none 0 0] 54)
  have r0 : Row ((w.alloc (.cells (rqC 1 va vt hi lo fr to lim) 28)).alloc (.cells #[.slice none 0 0] 54)) w.heap.size (rqC 1 va vt hi lo fr to lim) 28 := (Row.new w (rqC 1 va vt hi lo fr to lim) 28 rfl).alloc _
  have h0 : WrAt ((w.alloc (.cells (rqC 1 va vt hi lo fr to lim) 28)).alloc (.cells #[.slice none 0 0] 54)) (w.heap.size + 1) (.slice none 0 0) [] := by have := wr_new (w.alloc (.cells (rqC 1 va vt hi lo fr to lim) 28)); simpa using this
  have k0 : (rqC 1 va vt hi lo fr to lim)[0]? = some (.int .i64 (1 : Nat)) := rfl
  have k1 : (rqC 1 va vt hi lo fr to lim)[1]? = some va := rfl
  have k2 : (rqC 1 va vt hi lo fr to lim)[2]? = some vt := rfl
  have k3 : (rqC 1 va vt hi lo fr to lim)[3]? = some (.int .u64 (hi : Nat)) := rfl
  have k4 : (rqC 1 va vt hi lo fr to lim)[4]? = some (.int .u64 (lo : Nat)) := rfl
  have k5 : (rqC 1 va vt hi lo fr to lim)[5]? = some (.int .i64 (fr : Nat)) := rfl
  have k6 : (rqC 1 va vt hi lo fr to lim)[6]? = some (.int .i64 (to : Nat)) := rfl
  have k7 : (rqC 1 va vt hi lo fr to lim)[7]? = some (.int .i64 (lim : Nat)) := rfl
  have hcs : (rqC 1 va vt hi lo fr to lim).size = 8 := rfl
  obtain ⟨b, hb⟩ : ∃ b, w.heap.size + 1 = b := ⟨_, rfl⟩
  have hAb : w.heap.size ≠ b := by omega
  have z0 : Hid (b + 1 = ((w.alloc (.cells (rqC 1 va vt hi lo fr to lim) 28)).alloc (.cells #[.slice none 0 0] 54)).heap.size) := by show _ = _; rw [← hb]; simp
  have HB : Hid (w.heap.size + 1 = b) := hb
  rw [hb] at h0
  have s0 : WStep ((w.alloc (.cells (rqC 1 va vt hi lo fr to lim) 28)).alloc (.cells #[.slice none 0 0] 54)) ((w.alloc (.cells (rqC 1 va vt hi lo fr to lim) 28)).alloc (.cells #[.slice none 0 0] 54)) b (.slice none 0 0) (.slice none 0 0) := WStep.refl _ _ _
  generalize (rqC 1 va vt hi lo fr to lim) = cs at *
  have ce0 := (r0.cell 0).trans k0
  have ha0 : AcsAt ((w.alloc (.cells cs 28)).alloc (.cells #[.slice none 0 0] 54)) base va L := ownsRow_keep ha (fun k _ hk _ => b0.block k hk)
  obtain ⟨pe, ne, ce, hve, hne⟩ := ownsRow_form ha
  subst hve
  clear hne
  go_enter Try.func14, Try.ntmps14
  have c0_0 := (r0.cell 0).trans k0
  go_wp2_with (go_at_call 24; refine stop ?_)
  have h00 := h0
  clear hb
  generalize (w.alloc (.cells cs 28)).alloc (.cells #[.slice none 0 0] 54) = u0 at *
  have hp0 := ints_new h0 [1] (by simp) _ 1 1 z0.out rfl _ rfl 3
  have ha0 := h0.alloc (.cells #[.int .i64 1] 3)
  have ra0 := r0.alloc (.cells #[.int .i64 1] 3)
  have sa0 := s0.alloc (.cells #[.int .i64 1] 3)
  have hf0 : Far b _ w.heap.size := ⟨hAb, own_ne ha0.own ra0 (by decide)⟩
  refine (wint' 1 (by decide) _ rfl _ [1] _ b _ _ ha0 hp0 (by first | omega | (simp [numB_len, intB_len]; omega) | simp [numB_len, intB_len])).mono ?_
  rintro e u1 ⟨v1, rfl, h1, q0⟩
  have r1 : Row u1 w.heap.size cs 28 := (q0.far hf0 ra0.lt).trans ra0
  have s1 := sa0.trans q0
  have c0 := (r1.cell 0).trans k0
  simp only [List.flatMap_cons, List.flatMap_nil, List.append_nil] at h1
  clear hp0 ha0 ra0 sa0 hf0 q0 r0 s0 h0 z0 c0_0
  have cE := (r1.cell 1).trans k1
  go_wp2_with (go_at_call 35; refine stop ?_)
  have haE := ownsRow_far h00 ha0 (by decide) (by decide) s1
  refine (writeAcs_any _ L base _ b _ _ h1 haE hok hL (by simp [intB_len])).mono ?_
  rintro e u2 ⟨v2, rfl, h2, qE⟩
  have s2 := s1.trans qE
  clear qE haE
  go_wp2_with (go_at_call 28; refine stop ?_)
  refine (wbytes_any _ b _ _ h2 (by simp [numB_len, intB_len, flat_len Ac.bytes 22 Ac.bytes_len, flat_len Tr.bytes 90 Tr.bytes_len]; omega)).mono ?_
  rintro e uz ⟨vz, rfl, oz, bz⟩
  have bf : Below w.heap.size w u2 := below_of_wstep b0 s2 (by have := HB.out; omega) (fun g hg => by cases hg)
  obtain ⟨pz, nz, cz, rfl, hz⟩ := oz.form
  clear hz
  have oz2 : Own uz w.heap.size (.slice pz nz cz) _ := ⟨oz.1, oz.2.imp id fun ⟨g, cap, cur, e, h1, h2⟩ => ⟨g, cap, cur, e, Nat.le_trans bf.size h1, h2⟩⟩
  clear oz
  go_wp2
  go_ret
  refine ⟨_, rfl, ?_, chain bf bz⟩
  simpa [List.append_assoc] using oz2

set_option maxHeartbeats 4000000 in
theorem reqB_trs (K : Nat) (hk : K = 2) (va vt : Value) (hi lo fr to lim : Nat) (w : World) (base : Nat) (hwhi : Word64 (hi, lo)) (h1a : va.oneCell' = true) (h1t : vt.oneCell' = true) (L : List Tr) (ha : TrsAt w base vt L) (hok : ∀ a ∈ L, Tr.ok a) (hL : L.length ≤ 1000) :
    Calls Try.prog 14 #[.agg (rqC K va vt hi lo fr to lim)] w fun e w' => ∃ v', e = .returned v' ∧ Own w' w.heap.size v' (intB 1 (K : Nat) ++ (intB 1 (L.length : Nat) ++ L.flatMap Tr.bytes)) ∧ Below w.heap.size w w' := by
  subst hk
  have b0 := below2 w (.cells (rqC 2 va vt hi lo fr to lim) 28) (.cells #[.slice none 0 0] 54)
  have r0 : Row ((w.alloc (.cells (rqC 2 va vt hi lo fr to lim) 28)).alloc (.cells #[.slice none 0 0] 54)) w.heap.size (rqC 2 va vt hi lo fr to lim) 28 := (Row.new w (rqC 2 va vt hi lo fr to lim) 28 rfl).alloc _
  have h0 : WrAt ((w.alloc (.cells (rqC 2 va vt hi lo fr to lim) 28)).alloc (.cells #[.slice none 0 0] 54)) (w.heap.size + 1) (.slice none 0 0) [] := by have := wr_new (w.alloc (.cells (rqC 2 va vt hi lo fr to lim) 28)); simpa using this
  have k0 : (rqC 2 va vt hi lo fr to lim)[0]? = some (.int .i64 (2 : Nat)) := rfl
  have k1 : (rqC 2 va vt hi lo fr to lim)[1]? = some va := rfl
  have k2 : (rqC 2 va vt hi lo fr to lim)[2]? = some vt := rfl
  have k3 : (rqC 2 va vt hi lo fr to lim)[3]? = some (.int .u64 (hi : Nat)) := rfl
  have k4 : (rqC 2 va vt hi lo fr to lim)[4]? = some (.int .u64 (lo : Nat)) := rfl
  have k5 : (rqC 2 va vt hi lo fr to lim)[5]? = some (.int .i64 (fr : Nat)) := rfl
  have k6 : (rqC 2 va vt hi lo fr to lim)[6]? = some (.int .i64 (to : Nat)) := rfl
  have k7 : (rqC 2 va vt hi lo fr to lim)[7]? = some (.int .i64 (lim : Nat)) := rfl
  have hcs : (rqC 2 va vt hi lo fr to lim).size = 8 := rfl
  obtain ⟨b, hb⟩ : ∃ b, w.heap.size + 1 = b := ⟨_, rfl⟩
  have hAb : w.heap.size ≠ b := by omega
  have z0 : Hid (b + 1 = ((w.alloc (.cells (rqC 2 va vt hi lo fr to lim) 28)).alloc (.cells #[.slice none 0 0] 54)).heap.size) := by show _ = _; rw [← hb]; simp
  have HB : Hid (w.heap.size + 1 = b) := hb
  rw [hb] at h0
  have s0 : WStep ((w.alloc (.cells (rqC 2 va vt hi lo fr to lim) 28)).alloc (.cells #[.slice none 0 0] 54)) ((w.alloc (.cells (rqC 2 va vt hi lo fr to lim) 28)).alloc (.cells #[.slice none 0 0] 54)) b (.slice none 0 0) (.slice none 0 0) := WStep.refl _ _ _
  generalize (rqC 2 va vt hi lo fr to lim) = cs at *
  have ce0 := (r0.cell 0).trans k0
  have ha0 : TrsAt ((w.alloc (.cells cs 28)).alloc (.cells #[.slice none 0 0] 54)) base vt L := ownsRow_keep ha (fun k _ hk _ => b0.block k hk)
  obtain ⟨pe, ne, ce, hve, hne⟩ := ownsRow_form ha
  subst hve
  clear hne
  go_enter Try.func14, Try.ntmps14
  have c0_0 := (r0.cell 0).trans k0
  go_wp2_with (go_at_call 24; refine stop ?_)
  have h00 := h0
  clear hb
  generalize (w.alloc (.cells cs 28)).alloc (.cells #[.slice none 0 0] 54) = u0 at *
  have hp0 := ints_new h0 [2] (by simp) _ 1 1 z0.out rfl _ rfl 3
  have ha0 := h0.alloc (.cells #[.int .i64 2] 3)
  have ra0 := r0.alloc (.cells #[.int .i64 2] 3)
  have sa0 := s0.alloc (.cells #[.int .i64 2] 3)
  have hf0 : Far b _ w.heap.size := ⟨hAb, own_ne ha0.own ra0 (by decide)⟩
  refine (wint' 1 (by decide) _ rfl _ [2] _ b _ _ ha0 hp0 (by first | omega | (simp [numB_len, intB_len]; omega) | simp [numB_len, intB_len])).mono ?_
  rintro e u1 ⟨v1, rfl, h1, q0⟩
  have r1 : Row u1 w.heap.size cs 28 := (q0.far hf0 ra0.lt).trans ra0
  have s1 := sa0.trans q0
  have c0 := (r1.cell 0).trans k0
  simp only [List.flatMap_cons, List.flatMap_nil, List.append_nil] at h1
  clear hp0 ha0 ra0 sa0 hf0 q0 r0 s0 h0 z0 c0_0
  have cE := (r1.cell 2).trans k2
  go_wp2_with (go_at_call 37; refine stop ?_)
  have haE := ownsRow_far h00 ha0 (by decide) (by decide) s1
  refine (writeTrs_any _ L base _ b _ _ h1 haE hok hL (by simp [intB_len])).mono ?_
  rintro e u2 ⟨v2, rfl, h2, qE⟩
  have s2 := s1.trans qE
  clear qE haE
  go_wp2_with (go_at_call 28; refine stop ?_)
  refine (wbytes_any _ b _ _ h2 (by simp [numB_len, intB_len, flat_len Ac.bytes 22 Ac.bytes_len, flat_len Tr.bytes 90 Tr.bytes_len]; omega)).mono ?_
  rintro e uz ⟨vz, rfl, oz, bz⟩
  have bf : Below w.heap.size w u2 := below_of_wstep b0 s2 (by have := HB.out; omega) (fun g hg => by cases hg)
  obtain ⟨pz, nz, cz, rfl, hz⟩ := oz.form
  clear hz
  have oz2 : Own uz w.heap.size (.slice pz nz cz) _ := ⟨oz.1, oz.2.imp id fun ⟨g, cap, cur, e, h1, h2⟩ => ⟨g, cap, cur, e, Nat.le_trans bf.size h1, h2⟩⟩
  clear oz
  go_wp2
  go_ret
  refine ⟨_, rfl, ?_, chain bf bz⟩
  simpa [List.append_assoc] using oz2
end Go.Proofs.Ytekpkbmelhgneaa
