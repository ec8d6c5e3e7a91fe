
/-
  history's way. For at most 64 leaves.
-/
import Derived.Test.YtepohpniflmblaaDoorHiR
import Derived.ScopeJumps
import Derived.WalkMore
namespace Go.Proofs.YtepohpniflmblaaDoor
open Go.RowKit
set_option maxRecDepth 100000
set_option linter.unusedVariables false
set_option linter.unusedSimpArgs false

theorem wp_scope_jumps2 {P : Program} {a : Act} {w : World} {Q : Exit → Act → World → Prop} {c rest : Code} (l : Nat) (J : Act → World → Prop) (μ : Act → World → Nat) (hf : findLabel c l = some (Code.skip.seq rest))
    (pass : ∀ a w, J a w → rest.wp P (Exit.jump l (fun a' w' => J a' w' ∧ μ a' w' < μ a w) Q) a w)
    (first : (∀ a w, J a w → rest.wp P (Exit.jump l J Q) a w) → c.wp P (Exit.jump l J Q) a w) : (Code.scope c).wp P Q a w :=
  wp_scope_jumps l J μ hf (first fun a w h => wp_mono (pass a w h) (fun e a' w' h' => by
    cases e with
    | goto l' => exact ⟨h'.1, h'.2.1⟩
    | _ => exact h')) (fun a w h => wp_seq (wp_skip (pass a w h)))
/-- The way down from the tree of the leaves f to t, and the sides beside it, the lowest first. -/
def wayL (i : Nat) (ea : Bool) (f t : Nat) : Nat × List Sd :=
  if h : f + 2 ≤ t ∧ ¬ (ea = true ∧ t = i + 1) then
    if i < f + split (t - f) then ((wayL i ea f (f + split (t - f))).1, (wayL i ea f (f + split (t - f))).2 ++ [⟨f + split (t - f), t, false⟩])
    else ((wayL i ea (f + split (t - f)) t).1, (wayL i ea (f + split (t - f)) t).2 ++ [⟨f, f + split (t - f), true⟩])
  else (f, [])
termination_by t - f
decreasing_by
  all_goals have := split_lt (show 2 ≤ t - f by omega)
  all_goals omega
theorem wayL_stop {i f t : Nat} {ea : Bool} (h : t < f + 2 ∨ (ea = true ∧ t = i + 1)) : wayL i ea f t = (f, []) := by
  rw [wayL, dif_neg]
  rintro ⟨h1, h2⟩
  rcases h with h | h
  · omega
  · exact h2 h
theorem wayL_low {i f t : Nat} {ea : Bool} (h1 : f + 2 ≤ t) (h2 : ¬ (ea = true ∧ t = i + 1)) (h3 : i < f + split (t - f)) : wayL i ea f t = ((wayL i ea f (f + split (t - f))).1, (wayL i ea f (f + split (t - f))).2 ++ [⟨f + split (t - f), t, false⟩]) := by
  rw [wayL, dif_pos ⟨h1, h2⟩, if_pos h3]
theorem wayL_high {i f t : Nat} {ea : Bool} (h1 : f + 2 ≤ t) (h2 : ¬ (ea = true ∧ t = i + 1)) (h3 : ¬ i < f + split (t - f)) : wayL i ea f t = ((wayL i ea (f + split (t - f)) t).1, (wayL i ea (f + split (t - f)) t).2 ++ [⟨f, f + split (t - f), true⟩]) := by
  rw [wayL, dif_pos ⟨h1, h2⟩, if_neg h3]
/-- What holds at the label. -/
structure WayJ (w wr : World) (i n : Nat) (ea : Bool) (u : Value) (f t : Nat) : Prop where
  ex : ∃ acc : List Sd, wr.ownsRow w.heap.size 56 3 u acc.length (sdC acc) ∧ acc.length + (t - f) ≤ n ∧ (wayL i ea f t).1 = (wayL i ea 0 n).1 ∧ (wayL i ea f t).2 ++ acc.reverse = (wayL i ea 0 n).2
  below : Below w.heap.size w wr
  fi : f ≤ i
  it : i < t
  tn : t ≤ n
/-- What way answers. -/
def WayQ (w : World) (i n : Nat) (ea : Bool) (e : Ending) (w' : World) : Prop :=
  ∃ u, e = .returned (.tuple #[.int .i64 ((wayL i ea 0 n).1 : Nat), u]) ∧ w'.ownsRow w.heap.size 56 3 u (wayL i ea 0 n).2.length (sdC (wayL i ea 0 n).2) ∧ Below w.heap.size w w'
theorem side_z : (Tryd.prog.info? 56).map (fun i => (i.zero, i.size, i.bytes)) = some (some (.agg #[.int .i64 0, .int .i64 0, .bool false]), 3, 24) := by kernel_rfl
/-- One side more. -/
theorem WayJ.put {w wr : World} {i n f' t' : Nat} {ea : Bool} {u : Value} {acc : List Sd} {x : Sd} (hb : Below w.heap.size w wr) (ho : wr.ownsRow w.heap.size 56 3 u acc.length (sdC acc)) (hl : acc.length ≤ 1000) (cs : Array Value) (hx : cs = x.v)
    (hac : (acc.length + 1) + (t' - f') ≤ n) (h1 : (wayL i ea f' t').1 = (wayL i ea 0 n).1) (h2 : ((wayL i ea f' t').2 ++ [x]) ++ acc.reverse = (wayL i ea 0 n).2) (hfi : f' ≤ i) (hit : i < t') (htn : t' ≤ n) :
    ∃ v' w', (Builtin.append_ #[52, 52] 52 #[u, .slice (some ⟨wr.heap.size, 0, none⟩) 1 1]).run Tryd.prog (wr.alloc (.cells cs 56)) = .ok v' w' ∧ WayJ w w' i n ea v' f' t' := by
  subst hx
  obtain ⟨v', w', run, own, gr, mv⟩ := append_two (by kernel_rfl) side_z rfl (by decide) (by decide) wr w.heap.size 52 u _ _ ho x.v rfl (sd_one x) (by omega) hb.size _ rfl
  refine ⟨v', w', run, ⟨acc ++ [x], by rw [List.length_append, sdC_snoc]; exact own, by rw [List.length_append]; exact hac, h1, ?_⟩, below_grown (chainA hb _) (by have := hb.size; simp; omega) gr (fun k hk => (ho.lt k hk).1), hfi, hit, htn⟩
  rw [List.reverse_append, ← List.append_assoc]
  exact h2
set_option maxHeartbeats 4000000 in
theorem way_any (i n : Nat) (ea : Bool) (w : World) (hi : i < n) (hn : n ≤ 64) :
    Calls Tryd.prog 28 #[.int .i64 (i : Nat), .int .i64 (n : Nat), .bool ea] w (WayQ w i n ea) := by
  have i0 : (0 : Int) ≤ (i : Int) := by omega
  have i1 : (i : Int) < 64 := by omega
  have n1 : (n : Int) ≤ 64 := by omega
  have hJ0 : WayJ w w i n ea (.slice none 0 0) 0 n := ⟨⟨[], World.ownsRow_nil _ _ _ _, by simp, rfl, by simp⟩, Below.refl _ _, Nat.zero_le _, hi, Nat.le_refl _⟩
  go_enter Tryd.func28, Tryd.ntmps28
  go_wp2
  refine wp_scope_jumps2 0 (fun a' w' => ∃ (f t : Nat) (u x11 x12 x13 x14 x15 x16 x17 x18 x19 x20 x21 x22 x23 x24 x25 x26 x27 x28 x29 x30 x31 x32 x33 x34 x35 x36 x37 x38 x39 x40 x41 x42 x43 x44 x45 x46 x47 x48 x49 x50 x51 x52 : Value), a' = { tmps := #[.int .i64 (i : Nat), .int .i64 (n : Nat), .bool ea, undef, undef, undef, .int .i64 0, .slice none 0 0, u, .int .i64 (f : Nat), .int .i64 (t : Nat), x11, x12, x13, x14, x15, x16, x17, x18, x19, x20, x21, x22, x23, x24, x25, x26, x27, x28, x29, x30, x31, x32, x33, x34, x35, x36, x37, x38, x39, x40, x41, x42, x43, x44, x45, x46, x47, x48, x49, x50, x51, x52], defers := [] } ∧ WayJ w w' i n ea u f t) (fun a' _ => (intOf (a'.tmps.getD 10 undef)).toNat - (intOf (a'.tmps.getD 9 undef)).toNat) rfl ?_ ?_
  · rintro a' wr ⟨f, t, u, x11, x12, x13, x14, x15, x16, x17, x18, x19, x20, x21, x22, x23, x24, x25, x26, x27, x28, x29, x30, x31, x32, x33, x34, x35, x36, x37, x38, x39, x40, x41, x42, x43, x44, x45, x46, x47, x48, x49, x50, x51, x52, rfl, ⟨acc, ho, hac, he1, he2⟩, hb, hfi, hit, htn⟩
    obtain ⟨pu, nu, cu, rfl, hnu⟩ := ownsRowN_form ho
    subst hnu
    have HAC : Hid (acc.length + (t - f) ≤ n) := hac
    have HE1 : Hid ((wayL i ea f t).1 = (wayL i ea 0 n).1) := he1
    have HE2 : Hid ((wayL i ea f t).2 ++ acc.reverse = (wayL i ea 0 n).2) := he2
    have f0 : (0 : Int) ≤ (f : Int) := by omega
    have t1 : (t : Int) ≤ 64 := by omega
    have ft : (f : Int) < (t : Int) := by omega
    clear hac he1 he2 hJ0
    by_cases c1 : t = f + 1
    · have c1' : (t : Int) - (f : Int) = 1 := by omega
      go_wp2_with (go_at_call 36; refine stop ?_)
      refine (reverse_any _ acc w.heap.size wr ho (by have := HAC.out; omega)).mono ?_
      rintro e w2 ⟨rfl, ho2, hon⟩
      have hb2 : Below w.heap.size w w2 := ⟨hon.os.trans hb.os, hon.tape.trans hb.tape, hon.output.trans hb.output, by rw [hon.size]; exact hb.size, fun k hk => (hon.block k (fun e => by have := (ho.lt k e).1; omega)).trans (hb.block k hk)⟩
      have HO2 : Hid (w2.ownsRow w.heap.size 56 3 (.slice pu acc.length cu) acc.length (sdC acc.reverse)) := ho2
      clear ho ho2 hon hb
      go_wp2
      simp only [Exit.jump]
      have hst := wayL_stop (i := i) (f := f) (t := t) (ea := ea) (Or.inl (by omega))
      have h1 := HE1.out
      have h2 := HE2.out
      rw [hst] at h1 h2
      simp only [List.nil_append] at h2
      refine bodyPost_ret (v := .tuple #[.int .i64 (f : Nat), .slice pu acc.length cu]) (by simp [results, Tryd.results28, go_sem]) rfl ⟨.slice pu acc.length cu, by rw [← h1], ?_, hb2⟩
      rw [← h2, List.length_reverse]
      exact HO2.out
    · have c1' : ((t : Int) - (f : Int) == 1) = false := by rw [beq_eq_false_iff_ne]; omega
      cases ea with
      | false =>
        have hge : f + 2 ≤ t := by omega
        have hs := split_lt (show 2 ≤ t - f by omega)
        have HGE : Hid (f + 2 ≤ t) := hge
        have e1 : (t : Int) - (f : Int) = ((t - f : Nat) : Int) := by omega
        have HE : Hid ((t : Int) - (f : Int) = ((t - f : Nat) : Int)) := e1
        have HL := (show Hid _ from (wayL_low (i := i) (f := f) (t := t) (ea := false) hge (fun h => by cases h.1)))
        have HH := (show Hid _ from (wayL_high (i := i) (f := f) (t := t) (ea := false) hge (fun h => by cases h.1)))
        clear e1 hge
        go_wp2_with (go_at_call 27; refine stop ?_)
        rw [HE.out]
        refine (split_any (t - f) (by have := HGE.out; omega) (by omega) wr).mono ?_
        rintro e wq ⟨rfl, hwq⟩
        obtain rfl := hwq.symm
        clear hwq
        have HKK := (show Hid _ from hs)
        obtain ⟨k, hk⟩ : ∃ k, k = f + split (t - f) := ⟨_, rfl⟩
        rw [← hk] at HL HH
        have ek : (f : Int) + (split (t - f) : Int) = (k : Int) := by omega
        have HK : Hid (f < k ∧ k < t) := ⟨by omega, by omega⟩
        have HEK : Hid ((f : Int) + (split (t - f) : Int) = (k : Int)) := ek
        have k0 : (0 : Int) ≤ (k : Int) := by omega
        have k1 : (k : Int) ≤ 64 := by omega
        clear hs hk
        have hwr : IntKind.i64.wrap ((f : Int) + (split (t - f) : Int)) = (k : Int) := by rw [HEK.out, IntKind.wrap_i64]; omega
        by_cases hik : i < k
        · have q1 : (i : Int) < (k : Int) := by omega
          have hl := HL.out hik
          obtain ⟨v', w', run, hJ⟩ := WayJ.put (i := i) (n := n) (ea := false) (x := ⟨k, t, false⟩) (f' := f) (t' := k) hb ho (by have := HAC.out; omega) #[.int .i64 (k : Nat), .int .i64 (t : Nat), .bool false] rfl (by have := HAC.out; have := HK.out; omega) (by have := HE1.out; rw [hl] at this; exact this) (by have := HE2.out; rw [hl] at this; exact this) hfi hik (by have := HK.out; omega)
          clear ho hb HL HH hl
          go_wp2_with (at_builtin; refine Lib.wpList_append_run _ rfl _ _ _ _ rfl _ _ rfl rfl _ _ run ?_)
          go_step3
          refine ⟨rfl, ⟨f, k, v', _, _, _, _, _, _, _, _, _, _, _, _, _, _, _, _, _, _, _, _, _, _, _, _, _, _, _, _, _, _, _, _, _, _, _, _, _, _, _, _, _, _, rfl, hJ⟩, ?_⟩
          simp [intOf]; have := HK.out; omega
        · have q1 : (k : Int) ≤ (i : Int) := by omega
          have hl := HH.out hik
          obtain ⟨v', w', run, hJ⟩ := WayJ.put (i := i) (n := n) (ea := false) (x := ⟨f, k, true⟩) (f' := k) (t' := t) hb ho (by have := HAC.out; omega) #[.int .i64 (f : Nat), .int .i64 (k : Nat), .bool true] rfl (by have := HAC.out; have := HK.out; omega) (by have := HE1.out; rw [hl] at this; exact this) (by have := HE2.out; rw [hl] at this; exact this) (by omega) hit htn
          clear ho hb HL HH hl
          go_wp2_with (at_builtin; refine Lib.wpList_append_run _ rfl _ _ _ _ rfl _ _ rfl rfl _ _ run ?_)
          go_step3
          refine ⟨rfl, ⟨k, t, v', _, _, _, _, _, _, _, _, _, _, _, _, _, _, _, _, _, _, _, _, _, _, _, _, _, _, _, _, _, _, _, _, _, _, _, _, _, _, _, _, _, _, rfl, hJ⟩, ?_⟩
          simp [intOf]; have := HK.out; omega
      | true =>
        by_cases c2 : t = i + 1
        · have c2' : (t : Int) = (i : Int) + 1 := by omega
          go_wp2_with (go_at_call 36; refine stop ?_)
          refine (reverse_any _ acc w.heap.size wr ho (by have := HAC.out; omega)).mono ?_
          rintro e w2 ⟨rfl, ho2, hon⟩
          have hb2 : Below w.heap.size w w2 := ⟨hon.os.trans hb.os, hon.tape.trans hb.tape, hon.output.trans hb.output, by rw [hon.size]; exact hb.size, fun k hk => (hon.block k (fun e => by have := (ho.lt k e).1; omega)).trans (hb.block k hk)⟩
          have HO2 : Hid (w2.ownsRow w.heap.size 56 3 (.slice pu acc.length cu) acc.length (sdC acc.reverse)) := ho2
          clear ho ho2 hon hb
          go_wp2
          simp only [Exit.jump]
          have hst := wayL_stop (i := i) (f := f) (t := t) (ea := true) (Or.inr ⟨rfl, c2⟩)
          have h1 := HE1.out
          have h2 := HE2.out
          rw [hst] at h1 h2
          simp only [List.nil_append] at h2
          refine bodyPost_ret (v := .tuple #[.int .i64 (f : Nat), .slice pu acc.length cu]) (by simp [results, Tryd.results28, go_sem]) rfl ⟨.slice pu acc.length cu, by rw [← h1], ?_, hb2⟩
          rw [← h2, List.length_reverse]
          exact HO2.out
        · have c2' : ((t : Int) == (i : Int) + 1) = false := by rw [beq_eq_false_iff_ne]; omega
          have hge : f + 2 ≤ t := by omega
          have hs := split_lt (show 2 ≤ t - f by omega)
          have HGE : Hid (f + 2 ≤ t) := hge
          have e1 : (t : Int) - (f : Int) = ((t - f : Nat) : Int) := by omega
          have HE : Hid ((t : Int) - (f : Int) = ((t - f : Nat) : Int)) := e1
          have HL := (show Hid _ from (wayL_low (i := i) (f := f) (t := t) (ea := true) hge (fun h => c2 h.2)))
          have HH := (show Hid _ from (wayL_high (i := i) (f := f) (t := t) (ea := true) hge (fun h => c2 h.2)))
          clear e1 hge
          go_wp2_with (go_at_call 27; refine stop ?_)
          rw [HE.out]
          refine (split_any (t - f) (by have := HGE.out; omega) (by omega) wr).mono ?_
          rintro e wq ⟨rfl, hwq⟩
          obtain rfl := hwq.symm
          clear hwq
          have HKK := (show Hid _ from hs)
          obtain ⟨k, hk⟩ : ∃ k, k = f + split (t - f) := ⟨_, rfl⟩
          rw [← hk] at HL HH
          have ek : (f : Int) + (split (t - f) : Int) = (k : Int) := by omega
          have HK : Hid (f < k ∧ k < t) := ⟨by omega, by omega⟩
          have HEK : Hid ((f : Int) + (split (t - f) : Int) = (k : Int)) := ek
          have k0 : (0 : Int) ≤ (k : Int) := by omega
          have k1 : (k : Int) ≤ 64 := by omega
          clear hs hk
          have hwr : IntKind.i64.wrap ((f : Int) + (split (t - f) : Int)) = (k : Int) := by rw [HEK.out, IntKind.wrap_i64]; omega
          by_cases hik : i < k
          · have q1 : (i : Int) < (k : Int) := by omega
            have hl := HL.out hik
            obtain ⟨v', w', run, hJ⟩ := WayJ.put (i := i) (n := n) (ea := true) (x := ⟨k, t, false⟩) (f' := f) (t' := k) hb ho (by have := HAC.out; omega) #[.int .i64 (k : Nat), .int .i64 (t : Nat), .bool false] rfl (by have := HAC.out; have := HK.out; omega) (by have := HE1.out; rw [hl] at this; exact this) (by have := HE2.out; rw [hl] at this; exact this) hfi hik (by have := HK.out; omega)
            clear ho hb HL HH hl
            go_wp2_with (at_builtin; refine Lib.wpList_append_run _ rfl _ _ _ _ rfl _ _ rfl rfl _ _ run ?_)
            go_step3
            refine ⟨rfl, ⟨f, k, v', _, _, _, _, _, _, _, _, _, _, _, _, _, _, _, _, _, _, _, _, _, _, _, _, _, _, _, _, _, _, _, _, _, _, _, _, _, _, _, _, _, _, rfl, hJ⟩, ?_⟩
            simp [intOf]; have := HK.out; omega
          · have q1 : (k : Int) ≤ (i : Int) := by omega
            have hl := HH.out hik
            obtain ⟨v', w', run, hJ⟩ := WayJ.put (i := i) (n := n) (ea := true) (x := ⟨f, k, true⟩) (f' := k) (t' := t) hb ho (by have := HAC.out; omega) #[.int .i64 (f : Nat), .int .i64 (k : Nat), .bool true] rfl (by have := HAC.out; have := HK.out; omega) (by have := HE1.out; rw [hl] at this; exact this) (by have := HE2.out; rw [hl] at this; exact this) (by omega) hit htn
            clear ho hb HL HH hl
            go_wp2_with (at_builtin; refine Lib.wpList_append_run _ rfl _ _ _ _ rfl _ _ rfl rfl _ _ run ?_)
            go_step3
            refine ⟨rfl, ⟨k, t, v', _, _, _, _, _, _, _, _, _, _, _, _, _, _, _, _, _, _, _, _, _, _, _, _, _, _, _, _, _, _, _, _, _, _, _, _, _, _, _, _, _, _, rfl, hJ⟩, ?_⟩
            simp [intOf]; have := HK.out; omega
  · intro hp
    go_wp2
    go_step3
    rename_i hK
    simp only [Exit.then]
    refine hK _ _ ?_
    exact hp _ _ ⟨0, n, _, _, _, _, _, _, _, _, _, _, _, _, _, _, _, _, _, _, _, _, _, _, _, _, _, _, _, _, _, _, _, _, _, _, _, _, _, _, _, _, _, _, _, rfl, hJ0⟩
end Go.Proofs.YtepohpniflmblaaDoor
