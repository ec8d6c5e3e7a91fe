
/-
  The walk of ShaSteps, up to what Clash answers of an empty tape.
-/
import Derived.Test.YtmmnlgcpiljdbaaDoorShN
namespace Go.Proofs.YtmmnlgcpiljdbaaDoor
open Go.RowKit
set_option maxRecDepth 100000
set_option linter.unusedVariables false
set_option linter.unusedSimpArgs false

/-- What Clash answers of an empty tape. -/
def ClashNone : Prop := ∀ (w : World) (T : Nat), Row w T #[.slice none 0 0] 32 → Tab w →
  Calls Tryd.prog 13 #[.pointer (some ⟨T, 0, none⟩)] w fun e w' => e = .returned (.bool false) ∧ Below w.heap.size w w'
theorem PartsAt.take {w : World} {p : Option Addr} {c : Nat} {L : List (List Nat)} (h : PartsAt w (.slice p L.length c) L) (n : Nat) (hn : n ≤ L.length) (c' : Nat) : PartsAt w (.slice p n c') (L.take n) := by
  obtain ⟨h2, p', cc, e, h3⟩ := h
  cases e
  refine ⟨by rw [List.length_take]; omega, p, c', by rw [List.length_take, Nat.min_eq_left hn], fun i hi => ?_⟩
  rw [List.length_take] at hi
  obtain ⟨b, off, u, e, hb, hc, hu⟩ := h3 i (by omega)
  refine ⟨b, off, u, e, hb, hc, ?_⟩
  have : (L.take n).getD i [] = L.getD i [] := by simp [List.getD, List.getElem?_take, show i < n by omega]
  rw [this]
  exact hu
theorem flat_succ (L : List (List Nat)) (k : Nat) (h : k < L.length) : (L.take (k + 1)).flatten = (L.take k).flatten ++ L.getD k [] := by
  rw [List.take_succ_eq_append_getElem h, List.flatten_append]
  simp [List.getD, h]
theorem ownsRow_keep {w w1 : World} {base : Nat} {e : TypeId} {v : Value} {ns : List Value} {n : Nat} (h : w.ownsRow base e 1 v n ns) (hb : ∀ g, v.ownBlock = some g → w1.heap[g]? = w.heap[g]?) : w1.ownsRow base e 1 v n ns :=
  ⟨h.1, h.2.imp id fun ⟨g, cap, cur, e, h1, h2, h3⟩ => ⟨g, cap, cur, e, h1, (hb g (by rw [e]; rfl)).trans h2, h3⟩⟩
theorem ownsRow_lt {w : World} {base : Nat} {e : TypeId} {v : Value} {ns : List Value} {n : Nat} (h : w.ownsRow base e 1 v n ns) (g : Nat) (hg : v.ownBlock = some g) : base ≤ g ∧ g < w.heap.size := by
  obtain ⟨_, ⟨rfl, h0⟩ | ⟨g', cap, cur, rfl, h1, h2, _⟩⟩ := h
  · cases hg
  · simp [Value.ownBlock] at hg
    subst hg
    exact ⟨h1, (Array.getElem?_eq_some_iff.1 h2).1⟩
theorem TapeAt.grown {w w1 : World} {base T : Nat} {vN u : Value} {ns : List Value} {xs : List Nat} (h : TapeAt w base T vN ns) (hu : Own w base u xs) (gr : w.grownBy w1 u.ownBlock) : TapeAt w1 base T vN ns := by
  refine ⟨(gr.block T h.row.lt (fun hh => own_ne hu h.row (by decide) hh.symm)).trans h.row, ownsRow_keep h.own fun g hg => gr.block g (ownsRow_lt h.own g hg).2 fun hh => ?_, h.ne, h.le⟩
  rcases own_own h.own hu (by decide) with h1 | h1
  · rw [h1] at hg; cases hg
  · exact h1 (hg.trans hh)
theorem TapeAt.later {w w1 : World} {base T : Nat} {vN : Value} {ns : List Value} (h : TapeAt w base T vN ns) (hb : Below w.heap.size w w1) : TapeAt w1 base T vN ns :=
  ⟨h.row.later hb, ownsRow_later h.own hb, h.ne, h.le⟩
theorem Own.noted {w w1 : World} {base T : Nat} {vN u : Value} {ns : List Value} {xs : List Nat} (hu : Own w base u xs) (h : TapeAt w base T vN ns) (k : KeptBut w w1 T vN) : Own w1 base u xs := by
  refine ownsRow_keep hu fun g hg => k.block g (ownsRow_lt hu g hg).2 (fun hh => own_ne hu h.row (by decide) (by rw [hg, hh])) (fun hh => ?_)
  rcases own_own h.own hu (by decide) with h1 | h1
  · rw [h1] at hh; cases hh
  · exact h1 (by rw [hg, hh])
theorem Below.noted {w0 w w1 : World} {T : Nat} {vN : Value} {ns : List Value} (hb : Below w0.heap.size w0 w) (h : TapeAt w w0.heap.size T vN ns) (k : KeptBut w w1 T vN) : Below w0.heap.size w0 w1 :=
  hb.trans ⟨k.os, k.tape, k.output, k.size, fun i hi => k.block i (Nat.lt_of_lt_of_le hi hb.size) (fun e => by have := h.le; omega) (fun e => by have := (ownsRow_lt h.own i e.symm).1; omega)⟩
/-- What ShaSteps holds behind k parts. -/
structure StpR (w wr : World) (L : List (List Nat)) (T k : Nat) (vN u : Value) (ns : List Value) : Prop where
  ta : TapeAt wr w.heap.size T vN ns
  len : ns.length = k
  own : Own wr w.heap.size u (L.take k).flatten
  below : Below w.heap.size w wr
  small : (L.take k).flatten.length ≤ 200 * k

set_option maxHeartbeats 4000000 in
theorem steps_walk (hC : ClashNone) (v0 : Value) (L : List (List Nat)) (w : World) (hL : PartsAt w v0 L) (hcap0 : ∀ q n c, v0 = .slice q n c → n ≤ c) (ht : Tab w) :
    Calls Tryd.prog 7 #[v0] w fun e w' => e = .returned (.bool true) ∧ Below w.heap.size w w' := by
  obtain ⟨hlm, p0, c0, rfl, hcells⟩ := id hL
  have hcap := hcap0 _ _ _ rfl
  clear hcells hcap0
  unfold maxLen at hlm
  have l0 : (0 : Int) ≤ (L.length : Int) := by omega
  have l1 : (L.length : Int) ≤ 9223372036854775807 := by omega
  have hw0 := ht.pos
  go_enter Tryd.func7, Tryd.ntmps7
  go_wp2_with (go_at_call 8; refine stop ?_)
  refine (fit_any _ ht).mono ?_
  rintro e w1 ⟨rfl, hb1⟩
  by_cases hlong : 20 < L.length
  · have hlong' : (20 : Int) < (L.length : Int) := by omega
    go_wp2
    go_ret
    exact ⟨rfl, hb1⟩
  · have hlong' : ¬ (20 : Int) < (L.length : Int) := by omega
    have hz1 := hb1.size
    have hR0 : StpR w (w1.alloc (.cells #[.slice none 0 0] 32)) L w1.heap.size 0 (.slice none 0 0) (.slice none 0 0) [] :=
      ⟨⟨Row.new w1 _ _ rfl, World.ownsRow_nil _ _ _ _, fun e => (by cases e), hb1.size⟩, rfl, World.ownsRow_nil _ _ _ _, chainA hb1 _, by simp⟩
    go_wp2
    generalize w1.alloc (.cells #[.slice none 0 0] 32) = w2 at *
    generalize hT : w1.heap.size = T at *
    go_loopw [16, 4] (fun i u wr => ∃ (k : Nat) (vN : Value) (ns : List Value), k ≤ L.length ∧ i = .int .i64 k ∧ StpR w wr L T k vN u ns) (fun i _ _ => L.length - (intOf i).toNat)
    case atStart => exact ⟨0, _, _, Nat.zero_le _, rfl, hR0⟩
    case round =>
      clear hR0
      obtain ⟨k, vN, ns, hk, rfl, hR⟩ := hrel
      obtain ⟨pu, nu, cu, rfl, hnu⟩ := hR.own.form
      by_cases hlt : k < L.length
      · have hlt' : (k : Int) < (L.length : Int) := by omega
        have k0 : (0 : Int) ≤ (k : Int) := by omega
        have k1 : (k : Int) < 20 := by omega
        have hLr := hL.later hR.below
        obtain ⟨_, _, _, e, hc⟩ := id hLr
        cases e
        obtain ⟨b, off, ub, rfl, hb, hcell, hub⟩ := hc k hlt
        clear hc
        obtain ⟨hb8, hbm, pb, cb, rfl, _⟩ := id hub
        unfold maxLen at hbm
        have d0 : (0 : Int) ≤ ((L.getD k []).length : Int) := by omega
        have d1 : ((L.getD k []).length : Int) ≤ 9223372036854775807 := by omega
        have hfs := flat_succ L k hlt
        have hsm := hR.small
        generalize L.getD k [] = B at *
        by_cases hbig : 200 < B.length
        · have hbig' : (200 : Int) < (B.length : Int) := by omega
          clear hnu
          go_wp2
          go_ret
          exact ⟨rfl, hR.below⟩
        · have hbig' : ¬ (200 : Int) < (B.length : Int) := by omega
          obtain ⟨u3, w3, run3, own3, gr3, _⟩ := append_bytes wr w.heap.size 22 _ _ hR.own _ B hub (by omega) hR.below.size
          rw [← hfs] at own3
          have hb3 := below_grown hR.below hR.below.size gr3 (fun j hj => (ownsRow_lt hR.own j hj).1)
          have ta3 := hR.ta.grown hR.own gr3
          have hL3 := (hL.later hb3).take (k + 1) (by omega) c0
          have hT0 : T ≠ 0 := by have := hR.ta.le; omega
          have hN0 : some 0 ≠ vN.ownBlock := fun hh => by have := (ownsRow_lt hR.ta.own 0 hh.symm).1; omega
          have hMl : (L.take (k + 1)).flatten.length ≤ 200 * (k + 1) := by rw [hfs, List.length_append]; omega
          have HOK : Hid (W8 (L.take (k + 1)).flatten) := hL3.ok
          have hsame := hash_same (hashF KW (L.take (k + 1)).flatten) (hash_len _)
          generalize hHH : hashF KW (L.take (k + 1)).flatten = H at *
          have HH : Hid (hashF KW (L.take (k + 1)).flatten = H) := hHH
          have HMl : Hid ((L.take (k + 1)).flatten.length ≤ 200 * (k + 1)) := hMl
          have hnl := hR.len
          obtain ⟨p3, n3, c3, rfl, hn3⟩ := own3.form
          have k2 : (k : Int) + 1 ≤ (c0 : Int) := by omega
          have hbR := hR.below
          clear hn3 hnu hHH hMl hfs hsm gr3 hR
          go_wp2_with (first | (at_builtin; refine Lib.wpList_append_run _ rfl _ _ _ _ rfl _ _ rfl rfl _ _ run3 ?_) | (go_at_call 9; refine stop ?_))
          refine (of_tape _ (L.take (k + 1)) _ H w.heap.size T vN ns _ hL3 rfl (by have := HMl.out; omega) (ht.later hb3) HH.out ta3 (by omega) hT0 hN0).mono ?_
          rintro e w4 ⟨vN4, u4, rfl, ta4, _, kb4⟩
          have hb4 := Below.noted hb3 ta3 kb4
          have own4 := Own.noted own3 ta3 kb4
          have hv4 := own4.bytes HOK.out (by have := HMl.out; unfold maxLen; omega)
          clear kb4 hb3 ta3 own3 hL3 run3
          go_wp2_with (go_at_call 9; refine stop ?_)
          refine (of_eq _ [(L.take (k + 1)).flatten] (L.take (k + 1)).flatten H _ (parts1 w4 22 hv4 1) (by simp) (by have := HMl.out; omega) ((ht.later hb4).later (below1 _ _)) HH.out).mono ?_
          rintro e w5 ⟨rfl, hb5⟩
          have hb45 := chain (below1 w4 (.cells #[.slice p3 n3 c3] 22)) hb5
          have hR5 : StpR w w5 L T (k + 1) vN4 (.slice p3 n3 c3) (ns ++ [u4]) := ⟨ta4.later hb45, by simp [hnl], ownsRow_later own4 hb45, chain hb4 hb45, HMl.out⟩
          clear hb5 hb45 hv4 own4 ta4 hb4
          go_wp2
          refine ⟨⟨k + 1, vN4, _, by omega, by simp, hR5⟩, ?_⟩
          simp [intOf]
          omega
      · have hlt' : ¬ (k : Int) < (L.length : Int) := by omega
        obtain rfl : k = L.length := by omega
        obtain ⟨pN, nN, cN, rfl, hnN⟩ := ownsRow_at hR.ta.own
        rw [hR.len] at hnN
        subst hnN
        have cT := hR.ta.row.cell 0
        simp only [List.getElem?_toArray, List.getElem?_cons_zero] at cT
        clear hnu
        go_wp2_with (go_at_call 12; refine stop ?_)
        refine (len_any _ T _ _ _ cT).mono ?_
        rintro e w6 ⟨rfl, rfl⟩
        go_wp2_with (go_at_call 13; refine stop ?_)
        refine (hC _ _ (Row.new _ _ _ rfl) ((ht.later hR.below).later (below1 _ _))).mono ?_
        rintro e w7 ⟨rfl, hb7⟩
        have hb8 := chain (chainA hR.below _) hb7
        go_wp2
        go_ret
        exact ⟨rfl, hb8⟩
end Go.Proofs.YtmmnlgcpiljdbaaDoor
