
/-
  The walk of HistoryTapes.
-/
import Derived.Test.YtepohpniflmblaaDoorHiL
import Derived.Test.YtepohpniflmblaaDoorHiJ
import Derived.Test.YtepohpniflmblaaDoorShRa
namespace Go.Proofs.YtepohpniflmblaaDoor
open Go.RowKit
set_option maxRecDepth 100000
set_option linter.unusedVariables false
set_option linter.unusedSimpArgs false
attribute [local go_sem] Oper.semAt_some

theorem BytesAt.kb {W W' : World} {D : Nat} {u : Value} {l : List Nat} (h : BytesAt W u l) (k : Kb D W W') : BytesAt W' u l := by
  obtain ⟨h1, h2, p, c, e, h⟩ := h
  refine ⟨h1, h2, p, c, e, fun i hi => ?_⟩
  obtain ⟨b, off, e, hlt, hc⟩ := h i hi
  have hbD : b ≠ D := by
    rintro rfl
    unfold World.cell? at hc
    cases hh : W.heap[b]? with
    | none => simp [hh] at hc
    | some o =>
      cases o with
      | cells cs t f => exact k.nc _ _ _ hh
      | _ => simp [hh] at hc
  refine ⟨b, off, e, Nat.lt_of_lt_of_le hlt k.size, ?_⟩
  rw [← hc]
  unfold World.cell?
  rw [k.block b hlt hbD]
theorem BytesAt.setRow {W : World} {g : Nat} {cs : Array Value} {t : TypeId} {u : Value} {l : List Nat} (h : BytesAt W u l) (hr : Row W g cs t) (hx : ∀ (n : Int) (i : Nat), cs[i]? ≠ some (Value.int .u8 n)) (ds : Array Value) : BytesAt (W.setRow g ds) u l := by
  obtain ⟨h1, h2, p, c, e, h⟩ := h
  refine ⟨h1, h2, p, c, e, fun i hi => ?_⟩
  obtain ⟨b, off, e, hlt, hc⟩ := h i hi
  have hbD : b ≠ g := by
    rintro rfl
    rw [hr.cell] at hc
    exact hx _ _ hc
  refine ⟨b, off, e, by simpa [World.setRow] using hlt, ?_⟩
  rw [← hc]
  unfold World.cell?
  rw [setRow_other W g b ds hbD]
/-- The notes of a tape as parts. -/
theorem TpAt.parts {w : World} {base T : Nat} {N : List (List Nat)} (h : TpAt w base (.pointer (some ⟨T, 0, none⟩)) N) (hl : N.length ≤ 1000) (hs : ∀ l ∈ N, l.length ≤ 1000) : ∃ vN, Row w T #[vN] 40 ∧ PartsAt w vN N := by
  rcases h with h | ⟨T', vN, ns, e, ht, hln, ho, h8⟩
  · cases h
  · cases e
    refine ⟨vN, ht.row, by unfold maxLen; omega, ?_⟩
    obtain ⟨_, ⟨rfl, h0⟩ | ⟨g, cap, cur, rfl, hb, hg, h1, h2, h3, h4⟩⟩ := ht.own
    · have hN0 : N = [] := List.eq_nil_of_length_eq_zero (by omega)
      subst hN0
      exact ⟨none, 0, rfl, fun i hi => by simp at hi⟩
    · refine ⟨_, cap, by rw [← hln], fun i hi => ?_⟩
      have hi' : i < ns.length := by omega
      refine ⟨g, 0, ns.getD i undef, rfl, (Array.getElem?_eq_some_iff.1 hg).1, ?_, (ho i hi).bytes ?_ ?_⟩
      · rw [cell_of_row w g (0 + i) cur _ _ hg, Nat.zero_add]
        have e := congrArg (fun x : List Value => x[i]?) h4
        simp only [Nat.mul_one, List.getElem?_take, hi', if_true] at e
        rw [← Array.getElem?_toList, e]
        simp [List.getD, hi']
      · exact h8 _ (by simp [List.getD, hi])
      · have := hs (N.getD i []) (by simp [List.getD, hi])
        unfold maxLen
        omega
theorem path_ok (i : Nat) (ea : Bool) (n : Nat) (L : List (List Nat)) (hok : ∀ l ∈ L, H32 l) : ∀ l ∈ pathL i ea n L, H32 l := by
  intro l hl
  obtain ⟨x, _, rfl⟩ := List.mem_map.1 hl
  exact root_32 _ _ (Nat.le_refl _) (fun l hl => hok l (sideOf_mem hl))
theorem join_len {x : Sd} {h b : List Nat} (hh : H32 h) (hb : H32 b) : (joinL x h b).length = 65 ∧ (joinL x h b).getD 0 0 = 1 := by
  unfold joinL
  split <;> exact ⟨by simp [msgN, hh.1, hb.1], rfl⟩
theorem climbN_mem {S : List Sd} {P : List (List Nat)} {h : List Nat} (hh : H32 h) (hp : ∀ l ∈ P, H32 l) : ∀ k, k ≤ P.length → ∀ l ∈ climbN S P h k, l.length = 65 ∧ l.getD 0 0 = 1
  | 0, _ => fun l hl => by cases hl
  | k + 1, hk => fun l hl => by
    rcases List.mem_append.1 (show l ∈ climbN S P h k ++ [joinL (S.getD k Sd.z) (climbS S P h k) (P.getD k [])] from hl) with h1 | h1
    · exact climbN_mem hh hp k (by omega) l h1
    · obtain rfl := List.mem_singleton.1 h1
      exact join_len (climbS_32 hh k) (hp _ (by simp [List.getD, show k < P.length by omega]))
theorem climb_last (S : List Sd) (P : List (List Nat)) (h : List Nat) : ∀ k, 0 < k → hsh ((climbN S P h k).getD (k - 1) []) = climbS S P h k
  | 0, h0 => absurd h0 (by decide)
  | k + 1, _ => by
    show hsh ((climbN S P h k ++ [joinL (S.getD k Sd.z) (climbS S P h k) (P.getD k [])]).getD k []) = _
    have e := climbN_len S P h k
    have : (climbN S P h k ++ [joinL (S.getD k Sd.z) (climbS S P h k) (P.getD k [])]).getD k [] = joinL (S.getD k Sd.z) (climbS S P h k) (P.getD k []) := by
      simp [List.getD, List.getElem?_append_right, e]
    rw [this]
    rfl
theorem BytesAt.setC {W : World} {g : Nat} {x : Value} {t : TypeId} {u : Value} {l : List Nat} (h : BytesAt W u l) (hr : Row W g #[x] t) (hx : ∀ n : Int, x ≠ Value.int .u8 n) (k : Nat) (v : Value) : BytesAt (W.setCell ⟨g, k, none⟩ v) u l := by
  obtain ⟨h1, h2, p, c, e, h⟩ := h
  refine ⟨h1, h2, p, c, e, fun i hi => ?_⟩
  obtain ⟨b, off, e, hlt, hc⟩ := h i hi
  have hbD : b ≠ g := by
    rintro rfl
    rw [hr.cell] at hc
    have h0 : off + i = 0 := by
      have := (Array.getElem?_eq_some_iff.1 hc).1
      simp at this
      omega
    rw [h0] at hc
    simp at hc
    exact hx _ hc
  refine ⟨b, off, e, by simpa using hlt, ?_⟩
  rw [← hc]
  exact World.cell?_of_block (a := ⟨b, off + i, none⟩) (heap_setCell_other W ⟨g, k, none⟩ b v hbD)
/-- What the range holds: k notes have come up. -/
structure LastI (w6 W : World) (N : List (List Nat)) (k : Nat) : Prop where
  bel : Below w6.heap.size w6 W
  n : Row W (w6.heap.size + 1) #[.int .i64 (k : Nat)] 3
  last : ∃ u, Row W w6.heap.size #[u] 37 ∧ (∀ n : Int, u ≠ Value.int .u8 n) ∧ (0 < k → BytesAt W u (N.getD (k - 1) []))
theorem LastI.kb {w6 W W' : World} {N : List (List Nat)} {k D : Nat} (h : LastI w6 W N k) (kb : Kb D W W') (hD : w6.heap.size + 2 ≤ D) : LastI w6 W' N k := by
  obtain ⟨hb, hn, u, hu, hx, hl⟩ := h
  exact ⟨⟨kb.os.trans hb.os, kb.tape.trans hb.tape, kb.output.trans hb.output, Nat.le_trans hb.size kb.size, fun i hi => (kb.block i (Nat.lt_of_lt_of_le hi hb.size) (by omega)).trans (hb.block i hi)⟩,
    (kb.block _ hn.lt (by omega)).trans hn, u, (kb.block _ hu.lt (by omega)).trans hu, hx, fun h0 => (hl h0).kb kb⟩
theorem LastI.put {w6 W : World} {N : List (List Nat)} {k : Nat} {u : Value} (h : LastI w6 W N k) (hu : BytesAt W u (N.getD k [])) : LastI w6 ((W.setCell ⟨w6.heap.size, 0, none⟩ u).setCell ⟨w6.heap.size + 1, 0, none⟩ (.int .i64 ((k : Int) + 1))) N (k + 1) := by
  obtain ⟨hb, hn, u0, hr, hx, hl⟩ := h
  have hn1 := hn.setOther (a := ⟨w6.heap.size, 0, none⟩) u (by show w6.heap.size + 1 ≠ w6.heap.size; omega)
  have hr1 := (hr.set 0 u).setOther (a := ⟨w6.heap.size + 1, 0, none⟩) (.int .i64 ((k : Int) + 1)) (by show w6.heap.size ≠ w6.heap.size + 1; omega)
  refine ⟨(hb.setCell (p := ⟨w6.heap.size, 0, none⟩) (Nat.le_refl _) _).setCell (p := ⟨w6.heap.size + 1, 0, none⟩) (by simp) _, hn1.set 0 _, u, hr1, ?_, fun _ => ?_⟩
  · obtain ⟨_, _, p, c, rfl, _⟩ := hu
    intro n e
    cases e
  · rw [Nat.add_sub_cancel]
    exact (hu.setC hr hx 0 u).setC hn1 (fun n e => by cases e) 0 _
theorem keep2 (W : World) (b : Nat) (u y : Value) {j : Nat} (h : b + 2 ≤ j) : ((W.setCell ⟨b, 0, none⟩ u).setCell ⟨b + 1, 0, none⟩ y).heap[j]? = W.heap[j]? :=
  (heap_setCell_other _ ⟨b + 1, 0, none⟩ j y (by show j ≠ b + 1; omega)).trans (heap_setCell_other _ ⟨b, 0, none⟩ j u (by show j ≠ b; omega))
/-- What a region that can't panic must lead to. -/
def NoP (Q : Exit → Act → World → Prop) : Exit → Act → World → Prop
  | .normal, a, w => Q .normal a w
  | _, _, _ => False
theorem wp_region_N {P : Program} {ops : Array Oper} {Q : Exit → Act → World → Prop} (D : Nat → Bool) (S : World → Prop) {id : Nat} {a : Act} {w : World} (hm : P.follows .mixedOrders = true) (h : wpAnyD P .any ops (NoP Q) S D ops.size (Array.replicate ops.size false) a w.drew) : (Code.region id ops true).wp P Q a w :=
  wp_mono (wp_region_D D S hm h) fun e a w h => by cases e <;> first | exact h | exact h.elim
theorem andl (n : Int) (s : Nat) (hs : s ≤ 10) : ∃ k : Nat, k < 2 ^ s ∧ bits .and .i64 n ((2 ^ s - 1 : Nat) : Int) = (k : Int) := by
  have hp : 2 ^ s ≤ 1024 := Nat.le_trans (Nat.pow_le_pow_right (by decide) hs) (by decide)
  have hp0 : 0 < 2 ^ s := Nat.pow_pos (by decide)
  refine ⟨(BitVec.ofInt 64 n).toNat % 2 ^ s, Nat.mod_lt _ hp0, ?_⟩
  have h : (BitVec.ofInt 64 n &&& BitVec.ofInt 64 ((2 ^ s - 1 : Nat) : Int)).toNat = (BitVec.ofInt 64 n).toNat % 2 ^ s := by
    rw [BitVec.toNat_and, show (BitVec.ofInt 64 ((2 ^ s - 1 : Nat) : Int)).toNat = 2 ^ s - 1 by rw [BitVec.ofInt_natCast, BitVec.toNat_ofNat]; omega]
    exact Nat.and_two_pow_sub_one_eq_mod _ s
  show IntKind.i64.wrap ((BitVec.ofInt 64 n &&& BitVec.ofInt 64 ((2 ^ s - 1 : Nat) : Int)).toNat : Int) = _
  rw [h, IntKind.wrap_i64]
  have := Nat.mod_lt (BitVec.ofInt 64 n).toNat hp0
  omega
theorem and1023 (n : Int) : ∃ k : Nat, k ≤ 1023 ∧ bits .and .i64 n 1023 = (k : Int) := by
  obtain ⟨k, hk, e⟩ := andl n 10 (by decide)
  exact ⟨k, by omega, e⟩
set_option maxHeartbeats 4000000 in
theorem htapes_walk (v0 : Value) (L : List (List Nat)) (x : Int) (w : World) (hL : PartsAt w v0 L) (hcap0 : ∀ q n c, v0 = .slice q n c → n ≤ c) (lo : -9223372036854775808 ≤ x) (hi : x ≤ 9223372036854775807) (ht : Tab w) :
    Calls Tryd.prog 9 #[v0, .int .i64 x] w fun e w' => e = .returned (.bool true) ∧ Below w.heap.size w w' := by
  obtain ⟨hlm, p0, c0, rfl, hcells⟩ := id hL
  have HL : Hid (PartsAt w (.slice p0 L.length c0) L) := hL
  have HT : Hid (Tab w) := ht
  clear hcells hcap0
  unfold maxLen at hlm
  have l0 : (0 : Int) ≤ (L.length : Int) := by omega
  have l1 : (L.length : Int) ≤ 9223372036854775807 := by omega
  refine (callsIn_wide (n := 3)).1 ?_
  refine callsIn_of_wp_marks Tryd.func9 rfl trivial ?_ rfl
  simp only [Tryd.ntmps9, List.size_toArray, List.length_cons, List.length_nil, Nat.reduceAdd, Nat.reduceSub, Array.replicate_succ, Array.replicate_zero, List.push_toArray, List.append_toArray, List.nil_append, List.cons_append]
  refine wpIn_wide.2 ?_
  go_wp2_with (go_at_call 12; refine stop ?_)
  refine (fit6_any w HT.out).mono ?_
  rintro e w1 ⟨rfl, hb1⟩
  go_wp2_with (go_at_call 13; refine stop ?_)
  refine (light_any _ L w1 (HL.out.later hb1)).mono ?_
  rintro e w1' ⟨b, rfl, hli, hw1⟩
  obtain rfl := hw1.symm
  clear hw1
  cases b with
  | false =>
    go_wp2
    exact ⟨.bool true, by first | rfl | simp [results, Tryd.f9, go_sem], rfl, hb1⟩
  | true =>
    have hli := hli rfl
    by_cases h0 : L.length = 0
    · have h0' : (L.length : Int) = 0 := by omega
      go_wp2
      exact ⟨.bool true, by first | rfl | simp [results, Tryd.f9, go_sem], rfl, hb1⟩
    · have h0' : ((L.length : Int) == 0) = false := by rw [beq_eq_false_iff_ne]; omega
      have HLI : Hid (Light L ∧ L.length ≠ 0) := ⟨hli, h0⟩
      have l40 : (L.length : Int) ≤ 40 := by have := hli.1; omega
      have lp : (0 : Int) < (L.length : Int) := by omega
      obtain ⟨m, hm, hmx⟩ := and1023 x
      have hmod : ((m : Int)).tmod (L.length : Int) = ((m % L.length : Nat) : Int) := by rw [Int.ofNat_tmod]
      have HI : Hid (m % L.length < L.length) := Nat.mod_lt _ (Nat.pos_of_ne_zero h0)
      generalize m % L.length = i at *
      have i0 : (0 : Int) ≤ (i : Int) := by omega
      have i1 : (i : Int) < (L.length : Int) := by have := HI.out; omega
      have m0 : (0 : Int) ≤ (m : Int) := by omega
      have m1 : (m : Int) ≤ 1023 := by omega
      clear hli h0 l1
      go_wp2_with (go_at_call 14; refine stop ?_)
      refine (leaves_any _ L w1 (HL.out.later hb1) HLI.out.1 (HT.out.later hb1)).mono ?_
      rintro e w2 ⟨u, rfl, hu, hb2⟩
      obtain ⟨pu, nu, cu, rfl, hnu⟩ := ownsRowN_form hu
      rw [leafs_len] at hnu
      subst hnu
      have hb12 := hb1.trans (hb2.mono hb1.size)
      have HU : Hid (OwnH w2 w1.heap.size (.slice pu L.length cu) (leafs L)) := hu
      have HB : Hid (Below w.heap.size w w2) := hb12
      clear hb2 hb12 hb1 hu
      go_wp2_with (go_at_call 17; refine stop ?_)
      have hh2 := HU.out.hs (leafs_ok L)
      have hT2 := HT.out.later HB.out
      refine (path_any i _ (leafs L) w2 (by rw [leafs_len]; exact HI.out) (by rw [leafs_len]; have := HLI.out.1.1; omega) hh2 hT2).mono ?_
      rintro e w3 ⟨u3, rfl, hu3, hb3⟩
      obtain ⟨pp, np, cp, rfl, hnp⟩ := ownsRowN_form hu3
      have hpl := path_len i false (leafs L).length (leafs L)
      have hpok : ∀ l ∈ pathL i false (leafs L).length (leafs L), H32 l := path_ok i false _ (leafs L) (leafs_ok L)
      have hpl2 := HLI.out.1.1
      have hwl := (wayL_ok _ i false 0 L.length (Nat.le_refl _) (Nat.zero_le _) HI.out).2.1
      rw [leafs_len] at hu3 hnp hpl hpok
      generalize pathL i false L.length (leafs L) = P at *
      subst hnp
      have HPL : Hid (P.length = (wayL i false 0 L.length).2.length) := hpl
      have p1 : (P.length : Int) ≤ 63 := by omega
      have p0 : (0 : Int) ≤ (P.length : Int) := by omega
      have hpos3 := hT2.later hb3
      have hP4 := (hu3.hs hpok).later (below1 w3 (.cells #[.slice none 0 0] 40))
      have hT4 := (hT2.later hb3).later (below1 w3 (.cells #[.slice none 0 0] 40))
      have hh4 := (hh2.later hb3).later (below1 w3 (.cells #[.slice none 0 0] 40))
      have hbel3 := HB.out.trans (hb3.mono HB.out.size)
      obtain ⟨gh, oh, hph, hgh, hrh, okh⟩ := hh4.at (i := i) (by rw [leafs_len]; exact HI.out)
      cases hph
      have HHD : Hid (∃ h, (leafs L).getD i [] = h) := ⟨_, rfl⟩
      obtain ⟨h, hhd⟩ := HHD.out
      rw [hhd] at hrh okh
      have ih := info_h32 okh
      have lh : (Tryd.prog.info? 28).map (·.size) = some (bytesL h).toList.length := by rw [Array.length_toList]; exact ih
      have htn := TpAt.new (w' := w3.alloc (.cells #[.slice none 0 0] 40)) (w := w3.alloc (.cells #[.slice none 0 0] 40)) (base := w3.heap.size) (Row.new w3 #[.slice none 0 0] 40 rfl) (Nat.le_refl _)
      have hz3 : 0 < w3.heap.size := hpos3.pos
      have HB3 : Hid (Below w.heap.size w w3) := hbel3
      clear hpl hwl hpl2 hbel3 hpos3 hh2 hT2 hb3
      go_wp2_with (first | refine wpList_load_mid rfl 28 _ rfl gh (oh + i * 32) rfl (bytesL h).toList _ hrh Tryd.underlying28 rfl lh ?_ | (go_at_call 18; refine stop ?_))
      refine (climb_any i L.length h _ P w3.heap.size _ [] _ HI.out (by have := HLI.out.1.1; omega) okh hP4 HPL.out hT4 hz3 (by simp) htn (by simp)).mono ?_
      rintro e w5 ⟨rfl, htp5, hs5⟩
      rw [List.nil_append] at htp5
      have F1 := climbN_len (wayL i false 0 L.length).2 P h P.length
      have F2 := climbN_mem (S := (wayL i false 0 L.length).2) okh hpok P.length (Nat.le_refl _)
      have F3 : P.length = 0 → climbS (wayL i false 0 L.length).2 P h P.length = h := fun e => by rw [e]; rfl
      have F4 := climb_last (wayL i false 0 L.length).2 P h P.length
      have F5 := climbS_32 (S := (wayL i false 0 L.length).2) (P := P) okh P.length
      generalize climbN (wayL i false 0 L.length).2 P h P.length = N at *
      generalize climbS (wayL i false 0 L.length).2 P h P.length = R at *
      obtain ⟨vN, rT, hPN⟩ := htp5.parts (by have := p1; omega) (fun l hl => by have := (F2 l hl).1; omega)
      have HF : Hid (N.length = P.length ∧ (∀ l ∈ N, l.length = 65 ∧ l.getD 0 0 = 1) ∧ (P.length = 0 → R = h) ∧ (0 < P.length → hsh (N.getD (P.length - 1) []) = R) ∧ H32 R) := ⟨F1, F2, F3, F4, F5⟩
      have iR := info_h32 F5
      have zR := z32_size F5
      have oR := bytesL_one R
      have hs35 := (TStep.of (base := w3.heap.size) (below1 w3 (.cells #[.slice none 0 0] 40))).trans hs5
      have HH5 : Hid (HsAt w5 (.slice (some ⟨gh, oh, none⟩) L.length cu) (leafs L)) := hh4.tstep hs5
      have HHE : Hid ((leafs L).getD i [] = h ∧ H32 h) := ⟨hhd, okh⟩
      have HB5 : Hid (Below w.heap.size w w5) := HB3.out.trans ((TStep.below (Below.refl _ _) hs35).mono HB3.out.size)
      have HT5 : Hid (Tab w5) := hT4.tstep hz3 hs5
      have hTlt : w3.heap.size < w5.heap.size := rT.lt
      clear F1 F2 F3 F4 htp5 hs5 hs35 hh4 htn hP4 hT4 hrh ih lh
      go_wp2_with (refine wpList_store_row rfl 28 _ _ rfl w5.heap.size (bytesL R) rfl rfl 28 _ (heap_alloc_new w5 _) iR zR oR ?_; refine stop ?_)
      unfold Stop
      rw [zeros32b]
      have r9 := (Row.new w5 (bytesL (List.replicate 32 0)) 28 rfl).setRow (bytesL R)
      have bz : Below w5.heap.size w5 ((w5.alloc (.cells (bytesL (List.replicate 32 0)) 28)).setRow w5.heap.size (bytesL R)) := Below.row (below1 w5 _) _ (Nat.le_refl _)
      have sz6 : ((w5.alloc (.cells (bytesL (List.replicate 32 0)) 28)).setRow w5.heap.size (bytesL R)).heap.size = w5.heap.size + 1 := by simp [World.setRow]
      generalize (w5.alloc (.cells (bytesL (List.replicate 32 0)) 28)).setRow w5.heap.size (bytesL R) = w6 at *
      have rT6 := rT.later bz
      have hPN6 := hPN.later bz
      have hlt6 : w5.heap.size < w6.heap.size := by omega
      have HB6 : Hid (Below w5.heap.size w5 w6) := bz
      have HS6 : Hid (w6.heap.size = w5.heap.size + 1) := sz6
      clear iR zR oR rT hPN bz sz6
      go_wp2
      have hI0 : LastI w6 ((w6.alloc (.cells #[.slice none 0 0] 37)).alloc (.cells #[.int .i64 0] 3)) N 0 := ⟨below2 w6 _ _, Row.new _ _ _ (by simp), _, (Row.new w6 _ _ rfl).alloc _, (fun n e => by cases e), fun h => absurd h (by decide)⟩
      have sz8 : ((w6.alloc (.cells #[.slice none 0 0] 37)).alloc (.cells #[.int .i64 0] 3)).heap.size = w6.heap.size + 2 := by simp
      have cT8 := ((rT6.alloc (.cells #[.slice none 0 0] 37)).alloc (.cells #[.int .i64 0] 3)).cell 0
      generalize (w6.alloc (.cells #[.slice none 0 0] 37)).alloc (.cells #[.int .i64 0] 3) = w8 at *
      have HS8 : Hid (w8.heap.size = w6.heap.size + 2) := sz8
      clear sz8
      refine (wpIn_wide (n := 3)).1 ?_
      refine' wpIn_range_all w3.heap.size vN N rfl rfl (by have := HS8.out; omega) ?hT (fun k W => LastI w6 W N k) (fun _ _ => False) (fun k W h => hPN6.later h.bel) (fun k W W' h kb => h.kb kb (by have := HS8.out; omega)) (fun _ _ _ h _ => h.elim) (fun k hk => ?hlen) hI0 _ ?hassign ?hbody ?hdone (fun _ _ h => h.elim)
      case hT => simpa using cT8
      case hlen => have := (HF.out.2.1 (N.getD k []) (by simp [List.getD, hk])).1; omega
      case hassign =>
        intro u W K hK
        gi_wp2
        exact hK
      case hbody =>
        rintro k W u hk hI hu hsz
        have HLT : Hid (k < N.length) := hk
        have HII : Hid (LastI w6 W N k) := hI
        obtain ⟨B, hB⟩ : ∃ B, B = N.getD k [] := ⟨_, rfl⟩
        rw [← hB] at hu
        have HBq : Hid (B = N.getD k []) := hB
        have HUU : Hid (BytesAt W u B) := hu
        clear hB
        obtain ⟨u0, hr0, _, _⟩ := hI.last
        obtain ⟨_, _, pb, cb, rfl, _⟩ := id hu
        have c11 := hr0.cell 0
        have f11 := hr0.frozen 0
        have c12 := hI.n.cell 0
        have f12 := hI.n.frozen 0
        simp only [List.getElem?_toArray, List.getElem?_cons_zero] at c11 c12
        have k0 : (0 : Int) ≤ (k : Int) := by omega
        have k1 : (k : Int) ≤ 63 := by have := HF.out.1; omega
        clear hI hu hr0
        gi_wp2
        exact ⟨⟨keep2 _ _ _ _ (by have := HS8.out; omega), keep2 _ _ _ _ (by have := HS8.out; omega)⟩, HII.out.put (by rw [← HBq.out]; exact HUU.out)⟩
      case hdone =>
        rintro W hI hK
        obtain ⟨ul, hul, hux, hlast⟩ := hI.last
        clear hux
        have hn := hI.n
        have hbl := hI.bel
        have HKd : Hid (W.heap[w8.heap.size]? = some (.deferred (some []))) := hK
        rw [HF.out.1] at hn
        clear hK hI
        rename_i hKa
        simp only [Exit.inBlock, Exit.then]
        refine hKa _ _ ?_
        clear hKa
        have cn := hn.cell 0
        have cl := hul.cell 0
        simp only [List.getElem?_toArray, List.getElem?_cons_zero] at cn cl
        obtain ⟨gh2, oh2, hph2, hgh2, hrh2, okh2⟩ := (HH5.out.later (HB6.out.trans (hbl.mono HB6.out.size))).at (i := i) (by rw [leafs_len]; exact HI.out)
        cases hph2
        rw [hhd] at hrh2
        have r9W := r9.later hbl
        have HBW : Hid (Below w.heap.size w W) := HB5.out.trans ((HB6.out.trans (hbl.mono HB6.out.size)).mono HB5.out.size)
        have HTW : Hid (Tab W) := HT5.out.later (HB6.out.trans (hbl.mono HB6.out.size))
        have HNN : Hid (∀ k, k < P.length → (N.getD k []).length = 65 ∧ (N.getD k []).getD 0 0 = 1) := fun k hk => HF.out.2.1 _ (by have := HF.out.1; simp [List.getD, show k < N.length by omega])
        have HLA : Hid (0 < N.length → BytesAt W ul (N.getD (N.length - 1) [])) := hlast
        rw [HF.out.1] at HLA
        have HF2 : Hid ((P.length = 0 → R = h) ∧ (0 < P.length → hsh (N.getD (P.length - 1) []) = R) ∧ H32 R) := HF.out.2.2
        clear hn hul hlast hbl r9 rT6 hPN6 HF hpok hu3 HPL okh2 hgh2 hgh
        generalize P.length = q at *
        have lh : (Tryd.prog.info? 28).map (·.size) = some (bytesL h).toList.length := by rw [Array.length_toList]; exact info_h32 okh
        have lR : (Tryd.prog.info? 28).map (·.size) = some (bytesL R).toList.length := by rw [Array.length_toList]; exact info_h32 F5
        by_cases hq : q = 0
        · have hRh : R = h := HF2.out.1 hq
          subst hRh
          subst hq
          have hsame := hash_same R F5.1
          clear HLA HF2 HNN
          go_wp2_with fail
          refine wp_region_N (fun _ => true) (fun w' : World => ((w'.cell? ⟨w6.heap.size + 1, 0, none⟩ = some (.int .i64 0)) ∧ Row w' w5.heap.size (bytesL R) 28) ∧ w'.rangeAt gh (oh + i * 32) (bytesL R).toList) (by kernel_rfl) ?_
          have hS : (fun w' : World => ((w'.cell? ⟨w6.heap.size + 1, 0, none⟩ = some (.int .i64 0)) ∧ Row w' w5.heap.size (bytesL R) 28) ∧ w'.rangeAt gh (oh + i * 32) (bytesL R).toList) W.drew := ⟨⟨cn, r9W⟩, by simpa using hrh2⟩
          clear cn r9W hrh2 cl
          have HBd : Hid (Below w.heap.size w W.drew) := HBW.out.drew
          have HKW : Hid (W.drew.heap[w8.heap.size]? = some (.deferred (some []))) := HKd.out
          generalize W.drew = wd at *
          refine' wpAnyD_take (i := 0) (v := _) rfl (by kernel_rfl) (by kernel_rfl) (by kernel_rfl) (by kernel_rfl) (fun _ _ _ h => h) (Or.inl ⟨by rfl, ?hy1⟩) hS ?re1
          case hy1 => (intro w hSw; (try dsimp only at hSw); go_simp; (try with_reducible rfl))
          simp only [Act.put, List.setIfInBounds_toArray, List.set_cons_zero, List.set_cons_succ]
          refine' wpAnyD_take (i := 1) (v := _) rfl (by kernel_rfl) (by kernel_rfl) (by kernel_rfl) (by kernel_rfl) (fun _ _ _ h => h) (Or.inl ⟨by rfl, ?hy2⟩) hS ?re2
          case hy2 => (intro w hSw; (try dsimp only at hSw); go_simp; (try with_reducible rfl))
          simp only [Act.put, List.setIfInBounds_toArray, List.set_cons_zero, List.set_cons_succ]
          refine' wpAnyD_take (i := 2) (v := _) rfl (by kernel_rfl) (by kernel_rfl) (by kernel_rfl) (by kernel_rfl) (fun _ _ _ h => h) (Or.inl ⟨by rfl, ?hy3⟩) hS ?re3
          case hy3 => (intro w hSw; (try dsimp only at hSw); go_simp; (try with_reducible rfl))
          simp only [Act.put, List.setIfInBounds_toArray, List.set_cons_zero, List.set_cons_succ]
          refine' wpAnyD_take (i := 3) (v := _) rfl (by kernel_rfl) (by kernel_rfl) (by kernel_rfl) (by kernel_rfl) (fun _ _ _ h => h) (Or.inl ⟨by rfl, ?hy4⟩) hS ?re4
          case hy4 => (intro w hSw; (try dsimp only at hSw); go_simp; (try with_reducible rfl))
          simp only [Act.put, List.setIfInBounds_toArray, List.set_cons_zero, List.set_cons_succ]
          refine' wpAnyD_take (i := 4) (v := _) rfl (by kernel_rfl) (by kernel_rfl) (by kernel_rfl) (by kernel_rfl) (fun _ _ _ h => h) (Or.inl ⟨by rfl, ?hy5⟩) hS ?re5
          case hy5 => (intro w hSw; (try dsimp only at hSw); go_simp; (try with_reducible rfl))
          simp only [Act.put, List.setIfInBounds_toArray, List.set_cons_zero, List.set_cons_succ]
          refine' wpAnyD_take (i := 5) (v := _) rfl (by kernel_rfl) (by kernel_rfl) (by kernel_rfl) (by kernel_rfl) (fun _ _ _ h => h) (Or.inl ⟨by rfl, ?hy6⟩) hS ?re6
          case hy6 => (intro w hSw; (try dsimp only at hSw); go_simp; (try with_reducible rfl))
          simp only [Act.put, List.setIfInBounds_toArray, List.set_cons_zero, List.set_cons_succ]
          refine' wpAnyD_take (i := 6) (v := _) rfl (by kernel_rfl) (by kernel_rfl) (by kernel_rfl) (by kernel_rfl) (fun _ _ _ h => h) (Or.inl ⟨by rfl, ?hy7⟩) hS ?re7
          case hy7 => (intro w hSw; (try dsimp only at hSw); go_simp; (try with_reducible rfl))
          simp only [Act.put, List.setIfInBounds_toArray, List.set_cons_zero, List.set_cons_succ]
          refine' wpAnyD_take (i := 7) (v := _) rfl (by kernel_rfl) (by kernel_rfl) (by kernel_rfl) (by kernel_rfl) (fun _ _ _ h => h) (Or.inl ⟨by rfl, ?hy8⟩) hS ?re8
          case hy8 => (intro w hSw; (try dsimp only at hSw); go_simp; (try with_reducible rfl))
          simp only [Act.put, List.setIfInBounds_toArray, List.set_cons_zero, List.set_cons_succ]
          refine' wpAnyD_take (i := 8) (v := _) rfl (by kernel_rfl) (by kernel_rfl) (by kernel_rfl) (by kernel_rfl) (fun _ _ _ h => h) (Or.inl ⟨by rfl, ?hy9⟩) hS ?re9
          case hy9 => (intro w hSw; (try dsimp only at hSw); go_simp; (try with_reducible rfl))
          simp only [Act.put, List.setIfInBounds_toArray, List.set_cons_zero, List.set_cons_succ]
          refine' wpAnyD_take (i := 9) (v := _) rfl (by kernel_rfl) (by kernel_rfl) (by kernel_rfl) (by kernel_rfl) (fun _ _ _ h => h) (Or.inl ⟨by rfl, ?hy10⟩) hS ?re10
          case hy10 => (intro w hSw; (try dsimp only at hSw); go_simp; (try with_reducible rfl))
          simp only [Act.put, List.setIfInBounds_toArray, List.set_cons_zero, List.set_cons_succ]
          refine' wpAnyD_take (i := 10) (v := _) rfl (by kernel_rfl) (by kernel_rfl) (by kernel_rfl) (by kernel_rfl) (fun _ _ _ h => h) (Or.inl ⟨by rfl, ?hy11⟩) hS ?re11
          case hy11 => (intro w hSw; (try dsimp only at hSw); go_simp; (try with_reducible rfl))
          simp only [Act.put, List.setIfInBounds_toArray, List.set_cons_zero, List.set_cons_succ]
          refine wpAnyD_take (i := 11) rfl (by kernel_rfl) (by kernel_rfl) (by kernel_rfl) (by kernel_rfl) (fun _ _ _ h => h) (yieldsIf_load_mid (by rfl) 28 _ rfl w5.heap.size 0 rfl (bytesL R).toList _ (fun w' hw' => row_range0 hw'.1.2) Tryd.underlying28 rfl lR) hS ?_
          simp only [Act.put, List.setIfInBounds_toArray, List.set_cons_zero, List.set_cons_succ]
          refine' wpAnyD_take (i := 12) (v := _) rfl (by kernel_rfl) (by kernel_rfl) (by kernel_rfl) (by kernel_rfl) (fun _ _ _ h => h) (Or.inl ⟨by rfl, ?hy12⟩) hS ?re12
          case hy12 => (intro w hSw; (try dsimp only at hSw); go_simp; (try with_reducible rfl))
          simp only [Act.put, List.setIfInBounds_toArray, List.set_cons_zero, List.set_cons_succ]
          refine' wpAnyD_take (i := 13) (v := _) rfl (by kernel_rfl) (by kernel_rfl) (by kernel_rfl) (by kernel_rfl) (fun _ _ _ h => h) (Or.inl ⟨by rfl, ?hy13⟩) hS ?re13
          case hy13 => (intro w hSw; (try dsimp only at hSw); go_simp; (try with_reducible rfl))
          simp only [Act.put, List.setIfInBounds_toArray, List.set_cons_zero, List.set_cons_succ]
          refine' wpAnyD_take (i := 14) (v := _) rfl (by kernel_rfl) (by kernel_rfl) (by kernel_rfl) (by kernel_rfl) (fun _ _ _ h => h) (Or.inl ⟨by rfl, ?hy14⟩) hS ?re14
          case hy14 => (intro w hSw; (try dsimp only at hSw); go_simp; (try with_reducible rfl))
          simp only [Act.put, List.setIfInBounds_toArray, List.set_cons_zero, List.set_cons_succ]
          refine wpAnyD_take (i := 15) rfl (by kernel_rfl) (by kernel_rfl) (by kernel_rfl) (by kernel_rfl) (fun _ _ _ h => h) (yieldsIf_load_mid (by rfl) 28 _ rfl gh (oh + i * 32) rfl (bytesL R).toList _ (fun w' hw' => hw'.2) Tryd.underlying28 rfl lR) hS ?_
          simp only [Act.put, List.setIfInBounds_toArray, List.set_cons_zero, List.set_cons_succ]
          refine' wpAnyD_take (i := 16) (v := _) rfl (by kernel_rfl) (by kernel_rfl) (by kernel_rfl) (by kernel_rfl) (fun _ _ _ h => h) (Or.inl ⟨by rfl, ?hy15⟩) hS ?re15
          case hy15 => (intro w hSw; (try dsimp only at hSw); go_simp; (try with_reducible rfl))
          simp only [Act.put, List.setIfInBounds_toArray, List.set_cons_zero, List.set_cons_succ]
          refine' wpAnyD_take (i := 17) (v := _) rfl (by kernel_rfl) (by kernel_rfl) (by kernel_rfl) (by kernel_rfl) (fun _ _ _ h => h) (Or.inl ⟨by rfl, ?hy16⟩) hS ?re16
          case hy16 => (intro w hSw; (try dsimp only at hSw); go_simp; (try with_reducible rfl))
          simp only [Act.put, List.setIfInBounds_toArray, List.set_cons_zero, List.set_cons_succ]
          refine' wpAnyD_take (i := 18) (v := _) rfl (by kernel_rfl) (by kernel_rfl) (by kernel_rfl) (by kernel_rfl) (fun _ _ _ h => h) (Or.inl ⟨by rfl, ?hy17⟩) hS ?re17
          case hy17 => (intro w hSw; (try dsimp only at hSw); go_simp; (try with_reducible rfl))
          simp only [Act.put, List.setIfInBounds_toArray, List.set_cons_zero, List.set_cons_succ]
          refine wpAnyD_take (i := 19) rfl (by kernel_rfl) (by kernel_rfl) (by kernel_rfl) (by kernel_rfl) (fun _ _ _ h => h) (Or.inr ⟨by rfl, rfl⟩) hS ?_
          simp only [Act.put, List.setIfInBounds_toArray, List.set_cons_zero, List.set_cons_succ]
          refine wpAnyD_take (i := 20) rfl (by kernel_rfl) (by kernel_rfl) (by kernel_rfl) (by kernel_rfl) (fun _ _ _ h => h) (Or.inr ⟨by rfl, rfl⟩) hS ?_
          simp only [Act.put, List.setIfInBounds_toArray, List.set_cons_zero, List.set_cons_succ]
          refine wpAnyD_take (i := 21) rfl (by kernel_rfl) (by kernel_rfl) (by kernel_rfl) (by kernel_rfl) (fun _ _ _ h => h) (Or.inr ⟨by rfl, rfl⟩) hS ?_
          simp only [Act.put, List.setIfInBounds_toArray, List.set_cons_zero, List.set_cons_succ]
          refine wpAnyD_take (i := 22) rfl (by kernel_rfl) (by kernel_rfl) (by kernel_rfl) (by kernel_rfl) (fun _ _ _ h => h) (Or.inr ⟨by rfl, rfl⟩) hS ?_
          simp only [Act.put, List.setIfInBounds_toArray, List.set_cons_zero, List.set_cons_succ]
          refine wpAnyD_take (i := 23) rfl (by kernel_rfl) (by kernel_rfl) (by kernel_rfl) (by kernel_rfl) (fun _ _ _ h => h) (Or.inr ⟨by rfl, rfl⟩) hS ?_
          simp only [Act.put, List.setIfInBounds_toArray, List.set_cons_zero, List.set_cons_succ]
          refine wpAnyD_take (i := 24) rfl (by kernel_rfl) (by kernel_rfl) (by kernel_rfl) (by kernel_rfl) (fun _ _ _ h => h) (Or.inr ⟨by rfl, rfl⟩) hS ?_
          simp only [Act.put, List.setIfInBounds_toArray, List.set_cons_zero, List.set_cons_succ]
          refine wpAnyD_take (i := 25) rfl (by kernel_rfl) (by kernel_rfl) (by kernel_rfl) (by kernel_rfl) (fun _ _ _ h => h) (Or.inr ⟨by rfl, rfl⟩) hS ?_
          simp only [Act.put, List.setIfInBounds_toArray, List.set_cons_zero, List.set_cons_succ]
          refine wpAnyD_take (i := 26) rfl (by kernel_rfl) (by kernel_rfl) (by kernel_rfl) (by kernel_rfl) (fun _ _ _ h => h) (Or.inr ⟨by rfl, rfl⟩) hS ?_
          simp only [Act.put, List.setIfInBounds_toArray, List.set_cons_zero, List.set_cons_succ]
          refine wpAnyD_take (i := 27) rfl (by kernel_rfl) (by kernel_rfl) (by kernel_rfl) (by kernel_rfl) (fun _ _ _ h => h) (Or.inr ⟨by rfl, rfl⟩) hS ?_
          simp only [Act.put, List.setIfInBounds_toArray, List.set_cons_zero, List.set_cons_succ]
          refine wpAnyD_take (i := 28) rfl (by kernel_rfl) (by kernel_rfl) (by kernel_rfl) (by kernel_rfl) (fun _ _ _ h => h) (Or.inr ⟨by rfl, rfl⟩) hS ?_
          simp only [Act.put, List.setIfInBounds_toArray, List.set_cons_zero, List.set_cons_succ]
          refine wpAnyD_take (i := 29) rfl (by kernel_rfl) (by kernel_rfl) (by kernel_rfl) (by kernel_rfl) (fun _ _ _ h => h) (Or.inr ⟨by rfl, rfl⟩) hS ?_
          simp only [Act.put, List.setIfInBounds_toArray, List.set_cons_zero, List.set_cons_succ]
          refine wpAnyD_take (i := 30) rfl (by kernel_rfl) (by kernel_rfl) (by kernel_rfl) (by kernel_rfl) (fun _ _ _ h => h) (Or.inr ⟨by rfl, rfl⟩) hS ?_
          simp only [Act.put, List.setIfInBounds_toArray, List.set_cons_zero, List.set_cons_succ]
          refine wpAnyD_take (i := 31) rfl (by kernel_rfl) (by kernel_rfl) (by kernel_rfl) (by kernel_rfl) (fun _ _ _ h => h) (Or.inr ⟨by rfl, rfl⟩) hS ?_
          simp only [Act.put, List.setIfInBounds_toArray, List.set_cons_zero, List.set_cons_succ]
          refine wpAnyD_take (i := 32) rfl (by kernel_rfl) (by kernel_rfl) (by kernel_rfl) (by kernel_rfl) (fun _ _ _ h => h) (Or.inr ⟨by rfl, rfl⟩) hS ?_
          simp only [Act.put, List.setIfInBounds_toArray, List.set_cons_zero, List.set_cons_succ]
          refine wpAnyD_take (i := 33) rfl (by kernel_rfl) (by kernel_rfl) (by kernel_rfl) (by kernel_rfl) (fun _ _ _ h => h) (Or.inr ⟨by rfl, rfl⟩) hS ?_
          simp only [Act.put, List.setIfInBounds_toArray, List.set_cons_zero, List.set_cons_succ]
          refine wpAnyD_take (i := 34) rfl (by kernel_rfl) (by kernel_rfl) (by kernel_rfl) (by kernel_rfl) (fun _ _ _ h => h) (Or.inr ⟨by rfl, rfl⟩) hS ?_
          simp only [Act.put, List.setIfInBounds_toArray, List.set_cons_zero, List.set_cons_succ]
          refine wpAnyD_take (i := 35) rfl (by kernel_rfl) (by kernel_rfl) (by kernel_rfl) (by kernel_rfl) (fun _ _ _ h => h) (Or.inr ⟨by rfl, rfl⟩) hS ?_
          simp only [Act.put, List.setIfInBounds_toArray, List.set_cons_zero, List.set_cons_succ]
          refine wpAnyD_take (i := 36) rfl (by kernel_rfl) (by kernel_rfl) (by kernel_rfl) (by kernel_rfl) (fun _ _ _ h => h) (Or.inr ⟨by rfl, rfl⟩) hS ?_
          simp only [Act.put, List.setIfInBounds_toArray, List.set_cons_zero, List.set_cons_succ]
          refine wpAnyD_take (i := 37) rfl (by kernel_rfl) (by kernel_rfl) (by kernel_rfl) (by kernel_rfl) (fun _ _ _ h => h) (Or.inr ⟨by rfl, rfl⟩) hS ?_
          simp only [Act.put, List.setIfInBounds_toArray, List.set_cons_zero, List.set_cons_succ]
          refine wpAnyD_take (i := 38) rfl (by kernel_rfl) (by kernel_rfl) (by kernel_rfl) (by kernel_rfl) (fun _ _ _ h => h) (Or.inr ⟨by rfl, rfl⟩) hS ?_
          simp only [Act.put, List.setIfInBounds_toArray, List.set_cons_zero, List.set_cons_succ]
          refine' wpAnyD_take (i := 39) (v := _) rfl (by kernel_rfl) (by kernel_rfl) (by kernel_rfl) (by kernel_rfl) (fun _ _ _ h => h) (Or.inl ⟨by rfl, ?hy18⟩) hS ?re18
          case hy18 => (intro w hSw; (try dsimp only at hSw); go_simp; (try with_reducible rfl))
          simp only [Act.put, List.setIfInBounds_toArray, List.set_cons_zero, List.set_cons_succ]
          refine' wpAnyD_take (i := 40) (v := _) rfl (by kernel_rfl) (by kernel_rfl) (by kernel_rfl) (by kernel_rfl) (fun _ _ _ h => h) (Or.inl ⟨by rfl, ?hy19⟩) hS ?re19
          case hy19 => (intro w hSw; (try dsimp only at hSw); go_simp; (try with_reducible rfl))
          simp only [Act.put, List.setIfInBounds_toArray, List.set_cons_zero, List.set_cons_succ]
          refine' wpAnyD_take (i := 41) (v := _) rfl (by kernel_rfl) (by kernel_rfl) (by kernel_rfl) (by kernel_rfl) (fun _ _ _ h => h) (Or.inl ⟨by rfl, ?hy20⟩) hS ?re20
          case hy20 => (intro w hSw; (try dsimp only at hSw); go_simp; (try with_reducible rfl))
          simp only [Act.put, List.setIfInBounds_toArray, List.set_cons_zero, List.set_cons_succ]
          refine wpAnyD_done (by kernel_rfl) ?_ _
          unfold NoP
          dsimp only
          clear hS
          go_wp2
          refine ⟨by simp, .inl ⟨_, _, rfl, run_takeDeferred HKW.out, ?_⟩⟩
          refine ⟨.bool true, ?_, rfl, HBd.out.trans (belowK_b (w := w) (Nat.le_refl _) _ w8.heap.size _ _ (by have := HS8.out; have := HB5.out.size; omega) HKW.out rfl rfl)⟩
          first | rfl | simp [results, Tryd.f9, go_sem]
        · have q0 : (0 : Int) < (q : Int) := by omega
          have q0n : 0 < q := by omega
          have HTd : Hid (Tab W.drew) := HTW.out.later (Below.refl _ W).drew
          have q1 : ((q : Int) == 0) = false := by rw [beq_eq_false_iff_ne]; omega
          have q2 : ¬ (q : Int) = 0 := by omega
          have hBA := HLA.out (by omega)
          obtain ⟨hB65, hB1⟩ := HNN.out (q - 1) (by omega)
          have hBR := HF2.out.2.1 (by omega)
          generalize N.getD (q - 1) [] = B at *
          have hPB := parts1 W.drew 37 (hBA.later (Below.refl _ W).drew) 1
          obtain ⟨_, _, pb, cb, rfl, hcb⟩ := id hBA
          obtain ⟨b, off, rfl, hbb, hc1⟩ := hcb 0 (by omega)
          rw [hB1, Nat.add_zero] at hc1
          rw [hB65] at cl hPB
          have hsame := hash_same R F5.1
          have HBR : Hid (hsh B = R ∧ B.length = 65) := ⟨hBR, hB65⟩
          clear HLA HF2 HNN hBA hcb hB1 hBR hB65 hq
          go_wp2_with fail
          refine wp_region_N (fun _ => true) (fun w' : World => ((w'.cell? ⟨w6.heap.size + 1, 0, none⟩ = some (.int .i64 (q : Nat)) ∧ w'.cell? ⟨w6.heap.size, 0, none⟩ = some (.slice (some ⟨b, off, none⟩) 65 cb)) ∧ Row w' w5.heap.size (bytesL R) 28) ∧ w'.cell? ⟨b, off, none⟩ = some (.int .u8 1)) (by kernel_rfl) ?_
          have hS : (fun w' : World => ((w'.cell? ⟨w6.heap.size + 1, 0, none⟩ = some (.int .i64 (q : Nat)) ∧ w'.cell? ⟨w6.heap.size, 0, none⟩ = some (.slice (some ⟨b, off, none⟩) 65 cb)) ∧ Row w' w5.heap.size (bytesL R) 28) ∧ w'.cell? ⟨b, off, none⟩ = some (.int .u8 1)) W.drew := ⟨⟨⟨cn, cl⟩, r9W⟩, hc1⟩
          have hlb : b < W.drew.heap.size := hbb
          clear cn r9W hrh2 cl hc1 hbb
          have HBd : Hid (Below w.heap.size w W.drew) := HBW.out.drew
          have HKW : Hid (W.drew.heap[w8.heap.size]? = some (.deferred (some []))) := HKd.out
          generalize W.drew = wd at *
          have HSL : Hid (∀ w', Below wd.heap.size wd w' → ((w'.cell? ⟨w6.heap.size + 1, 0, none⟩ = some (.int .i64 (q : Nat)) ∧ w'.cell? ⟨w6.heap.size, 0, none⟩ = some (.slice (some ⟨b, off, none⟩) 65 cb)) ∧ Row w' w5.heap.size (bytesL R) 28) ∧ w'.cell? ⟨b, off, none⟩ = some (.int .u8 1)) := by
            intro w' hb
            have hk8 := (Array.getElem?_eq_some_iff.1 HKW.out).1
            have := HS8.out
            exact ⟨⟨⟨(hb.cell (p := ⟨w6.heap.size + 1, 0, none⟩) (by show w6.heap.size + 1 < _; omega)).trans hS.1.1.1, (hb.cell (p := ⟨w6.heap.size, 0, none⟩) (by show w6.heap.size < _; omega)).trans hS.1.1.2⟩, hS.1.2.later hb⟩, (hb.cell (p := ⟨b, off, none⟩) hlb).trans hS.2⟩
          clear hlb
          refine' wpAnyD_take (i := 0) (v := _) rfl (by kernel_rfl) (by kernel_rfl) (by kernel_rfl) (by kernel_rfl) (fun _ _ _ h => h) (Or.inl ⟨by rfl, ?hy21⟩) hS ?re21
          case hy21 => (intro w hSw; (try dsimp only at hSw); go_simp; (try with_reducible rfl))
          simp only [Act.put, List.setIfInBounds_toArray, List.set_cons_zero, List.set_cons_succ]
          refine' wpAnyD_take (i := 1) (v := _) rfl (by kernel_rfl) (by kernel_rfl) (by kernel_rfl) (by kernel_rfl) (fun _ _ _ h => h) (Or.inl ⟨by rfl, ?hy22⟩) hS ?re22
          case hy22 => (intro w hSw; (try dsimp only at hSw); go_simp; (try with_reducible rfl))
          simp only [Act.put, List.setIfInBounds_toArray, List.set_cons_zero, List.set_cons_succ]
          refine' wpAnyD_take (i := 2) (v := _) rfl (by kernel_rfl) (by kernel_rfl) (by kernel_rfl) (by kernel_rfl) (fun _ _ _ h => h) (Or.inl ⟨by rfl, ?hy23⟩) hS ?re23
          case hy23 => (intro w hSw; (try dsimp only at hSw); go_simp; (try with_reducible rfl))
          simp only [Act.put, List.setIfInBounds_toArray, List.set_cons_zero, List.set_cons_succ]
          refine' wpAnyD_take (i := 3) (v := _) rfl (by kernel_rfl) (by kernel_rfl) (by kernel_rfl) (by kernel_rfl) (fun _ _ _ h => h) (Or.inl ⟨by rfl, ?hy24⟩) hS ?re24
          case hy24 => (intro w hSw; (try dsimp only at hSw); go_simp; (try with_reducible rfl))
          simp only [Act.put, List.setIfInBounds_toArray, List.set_cons_zero, List.set_cons_succ]
          refine' wpAnyD_take (i := 4) (v := _) rfl (by kernel_rfl) (by kernel_rfl) (by kernel_rfl) (by kernel_rfl) (fun _ _ _ h => h) (Or.inl ⟨by rfl, ?hy25⟩) hS ?re25
          case hy25 => (intro w hSw; (try dsimp only at hSw); go_simp; (try with_reducible rfl))
          simp only [Act.put, List.setIfInBounds_toArray, List.set_cons_zero, List.set_cons_succ]
          refine' wpAnyD_take (i := 5) (v := _) rfl (by kernel_rfl) (by kernel_rfl) (by kernel_rfl) (by kernel_rfl) (fun _ _ _ h => h) (Or.inl ⟨by rfl, ?hy26⟩) hS ?re26
          case hy26 => (intro w hSw; (try dsimp only at hSw); go_simp; (try with_reducible rfl))
          simp only [Act.put, List.setIfInBounds_toArray, List.set_cons_zero, List.set_cons_succ]
          refine' wpAnyD_take (i := 6) (v := _) rfl (by kernel_rfl) (by kernel_rfl) (by kernel_rfl) (by kernel_rfl) (fun _ _ _ h => h) (Or.inl ⟨by rfl, ?hy27⟩) hS ?re27
          case hy27 => (intro w hSw; (try dsimp only at hSw); go_simp; (try with_reducible rfl))
          simp only [Act.put, List.setIfInBounds_toArray, List.set_cons_zero, List.set_cons_succ]
          refine' wpAnyD_take (i := 7) (v := _) rfl (by kernel_rfl) (by kernel_rfl) (by kernel_rfl) (by kernel_rfl) (fun _ _ _ h => h) (Or.inl ⟨by rfl, ?hy28⟩) hS ?re28
          case hy28 => (intro w hSw; (try dsimp only at hSw); go_simp; (try with_reducible rfl))
          simp only [Act.put, List.setIfInBounds_toArray, List.set_cons_zero, List.set_cons_succ]
          refine' wpAnyD_take (i := 8) (v := _) rfl (by kernel_rfl) (by kernel_rfl) (by kernel_rfl) (by kernel_rfl) (fun _ _ _ h => h) (Or.inl ⟨by rfl, ?hy29⟩) hS ?re29
          case hy29 => (intro w hSw; (try dsimp only at hSw); go_simp; (try with_reducible rfl))
          simp only [Act.put, List.setIfInBounds_toArray, List.set_cons_zero, List.set_cons_succ]
          refine' wpAnyD_take (i := 9) (v := _) rfl (by kernel_rfl) (by kernel_rfl) (by kernel_rfl) (by kernel_rfl) (fun _ _ _ h => h) (Or.inl ⟨by rfl, ?hy30⟩) hS ?re30
          case hy30 => (intro w hSw; (try dsimp only at hSw); go_simp; (try with_reducible rfl))
          simp only [Act.put, List.setIfInBounds_toArray, List.set_cons_zero, List.set_cons_succ]
          refine' wpAnyD_take (i := 10) (v := _) rfl (by kernel_rfl) (by kernel_rfl) (by kernel_rfl) (by kernel_rfl) (fun _ _ _ h => h) (Or.inl ⟨by rfl, ?hy31⟩) hS ?re31
          case hy31 => (intro w hSw; (try dsimp only at hSw); go_simp; (try with_reducible rfl))
          simp only [Act.put, List.setIfInBounds_toArray, List.set_cons_zero, List.set_cons_succ]
          refine wpAnyD_take (i := 11) rfl (by kernel_rfl) (by kernel_rfl) (by kernel_rfl) (by kernel_rfl) (fun _ _ _ h => h) (Or.inr ⟨by rfl, rfl⟩) hS ?_
          simp only [Act.put, List.setIfInBounds_toArray, List.set_cons_zero, List.set_cons_succ]
          refine wpAnyD_take (i := 12) rfl (by kernel_rfl) (by kernel_rfl) (by kernel_rfl) (by kernel_rfl) (fun _ _ _ h => h) (Or.inr ⟨by rfl, rfl⟩) hS ?_
          simp only [Act.put, List.setIfInBounds_toArray, List.set_cons_zero, List.set_cons_succ]
          refine wpAnyD_take (i := 13) rfl (by kernel_rfl) (by kernel_rfl) (by kernel_rfl) (by kernel_rfl) (fun _ _ _ h => h) (Or.inr ⟨by rfl, rfl⟩) hS ?_
          simp only [Act.put, List.setIfInBounds_toArray, List.set_cons_zero, List.set_cons_succ]
          refine wpAnyD_take (i := 14) rfl (by kernel_rfl) (by kernel_rfl) (by kernel_rfl) (by kernel_rfl) (fun _ _ _ h => h) (Or.inr ⟨by rfl, rfl⟩) hS ?_
          simp only [Act.put, List.setIfInBounds_toArray, List.set_cons_zero, List.set_cons_succ]
          refine wpAnyD_take (i := 15) rfl (by kernel_rfl) (by kernel_rfl) (by kernel_rfl) (by kernel_rfl) (fun _ _ _ h => h) (Or.inr ⟨by rfl, rfl⟩) hS ?_
          simp only [Act.put, List.setIfInBounds_toArray, List.set_cons_zero, List.set_cons_succ]
          refine wpAnyD_take (i := 16) rfl (by kernel_rfl) (by kernel_rfl) (by kernel_rfl) (by kernel_rfl) (fun _ _ _ h => h) (Or.inr ⟨by rfl, rfl⟩) hS ?_
          simp only [Act.put, List.setIfInBounds_toArray, List.set_cons_zero, List.set_cons_succ]
          refine' wpAnyD_take (i := 17) (v := _) rfl (by kernel_rfl) (by kernel_rfl) (by kernel_rfl) (by kernel_rfl) (fun _ _ _ h => h) (Or.inl ⟨by rfl, ?hy32⟩) hS ?re32
          case hy32 => (intro w hSw; (try dsimp only at hSw); go_simp; (try with_reducible rfl))
          simp only [Act.put, List.setIfInBounds_toArray, List.set_cons_zero, List.set_cons_succ]
          refine' wpAnyD_take (i := 18) (v := _) rfl (by kernel_rfl) (by kernel_rfl) (by kernel_rfl) (by kernel_rfl) (fun _ _ _ h => h) (Or.inl ⟨by rfl, ?hy33⟩) hS ?re33
          case hy33 => (intro w hSw; (try dsimp only at hSw); go_simp; (try with_reducible rfl))
          simp only [Act.put, List.setIfInBounds_toArray, List.set_cons_zero, List.set_cons_succ]
          refine' wpAnyD_take (i := 19) (v := _) rfl (by kernel_rfl) (by kernel_rfl) (by kernel_rfl) (by kernel_rfl) (fun _ _ _ h => h) (Or.inl ⟨by rfl, ?hy34⟩) hS ?re34
          case hy34 => (intro w hSw; (try dsimp only at hSw); go_simp; (try with_reducible rfl))
          simp only [Act.put, List.setIfInBounds_toArray, List.set_cons_zero, List.set_cons_succ]
          refine' wpAnyD_take (i := 20) (v := _) rfl (by kernel_rfl) (by kernel_rfl) (by kernel_rfl) (by kernel_rfl) (fun _ _ _ h => h) (Or.inl ⟨by rfl, ?hy35⟩) hS ?re35
          case hy35 => (intro w hSw; (try dsimp only at hSw); go_simp; (try with_reducible rfl))
          simp only [Act.put, List.setIfInBounds_toArray, List.set_cons_zero, List.set_cons_succ]
          refine' wpAnyD_take (i := 21) (v := _) rfl (by kernel_rfl) (by kernel_rfl) (by kernel_rfl) (by kernel_rfl) (fun _ _ _ h => h) (Or.inl ⟨by rfl, ?hy36⟩) hS ?re36
          case hy36 => (intro w hSw; (try dsimp only at hSw); go_simp; (try with_reducible rfl))
          simp only [Act.put, List.setIfInBounds_toArray, List.set_cons_zero, List.set_cons_succ]
          refine' wpAnyD_take (i := 22) (v := _) rfl (by kernel_rfl) (by kernel_rfl) (by kernel_rfl) (by kernel_rfl) (fun _ _ _ h => h) (Or.inl ⟨by rfl, ?hy37⟩) hS ?re37
          case hy37 => (intro w hSw; (try dsimp only at hSw); go_simp; (try with_reducible rfl))
          simp only [Act.put, List.setIfInBounds_toArray, List.set_cons_zero, List.set_cons_succ]
          refine wpAnyD_take (i := 25) rfl (by kernel_rfl) (by kernel_rfl) (by kernel_rfl) (by kernel_rfl) (fun _ _ _ h => h) (yieldsIf_load_mid (by rfl) 28 _ rfl w5.heap.size 0 rfl (bytesL R).toList _ (fun w' hw' => row_range0 hw'.1.2) Tryd.underlying28 rfl lR) hS ?_
          simp only [Act.put, List.setIfInBounds_toArray, List.set_cons_zero, List.set_cons_succ]
          refine wpAnyD_only (i := 23) rfl (by kernel_rfl) (by rfl) (fun K hK => ?_)
          go_simp
          refine hK.out _ _ (fun _ => HSL.out _ (below1 wd _)) ?_
          clear hK K
          try simp only [Act.put, List.setIfInBounds_toArray, List.set_cons_zero, List.set_cons_succ]
          refine wpAnyD_only (i := 24) rfl (by kernel_rfl) (by rfl) (fun K hK => ?_)
          go_simp
          refine (of_e _ [B] B _ hPB (by simp) (by have := HBR.out.2; omega) (HTd.out.later (below1 _ _))).mono ?_
          rintro e w9 ⟨rfl, hb9⟩
          rw [HBR.out.1]
          have hb99 := (below1 wd (.cells #[.slice (some ⟨b, off, none⟩) 65 cb] 37)).trans (hb9.mono (by simp))
          have hS := HSL.out w9 hb99
          refine hK.out _ _ (fun _ => hS) ?_
          clear hK K
          try simp only [Act.put, List.setIfInBounds_toArray, List.set_cons_zero, List.set_cons_succ]
          have HKW9 : Hid (w9.heap[w8.heap.size]? = some (.deferred (some []))) := (hb99.block _ (Array.getElem?_eq_some_iff.1 HKW.out).1).trans HKW.out
          have HB9 : Hid (Below w.heap.size w w9) := HBd.out.trans (hb99.mono HBd.out.size)
          clear hb99 hb9 hPB
          refine' wpAnyD_take (i := 26) (v := _) rfl (by kernel_rfl) (by kernel_rfl) (by kernel_rfl) (by kernel_rfl) (fun _ _ _ h => h) (Or.inl ⟨by rfl, ?hy38⟩) hS ?re38
          case hy38 => (intro w hSw; (try dsimp only at hSw); go_simp; (try with_reducible rfl))
          simp only [Act.put, List.setIfInBounds_toArray, List.set_cons_zero, List.set_cons_succ]
          refine' wpAnyD_take (i := 27) (v := _) rfl (by kernel_rfl) (by kernel_rfl) (by kernel_rfl) (by kernel_rfl) (fun _ _ _ h => h) (Or.inl ⟨by rfl, ?hy39⟩) hS ?re39
          case hy39 => (intro w hSw; (try dsimp only at hSw); go_simp; (try with_reducible rfl))
          simp only [Act.put, List.setIfInBounds_toArray, List.set_cons_zero, List.set_cons_succ]
          refine' wpAnyD_take (i := 28) (v := _) rfl (by kernel_rfl) (by kernel_rfl) (by kernel_rfl) (by kernel_rfl) (fun _ _ _ h => h) (Or.inl ⟨by rfl, ?hy40⟩) hS ?re40
          case hy40 => (intro w hSw; (try dsimp only at hSw); go_simp; (try with_reducible rfl))
          simp only [Act.put, List.setIfInBounds_toArray, List.set_cons_zero, List.set_cons_succ]
          refine' wpAnyD_take (i := 29) (v := _) rfl (by kernel_rfl) (by kernel_rfl) (by kernel_rfl) (by kernel_rfl) (fun _ _ _ h => h) (Or.inl ⟨by rfl, ?hy41⟩) hS ?re41
          case hy41 => (intro w hSw; (try dsimp only at hSw); go_simp; (try with_reducible rfl))
          simp only [Act.put, List.setIfInBounds_toArray, List.set_cons_zero, List.set_cons_succ]
          refine' wpAnyD_take (i := 30) (v := _) rfl (by kernel_rfl) (by kernel_rfl) (by kernel_rfl) (by kernel_rfl) (fun _ _ _ h => h) (Or.inl ⟨by rfl, ?hy42⟩) hS ?re42
          case hy42 => (intro w hSw; (try dsimp only at hSw); go_simp; (try with_reducible rfl))
          simp only [Act.put, List.setIfInBounds_toArray, List.set_cons_zero, List.set_cons_succ]
          refine' wpAnyD_take (i := 31) (v := _) rfl (by kernel_rfl) (by kernel_rfl) (by kernel_rfl) (by kernel_rfl) (fun _ _ _ h => h) (Or.inl ⟨by rfl, ?hy43⟩) hS ?re43
          case hy43 => (intro w hSw; (try dsimp only at hSw); go_simp; (try with_reducible rfl))
          simp only [Act.put, List.setIfInBounds_toArray, List.set_cons_zero, List.set_cons_succ]
          refine' wpAnyD_take (i := 32) (v := _) rfl (by kernel_rfl) (by kernel_rfl) (by kernel_rfl) (by kernel_rfl) (fun _ _ _ h => h) (Or.inl ⟨by rfl, ?hy44⟩) hS ?re44
          case hy44 => (intro w hSw; (try dsimp only at hSw); go_simp; (try with_reducible rfl))
          simp only [Act.put, List.setIfInBounds_toArray, List.set_cons_zero, List.set_cons_succ]
          refine' wpAnyD_take (i := 33) (v := _) rfl (by kernel_rfl) (by kernel_rfl) (by kernel_rfl) (by kernel_rfl) (fun _ _ _ h => h) (Or.inl ⟨by rfl, ?hy45⟩) hS ?re45
          case hy45 => (intro w hSw; (try dsimp only at hSw); go_simp; (try with_reducible rfl))
          simp only [Act.put, List.setIfInBounds_toArray, List.set_cons_zero, List.set_cons_succ]
          refine' wpAnyD_take (i := 34) (v := _) rfl (by kernel_rfl) (by kernel_rfl) (by kernel_rfl) (by kernel_rfl) (fun _ _ _ h => h) (Or.inl ⟨by rfl, ?hy46⟩) hS ?re46
          case hy46 => (intro w hSw; (try dsimp only at hSw); go_simp; (try with_reducible rfl))
          simp only [Act.put, List.setIfInBounds_toArray, List.set_cons_zero, List.set_cons_succ]
          refine' wpAnyD_take (i := 35) (v := _) rfl (by kernel_rfl) (by kernel_rfl) (by kernel_rfl) (by kernel_rfl) (fun _ _ _ h => h) (Or.inl ⟨by rfl, ?hy47⟩) hS ?re47
          case hy47 => (intro w hSw; (try dsimp only at hSw); go_simp; (try with_reducible rfl))
          simp only [Act.put, List.setIfInBounds_toArray, List.set_cons_zero, List.set_cons_succ]
          refine' wpAnyD_take (i := 36) (v := _) rfl (by kernel_rfl) (by kernel_rfl) (by kernel_rfl) (by kernel_rfl) (fun _ _ _ h => h) (Or.inl ⟨by rfl, ?hy48⟩) hS ?re48
          case hy48 => (intro w hSw; (try dsimp only at hSw); go_simp; (try with_reducible rfl))
          simp only [Act.put, List.setIfInBounds_toArray, List.set_cons_zero, List.set_cons_succ]
          refine' wpAnyD_take (i := 37) (v := _) rfl (by kernel_rfl) (by kernel_rfl) (by kernel_rfl) (by kernel_rfl) (fun _ _ _ h => h) (Or.inl ⟨by rfl, ?hy49⟩) hS ?re49
          case hy49 => (intro w hSw; (try dsimp only at hSw); go_simp; (try with_reducible rfl))
          simp only [Act.put, List.setIfInBounds_toArray, List.set_cons_zero, List.set_cons_succ]
          refine' wpAnyD_take (i := 38) (v := _) rfl (by kernel_rfl) (by kernel_rfl) (by kernel_rfl) (by kernel_rfl) (fun _ _ _ h => h) (Or.inl ⟨by rfl, ?hy50⟩) hS ?re50
          case hy50 => (intro w hSw; (try dsimp only at hSw); go_simp; (try with_reducible rfl))
          simp only [Act.put, List.setIfInBounds_toArray, List.set_cons_zero, List.set_cons_succ]
          refine' wpAnyD_take (i := 39) (v := _) rfl (by kernel_rfl) (by kernel_rfl) (by kernel_rfl) (by kernel_rfl) (fun _ _ _ h => h) (Or.inl ⟨by rfl, ?hy51⟩) hS ?re51
          case hy51 => (intro w hSw; (try dsimp only at hSw); go_simp; (try with_reducible rfl))
          simp only [Act.put, List.setIfInBounds_toArray, List.set_cons_zero, List.set_cons_succ]
          refine' wpAnyD_take (i := 40) (v := _) rfl (by kernel_rfl) (by kernel_rfl) (by kernel_rfl) (by kernel_rfl) (fun _ _ _ h => h) (Or.inl ⟨by rfl, ?hy52⟩) hS ?re52
          case hy52 => (intro w hSw; (try dsimp only at hSw); go_simp; (try with_reducible rfl))
          simp only [Act.put, List.setIfInBounds_toArray, List.set_cons_zero, List.set_cons_succ]
          refine' wpAnyD_take (i := 41) (v := _) rfl (by kernel_rfl) (by kernel_rfl) (by kernel_rfl) (by kernel_rfl) (fun _ _ _ h => h) (Or.inl ⟨by rfl, ?hy53⟩) hS ?re53
          case hy53 => (intro w hSw; (try dsimp only at hSw); go_simp; (try with_reducible rfl))
          simp only [Act.put, List.setIfInBounds_toArray, List.set_cons_zero, List.set_cons_succ]
          refine wpAnyD_done (by kernel_rfl) ?_ _
          unfold NoP
          dsimp only
          clear hS
          go_wp2
          refine ⟨by simp, .inl ⟨_, _, rfl, run_takeDeferred HKW9.out, ?_⟩⟩
          refine ⟨.bool true, ?_, rfl, HB9.out.trans (belowK_b (w := w) (Nat.le_refl _) _ w8.heap.size _ _ (by have := HS8.out; have := HB5.out.size; omega) HKW9.out rfl rfl)⟩
          first | rfl | simp [results, Tryd.f9, go_sem]
end Go.Proofs.YtepohpniflmblaaDoor
