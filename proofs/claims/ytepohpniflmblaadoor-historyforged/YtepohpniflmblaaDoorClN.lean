
/-
  noted: the hashes of leaves, noted on a tape.
-/
import Derived.Test.YtepohpniflmblaaDoorHiH
namespace Go.Proofs.YtepohpniflmblaaDoor
open Go.RowKit
set_option maxRecDepth 100000
set_option linter.unusedVariables false
set_option linter.unusedSimpArgs false

/-- All that is no row of hashes lies as it lay. -/
structure Nh (w w' : World) : Prop where
  size : w.heap.size ≤ w'.heap.size
  block : ∀ (k : Nat) (cs : Array Value) (t : TypeId) (f : Nat × Nat), w.heap[k]? = some (Obj.cells cs t f) → t ≠ 28 → w'.heap[k]? = some (Obj.cells cs t f)
theorem Nh.below {w w' : World} (h : Below w.heap.size w w') : Nh w w' := ⟨h.size, fun k cs t f hk _ => (h.block k (Array.getElem?_eq_some_iff.1 hk).1).trans hk⟩
theorem Nh.trans {a b c : World} (h : Nh a b) (k : Nh b c) : Nh a c := ⟨Nat.le_trans h.size k.size, fun i cs t f hi ht => k.block i cs t f (h.block i cs t f hi ht) ht⟩
theorem Nh.row {w w' : World} {g : Nat} {cs : Array Value} (hr : Row w g cs 28) (ds : Array Value) : Nh w (w.setRow g ds) :=
  ⟨by simp [World.setRow], fun k cs' t f hk ht => by
    have hne : k ≠ g := by
      rintro rfl
      have e := hk.symm.trans hr
      cases e
      exact ht rfl
    exact (setRow_other w g k ds hne).trans hk⟩
theorem Nh.cell {w w' : World} {g o : Nat} {cs : Array Value} (hr : Row w g cs 28) (v : Value) : Nh w (w.setCell ⟨g, o, none⟩ v) :=
  ⟨by simp, fun k cs' t f hk ht => by
    have hne : k ≠ g := by
      rintro rfl
      have e := hk.symm.trans hr
      cases e
      exact ht rfl
    exact (heap_setCell_other w ⟨g, o, none⟩ k v hne).trans hk⟩
theorem Nh.grown {w w' : World} {v : Value} {b : Nat} {L : List (List Nat)} (ho : OwnH w b v L) (hg : w.grownBy w' v.ownBlock) : Nh w w' :=
  ⟨hg.size, fun k cs t f hk ht => (hg.block k (Array.getElem?_eq_some_iff.1 hk).1 (fun e => by
    obtain ⟨_, ⟨rfl, _⟩ | ⟨g, cap, cur, rfl, _, h2, _⟩⟩ := id ho
    · cases e
    · simp [Value.ownBlock] at e
      subst e
      rw [hk] at h2
      cases h2
      exact ht rfl)).trans hk⟩
theorem ownsRow_nh {b n sz : Nat} {w w' : World} {e : TypeId} {v : Value} {xs : List Value} (h : w.ownsRow b e sz v n xs) (hs : Nh w w') (h1 : e ≠ 28) : w'.ownsRow b e sz v n xs :=
  ⟨h.1, h.2.imp id fun ⟨g, cap, cur, e, k1, k2, k3⟩ => ⟨g, cap, cur, e, k1, hs.block g _ _ _ k2 h1, k3⟩⟩
theorem TpAt.nh {w w' : World} {base : Nat} {tv : Value} {N : List (List Nat)} (h : TpAt w base tv N) (hs : Nh w w') : TpAt w' base tv N := by
  rcases h with h | ⟨T, vN, ns, e, ht, hl, ho, h8⟩
  · exact Or.inl h
  · exact Or.inr ⟨T, vN, ns, e, ⟨hs.block _ _ _ _ ht.row (by decide), ownsRow_nh ht.own hs (by decide), ht.ne, ht.le⟩, hl, fun i hi => ownsRow_nh (ho i hi) hs (by decide), h8⟩
theorem TStep.grown {base : Nat} {w w5 w6 : World} (h : TStep base w w5) (hb : Below w.heap.size w5 w6) : TStep base w w6 :=
  ⟨hb.os.trans h.os, hb.tape.trans h.tape, hb.output.trans h.output, Nat.le_trans h.size hb.size, fun k o hk hs => (hb.block k (Array.getElem?_eq_some_iff.1 hk).1).trans (h.block k o hk hs)⟩
/-- What lies below base stays. -/
theorem PartsAt.low {W0 w wr : World} {v : Value} {L : List (List Nat)} {base : Nat} (h : PartsAt W0 v L) (hb : Below W0.heap.size W0 w) (h0 : W0.heap.size ≤ base) (hs : TStep base w wr) : PartsAt wr v L := by
  have hbb : Below W0.heap.size W0 wr := ⟨hs.os.trans hb.os, hs.tape.trans hb.tape, hs.output.trans hb.output, Nat.le_trans hb.size hs.size, fun k hk => by
    have e := hb.block k hk
    have hk2 : k < W0.heap.size := hk
    rw [← e]
    have hk3 : k < w.heap.size := Nat.lt_of_lt_of_le hk hb.size
    have := hs.block k w.heap[k] (by simp [hk3]) (Or.inl (by omega))
    rw [this]
    simp [hk3]⟩
  exact h.later hbb
theorem BytesAt.low {W0 w wr : World} {v : Value} {l : List Nat} {base : Nat} (h : BytesAt W0 v l) (hb : Below W0.heap.size W0 w) (h0 : W0.heap.size ≤ base) (hs : TStep base w wr) : BytesAt wr v l := by
  have hbb : Below W0.heap.size W0 wr := ⟨hs.os.trans hb.os, hs.tape.trans hb.tape, hs.output.trans hb.output, Nat.le_trans hb.size hs.size, fun k hk => by
    have e := hb.block k hk
    rw [← e]
    have hk3 : k < w.heap.size := Nat.lt_of_lt_of_le hk hb.size
    have := hs.block k w.heap[k] (by simp [hk3]) (Or.inl (by omega))
    rw [this]
    simp [hk3]⟩
  exact h.later hbb

set_option maxHeartbeats 4000000 in
theorem noted_any (v : Value) (L : List (List Nat)) (base : Nat) (tv : Value) (N : List (List Nat)) (w : World) (hL : ∀ wr, TStep base w wr → PartsAt wr v L) (hli : Light L) (ht : Tab w) (h0 : 0 < base) (hbw : base ≤ w.heap.size) (htp : TpAt w base tv N) (hN : N.length + 40 ≤ 1000) :
    Calls Tryd.prog 19 #[tv, v] w fun e w' => ∃ u, e = .returned u ∧ OwnH w' w.heap.size u (leafs L) ∧ TpAt w' base tv (N ++ L.map msgL) ∧ TStep base w w' := by
  obtain ⟨hlm, p, c, rfl, _⟩ := id (hL w (TStep.refl _ _))
  obtain ⟨pt, rfl⟩ := htp.form
  have HC := (show Hid _ from hL)
  have l0 : (0 : Int) ≤ (L.length : Int) := by omega
  have l1 : (L.length : Int) ≤ 40 := by have := hli.1; omega
  have HLI : Hid (Light L) := hli
  have HT : Hid (Tab w) := ht
  have HNN : Hid (N.length + 40 ≤ 1000) := hN
  have HBW : Hid (base ≤ w.heap.size) := hbw
  have H00 : Hid (0 < base) := h0
  have hR0 : OwnH w w.heap.size (.slice none 0 0) (leafs (L.take 0)) ∧ TpAt w base (.pointer pt) (N ++ (L.take 0).map msgL) ∧ TStep base w w := ⟨OwnH.nil _ _, by simpa using htp, TStep.refl _ _⟩
  clear hL hlm hli ht hN hbw h0 htp
  go_enter Tryd.func19, Tryd.ntmps19
  go_wp2
  go_loopw [10, 5] (fun a b wr => ∃ (k : Nat) (u : Value), k ≤ L.length ∧ a = .int .i64 k ∧ b = u ∧ OwnH wr w.heap.size u (leafs (L.take k)) ∧ TpAt wr base (.pointer pt) (N ++ (L.take k).map msgL) ∧ TStep base w wr) (fun a _ _ => L.length - (intOf a).toNat)
  case atStart => exact ⟨0, _, Nat.zero_le _, rfl, rfl, hR0⟩
  case round =>
    clear hR0
    obtain ⟨k, u, hk, rfl, rfl, hu, htp, hbr⟩ := hrel
    obtain ⟨pu, nu, cu, rfl, hnu⟩ := ownsRowN_form hu
    have HNU := (show Hid _ from hnu)
    clear hnu
    have k0 : (0 : Int) ≤ (k : Int) := by omega
    by_cases hlt : k < L.length
    · have k1 : (k : Int) < (L.length : Int) := by omega
      obtain ⟨_, _, _, e, hc⟩ := HC.out wr hbr
      cases e
      obtain ⟨g, off, x, rfl, hbl, hcell2, hx2⟩ := hc k hlt
      clear hc
      have HSU := (show Hid _ from leafs_succ hlt)
      have HMU : Hid ((L.take (k + 1)).map msgL = (L.take k).map msgL ++ [msgL (L.getD k [])]) := by
        show _ = _
        rw [List.take_succ_eq_append_getElem hlt, List.map_append]
        simp [List.getD, hlt]
      have HK : Hid (k < L.length) := hlt
      have hm : L.getD k [] ∈ L := by simp only [List.getD]; rw [List.getElem?_eq_getElem hlt]; exact List.getElem_mem _
      have HX : Hid ((L.getD k []).length ≤ 100) := HLI.out.2 _ hm
      clear hlt hm hbl
      generalize L.getD k [] = l at *
      obtain ⟨_, _, px, cx, rfl, _⟩ := id hx2
      have HX2 : Hid (BytesAt wr (.slice px l.length cx) l) := hx2
      clear hx2
      go_wp2_with (go_at_call 20; refine stop ?_)
      refine (leaf_any _ l base _ _ wr HX2.out (by have := HX.out; omega) (HT.out.tstep H00.out hbr) H00.out (by have := HBW.out; have := hbr.size; omega) htp (by have := HNN.out; have := HLI.out.1; have := HK.out; simp; omega)).mono ?_
      rintro e w5 ⟨rfl, htp5, hs5⟩
      have h32 := hsh_32 (msgL l)
      have hcs : (bytesL (hsh (msgL l))).size = 32 := by rw [bytesL_size, h32.1]
      have hs5' := hbr.trans hs5
      have hu5 := hu.tstep hs5
      obtain ⟨v', w6, run6, own6, gr6⟩ := hu5.put h32 (by rw [leafs_len, List.length_take]; have := HLI.out.1; omega) hs5'.size _ rfl
      have hb6 : Below w.heap.size w5 w6 := below_grown ((below1 w5 _).mono hs5'.size) (by have := hs5'.size; simp; omega) gr6 (fun j hj => (hu5.lt j hj).1)
      have hR : OwnH w6 w.heap.size v' (leafs (L.take (k + 1))) ∧ TpAt w6 base (.pointer pt) (N ++ (L.take (k + 1)).map msgL) ∧ TStep base w w6 :=
        ⟨by rw [HSU.out]; exact own6, by rw [HMU.out, ← List.append_assoc]; exact (htp5.later (below1 w5 _)).nh (Nh.grown (hu5.later (below1 w5 _)) gr6), hs5'.grown hb6⟩
      obtain ⟨pv, nv, cv, rfl, hnv⟩ := ownsRowN_form own6
      clear own6 gr6 hb6 hu5 hs5' hs5 hnv h32 hu hcell2 htp5 htp hbr
      generalize bytesL (hsh (msgL l)) = ra at *
      go_wp2_with (at_builtin; refine stop ?_)
      unfold Stop
      rw [lay_all _ ra 32 hcs rfl]
      go_wp2_with (at_builtin; refine Lib.wpList_append_run _ rfl _ _ _ _ rfl _ _ rfl rfl _ _ run6 ?_)
      go_roundw
      case rel => exact ⟨k + 1, _, HK.out, by go_num, rfl, hR⟩
      case measure => simp [intOf]; have := HK.out; omega
    · obtain rfl : k = L.length := by omega
      rw [List.take_length] at hu htp
      go_wp2
      go_ret
      exact ⟨_, rfl, hu, htp, hbr⟩
end Go.Proofs.YtepohpniflmblaaDoor
