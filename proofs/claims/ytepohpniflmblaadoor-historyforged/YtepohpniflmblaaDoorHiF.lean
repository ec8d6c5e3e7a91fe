
/-
  Rows of hashes that are a call's own; a side's root; history's Path with no tape. For at most 64 leaves.
-/
import Derived.Test.YtepohpniflmblaaDoorHiE
namespace Go.Proofs.YtepohpniflmblaaDoor
open Go.RowKit
set_option maxRecDepth 100000
set_option linter.unusedVariables false
set_option linter.unusedSimpArgs false

def hC (L : List (List Nat)) : List Value := L.flatMap fun l => (bytesL l).toList
theorem hC_cons (l : List Nat) (L : List (List Nat)) : hC (l :: L) = (bytesL l).toList ++ hC L := rfl
theorem hC_snoc (L : List (List Nat)) (l : List Nat) : hC (L ++ [l]) = hC L ++ (bytesL l).toList := by simp [hC]
theorem hb_len {l : List Nat} (h : H32 l) : (bytesL l).toList.length = 32 := by rw [Array.length_toList, bytesL_size, h.1]
theorem hC_at : ∀ (L : List (List Nat)) (i j : Nat), (∀ l ∈ L, H32 l) → i < L.length → j < 32 → (hC L)[i * 32 + j]? = (bytesL (L.getD i []))[j]?
  | [], i, j, _, hi, _ => by simp at hi
  | l :: L, 0, j, h, _, hj => by
    rw [hC_cons, List.getElem?_append_left (by rw [hb_len (h l (by simp))]; omega)]
    simp
  | l :: L, i + 1, j, h, hi, hj => by
    have h3 := hb_len (h l (by simp))
    rw [hC_cons, List.getElem?_append_right (by omega), h3, show (i + 1) * 32 + j - 32 = i * 32 + j by omega, hC_at L i j (fun x hx => h x (by simp [hx])) (by simpa using hi) hj]
    simp
/-- A row of hashes that is the call's own. -/
def OwnH (w : World) (base : Nat) (v : Value) (L : List (List Nat)) : Prop := w.ownsRow base 28 32 v L.length (hC L)
theorem OwnH.nil (w : World) (base : Nat) : OwnH w base (.slice none 0 0) [] := World.ownsRow_nil _ _ _ _
theorem OwnH.hs {w : World} {base : Nat} {v : Value} {L : List (List Nat)} (h : OwnH w base v L) (hok : ∀ l ∈ L, H32 l) : HsAt w v L := by
  obtain ⟨hlen, ⟨rfl, h0⟩ | ⟨g, cap, cur, rfl, hb, hg, h1, h2, h3, h4⟩⟩ := h
  · obtain rfl : L = [] := List.eq_nil_of_length_eq_zero h0
    exact HsAt.nil w 0 (Nat.zero_le _) none
  · refine ⟨hok, _, cap, rfl, h1, h2, fun i hi => ⟨g, 0, cur, rfl, hg, fun j hj => ?_⟩⟩
    rw [← hC_at L i j hok hi hj, ← h4, Nat.zero_add, List.getElem?_take, if_pos (by omega), Array.getElem?_toList]
theorem OwnH.later {w w' : World} {base : Nat} {v : Value} {L : List (List Nat)} (h : OwnH w base v L) (hb : Below w.heap.size w w') : OwnH w' base v L := ownsRowN_later h hb
theorem OwnH.tstep {w w' : World} {base b : Nat} {v : Value} {L : List (List Nat)} (h : OwnH w b v L) (hs : TStep base w w') : OwnH w' b v L := ownsRow_tstep h hs (by decide) (by decide)
theorem OwnH.base {w : World} {base b : Nat} {v : Value} {L : List (List Nat)} (h : OwnH w base v L) (hb : b ≤ base) : OwnH w b v L :=
  ⟨h.1, h.2.imp id fun ⟨g, cap, cur, e, k1, k2⟩ => ⟨g, cap, cur, e, Nat.le_trans hb k1, k2⟩⟩
theorem hash_z : (Tryd.prog.info? 28).map (fun i => (i.zero, i.size, i.bytes)) = some (some (.agg (bytesL (List.replicate 32 0))), 32, 32) := by kernel_rfl
/-- One more. -/
theorem OwnH.put {w : World} {base : Nat} {v : Value} {L : List (List Nat)} {x : List Nat} (h : OwnH w base v L) (hx : H32 x) (hl : L.length ≤ 1000) (hb : base ≤ w.heap.size) (cs : Array Value) (hcs : cs = bytesL x) :
    ∃ v' w', (Builtin.append_ #[25, 25] 25 #[v, .slice (some ⟨w.heap.size, 0, none⟩) 1 1]).run Tryd.prog (w.alloc (.cells cs 28)) = .ok v' w' ∧ OwnH w' base v' (L ++ [x]) ∧ (w.alloc (.cells cs 28)).grownBy w' v.ownBlock := by
  subst hcs
  obtain ⟨v', w', run, own, gr, mv⟩ := append_two (by kernel_rfl) hash_z (by simp [Value.cells, bytesL]) (by decide) (by decide) w base 25 v _ _ h (bytesL x) (by rw [bytesL_size, hx.1]) (bytesL_one _) (by omega) hb _ rfl
  exact ⟨v', w', run, by unfold OwnH; rw [List.length_append, hC_snoc]; exact own, gr⟩
/-- Root with no tape. -/
theorem root_nil (v : Value) (L : List (List Nat)) (w : World) (h64 : L.length ≤ 64) (hv : HsAt w v L) (ht : Tab w) :
    Calls Tryd.prog 15 #[.pointer none, v] w fun e w' => e = .returned (.agg (bytesL (rootL L))) ∧ Below w.heap.size w w' := by
  refine (root_any _ v L w.heap.size (.pointer none) [] w (Nat.le_refl _) h64 hv ht ht.pos (Nat.le_refl _) (TpAt.nil _ _ _) (by simp; omega)).mono ?_
  rintro e w' ⟨rfl, _, hs⟩
  exact ⟨rfl, hs.below (Below.refl _ _)⟩
theorem node_nil (a b : List Nat) (ha : H32 a) (hb : H32 b) (w : World) (ht : Tab w) :
    Calls Tryd.prog 24 #[.pointer none, .agg (bytesL a), .agg (bytesL b)] w fun e w' => e = .returned (.agg (bytesL (hsh (msgN a b)))) ∧ Below w.heap.size w w' := by
  refine (node_any a b ha hb w.heap.size (.pointer none) [] w ht ht.pos (Nat.le_refl _) (TpAt.nil _ _ _) (by simp)).mono ?_
  rintro e w' ⟨rfl, _, hs⟩
  exact ⟨rfl, hs.below (Below.refl _ _)⟩
theorem leaf_nil (u : Value) (b : List Nat) (w : World) (hu : BytesAt w u b) (hb : b.length ≤ 10000) (ht : Tab w) :
    Calls Tryd.prog 20 #[.pointer none, u] w fun e w' => e = .returned (.agg (bytesL (hsh (msgL b)))) ∧ Below w.heap.size w w' := by
  refine (leaf_any u b w.heap.size (.pointer none) [] w hu hb ht ht.pos (Nat.le_refl _) (TpAt.nil _ _ _) (by simp)).mono ?_
  rintro e w' ⟨rfl, _, hs⟩
  exact ⟨rfl, hs.below (Below.refl _ _)⟩
theorem of_e (pv : Value) (L : List (List Nat)) (M : List Nat) (w : World) (hp : PartsAt w pv L) (hfl : L.flatten = M) (hl : M.length ≤ 1000000) (ht : Tab w) :
    Calls Tryd.prog 25 #[.pointer none, pv] w fun e w' => e = .returned (.agg (bytesL (hsh M))) ∧ Below w.heap.size w w' := of_eq pv L M _ w hp hfl hl ht rfl

/-- Sides of a tree of n leaves. -/
theorem wayL_ok : ∀ (m i : Nat) (ea : Bool) (f t : Nat), t - f ≤ m → f ≤ i → i < t → (∀ x ∈ (wayL i ea f t).2, f ≤ x.f ∧ x.f < x.t ∧ x.t ≤ t) ∧ (wayL i ea f t).2.length ≤ t - f - 1 ∧ f ≤ (wayL i ea f t).1 ∧ (wayL i ea f t).1 ≤ i := by
  intro m
  induction m with
  | zero => intro i ea f t h h1 h2; omega
  | succ m ih =>
    intro i ea f t h h1 h2
    by_cases c : t < f + 2 ∨ (ea = true ∧ t = i + 1)
    · rw [wayL_stop c]
      exact ⟨(fun x hx => by cases hx), Nat.zero_le _, Nat.le_refl _, h1⟩
    · have g1 : f + 2 ≤ t := by omega
      have g2 : ¬ (ea = true ∧ t = i + 1) := fun h => c (Or.inr h)
      have hs := split_lt (show 2 ≤ t - f by omega)
      by_cases g3 : i < f + split (t - f)
      · obtain ⟨a1, a2, a3, a4⟩ := ih i ea f (f + split (t - f)) (by omega) h1 g3
        rw [wayL_low g1 g2 g3]
        refine ⟨fun x hx => ?_, by simp only [List.length_append, List.length_singleton]; omega, a3, a4⟩
        rcases List.mem_append.1 hx with hx | hx
        · have := a1 x hx; omega
        · obtain rfl := List.mem_singleton.1 hx
          exact ⟨by simp, by show f + split (t - f) < t; omega, Nat.le_refl _⟩
      · obtain ⟨a1, a2, a3, a4⟩ := ih i ea (f + split (t - f)) t (by omega) (by omega) h2
        rw [wayL_high g1 g2 g3]
        refine ⟨fun x hx => ?_, by simp only [List.length_append, List.length_singleton]; omega, by omega, a4⟩
        rcases List.mem_append.1 hx with hx | hx
        · have := a1 x hx; omega
        · obtain rfl := List.mem_singleton.1 hx
          exact ⟨Nat.le_refl _, by show f < f + split (t - f); omega, by show f + split (t - f) ≤ t; omega⟩
/-- A side's leaves. -/
def sideOf (L : List (List Nat)) (x : Sd) : List (List Nat) := (L.drop x.f).take (x.t - x.f)
theorem sideOf_len {L : List (List Nat)} {x : Sd} (h : x.f ≤ x.t) (h2 : x.t ≤ L.length) : (sideOf L x).length = x.t - x.f := by
  unfold sideOf; rw [List.length_take, List.length_drop]; omega
theorem sideOf_mem {L : List (List Nat)} {x : Sd} {l : List Nat} (h : l ∈ sideOf L x) : l ∈ L := List.mem_of_mem_drop (List.mem_of_mem_take h)

set_option maxHeartbeats 2000000 in
theorem sroot_any (x : Sd) (v : Value) (L : List (List Nat)) (w : World) (hx : x.f < x.t) (hx2 : x.t ≤ L.length) (h64 : L.length ≤ 64) (hv : HsAt w v L) (ht : Tab w) :
    Calls Tryd.prog 29 #[.agg x.v, .pointer none, v] w fun e w' => e = .returned (.agg (bytesL (rootL (sideOf L x)))) ∧ Below w.heap.size w w' := by
  obtain ⟨f, t, lf⟩ := x
  obtain ⟨p, c, rfl, hc1, hc2⟩ := hv.form
  have hlen := sideOf_len (L := L) (x := ⟨f, t, lf⟩) (Nat.le_of_lt hx) hx2
  have hd := (hv.drop f (by show f ≤ _; have : f < t := hx; have : t ≤ L.length := hx2; omega)).take (t - f) (by rw [List.length_drop]; have : t ≤ L.length := hx2; omega)
  have hok : H32 (rootL (sideOf L ⟨f, t, lf⟩)) := root_32 _ _ (Nat.le_refl _) hd.ok
  have hft : f < t := hx
  have htL : t ≤ L.length := hx2
  unfold maxLen at hc2
  have z0 : (0 : Int) ≤ (f : Int) := by omega
  have z1 : (f : Int) ≤ (t : Int) := by omega
  have z2 : (t : Int) ≤ (c : Int) := by omega
  have z3 : (t : Int) ≤ 64 := by omega
  have knc : ¬ c = f := by omega
  rw [if_neg knc] at hd
  have HD : Hid (HsAt w (.slice (p.map (·.add (f * 32))) (t - f) (c - f)) (sideOf L ⟨f, t, lf⟩)) := hd
  have HT : Hid (Tab w) := ht
  have HLN : Hid ((sideOf L ⟨f, t, lf⟩).length ≤ 64) := by show _ ≤ _; rw [hlen]; show t - f ≤ 64; omega
  clear hd ht hv hlen hx hx2 hft htL
  generalize hM : sideOf L ⟨f, t, lf⟩ = M at *
  have iR := info_h32 hok
  have zR := z32_size hok
  have oR := bytesL_one (rootL M)
  have r0 := Row.new w (Sd.v ⟨f, t, lf⟩) 56 rfl
  have r1 := Row.new (w.alloc (.cells (Sd.v ⟨f, t, lf⟩) 56)) (bytesL (List.replicate 32 0)) 28 rfl
  have b2 := below2 w (.cells (Sd.v ⟨f, t, lf⟩) 56) (.cells (bytesL (List.replicate 32 0)) 28)
  have s1 : (w.alloc (.cells (Sd.v ⟨f, t, lf⟩) 56)).heap.size = w.heap.size + 1 := by simp
  rw [s1] at r1
  unfold Sd.v at *
  simp only at *
  go_enter Tryd.func29, Tryd.ntmps29
  go_wp2_with (go_at_call 15; refine stop ?_)
  rw [zeros32b]
  refine (root_nil _ M _ HLN.out (HD.out.later b2) (HT.out.later b2)).mono ?_
  rintro e w3 ⟨rfl, hb3⟩
  have r3 := r1.later hb3
  have b3 := chain b2 hb3
  clear r0 r1 b2 hb3 s1
  generalize hRM : rootL M = H at *
  have HRM : Hid (rootL M = H) := hRM
  clear hRM
  go_wp2_with (refine wpList_store_row rfl 28 _ _ rfl (w.heap.size + 1) (bytesL H) rfl rfl 28 _ r3 iR zR oR ?_)
  refine bodyPost_ret (v := .agg (bytesL H)) (results_cell_row Tryd.results29 _ _ (w.heap.size + 1) 28 (bytesL H) (0, 0) _ ?hp ?hg Tryd.underlying28 rfl iR) rfl ⟨?_, Below.row b3 _ (by omega)⟩
  case hp => rfl
  case hg => exact r3.setRow _
  · rw [HRM.out]
theorem lay_list : ∀ (l : List Value) (k : Nat) (z : Array Value), k + l.length ≤ z.size → (l.zipIdx k).foldl (fun (c : Array Value) x => c.setIfInBounds x.2 x.1) z = (z.toList.take k ++ l ++ z.toList.drop (k + l.length)).toArray
  | [], k, z, _ => by simp
  | x :: l, k, z, h => by
    rw [List.length_cons] at h
    rw [List.zipIdx_cons, List.foldl_cons, lay_list l (k + 1) _ (by simp; omega)]
    congr 1
    have e := list_seg_step z.toList k x l (by simp; omega)
    simpa [Array.toList_setIfInBounds, Nat.add_assoc] using e
theorem lay_all (z cs : Array Value) (n : Nat) (h : cs.size = n) (hz : z.size = n) : Array.foldl (fun c x => c.setIfInBounds x.2 x.1) z cs.zipIdx 0 n = cs := by
  obtain ⟨l⟩ := cs
  have hl : l.length = n := by simpa using h
  have e := lay_list l 0 z (by omega)
  rw [show ((⟨l⟩ : Array Value).zipIdx) = (l.zipIdx 0).toArray from by simp]
  subst hl
  have e2 : ∀ (m : List (Value × Nat)) (k : Nat), m.length = k → Array.foldl (fun (c : Array Value) (x : Value × Nat) => c.setIfInBounds x.2 x.1) z m.toArray 0 k = List.foldl (fun (c : Array Value) (x : Value × Nat) => c.setIfInBounds x.2 x.1) z m := by
    intro m k hk
    subst hk
    simp
  rw [e2 _ _ (by simp), e]
  simp
  omega
/-- The hashes beside the way up of leaf i. -/
noncomputable def pathL (i : Nat) (ea : Bool) (n : Nat) (L : List (List Nat)) : List (List Nat) := (wayL i ea 0 n).2.map fun x => rootL (sideOf L x)
theorem own_side {w : World} {base : Nat} {v : Value} {l : List Sd} (h : w.ownsRow base 56 3 v l.length (sdC l)) {i : Nat} (hi : i < l.length) : ∃ g c, v = .slice (some ⟨g, 0, none⟩) l.length c ∧ g < w.heap.size ∧ w.rangeAt g (i * 3) (l.getD i Sd.z).v.toList := by
  obtain ⟨hlen, ⟨rfl, h0⟩ | ⟨g, cap, cur, rfl, hb, hg, h1, h2, h3, h4⟩⟩ := h
  · omega
  · refine ⟨g, cap, rfl, (Array.getElem?_eq_some_iff.1 hg).1, fun j x hx => ?_⟩
    have hj : j < 3 := (List.getElem?_eq_some_iff.1 hx).1
    rw [Row.cell (w := w) (b := g) (cs := cur) (t := 56) hg, ← hx, Array.getElem?_toList, ← sdC_at l i j hi hj, ← h4, List.getElem?_take, if_pos (by omega), Array.getElem?_toList]
theorem take_map_succ {α β : Type} (l : List α) (f : α → β) (k : Nat) (z : α) (h : k < l.length) : (l.take (k + 1)).map f = (l.take k).map f ++ [f (l.getD k z)] := by
  rw [List.take_succ_eq_append_getElem h, List.map_append]
  simp [List.getD, h]
set_option maxHeartbeats 4000000 in
theorem path_any (i : Nat) (v : Value) (L : List (List Nat)) (w : World) (hi : i < L.length) (h64 : L.length ≤ 64) (hv : HsAt w v L) (ht : Tab w) :
    Calls Tryd.prog 17 #[.pointer none, .int .i64 (i : Nat), v] w fun e w' => ∃ u, e = .returned (.tuple #[u, .bool true]) ∧ OwnH w' w.heap.size u (pathL i false L.length L) ∧ Below w.heap.size w w' := by
  obtain ⟨p, c, rfl, hc1, hc2⟩ := hv.form
  have hwo := wayL_ok _ i false 0 L.length (Nat.le_refl _) (Nat.zero_le _) hi
  have hok := hv.ok
  have HV : Hid (HsAt w (.slice p L.length c) L) := hv
  have HT : Hid (Tab w) := ht
  have H64 : Hid (L.length ≤ 64) := h64
  have HI : Hid (i < L.length) := hi
  have i0 : (0 : Int) ≤ (i : Int) := by omega
  have i1 : (i : Int) < (L.length : Int) := by omega
  have hS : Hid (∃ S, S = (wayL i false 0 L.length).2) := ⟨_, rfl⟩
  obtain ⟨S, hS⟩ := hS.out
  have HP : Hid (pathL i false L.length L = S.map fun x => rootL (sideOf L x)) := by rw [hS]; rfl
  rw [← hS] at hwo
  have HW : Hid (∀ x ∈ S, x.f < x.t ∧ x.t ≤ L.length) := fun x hx => (hwo.1 x hx).2
  have HSL : Hid (S.length ≤ 63) := by have := hwo.2.1; show _ ≤ _; omega
  have HSE : Hid ((wayL i false 0 L.length).2 = S) := hS.symm
  clear hv ht hi h64 hwo hS
  go_enter Tryd.func17, Tryd.ntmps17
  go_wp2_with (go_at_call 28; refine stop ?_)
  refine (way_any i L.length false w HI.out H64.out).mono ?_
  rintro e w1 ⟨us, rfl, hus, hb1⟩
  rw [HSE.out] at hus
  obtain ⟨ps, ns, cs, rfl, hns⟩ := ownsRowN_form hus
  subst hns
  have hv1 := HV.out.later hb1
  have ht1 := HT.out.later hb1
  have s0 : (0 : Int) ≤ (S.length : Int) := by omega
  have s1 : (S.length : Int) ≤ 63 := by have := HSL.out; omega
  have HUS : Hid (w1.ownsRow w.heap.size 56 3 (.slice ps S.length cs) S.length (sdC S)) := hus
  have HV1 : Hid (HsAt w1 (.slice p L.length c) L) := hv1
  have HT1 : Hid (Tab w1) := ht1
  have HB1 : Hid (Below w.heap.size w w1) := hb1
  have hR0 : OwnH w1 w1.heap.size (.slice none 0 0) ((S.take 0).map fun x => rootL (sideOf L x)) ∧ Below w1.heap.size w1 w1 := ⟨OwnH.nil _ _, Below.refl _ _⟩
  clear hus hv1 ht1 hb1
  go_wp2
  go_loopw [30, 10] (fun a b wr => ∃ (k : Nat) (u : Value), k ≤ S.length ∧ a = .int .i64 k ∧ b = u ∧ OwnH wr w1.heap.size u ((S.take k).map fun x => rootL (sideOf L x)) ∧ Below w1.heap.size w1 wr) (fun a _ _ => S.length - (intOf a).toNat)
  case atStart => exact ⟨0, _, Nat.zero_le _, rfl, rfl, hR0⟩
  case round =>
    clear hR0
    obtain ⟨k, u, hk, rfl, rfl, hu, hbr⟩ := hrel
    obtain ⟨pu, nu, cu, rfl, hnu⟩ := ownsRowN_form hu
    have HNU := (show Hid _ from hnu)
    clear hnu
    have k0 : (0 : Int) ≤ (k : Int) := by omega
    by_cases hlt : k < S.length
    · have k1 : (k : Int) < (S.length : Int) := by omega
      obtain ⟨g, c2, hps, hg, hrg⟩ := own_side (ownsRowN_later HUS.out hbr) hlt
      cases hps
      have hx : S.getD k Sd.z ∈ S := by simp only [List.getD]; rw [List.getElem?_eq_getElem hlt]; exact List.getElem_mem _
      have hxo := HW.out _ hx
      have HSU := (show Hid _ from take_map_succ S (fun x => rootL (sideOf L x)) k Sd.z hlt)
      have HK : Hid (k < S.length) := hlt
      have hxi : (Tryd.prog.info? 56).map (·.size) = some (S.getD k Sd.z).v.toList.length := by rw [Array.length_toList]; exact info_sd _
      have hxj := info_sd (S.getD k Sd.z)
      have hxo1 := sd_one (S.getD k Sd.z)
      have hok32 : H32 (rootL (sideOf L (S.getD k Sd.z))) := root_32 _ _ (Nat.le_refl _) (fun l hl => hok l (sideOf_mem hl))
      clear hlt hx
      generalize S.getD k Sd.z = x at *
      have HXO : Hid (x.f < x.t ∧ x.t ≤ L.length) := hxo
      clear hxo
      generalize hxv : x.v = xv at *
      have HXV : Hid (x.v = xv) := hxv
      clear hxv
      have hsz3 : xv.size = 3 := by rw [← HXV.out]; rfl
      go_wp2_with (first | refine wpList_load_mid rfl 56 _ rfl g (k * 3) rfl xv.toList _ hrg Tryd.underlying56 rfl hxi ?_ | (refine wpList_store_row rfl 56 _ _ rfl wr.heap.size xv rfl rfl 56 _ (heap_alloc_new wr _) hxj (by rw [hsz3]; rfl) hxo1 ?_; refine stop ?_))
      unfold Stop
      have rg := (Row.new wr #[.int .i64 0, .int .i64 0, .bool false] 56 rfl).setRow xv
      have b2 : Below wr.heap.size wr ((wr.alloc (.cells #[.int .i64 0, .int .i64 0, .bool false] 56)).setRow wr.heap.size xv) := Below.row (below1 wr _) _ (Nat.le_refl _)
      generalize (wr.alloc (.cells #[.int .i64 0, .int .i64 0, .bool false] 56)).setRow wr.heap.size xv = w4 at *
      have hb4 := hbr.trans (b2.mono hbr.size)
      have hu4 := hu.later b2
      clear hrg hxi hu b2 hxo1 hsz3
      go_wp2_with (first | (refine wpList_load_row rfl 56 _ rfl wr.heap.size rfl 56 xv (0, 0) _ rg Tryd.underlying56 rfl hxj ?_) | (go_at_call 29; refine stop ?_))
      rw [← HXV.out]
      refine (sroot_any x _ L w4 HXO.out.1 HXO.out.2 H64.out (HV1.out.later hb4) (HT1.out.later hb4)).mono ?_
      rintro e w5 ⟨rfl, hb5⟩
      have hb5' := hb4.trans (hb5.mono hb4.size)
      have hu5 := hu4.later hb5
      have hcs : (bytesL (rootL (sideOf L x))).size = 32 := by rw [bytesL_size, hok32.1]
      obtain ⟨v', w6, run6, own6, gr6⟩ := hu5.put hok32 (by rw [List.length_map, List.length_take]; have := HSL.out; omega) hb5'.size _ rfl
      have hb6 : Below w1.heap.size w1 w6 := below_grown (chainA hb5' _) (by have := hb5'.size; simp; omega) gr6 (fun j hj => (hu5.lt j hj).1)
      have hR : OwnH w6 w1.heap.size v' ((S.take (k + 1)).map fun x => rootL (sideOf L x)) ∧ Below w1.heap.size w1 w6 := ⟨by rw [HSU.out]; exact own6, hb6⟩
      obtain ⟨pv, nv, cv, rfl, hnv⟩ := ownsRowN_form own6
      clear own6 gr6 hb6 hu5 hb5' hu4 hb5 rg hb4 hnv hok32
      generalize bytesL (rootL (sideOf L x)) = ra at *
      go_wp2_with (at_builtin; refine stop ?_)
      unfold Stop
      rw [lay_all _ ra 32 hcs rfl]
      go_wp2_with (at_builtin; refine Lib.wpList_append_run _ rfl _ _ _ _ rfl _ _ rfl rfl _ _ run6 ?_)
      go_roundw
      case rel => exact ⟨k + 1, _, HK.out, by go_num, rfl, hR⟩
      case measure => simp [intOf]; have := HK.out; omega
    · obtain rfl : k = S.length := by omega
      have hB := HB1.out.trans (hbr.mono HB1.out.size)
      have hO : OwnH wr w.heap.size (.slice pu nu cu) (pathL i false L.length L) := by
        rw [HP.out, ← List.take_length (l := S)]
        exact hu.base HB1.out.size
      clear hu hbr
      go_wp2
      go_ret2
      exact ⟨_, rfl, hO, hB⟩
end Go.Proofs.YtepohpniflmblaaDoor
