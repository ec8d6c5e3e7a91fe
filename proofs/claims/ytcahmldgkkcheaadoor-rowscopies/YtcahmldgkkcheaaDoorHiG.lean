
/-
  history's anchor; Leaves; light.
-/
import Derived.Test.YtcahmldgkkcheaaDoorHiF
namespace Go.Proofs.YtcahmldgkkcheaaDoor
open Go.RowKit
set_option maxRecDepth 100000
set_option linter.unusedVariables false
set_option linter.unusedSimpArgs false

theorem lay_shift (o : Nat) : ∀ (l : List Value) (k : Nat) (z : Array Value), (l.zipIdx k).foldl (fun (c : Array Value) x => c.setIfInBounds (o + x.2) x.1) z = (l.zipIdx (o + k)).foldl (fun (c : Array Value) x => c.setIfInBounds x.2 x.1) z
  | [], _, _ => rfl
  | x :: l, k, z => by
    rw [List.zipIdx_cons, List.zipIdx_cons, List.foldl_cons, List.foldl_cons, lay_shift o l (k + 1)]
    rfl
theorem foldA {β : Type} (f : Array Value → β → Array Value) (z : Array Value) (m : List β) (k : Nat) (hk : m.length = k) : Array.foldl f z m.toArray 0 k = m.foldl f z := by
  subst hk
  simp
theorem lay_off (o : Nat) (z cs : Array Value) (n : Nat) (h : cs.size = n) (hz : o + n ≤ z.size) : Array.foldl (fun c x => c.setIfInBounds (o + x.2) x.1) z cs.zipIdx 0 n = (z.toList.take o ++ cs.toList ++ z.toList.drop (o + n)).toArray := by
  obtain ⟨l⟩ := cs
  have hl : l.length = n := by simpa using h
  rw [show ((⟨l⟩ : Array Value).zipIdx) = (l.zipIdx 0).toArray from by simp, foldA _ _ _ _ (by simpa using hl), lay_shift, lay_list l (o + 0) z (by omega)]
  simp [hl]
theorem lay_zero (z cs : Array Value) (n : Nat) (h : cs.size = n) (hz : n ≤ z.size) : Array.foldl (fun c x => c.setIfInBounds x.2 x.1) z cs.zipIdx 0 n = (cs.toList ++ z.toList.drop n).toArray := by
  have e := lay_off 0 z cs n h (by omega)
  simpa using e
theorem off_size (o : Nat) (z cs : Array Value) (n : Nat) (h : cs.size = n) (hz : o + n ≤ z.size) : (Array.foldl (fun c x => c.setIfInBounds (o + x.2) x.1) z cs.zipIdx 0 n).size = z.size := by
  rw [lay_off o z cs n h hz]
  simp
  omega
theorem zero_size (z cs : Array Value) (n : Nat) (h : cs.size = n) (hz : n ≤ z.size) : (Array.foldl (fun c x => c.setIfInBounds x.2 x.1) z cs.zipIdx 0 n).size = z.size := by
  rw [lay_zero z cs n h hz]
  simp
  omega
theorem lay3 (z ra rb rc : Array Value) (ha : ra.size = 32) (hb : rb.size = 32) (hc : rc.size = 32) (hz : z.size = 96) :
    Array.foldl (fun c x => c.setIfInBounds (64 + x.2) x.1) (Array.foldl (fun c x => c.setIfInBounds (32 + x.2) x.1) (Array.foldl (fun c x => c.setIfInBounds x.2 x.1) z ra.zipIdx 0 32) rb.zipIdx 0 32) rc.zipIdx 0 32 = (ra.toList ++ rb.toList ++ rc.toList).toArray := by
  have s1 := zero_size z ra 32 ha (by omega)
  have s2 := (off_size 32 _ rb 32 hb (by omega)).trans s1
  rw [lay_off 64 _ rc 32 hc (by omega), lay_off 32 _ rb 32 hb (by omega), lay_zero z ra 32 ha (by omega)]
  have la : ra.toList.length = 32 := by simpa using ha
  have lb : rb.toList.length = 32 := by simpa using hb
  have lc : rc.toList.length = 32 := by simpa using hc
  have lz : z.toList.length = 96 := by simpa using hz
  congr 1
  simp only [List.toList_toArray]
  have e1 : (ra.toList ++ z.toList.drop 32).take 32 = ra.toList := List.take_left' la
  have e2 : (ra.toList ++ z.toList.drop 32).drop (32 + 32) = z.toList.drop 64 := by rw [List.drop_append, List.drop_eq_nil_of_le (by omega), la]; simp
  rw [e1, e2]
  have e3 : (ra.toList ++ rb.toList ++ z.toList.drop 64).take 64 = ra.toList ++ rb.toList := List.take_left' (by simp [la, lb])
  have e4 : (ra.toList ++ rb.toList ++ z.toList.drop 64).drop (64 + 32) = [] := List.drop_eq_nil_of_le (by simp [la, lb]; omega)
  rw [e3, e4, List.append_nil]
theorem HsAt.new {w : World} {g : Nat} {cs : Array Value} {L : List (List Nat)} (h : Row w g cs 42) (hcs : cs = (hC L).toArray) (hok : ∀ l ∈ L, H32 l) (n : Nat) (hn : n = L.length) (hl : L.length ≤ maxLen) : HsAt w (.slice (some ⟨g, 0, none⟩) n n) L := by
  subst hn hcs
  refine ⟨hok, _, _, rfl, Nat.le_refl _, hl, fun i hi => ⟨g, 0, _, rfl, h, fun j hj => ?_⟩⟩
  rw [Nat.zero_add, List.getElem?_toArray]
  exact hC_at L i j hok hi hj
theorem OwnH.at {w : World} {base : Nat} {v : Value} {L : List (List Nat)} (h : OwnH w base v L) (hok : ∀ l ∈ L, H32 l) {i : Nat} (hi : i < L.length) : ∃ g c, v = .slice (some ⟨g, 0, none⟩) L.length c ∧ g < w.heap.size ∧ w.rangeAt g (i * 32) (bytesL (L.getD i [])).toList := by
  obtain ⟨hlen, ⟨rfl, h0⟩ | ⟨g, cap, cur, rfl, hb, hg, h1, h2, h3, h4⟩⟩ := h
  · omega
  · refine ⟨g, cap, rfl, (Array.getElem?_eq_some_iff.1 hg).1, fun j x hx => ?_⟩
    have hm : L.getD i [] ∈ L := by simp only [List.getD]; rw [List.getElem?_eq_getElem hi]; exact List.getElem_mem _
    have hj : j < 32 := by
      have := (List.getElem?_eq_some_iff.1 hx).1
      rwa [Array.length_toList, bytesL_size, (hok _ hm).1] at this
    rw [Row.cell (w := w) (b := g) (cs := cur) (t := 42) hg, ← hx, Array.getElem?_toList, ← hC_at L i j hok hi hj, ← h4, List.getElem?_take, if_pos (by omega), Array.getElem?_toList]
theorem Row.range0 {w : World} {g : Nat} {cs : Array Value} {t : TypeId} (h : Row w g cs t) : w.rangeAt g 0 cs.toList := fun j x hx => by rw [h.cell, Nat.zero_add, ← hx, Array.getElem?_toList]
/-- What the anchor's test reads. -/
structure FitS (w : World) (s g : Nat) (ra rb rc : Array Value) : Prop where
  r1 : Row w s ra 42
  r2 : Row w (s + 1) rb 42
  r3 : Row w (s + 1 + 1) rc 42
  hg : g < w.heap.size
  p0 : w.rangeAt g 0 rb.toList
  p1 : w.rangeAt g 32 rc.toList
theorem range_later {w w' : World} {g o : Nat} {cs : List Value} (h : w.rangeAt g o cs) (hg : g < w.heap.size) (hb : Below w.heap.size w w') : w'.rangeAt g o cs := fun j x hx => (hb.cell (p := ⟨g, o + j, none⟩) hg).trans (h j x hx)
theorem FitS.later {w w' : World} {s g : Nat} {ra rb rc : Array Value} (h : FitS w s g ra rb rc) (hb : Below w.heap.size w w') : FitS w' s g ra rb rc :=
  ⟨h.r1.later hb, h.r2.later hb, h.r3.later hb, Nat.lt_of_lt_of_le h.hg hb.size, range_later h.p0 h.hg hb, range_later h.p1 h.hg hb⟩
theorem all3 {A B C : List Nat} (ha : H32 A) (hb : H32 B) (hc : H32 C) : ∀ l ∈ [A, B, C], H32 l := by
  intro l hl
  simp at hl
  rcases hl with rfl | rfl | rfl <;> assumption
theorem all2 {B C : List Nat} (hb : H32 B) (hc : H32 C) : ∀ l ∈ [B, C], H32 l := by
  intro l hl
  simp at hl
  rcases hl with rfl | rfl <;> assumption
theorem all1 {B : List Nat} (hb : H32 B) : ∀ l ∈ [B], H32 l := by
  intro l hl
  simp at hl
  subst hl
  exact hb
theorem hash_eqd (l m : List Nat) (hl : H32 l) (hm : H32 m) (w : World) : (Op.equalIn 10000 42 (.agg (bytesL l)) (.agg (bytesL m))).run Tryd.prog w = .ok (decide (l = m)) w := by
  obtain ⟨i, hi, _⟩ := info_u8'
  rw [run_equalIn_array w 9999 (bytesL l) (bytesL m) Tryd.underlying42 hi, cells_u8]
  have h := run_eqItems_u8 9998 l m w (List.range 32) (fun j hj => by rw [hl.1, hm.1]; simpa using hj)
  rw [h, ← hl.1, all_range_eq l m (by rw [hl.1, hm.1])]
theorem leaf_ne : hsh (msgL []) ≠ hsh (msgL [1]) := by unfold hsh; decide +kernel
theorem way3 : (wayL 0 false 0 3).2 = [⟨1, 2, false⟩, ⟨2, 3, false⟩] := by
  have s3 : split 3 = 2 := by decide
  have s2 : split 2 = 1 := by decide
  rw [wayL_low (by omega) (by simp) (by simp [s3]), show 3 - 0 = 3 from rfl, s3, show 0 + 2 = 2 from rfl, wayL_low (by omega) (by simp) (by simp [s2]), show 2 - 0 = 2 from rfl, s2, wayL_stop (Or.inl (by omega))]
  rfl
theorem path3 (a b c : List Nat) : pathL 0 false 3 [a, b, c] = [b, c] := by
  unfold pathL
  rw [way3]
  simp [sideOf, rootL_one]
/-- Few and short. -/
def Light (L : List (List Nat)) : Prop := L.length ≤ 40 ∧ ∀ l ∈ L, l.length ≤ 100
def LightQ (L : List (List Nat)) (w : World) (e : Ending) (w' : World) : Prop := ∃ b : Bool, e = .returned (.bool b) ∧ (b = true → Light L) ∧ w' = w
end Go.Proofs.YtcahmldgkkcheaaDoor
