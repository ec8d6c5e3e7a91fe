
/-
  history's anchor; Leaves; light.
-/
import Derived.Test.YtepohpniflmblaaDoorHiF
namespace Go.Proofs.YtepohpniflmblaaDoor
open Go.RowKit
set_option maxRecDepth 100000
set_option linter.unusedVariables false
set_option linter.unusedSimpArgs false

theorem lay_shift (o : Nat) : ∀ (l : List Value) (k : Nat) (z : Array Value), (l.zipIdx k).foldl (fun (c : Array Value) x => c.setIfInBounds (o + x.2) x.1) z = (l.zipIdx (o + k)).foldl (fun (c : Array Value) x => c.setIfInBounds x.2 x.1) z
  | [], _, _ => rfl
  | x :: l, k, z => by
    rw [List.zipIdx_cons, List.zipIdx_cons, List.foldl_cons, List.foldl_cons, lay_shift o l (k + 1)]
    rfl
theorem foldA {β : Type} (f : Array Value → β → Array Value) (z : Array Value) (m : List β) (k : Nat) (hk : m.length = k) : Array.foldl f z m.toArray 0 k = m.foldl f z := by
  subst hk
  simp
theorem lay_off (o : Nat) (z cs : Array Value) (n : Nat) (h : cs.size = n) (hz : o + n ≤ z.size) : Array.foldl (fun c x => c.setIfInBounds (o + x.2) x.1) z cs.zipIdx 0 n = (z.toList.take o ++ cs.toList ++ z.toList.drop (o + n)).toArray := by
  obtain ⟨l⟩ := cs
  have hl : l.length = n := by simpa using h
  rw [show ((⟨l⟩ : Array Value).zipIdx) = (l.zipIdx 0).toArray from by simp, foldA _ _ _ _ (by simpa using hl), lay_shift, lay_list l (o + 0) z (by omega)]
  simp [hl]
theorem lay_zero (z cs : Array Value) (n : Nat) (h : cs.size = n) (hz : n ≤ z.size) : Array.foldl (fun c x => c.setIfInBounds x.2 x.1) z cs.zipIdx 0 n = (cs.toList ++ z.toList.drop n).toArray := by
  have e := lay_off 0 z cs n h (by omega)
  simpa using e
theorem off_size (o : Nat) (z cs : Array Value) (n : Nat) (h : cs.size = n) (hz : o + n ≤ z.size) : (Array.foldl (fun c x => c.setIfInBounds (o + x.2) x.1) z cs.zipIdx 0 n).size = z.size := by
  rw [lay_off o z cs n h hz]
  simp
  omega
theorem zero_size (z cs : Array Value) (n : Nat) (h : cs.size = n) (hz : n ≤ z.size) : (Array.foldl (fun c x => c.setIfInBounds x.2 x.1) z cs.zipIdx 0 n).size = z.size := by
  rw [lay_zero z cs n h hz]
  simp
  omega
theorem lay3 (z ra rb rc : Array Value) (ha : ra.size = 32) (hb : rb.size = 32) (hc : rc.size = 32) (hz : z.size = 96) :
    Array.foldl (fun c x => c.setIfInBounds (64 + x.2) x.1) (Array.foldl (fun c x => c.setIfInBounds (32 + x.2) x.1) (Array.foldl (fun c x => c.setIfInBounds x.2 x.1) z ra.zipIdx 0 32) rb.zipIdx 0 32) rc.zipIdx 0 32 = (ra.toList ++ rb.toList ++ rc.toList).toArray := by
  have s1 := zero_size z ra 32 ha (by omega)
  have s2 := (off_size 32 _ rb 32 hb (by omega)).trans s1
  rw [lay_off 64 _ rc 32 hc (by omega), lay_off 32 _ rb 32 hb (by omega), lay_zero z ra 32 ha (by omega)]
  have la : ra.toList.length = 32 := by simpa using ha
  have lb : rb.toList.length = 32 := by simpa using hb
  have lc : rc.toList.length = 32 := by simpa using hc
  have lz : z.toList.length = 96 := by simpa using hz
  congr 1
  simp only [List.toList_toArray]
  have e1 : (ra.toList ++ z.toList.drop 32).take 32 = ra.toList := List.take_left' la
  have e2 : (ra.toList ++ z.toList.drop 32).drop (32 + 32) = z.toList.drop 64 := by rw [List.drop_append, List.drop_eq_nil_of_le (by omega), la]; simp
  rw [e1, e2]
  have e3 : (ra.toList ++ rb.toList ++ z.toList.drop 64).take 64 = ra.toList ++ rb.toList := List.take_left' (by simp [la, lb])
  have e4 : (ra.toList ++ rb.toList ++ z.toList.drop 64).drop (64 + 32) = [] := List.drop_eq_nil_of_le (by simp [la, lb]; omega)
  rw [e3, e4, List.append_nil]
theorem HsAt.new {w : World} {g : Nat} {cs : Array Value} {L : List (List Nat)} (h : Row w g cs 28) (hcs : cs = (hC L).toArray) (hok : ∀ l ∈ L, H32 l) (n : Nat) (hn : n = L.length) (hl : L.length ≤ maxLen) : HsAt w (.slice (some ⟨g, 0, none⟩) n n) L := by
  subst hn hcs
  refine ⟨hok, _, _, rfl, Nat.le_refl _, hl, fun i hi => ⟨g, 0, _, rfl, h, fun j hj => ?_⟩⟩
  rw [Nat.zero_add, List.getElem?_toArray]
  exact hC_at L i j hok hi hj
theorem OwnH.at {w : World} {base : Nat} {v : Value} {L : List (List Nat)} (h : OwnH w base v L) (hok : ∀ l ∈ L, H32 l) {i : Nat} (hi : i < L.length) : ∃ g c, v = .slice (some ⟨g, 0, none⟩) L.length c ∧ g < w.heap.size ∧ w.rangeAt g (i * 32) (bytesL (L.getD i [])).toList := by
  obtain ⟨hlen, ⟨rfl, h0⟩ | ⟨g, cap, cur, rfl, hb, hg, h1, h2, h3, h4⟩⟩ := h
  · omega
  · refine ⟨g, cap, rfl, (Array.getElem?_eq_some_iff.1 hg).1, fun j x hx => ?_⟩
    have hm : L.getD i [] ∈ L := by simp only [List.getD]; rw [List.getElem?_eq_getElem hi]; exact List.getElem_mem _
    have hj : j < 32 := by
      have := (List.getElem?_eq_some_iff.1 hx).1
      rwa [Array.length_toList, bytesL_size, (hok _ hm).1] at this
    rw [Row.cell (w := w) (b := g) (cs := cur) (t := 28) hg, ← hx, Array.getElem?_toList, ← hC_at L i j hok hi hj, ← h4, List.getElem?_take, if_pos (by omega), Array.getElem?_toList]
theorem Row.range0 {w : World} {g : Nat} {cs : Array Value} {t : TypeId} (h : Row w g cs t) : w.rangeAt g 0 cs.toList := fun j x hx => by rw [h.cell, Nat.zero_add, ← hx, Array.getElem?_toList]
/-- What the anchor's test reads. -/
structure FitS (w : World) (s g : Nat) (ra rb rc : Array Value) : Prop where
  r1 : Row w s ra 28
  r2 : Row w (s + 1) rb 28
  r3 : Row w (s + 1 + 1) rc 28
  hg : g < w.heap.size
  p0 : w.rangeAt g 0 rb.toList
  p1 : w.rangeAt g 32 rc.toList
theorem range_later {w w' : World} {g o : Nat} {cs : List Value} (h : w.rangeAt g o cs) (hg : g < w.heap.size) (hb : Below w.heap.size w w') : w'.rangeAt g o cs := fun j x hx => (hb.cell (p := ⟨g, o + j, none⟩) hg).trans (h j x hx)
theorem FitS.later {w w' : World} {s g : Nat} {ra rb rc : Array Value} (h : FitS w s g ra rb rc) (hb : Below w.heap.size w w') : FitS w' s g ra rb rc :=
  ⟨h.r1.later hb, h.r2.later hb, h.r3.later hb, Nat.lt_of_lt_of_le h.hg hb.size, range_later h.p0 h.hg hb, range_later h.p1 h.hg hb⟩
theorem all3 {A B C : List Nat} (ha : H32 A) (hb : H32 B) (hc : H32 C) : ∀ l ∈ [A, B, C], H32 l := by
  intro l hl
  simp at hl
  rcases hl with rfl | rfl | rfl <;> assumption
theorem all2 {B C : List Nat} (hb : H32 B) (hc : H32 C) : ∀ l ∈ [B, C], H32 l := by
  intro l hl
  simp at hl
  rcases hl with rfl | rfl <;> assumption
theorem all1 {B : List Nat} (hb : H32 B) : ∀ l ∈ [B], H32 l := by
  intro l hl
  simp at hl
  subst hl
  exact hb
theorem hash_eqd (l m : List Nat) (hl : H32 l) (hm : H32 m) (w : World) : (Op.equalIn 10000 28 (.agg (bytesL l)) (.agg (bytesL m))).run Tryd.prog w = .ok (decide (l = m)) w := by
  obtain ⟨i, hi, _⟩ := info_u8'
  rw [run_equalIn_array w 9999 (bytesL l) (bytesL m) Tryd.underlying28 hi, cells_u8]
  have h := run_eqItems_u8 9998 l m w (List.range 32) (fun j hj => by rw [hl.1, hm.1]; simpa using hj)
  rw [h, ← hl.1, all_range_eq l m (by rw [hl.1, hm.1])]
theorem leaf_ne : hsh (msgL []) ≠ hsh (msgL [1]) := by unfold hsh; decide +kernel
theorem way3 : (wayL 0 false 0 3).2 = [⟨1, 2, false⟩, ⟨2, 3, false⟩] := by
  have s3 : split 3 = 2 := by decide
  have s2 : split 2 = 1 := by decide
  rw [wayL_low (by omega) (by simp) (by simp [s3]), show 3 - 0 = 3 from rfl, s3, show 0 + 2 = 2 from rfl, wayL_low (by omega) (by simp) (by simp [s2]), show 2 - 0 = 2 from rfl, s2, wayL_stop (Or.inl (by omega))]
  rfl
theorem path3 (a b c : List Nat) : pathL 0 false 3 [a, b, c] = [b, c] := by
  unfold pathL
  rw [way3]
  simp [sideOf, rootL_one]
set_option maxHeartbeats 4000000 in
theorem fit6_any (w : World) (ht : Tab w) : Calls Tryd.prog 12 #[] w fun e w' => e = .returned (.bool true) ∧ Below w.heap.size w w' := by
  have HT : Hid (Tab w) := ht
  have ha := hsh_32 (msgL [])
  have hb := hsh_32 (msgL [1])
  have hc := hsh_32 (msgL [2])
  have hab := leaf_ne
  clear ht
  generalize hA : hsh (msgL []) = A at *
  generalize hB : hsh (msgL [1]) = B at *
  generalize hC : hsh (msgL [2]) = C at *
  have HA : Hid (hsh (msgL []) = A) := hA
  have HB : Hid (hsh (msgL [1]) = B) := hB
  have HC : Hid (hsh (msgL [2]) = C) := hC
  clear hA hB hC
  go_enter Tryd.func12, Tryd.ntmps12
  go_wp2_with (go_at_call 20; refine stop ?_)
  refine (leaf_nil _ [] w (BytesAt.nil w) (by simp) HT.out).mono ?_
  rintro e w1 ⟨rfl, b1⟩
  rw [HA.out]
  go_wp2_with (go_at_call 20; refine stop ?_)
  have l1 : BytesAt (w1.alloc (.cells #[.int .u8 1] 5)) (.slice (some ⟨w1.heap.size, 0, none⟩) 1 1) [1] := (Row.new w1 _ _ rfl : Row (w1.alloc (.cells (bytesL [1]) 5)) w1.heap.size (bytesL [1]) 5).bytes (by intro x hx; simp at hx; omega) (by unfold maxLen; decide) 1 1 rfl
  have b2 := chainA b1 (.cells #[.int .u8 1] 5)
  refine (leaf_nil _ [1] _ l1 (by simp) (HT.out.later b2)).mono ?_
  rintro e w3 ⟨rfl, b3'⟩
  have b3 := chain b2 b3'
  clear b1 b2 b3' l1
  rw [HB.out]
  go_wp2_with (go_at_call 20; refine stop ?_)
  have l1 : BytesAt (w3.alloc (.cells #[.int .u8 2] 5)) (.slice (some ⟨w3.heap.size, 0, none⟩) 1 1) [2] := (Row.new w3 _ _ rfl : Row (w3.alloc (.cells (bytesL [2]) 5)) w3.heap.size (bytesL [2]) 5).bytes (by intro x hx; simp at hx; omega) (by unfold maxLen; decide) 1 1 rfl
  have b4 := chainA b3 (.cells #[.int .u8 2] 5)
  refine (leaf_nil _ [2] _ l1 (by simp) (HT.out.later b4)).mono ?_
  rintro e w5 ⟨rfl, b5'⟩
  have b5 := chain b4 b5'
  clear b3 b4 b5' l1
  rw [HC.out]
  have iA := info_h32 ha
  have iB := info_h32 hb
  have iC := info_h32 hc
  have zA := z32_size ha
  have zB := z32_size hb
  have zC := z32_size hc
  have oA := bytesL_one A
  have oB := bytesL_one B
  have oC := bytesL_one C
  have eAB := hash_eqd A B ha hb
  rw [decide_eq_false hab] at eAB
  have eAA := hash_same A ha.1
  have eBB := hash_same B hb.1
  have eCC := hash_same C hc.1
  have hsA : (bytesL A).size = 32 := by rw [bytesL_size, ha.1]
  have hsB : (bytesL B).size = 32 := by rw [bytesL_size, hb.1]
  have hsC : (bytesL C).size = 32 := by rw [bytesL_size, hc.1]
  generalize hra : bytesL A = ra at *
  generalize hrb : bytesL B = rb at *
  generalize hrc : bytesL C = rc at *
  have HRA : Hid (bytesL A = ra) := hra
  have HRB : Hid (bytesL B = rb) := hrb
  have HRC : Hid (bytesL C = rc) := hrc
  clear hra hrb hrc
  have q1 := ((Row.new w5 (bytesL (List.replicate 32 0)) 28 rfl).alloc (.cells (bytesL (List.replicate 32 0)) 28)).alloc (.cells (bytesL (List.replicate 32 0)) 28)
  have q2 := (Row.new (w5.alloc (.cells (bytesL (List.replicate 32 0)) 28)) (bytesL (List.replicate 32 0)) 28 (show w5.heap.size + 1 = _ by simp)).alloc (.cells (bytesL (List.replicate 32 0)) 28)
  have q3 := Row.new ((w5.alloc (.cells (bytesL (List.replicate 32 0)) 28)).alloc (.cells (bytesL (List.replicate 32 0)) 28)) (bytesL (List.replicate 32 0)) 28 (show w5.heap.size + 1 + 1 = _ by simp)
  have bz := below3 w5 (.cells (bytesL (List.replicate 32 0)) 28) (.cells (bytesL (List.replicate 32 0)) 28) (.cells (bytesL (List.replicate 32 0)) 28)
  go_wp2_with (first | (refine wpList_store_row rfl 28 _ _ rfl w5.heap.size ra rfl rfl 28 _ q1 iA zA oA ?_; refine stop ?_))
  unfold Stop
  rw [zeros32b]
  generalize ((w5.alloc (.cells (bytesL (List.replicate 32 0)) 28)).alloc (.cells (bytesL (List.replicate 32 0)) 28)).alloc (.cells (bytesL (List.replicate 32 0)) 28) = wz at *
  have u1 := q1.setRow ra
  have u2 := q2.setRowOther (g := w5.heap.size) ra (by omega)
  have u3 := q3.setRowOther (g := w5.heap.size) ra (by omega)
  have bu := Below.row bz ra (Nat.le_refl _)
  clear q1 q2 q3 bz
  generalize wz.setRow w5.heap.size ra = wu at *
  go_wp2_with (first | (refine wpList_store_row rfl 28 _ _ rfl (w5.heap.size + 1) rb rfl rfl 28 _ u2 iB zB oB ?_; refine stop ?_))
  unfold Stop
  have q1 := u1.setRowOther (g := w5.heap.size + 1) rb (by omega)
  have q2 := u2.setRow rb
  have q3 := u3.setRowOther (g := w5.heap.size + 1) rb (by omega)
  have bz := Below.row bu rb (show w5.heap.size ≤ w5.heap.size + 1 by omega)
  clear u1 u2 u3 bu
  generalize wu.setRow (w5.heap.size + 1) rb = wv at *
  go_wp2_with (first | (refine wpList_store_row rfl 28 _ _ rfl (w5.heap.size + 1 + 1) rc rfl rfl 28 _ q3 iC zC oC ?_; refine stop ?_))
  unfold Stop
  have r1 := q1.setRowOther (g := w5.heap.size + 1 + 1) rc (by omega)
  have r2 := q2.setRowOther (g := w5.heap.size + 1 + 1) rc (by omega)
  have r3 := q3.setRow rc
  have b6 := chain b5 (Below.row bz rc (show w5.heap.size ≤ w5.heap.size + 1 + 1 by omega))
  clear q1 q2 q3 bz
  generalize wv.setRow (w5.heap.size + 1 + 1) rc = w6 at *
  have f1 := fun z : Array Value => zero_size z ra 32 hsA
  have f2 := fun z : Array Value => off_size 32 z rb 32 hsB
  have f3 := fun z : Array Value => off_size 64 z rc 32 hsC
  go_wp2_with (first | (refine wpList_load_row rfl 28 _ rfl w5.heap.size rfl 28 ra (0, 0) _ r1 Tryd.underlying28 rfl iA ?_) | (refine wpList_load_row rfl 28 _ rfl (w5.heap.size + 1) rfl 28 rb (0, 0) _ r2 Tryd.underlying28 rfl iB ?_) | (refine wpList_load_row rfl 28 _ rfl (w5.heap.size + 1 + 1) rfl 28 rc (0, 0) _ r3 Tryd.underlying28 rfl iC ?_) | (go_at_call 17; refine stop ?_))
  unfold Stop
  rw [lay3 _ ra rb rc hsA hsB hsC rfl]
  have hH : HsAt (w6.alloc (.cells (ra.toList ++ rb.toList ++ rc.toList).toArray 28)) (.slice (some ⟨w6.heap.size, 0, none⟩) 3 3) [A, B, C] := HsAt.new (Row.new w6 _ _ rfl) (by rw [← HRA.out, ← HRB.out, ← HRC.out]; simp [hC]) (all3 ha hb hc) 3 rfl (by unfold maxLen; simp)
  have b7 := chainA b6 (.cells (ra.toList ++ rb.toList ++ rc.toList).toArray 28)
  have r1' := r1.alloc (.cells (ra.toList ++ rb.toList ++ rc.toList).toArray 28)
  have r2' := r2.alloc (.cells (ra.toList ++ rb.toList ++ rc.toList).toArray 28)
  have r3' := r3.alloc (.cells (ra.toList ++ rb.toList ++ rc.toList).toArray 28)
  clear f1 f2 f3 r1 r2 r3 b6
  generalize w6.alloc (.cells (ra.toList ++ rb.toList ++ rc.toList).toArray 28) = w7 at *
  refine (path_any 0 _ [A, B, C] w7 (by simp) (by simp) hH (HT.out.later b7)).mono ?_
  rintro e w8 ⟨u, rfl, hu, hb8⟩
  rw [show ([A, B, C] : List (List Nat)).length = 3 from rfl, path3] at hu
  have hokP := all2 hb hc
  obtain ⟨g, cu, rfl, hg, p0⟩ := hu.at hokP (i := 0) (by simp)
  obtain ⟨g', cu', e', _, p1⟩ := hu.at hokP (i := 1) (by simp)
  cases e'
  simp only [List.getD_cons_zero, List.getD_cons_succ, Nat.zero_mul, Nat.one_mul] at p0 p1
  rw [HRB.out] at p0
  rw [HRC.out] at p1
  have hF : FitS w8 w5.heap.size g ra rb rc := ⟨r1'.later hb8, r2'.later hb8, r3'.later hb8, hg, p0, p1⟩
  have b8 := chain b7 hb8
  have lenA : (Tryd.prog.info? 28).map (·.size) = some ra.toList.length := by rw [Array.length_toList]; exact iA
  have lenB : (Tryd.prog.info? 28).map (·.size) = some rb.toList.length := by rw [Array.length_toList]; exact iB
  have lenC : (Tryd.prog.info? 28).map (·.size) = some rc.toList.length := by rw [Array.length_toList]; exact iC
  clear hH b7 r1' r2' r3' hu hb8 p0 p1 hg
  go_wp2_with fail
  refine wp_region_D (fun _ => true) (fun w' : World => FitS w' w5.heap.size g ra rb rc) (by kernel_rfl) ?_
  have hS : (fun w' : World => FitS w' w5.heap.size g ra rb rc) w8.drew := hF.later (Below.refl _ w8).drew
  have b9 := b8.drew
  clear hF b8
  generalize w8.drew = wd at *
  refine' wpAnyD_take (i := 0) (v := _) rfl (by kernel_rfl) (by kernel_rfl) (by kernel_rfl) (by kernel_rfl) (fun _ _ _ h => h) (Or.inl ⟨by rfl, ?hy1⟩) hS ?re1
  case hy1 => (intro w hSw; (try dsimp only at hSw); go_simp; (try with_reducible rfl))
  simp only [Act.put, List.setIfInBounds_toArray, List.set_cons_zero, List.set_cons_succ]
  refine' wpAnyD_take (i := 1) (v := _) rfl (by kernel_rfl) (by kernel_rfl) (by kernel_rfl) (by kernel_rfl) (fun _ _ _ h => h) (Or.inl ⟨by rfl, ?hy2⟩) hS ?re2
  case hy2 => (intro w hSw; (try dsimp only at hSw); go_simp; (try with_reducible rfl))
  simp only [Act.put, List.setIfInBounds_toArray, List.set_cons_zero, List.set_cons_succ]
  refine' wpAnyD_take (i := 2) (v := _) rfl (by kernel_rfl) (by kernel_rfl) (by kernel_rfl) (by kernel_rfl) (fun _ _ _ h => h) (Or.inl ⟨by rfl, ?hy3⟩) hS ?re3
  case hy3 => (intro w hSw; (try dsimp only at hSw); go_simp; (try with_reducible rfl))
  simp only [Act.put, List.setIfInBounds_toArray, List.set_cons_zero, List.set_cons_succ]
  refine' wpAnyD_take (i := 3) (v := _) rfl (by kernel_rfl) (by kernel_rfl) (by kernel_rfl) (by kernel_rfl) (fun _ _ _ h => h) (Or.inl ⟨by rfl, ?hy4⟩) hS ?re4
  case hy4 => (intro w hSw; (try dsimp only at hSw); go_simp; (try with_reducible rfl))
  simp only [Act.put, List.setIfInBounds_toArray, List.set_cons_zero, List.set_cons_succ]
  refine' wpAnyD_take (i := 4) (v := _) rfl (by kernel_rfl) (by kernel_rfl) (by kernel_rfl) (by kernel_rfl) (fun _ _ _ h => h) (Or.inl ⟨by rfl, ?hy5⟩) hS ?re5
  case hy5 => (intro w hSw; (try dsimp only at hSw); go_simp; (try with_reducible rfl))
  simp only [Act.put, List.setIfInBounds_toArray, List.set_cons_zero, List.set_cons_succ]
  refine' wpAnyD_take (i := 5) (v := _) rfl (by kernel_rfl) (by kernel_rfl) (by kernel_rfl) (by kernel_rfl) (fun _ _ _ h => h) (Or.inl ⟨by rfl, ?hy6⟩) hS ?re6
  case hy6 => (intro w hSw; (try dsimp only at hSw); go_simp; (try with_reducible rfl))
  simp only [Act.put, List.setIfInBounds_toArray, List.set_cons_zero, List.set_cons_succ]
  refine' wpAnyD_take (i := 6) (v := _) rfl (by kernel_rfl) (by kernel_rfl) (by kernel_rfl) (by kernel_rfl) (fun _ _ _ h => h) (Or.inl ⟨by rfl, ?hy7⟩) hS ?re7
  case hy7 => (intro w hSw; (try dsimp only at hSw); go_simp; (try with_reducible rfl))
  simp only [Act.put, List.setIfInBounds_toArray, List.set_cons_zero, List.set_cons_succ]
  refine' wpAnyD_take (i := 7) (v := _) rfl (by kernel_rfl) (by kernel_rfl) (by kernel_rfl) (by kernel_rfl) (fun _ _ _ h => h) (Or.inl ⟨by rfl, ?hy8⟩) hS ?re8
  case hy8 => (intro w hSw; (try dsimp only at hSw); go_simp; (try with_reducible rfl))
  simp only [Act.put, List.setIfInBounds_toArray, List.set_cons_zero, List.set_cons_succ]
  refine' wpAnyD_take (i := 8) (v := _) rfl (by kernel_rfl) (by kernel_rfl) (by kernel_rfl) (by kernel_rfl) (fun _ _ _ h => h) (Or.inl ⟨by rfl, ?hy9⟩) hS ?re9
  case hy9 => (intro w hSw; (try dsimp only at hSw); go_simp; (try with_reducible rfl))
  simp only [Act.put, List.setIfInBounds_toArray, List.set_cons_zero, List.set_cons_succ]
  refine wpAnyD_take (i := 9) rfl (by kernel_rfl) (by kernel_rfl) (by kernel_rfl) (by kernel_rfl) (fun _ _ _ h => h) (yieldsIf_load_mid (by rfl) 28 _ rfl g 0 rfl rb.toList _ (fun w' hw' => hw'.p0) Tryd.underlying28 rfl lenB) hS ?_
  simp only [Act.put, List.setIfInBounds_toArray, List.set_cons_zero, List.set_cons_succ]
  refine wpAnyD_take (i := 10) rfl (by kernel_rfl) (by kernel_rfl) (by kernel_rfl) (by kernel_rfl) (fun _ _ _ h => h) (yieldsIf_load_mid (by rfl) 28 _ rfl (w5.heap.size + 1) 0 rfl rb.toList _ (fun w' hw' => hw'.r2.range0) Tryd.underlying28 rfl lenB) hS ?_
  simp only [Act.put, List.setIfInBounds_toArray, List.set_cons_zero, List.set_cons_succ]
  refine' wpAnyD_take (i := 11) (v := _) rfl (by kernel_rfl) (by kernel_rfl) (by kernel_rfl) (by kernel_rfl) (fun _ _ _ h => h) (Or.inl ⟨by rfl, ?hy10⟩) hS ?re10
  case hy10 => (intro w hSw; (try dsimp only at hSw); go_simp; (try with_reducible rfl))
  simp only [Act.put, List.setIfInBounds_toArray, List.set_cons_zero, List.set_cons_succ]
  refine' wpAnyD_take (i := 12) (v := _) rfl (by kernel_rfl) (by kernel_rfl) (by kernel_rfl) (by kernel_rfl) (fun _ _ _ h => h) (Or.inl ⟨by rfl, ?hy11⟩) hS ?re11
  case hy11 => (intro w hSw; (try dsimp only at hSw); go_simp; (try with_reducible rfl))
  simp only [Act.put, List.setIfInBounds_toArray, List.set_cons_zero, List.set_cons_succ]
  refine' wpAnyD_take (i := 13) (v := _) rfl (by kernel_rfl) (by kernel_rfl) (by kernel_rfl) (by kernel_rfl) (fun _ _ _ h => h) (Or.inl ⟨by rfl, ?hy12⟩) hS ?re12
  case hy12 => (intro w hSw; (try dsimp only at hSw); go_simp; (try with_reducible rfl))
  simp only [Act.put, List.setIfInBounds_toArray, List.set_cons_zero, List.set_cons_succ]
  refine' wpAnyD_take (i := 14) (v := _) rfl (by kernel_rfl) (by kernel_rfl) (by kernel_rfl) (by kernel_rfl) (fun _ _ _ h => h) (Or.inl ⟨by rfl, ?hy13⟩) hS ?re13
  case hy13 => (intro w hSw; (try dsimp only at hSw); go_simp; (try with_reducible rfl))
  simp only [Act.put, List.setIfInBounds_toArray, List.set_cons_zero, List.set_cons_succ]
  refine' wpAnyD_take (i := 15) (v := _) rfl (by kernel_rfl) (by kernel_rfl) (by kernel_rfl) (by kernel_rfl) (fun _ _ _ h => h) (Or.inl ⟨by rfl, ?hy14⟩) hS ?re14
  case hy14 => (intro w hSw; (try dsimp only at hSw); go_simp; (try with_reducible rfl))
  simp only [Act.put, List.setIfInBounds_toArray, List.set_cons_zero, List.set_cons_succ]
  refine wpAnyD_take (i := 16) rfl (by kernel_rfl) (by kernel_rfl) (by kernel_rfl) (by kernel_rfl) (fun _ _ _ h => h) (yieldsIf_load_mid (by rfl) 28 _ rfl g 32 rfl rc.toList _ (fun w' hw' => hw'.p1) Tryd.underlying28 rfl lenC) hS ?_
  simp only [Act.put, List.setIfInBounds_toArray, List.set_cons_zero, List.set_cons_succ]
  refine wpAnyD_take (i := 17) rfl (by kernel_rfl) (by kernel_rfl) (by kernel_rfl) (by kernel_rfl) (fun _ _ _ h => h) (yieldsIf_load_mid (by rfl) 28 _ rfl (w5.heap.size + 1 + 1) 0 rfl rc.toList _ (fun w' hw' => hw'.r3.range0) Tryd.underlying28 rfl lenC) hS ?_
  simp only [Act.put, List.setIfInBounds_toArray, List.set_cons_zero, List.set_cons_succ]
  refine' wpAnyD_take (i := 18) (v := _) rfl (by kernel_rfl) (by kernel_rfl) (by kernel_rfl) (by kernel_rfl) (fun _ _ _ h => h) (Or.inl ⟨by rfl, ?hy15⟩) hS ?re15
  case hy15 => (intro w hSw; (try dsimp only at hSw); go_simp; (try with_reducible rfl))
  simp only [Act.put, List.setIfInBounds_toArray, List.set_cons_zero, List.set_cons_succ]
  refine' wpAnyD_take (i := 19) (v := _) rfl (by kernel_rfl) (by kernel_rfl) (by kernel_rfl) (by kernel_rfl) (fun _ _ _ h => h) (Or.inl ⟨by rfl, ?hy16⟩) hS ?re16
  case hy16 => (intro w hSw; (try dsimp only at hSw); go_simp; (try with_reducible rfl))
  simp only [Act.put, List.setIfInBounds_toArray, List.set_cons_zero, List.set_cons_succ]
  refine' wpAnyD_take (i := 20) (v := _) rfl (by kernel_rfl) (by kernel_rfl) (by kernel_rfl) (by kernel_rfl) (fun _ _ _ h => h) (Or.inl ⟨by rfl, ?hy17⟩) hS ?re17
  case hy17 => (intro w hSw; (try dsimp only at hSw); go_simp; (try with_reducible rfl))
  simp only [Act.put, List.setIfInBounds_toArray, List.set_cons_zero, List.set_cons_succ]
  refine wpAnyD_take (i := 21) rfl (by kernel_rfl) (by kernel_rfl) (by kernel_rfl) (by kernel_rfl) (fun _ _ _ h => h) (yieldsIf_load_mid (by rfl) 28 _ rfl w5.heap.size 0 rfl ra.toList _ (fun w' hw' => hw'.r1.range0) Tryd.underlying28 rfl lenA) hS ?_
  simp only [Act.put, List.setIfInBounds_toArray, List.set_cons_zero, List.set_cons_succ]
  refine wpAnyD_take (i := 22) rfl (by kernel_rfl) (by kernel_rfl) (by kernel_rfl) (by kernel_rfl) (fun _ _ _ h => h) (yieldsIf_load_mid (by rfl) 28 _ rfl (w5.heap.size + 1) 0 rfl rb.toList _ (fun w' hw' => hw'.r2.range0) Tryd.underlying28 rfl lenB) hS ?_
  simp only [Act.put, List.setIfInBounds_toArray, List.set_cons_zero, List.set_cons_succ]
  refine' wpAnyD_take (i := 23) (v := _) rfl (by kernel_rfl) (by kernel_rfl) (by kernel_rfl) (by kernel_rfl) (fun _ _ _ h => h) (Or.inl ⟨by rfl, ?hy18⟩) hS ?re18
  case hy18 => (intro w hSw; (try dsimp only at hSw); go_simp; (try with_reducible rfl))
  simp only [Act.put, List.setIfInBounds_toArray, List.set_cons_zero, List.set_cons_succ]
  refine' wpAnyD_take (i := 24) (v := _) rfl (by kernel_rfl) (by kernel_rfl) (by kernel_rfl) (by kernel_rfl) (fun _ _ _ h => h) (Or.inl ⟨by rfl, ?hy19⟩) hS ?re19
  case hy19 => (intro w hSw; (try dsimp only at hSw); go_simp; (try with_reducible rfl))
  simp only [Act.put, List.setIfInBounds_toArray, List.set_cons_zero, List.set_cons_succ]
  refine' wpAnyD_take (i := 25) (v := _) rfl (by kernel_rfl) (by kernel_rfl) (by kernel_rfl) (by kernel_rfl) (fun _ _ _ h => h) (Or.inl ⟨by rfl, ?hy20⟩) hS ?re20
  case hy20 => (intro w hSw; (try dsimp only at hSw); go_simp; (try with_reducible rfl))
  simp only [Act.put, List.setIfInBounds_toArray, List.set_cons_zero, List.set_cons_succ]
  refine wpAnyD_take (i := 26) rfl (by kernel_rfl) (by kernel_rfl) (by kernel_rfl) (by kernel_rfl) (fun _ _ _ h => h) (yieldsIf_load_mid (by rfl) 28 _ rfl w5.heap.size 0 rfl ra.toList _ (fun w' hw' => hw'.r1.range0) Tryd.underlying28 rfl lenA) hS ?_
  simp only [Act.put, List.setIfInBounds_toArray, List.set_cons_zero, List.set_cons_succ]
  refine wpAnyD_take (i := 29) rfl (by kernel_rfl) (by kernel_rfl) (by kernel_rfl) (by kernel_rfl) (fun _ _ _ h => h) (yieldsIf_load_mid (by rfl) 28 _ rfl w5.heap.size 0 rfl ra.toList _ (fun w' hw' => hw'.r1.range0) Tryd.underlying28 rfl lenA) hS ?_
  simp only [Act.put, List.setIfInBounds_toArray, List.set_cons_zero, List.set_cons_succ]
  refine wpAnyD_only (i := 27) rfl (by kernel_rfl) (by rfl) (fun K hK => ?_)
  go_simp
  rw [lay_all _ ra 32 hsA rfl]
  have hH1 : HsAt (wd.alloc (.cells ra 28)) (.slice (some ⟨wd.heap.size, 0, none⟩) 1 1) [A] := HsAt.new (Row.new wd _ _ rfl) (by rw [← HRA.out]; simp [hC]) (all1 ha) 1 rfl (by unfold maxLen; simp)
  have b10 := chainA b9 (.cells ra 28)
  try dsimp only
  have hSn := (FitS.later hS (below1 wd (.cells ra 28)))
  refine hK.out _ _ (fun _ => hSn) ?_
  clear hK K hS
  have hS := hSn
  clear hSn
  try simp only [Act.put, List.setIfInBounds_toArray, List.set_cons_zero, List.set_cons_succ]
  refine wpAnyD_only (i := 28) rfl (by kernel_rfl) (by rfl) (fun K hK => ?_)
  go_simp
  refine (root_nil _ [A] _ (by simp) hH1 (HT.out.later b10)).mono ?_
  rintro e wy ⟨rfl, hby⟩
  rw [rootL_one, HRA.out]
  have b11 := chain b10 hby
  try dsimp only
  have hSn := (FitS.later hS hby)
  refine hK.out _ _ (fun _ => hSn) ?_
  clear hK K hS
  have hS := hSn
  clear hSn
  try simp only [Act.put, List.setIfInBounds_toArray, List.set_cons_zero, List.set_cons_succ]
  clear hH1 b10 hby b9
  refine' wpAnyD_take (i := 30) (v := _) rfl (by kernel_rfl) (by kernel_rfl) (by kernel_rfl) (by kernel_rfl) (fun _ _ _ h => h) (Or.inl ⟨by rfl, ?hy21⟩) hS ?re21
  case hy21 => (intro w hSw; (try dsimp only at hSw); go_simp; (try with_reducible rfl))
  simp only [Act.put, List.setIfInBounds_toArray, List.set_cons_zero, List.set_cons_succ]
  refine' wpAnyD_take (i := 31) (v := _) rfl (by kernel_rfl) (by kernel_rfl) (by kernel_rfl) (by kernel_rfl) (fun _ _ _ h => h) (Or.inl ⟨by rfl, ?hy22⟩) hS ?re22
  case hy22 => (intro w hSw; (try dsimp only at hSw); go_simp; (try with_reducible rfl))
  simp only [Act.put, List.setIfInBounds_toArray, List.set_cons_zero, List.set_cons_succ]
  refine' wpAnyD_take (i := 32) (v := _) rfl (by kernel_rfl) (by kernel_rfl) (by kernel_rfl) (by kernel_rfl) (fun _ _ _ h => h) (Or.inl ⟨by rfl, ?hy23⟩) hS ?re23
  case hy23 => (intro w hSw; (try dsimp only at hSw); go_simp; (try with_reducible rfl))
  simp only [Act.put, List.setIfInBounds_toArray, List.set_cons_zero, List.set_cons_succ]
  refine wpAnyD_only (i := 33) rfl (by kernel_rfl) (by rfl) (fun K hK => ?_)
  go_simp
  refine (of_e _ [] [] _ (parts0 _) rfl (by simp) (HT.out.later b11)).mono ?_
  rintro e wx ⟨rfl, hbx⟩
  have b12 := chain b11 hbx
  try dsimp only
  have hSn := (FitS.later hS hbx)
  refine hK.out _ _ (fun _ => hSn) ?_
  clear hK K hS
  have hS := hSn
  clear hSn
  try simp only [Act.put, List.setIfInBounds_toArray, List.set_cons_zero, List.set_cons_succ]
  refine wpAnyD_only (i := 34) rfl (by kernel_rfl) (by rfl) (fun K hK => ?_)
  go_simp
  refine (root_nil _ [] _ (by simp) (HsAt.nil _ 0 (Nat.zero_le _) none) (HT.out.later b12)).mono ?_
  rintro e wt ⟨rfl, hbt⟩
  rw [rootL_nil]
  have b13 := chain b12 hbt
  try dsimp only
  have hSn := (FitS.later hS hbt)
  refine hK.out _ _ (fun _ => hSn) ?_
  clear hK K hS
  have hS := hSn
  clear hSn
  try simp only [Act.put, List.setIfInBounds_toArray, List.set_cons_zero, List.set_cons_succ]
  have eEE := hash_same (hsh []) (hsh_32 []).1
  generalize bytesL (hsh []) = re at *
  refine' wpAnyD_take (i := 35) (v := _) rfl (by kernel_rfl) (by kernel_rfl) (by kernel_rfl) (by kernel_rfl) (fun _ _ _ h => h) (Or.inl ⟨by rfl, ?hy24⟩) hS ?re24
  case hy24 => (intro w hSw; (try dsimp only at hSw); go_simp; (try with_reducible rfl))
  simp only [Act.put, List.setIfInBounds_toArray, List.set_cons_zero, List.set_cons_succ]
  refine' wpAnyD_take (i := 36) (v := _) rfl (by kernel_rfl) (by kernel_rfl) (by kernel_rfl) (by kernel_rfl) (fun _ _ _ h => h) (Or.inl ⟨by rfl, ?hy25⟩) hS ?re25
  case hy25 => (intro w hSw; (try dsimp only at hSw); go_simp; (try with_reducible rfl))
  simp only [Act.put, List.setIfInBounds_toArray, List.set_cons_zero, List.set_cons_succ]
  refine' wpAnyD_take (i := 37) (v := _) rfl (by kernel_rfl) (by kernel_rfl) (by kernel_rfl) (by kernel_rfl) (fun _ _ _ h => h) (Or.inl ⟨by rfl, ?hy26⟩) hS ?re26
  case hy26 => (intro w hSw; (try dsimp only at hSw); go_simp; (try with_reducible rfl))
  simp only [Act.put, List.setIfInBounds_toArray, List.set_cons_zero, List.set_cons_succ]
  refine wpAnyD_done (by kernel_rfl) ?_ _
  clear hS
  go_wp2
  go_ret
  exact ⟨rfl, b13⟩
/-- Few and short. -/
def Light (L : List (List Nat)) : Prop := L.length ≤ 40 ∧ ∀ l ∈ L, l.length ≤ 100
def LightQ (L : List (List Nat)) (w : World) (e : Ending) (w' : World) : Prop := ∃ b : Bool, e = .returned (.bool b) ∧ (b = true → Light L) ∧ w' = w
theorem light_any (v : Value) (L : List (List Nat)) (w : World) (hL : PartsAt w v L) :
    Calls Tryd.prog 13 #[v] w (LightQ L w) := by
  obtain ⟨hlm, p, c, rfl, hc⟩ := id hL
  have HC := (show Hid _ from hc)
  unfold maxLen at hlm
  have l0 : (0 : Int) ≤ (L.length : Int) := by omega
  have l1 : (L.length : Int) ≤ 9223372036854775807 := by omega
  clear hL hc
  by_cases h40 : L.length ≤ 40
  · have h40' : ¬ (40 : Int) < (L.length : Int) := by omega
    have HF : Hid (L.length ≤ 40) := h40
    clear h40
    go_enter Tryd.func13, Tryd.ntmps13
    go_wp2
    go_loopw [10] (fun i wr => wr = w ∧ ∃ k : Nat, k ≤ L.length ∧ i = .int .i64 k ∧ Hid (∀ j, j < k → (L.getD j []).length ≤ 100)) (fun i _ => L.length - (intOf i).toNat)
    case atStart => exact ⟨rfl, 0, Nat.zero_le _, rfl, fun j hj => by omega⟩
    case round =>
      obtain ⟨rfl, k, hk, rfl, hs⟩ := hrel
      have k0 : (0 : Int) ≤ (k : Int) := by omega
      by_cases hlt : k < L.length
      · have k1 : (k : Int) < (L.length : Int) := by omega
        obtain ⟨g, off, x, rfl, hbl, hcell, hu⟩ := HC.out k hlt
        have HK : Hid (k < L.length) := hlt
        have HG : Hid (∃ l, L.getD k [] = l) := ⟨_, rfl⟩
        obtain ⟨l, hl⟩ := HG.out
        rw [hl] at hu
        have HL : Hid (L.getD k [] = l) := hl
        obtain ⟨h8, hml, px, cx, rfl, _⟩ := id hu
        clear hl hu h8 hlt hbl
        unfold maxLen at hml
        have z0 : (0 : Int) ≤ (l.length : Int) := by omega
        have z1 : (l.length : Int) ≤ 9223372036854775807 := by omega
        by_cases hbig : 100 < l.length
        · have hb' : (100 : Int) < (l.length : Int) := by omega
          go_wp2
          go_ret
          exact ⟨_, rfl, fun h => by simp at h, rfl⟩
        · have hb' : ¬ (100 : Int) < (l.length : Int) := by omega
          have HB : Hid (l.length ≤ 100) := by show _ ≤ _; omega
          clear hbig
          go_wp2
          go_roundw
          case rel => exact ⟨by first | rfl | trivial, k + 1, HK.out, by go_num, fun j hj => by
            rcases Nat.lt_or_ge j k with h | h
            · exact hs.out j h
            · obtain rfl : j = k := by omega
              rw [HL.out]
              exact HB.out⟩
          case measure => simp [intOf]; have := HK.out; omega
      · obtain rfl : k = L.length := by omega
        have hf : Light L := by
          refine ⟨HF.out, fun l hl => ?_⟩
          obtain ⟨i, hi, rfl⟩ := List.getElem_of_mem hl
          have := hs.out i hi
          simpa [List.getD, hi] using this
        have HFF : Hid (Light L) := hf
        clear hs hf
        go_wp2
        go_ret
        exact ⟨_, rfl, fun _ => HFF.out, rfl⟩
  · have h40' : (40 : Int) < (L.length : Int) := by omega
    clear h40
    go_enter Tryd.func13, Tryd.ntmps13
    go_wp2
    go_ret
    exact ⟨_, rfl, fun h => by simp at h, rfl⟩
end Go.Proofs.YtepohpniflmblaaDoor
