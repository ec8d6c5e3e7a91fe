
/-
  The sides of a way: slices of them; slices.Reverse of one.
-/
import Derived.Test.YtepohpniflmblaaDoorHiD
import Derived.Maps.AppendAt
import Derived.Deep.MidRow
namespace Go.Proofs.YtepohpniflmblaaDoor
open Go.RowKit
set_option maxRecDepth 100000
set_option linter.unusedVariables false
set_option linter.unusedSimpArgs false

theorem info_some {t : TypeId} {z : Option Value} {a b : Nat} (h : (Tryd.prog.info? t).map (fun i => (i.zero, i.size, i.bytes)) = some (z, a, b)) : ∃ i, Tryd.prog.info? t = some i ∧ i.zero = z ∧ i.size = a ∧ i.bytes = b := by
  cases hi : Tryd.prog.info? t with
  | none => rw [hi] at h; cases h
  | some i =>
    rw [hi] at h
    have h' : (i.zero, i.size, i.bytes) = (z, a, b) := Option.some.inj h
    exact ⟨i, rfl, congrArg (·.1) h', congrArg (·.2.1) h', congrArg (·.2.2) h'⟩
theorem ownsRowN_keep {w w1 : World} {base n sz : Nat} {e : TypeId} {v : Value} {ns : List Value} (h : w.ownsRow base e sz v n ns) (hb : ∀ k, base ≤ k → k < w.heap.size → v.ownBlock = some k → w1.heap[k]? = w.heap[k]?) : w1.ownsRow base e sz v n ns :=
  ⟨h.1, h.2.imp id fun ⟨g, cap, cur, e, h1, h2, h3⟩ => ⟨g, cap, cur, e, h1, (hb g h1 (Array.getElem?_eq_some_iff.1 h2).1 (by rw [e]; rfl)).trans h2, h3⟩⟩
theorem ownsRowN_later {w w1 : World} {base n sz : Nat} {e : TypeId} {v : Value} {ns : List Value} (h : w.ownsRow base e sz v n ns) (hb : Below w.heap.size w w1) : w1.ownsRow base e sz v n ns := ownsRowN_keep h fun k _ hk _ => hb.block k hk
theorem ownsRowN_form {w : World} {base n sz : Nat} {e : TypeId} {v : Value} {ns : List Value} (h : w.ownsRow base e sz v n ns) : ∃ p n' c, v = .slice p n' c ∧ n' = n := by
  obtain ⟨_, ⟨rfl, h0⟩ | ⟨g, cap, cur, rfl, _⟩⟩ := h
  · exact ⟨_, _, _, rfl, h0.symm⟩
  · exact ⟨_, _, _, rfl, rfl⟩
/-- append of one struct or array. -/
theorem append_two {t e : TypeId} {z : Value} {sz bytes : Nat} (ht : Tryd.prog.underlying t = some (.slice e)) (hi : (Tryd.prog.info? e).map (fun i => (i.zero, i.size, i.bytes)) = some (some z, sz, bytes)) (hzs : z.cells.size = sz) (hpos : 0 < sz) (hby : bytes ≤ 1000)
    (w : World) (base : Nat) (ty : TypeId) (v : Value) (n : Nat) (xs : List Value) (hown : w.ownsRow base e sz v n xs) (cs : Array Value) (hcs : cs.size = sz) (h1 : cs.all (·.oneCell') = true) (hn : n ≤ 100000) (hb : base ≤ w.heap.size) (g : Nat) (hg : g = w.heap.size) :
    ∃ v' w', (Builtin.append_ #[t, t] ty #[v, .slice (some ⟨g, 0, none⟩) 1 1]).run Tryd.prog (w.alloc (.cells cs e)) = .ok v' w' ∧ w'.ownsRow base e sz v' (n + 1) (xs ++ cs.toList) ∧ (w.alloc (.cells cs e)).grownBy w' v.ownBlock ∧ (v'.ownBlock = v.ownBlock ∨ v'.ownBlock = some (w.heap.size + 1)) := by
  subst hg
  obtain ⟨i, hi, z0, z1, z2⟩ := info_some hi
  have hall : ∀ u ∈ cs.toList, u.oneCell' = true := by
    rw [Array.all_eq_true_iff_forall_mem] at h1
    intro u hu
    exact h1 u (by simpa using hu)
  have hb63 : (n + 1) * bytes ≤ 140737488355328 := Nat.le_trans (Nat.mul_le_mul (show n + 1 ≤ 100001 by omega) hby) (by decide)
  obtain ⟨v', w', h1, h2, h3, _, h5⟩ := run_append_own_at (P := Tryd.prog) (w.alloc (.cells cs e)) base t ty e i _ sz bytes ht hi z0 z1 z2 hzs hpos v n xs (ownsRowN_keep hown (fun k _ hk _ => heap_alloc_old w _ hk)) ⟨w.heap.size, 0, none⟩ 1 1 cs.toList (by simpa using hcs)
    (fun j u hu => by
      rw [show (⟨w.heap.size, 0, none⟩ : Addr).add j = ⟨w.heap.size, 0 + j, none⟩ from Addr.add_lit .., World.cell?_alloc_at _ _ _ _ rfl, ← hu, Nat.zero_add]
      simp) hall (by unfold maxLen; omega) hb63 (by simp; omega)
  exact ⟨v', w', h1, h2, h3, by simpa using h5⟩
theorem list_seg_step {α : Type} (C : List α) (o : Nat) (x : α) (l : List α) (h : o + (l.length + 1) ≤ C.length) : (C.set o x).take (o + 1) ++ l ++ (C.set o x).drop (o + 1 + l.length) = C.take o ++ x :: l ++ C.drop (o + (l.length + 1)) := by
  have e1 : (C.set o x).take (o + 1) = C.take o ++ [x] := by
    rw [List.take_succ_eq_append_getElem (by simp; omega), List.take_set_of_le (Nat.le_refl _)]
    simp
  rw [e1, List.drop_set_of_lt (by omega), show o + 1 + l.length = o + (l.length + 1) by omega]
  simp
theorem setCells_row (b : Nat) : ∀ (vs : List Value) (o : Nat) (w : World) (C : Array Value) (t : TypeId), Row w b C t → o + vs.length ≤ C.size →
    Row (w.setCells b o vs) b (C.toList.take o ++ vs ++ C.toList.drop (o + vs.length)).toArray t
  | [], o, w, C, t, h, _ => by simpa [World.setCells] using h
  | x :: l, o, w, C, t, h, hl => by
    rw [List.length_cons] at hl
    rw [World.setCells]
    have h1 := setCells_row b l (o + 1) _ _ t (h.set o x) (by simp; omega)
    have e := list_seg_step C.toList o x l (by simp; omega)
    have e2 : (C.setIfInBounds o x).toList.take (o + 1) ++ l ++ (C.setIfInBounds o x).toList.drop (o + 1 + l.length) = C.toList.take o ++ x :: l ++ C.toList.drop (o + (x :: l).length) := by
      simpa [Array.toList_setIfInBounds, Nat.add_assoc, Nat.add_comm 1] using e
    rw [e2] at h1
    exact h1
theorem setCells_other (b : Nat) : ∀ (vs : List Value) (o : Nat) (w : World) (k : Nat), k ≠ b → (w.setCells b o vs).heap[k]? = w.heap[k]?
  | [], o, w, k, _ => rfl
  | x :: l, o, w, k, hk => by
    rw [World.setCells]
    exact (setCells_other b l (o + 1) _ k hk).trans (heap_setCell_other w ⟨b, o, none⟩ k x hk)
theorem setCells_size (b : Nat) : ∀ (vs : List Value) (o : Nat) (w : World), (w.setCells b o vs).heap.size = w.heap.size ∧ (w.setCells b o vs).os = w.os ∧ (w.setCells b o vs).tape = w.tape ∧ (w.setCells b o vs).output = w.output
  | [], o, w => ⟨rfl, rfl, rfl, rfl⟩
  | x :: l, o, w => by
    rw [World.setCells]
    obtain ⟨h1, h2, h3, h4⟩ := setCells_size b l (o + 1) (w.setCell ⟨b, o, none⟩ x)
    exact ⟨h1.trans (by simp [World.setCell]), h2, h3, h4⟩
theorem there_row {w : World} {b : Nat} {C : Array Value} {t : TypeId} (h : Row w b C t) (o n : Nat) (hn : o + n ≤ C.size) : w.there b o n := fun j hj =>
  ⟨by rw [h.cell, Array.getElem?_eq_getElem (by omega)]; rfl, h.frozen _⟩

/-- A side: from, to, is it on the left. -/
structure Sd where
  f : Nat
  t : Nat
  l : Bool
def Sd.v (x : Sd) : Array Value := #[.int .i64 (x.f : Nat), .int .i64 (x.t : Nat), .bool x.l]
def Sd.z : Sd := ⟨0, 0, false⟩
def sdC (l : List Sd) : List Value := l.flatMap fun x => x.v.toList
theorem sdC_cons (x : Sd) (l : List Sd) : sdC (x :: l) = x.v.toList ++ sdC l := rfl
theorem sdC_snoc (l : List Sd) (x : Sd) : sdC (l ++ [x]) = sdC l ++ x.v.toList := by simp [sdC]
theorem sdC_len : ∀ l : List Sd, (sdC l).length = 3 * l.length
  | [] => rfl
  | x :: l => by rw [sdC_cons, List.length_append, sdC_len l, List.length_cons]; show 3 + _ = _; omega
theorem sdC_at : ∀ (l : List Sd) (i j : Nat), i < l.length → j < 3 → (sdC l)[i * 3 + j]? = (l.getD i Sd.z).v[j]?
  | [], i, j, hi, _ => by simp at hi
  | x :: l, 0, j, _, hj => by
    rw [sdC_cons, List.getElem?_append_left (by show _ < 3; omega)]
    simp
  | x :: l, i + 1, j, hi, hj => by
    have h3 : x.v.toList.length = 3 := rfl
    rw [sdC_cons, List.getElem?_append_right (by omega), h3, show (i + 1) * 3 + j - 3 = i * 3 + j by omega, sdC_at l i j (by simpa using hi) hj]
    simp
theorem sdC_set : ∀ (l : List Sd) (i : Nat) (x : Sd), i < l.length → (sdC l).take (i * 3) ++ x.v.toList ++ (sdC l).drop (i * 3 + 3) = sdC (l.set i x)
  | [], i, x, hi => by simp at hi
  | y :: l, 0, x, _ => by
    have h3 : y.v.toList.length = 3 := rfl
    rw [sdC_cons, List.set_cons_zero, sdC_cons]
    simp [List.drop_append, h3]
  | y :: l, i + 1, x, hi => by
    have h3 : y.v.toList.length = 3 := rfl
    rw [List.set_cons_succ, sdC_cons, sdC_cons, ← sdC_set l i x (by simpa using hi), show (i + 1) * 3 = 3 + i * 3 by omega, List.take_append, List.take_of_length_le (by omega), h3, show 3 + i * 3 - 3 = i * 3 by omega, List.drop_append, List.drop_eq_nil_of_le (by omega), h3, show 3 + i * 3 + 3 - 3 = i * 3 + 3 by omega]
    simp
theorem info_side : (Tryd.prog.info? 56).map (fun i => (i.zero, i.size, i.bytes)) = some (some (.agg #[.int .i64 0, .int .i64 0, .bool false]), 3, 24) := by kernel_rfl
theorem info_sd (x : Sd) : (Tryd.prog.info? 56).map (·.size) = some x.v.size := by
  have h := info_side
  cases hi : Tryd.prog.info? 56 with
  | none => rw [hi] at h; cases h
  | some i => rw [hi] at h; simp at h; simp [h, Sd.v]
theorem sd_one (x : Sd) : x.v.all (·.oneCell') = true := by simp [Sd.v, Value.oneCell']
/-- A row of sides, some of them turned from both ends. -/
def revK (l : List Sd) (k : Nat) : List Sd := (List.range l.length).map fun p => l.getD (if p < k ∨ l.length - k ≤ p then l.length - 1 - p else p) Sd.z
theorem revK_len (l : List Sd) (k : Nat) : (revK l k).length = l.length := by simp [revK]
theorem revK_at (l : List Sd) (k p : Nat) (h : p < l.length) : (revK l k).getD p Sd.z = l.getD (if p < k ∨ l.length - k ≤ p then l.length - 1 - p else p) Sd.z := by simp [revK, List.getD, h]
theorem ext_getD {l m : List Sd} (h : l.length = m.length) (hg : ∀ i, i < l.length → l.getD i Sd.z = m.getD i Sd.z) : l = m := by
  apply List.ext_getElem h
  intro i h1 h2
  have := hg i h1
  simpa [List.getD, h1, h2] using this
theorem revK_zero (l : List Sd) : revK l 0 = l := ext_getD (revK_len _ _) fun i hi => by
  rw [revK_len] at hi
  rw [revK_at _ _ _ hi, if_neg (by omega)]
theorem revK_all (l : List Sd) (k : Nat) (h : l.length ≤ 2 * k + 1) : revK l k = l.reverse := ext_getD (by rw [revK_len, List.length_reverse]) fun i hi => by
  rw [revK_len] at hi
  rw [revK_at _ _ _ hi]
  have e : l.reverse.getD i Sd.z = l.getD (l.length - 1 - i) Sd.z := by simp only [List.getD]; rw [List.getElem?_reverse hi]
  rw [e]
  by_cases c : i < k ∨ l.length - k ≤ i
  · rw [if_pos c]
  · rw [if_neg c]
    congr 1
    omega
theorem revK_succ (l : List Sd) (k : Nat) (h : k < l.length - 1 - k) : ((revK l k).set k (l.getD (l.length - 1 - k) Sd.z)).set (l.length - 1 - k) (l.getD k Sd.z) = revK l (k + 1) := ext_getD (by simp [revK_len]) fun i hi => by
  have hi2 : i < l.length := by simpa [revK_len] using hi
  rw [revK_at _ _ _ hi2]
  have hs : ∀ (m : List Sd) (p q : Nat) (x : Sd), p < m.length → (m.set p x).getD q Sd.z = if p = q then x else m.getD q Sd.z := fun m p q x hp => by
    simp only [List.getD, List.getElem?_set]
    by_cases c : p = q
    · subst c; simp [hp]
    · simp [c]
  rw [hs _ _ _ _ (by simp [revK_len]; omega), hs _ _ _ _ (by simp [revK_len]; omega), revK_at _ _ _ hi2]
  by_cases c1 : l.length - 1 - k = i
  · rw [if_pos c1, if_pos (by omega)]
    congr 1
    omega
  · rw [if_neg c1]
    by_cases c2 : k = i
    · rw [if_pos c2, if_pos (by omega)]
      congr 1
      omega
    · rw [if_neg c2]
      by_cases c3 : i < k ∨ l.length - k ≤ i
      · rw [if_pos c3, if_pos (by omega)]
      · rw [if_neg c3, if_neg (by omega)]
/-- What a call on a row leaves alone. -/
structure OnlyOf (w w' : World) (v : Value) : Prop where
  os : w'.os = w.os
  tape : w'.tape = w.tape
  output : w'.output = w.output
  size : w'.heap.size = w.heap.size
  block : ∀ k, v.ownBlock ≠ some k → w'.heap[k]? = w.heap[k]?
def RvR (w wr : World) (g : Nat) (l : List Sd) (tail : List Value) (k : Nat) : Prop := Row wr g (sdC (revK l k) ++ tail).toArray 56 ∧ wr.os = w.os ∧ wr.tape = w.tape ∧ wr.output = w.output ∧ wr.heap.size = w.heap.size ∧ ∀ j, j ≠ g → wr.heap[j]? = w.heap[j]?
theorem row_range {w : World} {g : Nat} {m : List Sd} {tail : List Value} (h : Row w g (sdC m ++ tail).toArray 56) {p : Nat} (hp : p < m.length) : w.rangeAt g (p * 3) (m.getD p Sd.z).v.toList := fun j x hx => by
  have hj : j < 3 := (List.getElem?_eq_some_iff.1 hx).1
  rw [h.cell, List.getElem?_toArray, List.getElem?_append_left (by rw [sdC_len]; omega), sdC_at m p j hp hj, ← hx, Array.getElem?_toList]
theorem setC_row {w : World} {g : Nat} {m : List Sd} {tail : List Value} (h : Row w g (sdC m ++ tail).toArray 56) {p : Nat} (hp : p < m.length) (x : Sd) : Row (w.setCells g (p * 3) x.v.toList) g (sdC (m.set p x) ++ tail).toArray 56 := by
  have h3 : x.v.toList.length = 3 := rfl
  have hr := setCells_row g x.v.toList (p * 3) w _ _ h (by simp [sdC_len, h3]; omega)
  rw [h3] at hr
  have e : (sdC m ++ tail).toArray.toList.take (p * 3) ++ x.v.toList ++ (sdC m ++ tail).toArray.toList.drop (p * 3 + 3) = sdC (m.set p x) ++ tail := by
    rw [← sdC_set m p x hp]
    have hl := sdC_len m
    simp only [List.toList_toArray]
    rw [List.take_append_of_le_length (by omega), List.drop_append_of_le_length (by omega)]
    simp
  rwa [e] at hr
set_option maxHeartbeats 4000000 in
theorem reverse_any (v : Value) (l : List Sd) (base : Nat) (w : World) (h : w.ownsRow base 56 3 v l.length (sdC l)) (hl : l.length ≤ 64) :
    Calls Tryd.prog 36 #[v] w fun e w' => e = .returned (.tuple #[]) ∧ w'.ownsRow base 56 3 v l.length (sdC l.reverse) ∧ OnlyOf w w' v := by
  obtain ⟨hlen, ⟨rfl, h0⟩ | ⟨g, cap, cur, rfl, hb, hg, h1, h2, h3, h4⟩⟩ := id h
  · obtain rfl : l = [] := List.eq_nil_of_length_eq_zero h0
    clear h h0 hlen hl
    go_enter Tryd.func36, Tryd.ntmps36
    go_wp2
    go_loopw [2, 3] (fun i j wr => i = .int .i64 0 ∧ j = .int .i64 (-1) ∧ wr = w) (fun i _ _ => 0)
    case atStart => exact ⟨rfl, rfl, rfl⟩
    case round =>
      obtain ⟨rfl, rfl, rfl⟩ := hrel
      go_wp2
      first | go_ret | go_end0
      exact ⟨rfl, World.ownsRow_nil _ _ _ _, rfl, rfl, rfl, rfl, fun _ _ => rfl⟩
  · obtain ⟨tail, ht⟩ : ∃ t, cur = (sdC l ++ t).toArray := ⟨cur.toList.drop (l.length * 3), by
      have := List.take_append_drop (l.length * 3) cur.toList
      rw [h4] at this
      rw [this]⟩
    have n0 : (0 : Int) ≤ (l.length : Int) := by omega
    have n1 : (l.length : Int) ≤ 64 := by omega
    have hR0 : RvR w w g l tail 0 := ⟨by rw [revK_zero, ← ht]; exact hg, rfl, rfl, rfl, rfl, fun _ _ => rfl⟩
    have HTL : Hid (tail.length + 3 * l.length = cap * 3 ∧ l.length ≤ cap) := ⟨by rw [ht] at h3; simp [sdC_len] at h3; omega, h1⟩
    clear h hlen hg h4 h3 ht
    go_enter Tryd.func36, Tryd.ntmps36
    go_wp2
    go_loopw [2, 3] (fun i j wr => ∃ k : Nat, 2 * k ≤ l.length + 1 ∧ i = .int .i64 k ∧ j = .int .i64 ((l.length : Int) - 1 - k) ∧ RvR w wr g l tail k) (fun i _ _ => l.length - (intOf i).toNat)
    case atStart => exact ⟨0, by omega, rfl, by simp, hR0⟩
    case round =>
      clear hR0
      obtain ⟨k, hk, rfl, rfl, hR, ho, htp, hou, hsz, hbk⟩ := hrel
      by_cases hlt : k < l.length - 1 - k
      · obtain ⟨q, hq⟩ : ∃ q, q = l.length - 1 - k := ⟨_, rfl⟩
        have e1 : (l.length : Int) - 1 - (k : Int) = (q : Int) := by omega
        have q1 : (k : Int) < (q : Int) := by omega
        have q2 : (q : Int) < (l.length : Int) := by omega
        have q3 : (0 : Int) ≤ (q : Int) := by omega
        have q4 : (0 : Int) ≤ (k : Int) := by omega
        have q5 : (k : Int) < (l.length : Int) := by omega
        have HQ : Hid (q = l.length - 1 - k ∧ k < q ∧ q < l.length) := ⟨hq, by omega, by omega⟩
        have hsu := revK_succ l k hlt
        rw [← hq] at hsu
        have HS : Hid (((revK l k).set k (l.getD q Sd.z)).set q (l.getD k Sd.z) = revK l (k + 1)) := hsu
        have hrk : (revK l k).getD k Sd.z = l.getD k Sd.z := by rw [revK_at _ _ _ (by omega), if_neg (by omega)]
        have hrq : (revK l k).getD q Sd.z = l.getD q Sd.z := by rw [revK_at _ _ _ (by omega), if_neg (by omega)]
        have Hk : Hid ((revK l k).getD k Sd.z = l.getD k Sd.z) := hrk
        have Hq : Hid ((revK l k).getD q Sd.z = l.getD q Sd.z) := hrq
        have HB := (show Hid _ from (show wr.os = w.os ∧ wr.tape = w.tape ∧ wr.output = w.output ∧ wr.heap.size = w.heap.size ∧ ∀ j, j ≠ g → wr.heap[j]? = w.heap[j]? from ⟨ho, htp, hou, hsz, hbk⟩))
        have HKK : Hid (2 * k ≤ l.length + 1) := hk
        rw [e1]
        clear hsu hrk hrq ho htp hou hsz hbk hq hlt e1 hk
        go_wp2_with fail
        refine wp_region_D (fun i => i != 13 && i != 15 && i != 2 && i != 3 && i != 14) (fun w' : World => Row w' g (sdC (revK l k) ++ tail).toArray 56) (by kernel_rfl) ?_
        have hS : (fun w' : World => Row w' g (sdC (revK l k) ++ tail).toArray 56) wr.drew := hR
        have HBd : Hid (wr.drew.os = w.os ∧ wr.drew.tape = w.tape ∧ wr.drew.output = w.output ∧ wr.drew.heap.size = w.heap.size ∧ ∀ j, j ≠ g → wr.drew.heap[j]? = w.heap[j]?) := HB.out
        have HR : Hid (Row wr.drew g (sdC (revK l k) ++ tail).toArray 56) := hR
        clear hR HB
        generalize wr.drew = wd at *
        refine' wpAnyD_free (i := 2) (v := _) rfl (by kernel_rfl) (by kernel_rfl) (by rfl) (by kernel_rfl) (fun _ _ _ h => h) (Or.inl ⟨by rfl, ?hy1⟩) ?re1
        case hy1 => (intro w hSw; clear hSw; go_simp; (try with_reducible rfl))
        simp only [Act.put, List.setIfInBounds_toArray, List.set_cons_zero, List.set_cons_succ]
        refine' wpAnyD_free (i := 3) (v := _) rfl (by kernel_rfl) (by kernel_rfl) (by rfl) (by kernel_rfl) (fun _ _ _ h => h) (Or.inl ⟨by rfl, ?hy2⟩) ?re2
        case hy2 => (intro w hSw; clear hSw; go_simp; (try with_reducible rfl))
        simp only [Act.put, List.setIfInBounds_toArray, List.set_cons_zero, List.set_cons_succ]
        refine' wpAnyD_take (i := 0) (v := _) rfl (by kernel_rfl) (by kernel_rfl) (by kernel_rfl) (by kernel_rfl) (fun _ _ _ h => h) (Or.inl ⟨by rfl, ?hy3⟩) hS ?re3
        case hy3 => (intro w hSw; (try dsimp only at hSw); go_simp; (try with_reducible rfl))
        simp only [Act.put, List.setIfInBounds_toArray, List.set_cons_zero, List.set_cons_succ]
        refine' wpAnyD_take (i := 1) (v := _) rfl (by kernel_rfl) (by kernel_rfl) (by kernel_rfl) (by kernel_rfl) (fun _ _ _ h => h) (Or.inl ⟨by rfl, ?hy4⟩) hS ?re4
        case hy4 => (intro w hSw; (try dsimp only at hSw); go_simp; (try with_reducible rfl))
        simp only [Act.put, List.setIfInBounds_toArray, List.set_cons_zero, List.set_cons_succ]
        refine' wpAnyD_take (i := 4) (v := _) rfl (by kernel_rfl) (by kernel_rfl) (by kernel_rfl) (by kernel_rfl) (fun _ _ _ h => h) (Or.inl ⟨by rfl, ?hy5⟩) hS ?re5
        case hy5 => (intro w hSw; (try dsimp only at hSw); go_simp; (try with_reducible rfl))
        simp only [Act.put, List.setIfInBounds_toArray, List.set_cons_zero, List.set_cons_succ]
        refine' wpAnyD_take (i := 5) (v := _) rfl (by kernel_rfl) (by kernel_rfl) (by kernel_rfl) (by kernel_rfl) (fun _ _ _ h => h) (Or.inl ⟨by rfl, ?hy6⟩) hS ?re6
        case hy6 => (intro w hSw; (try dsimp only at hSw); go_simp; (try with_reducible rfl))
        simp only [Act.put, List.setIfInBounds_toArray, List.set_cons_zero, List.set_cons_succ]
        refine' wpAnyD_take (i := 6) (v := _) rfl (by kernel_rfl) (by kernel_rfl) (by kernel_rfl) (by kernel_rfl) (fun _ _ _ h => h) (Or.inl ⟨by rfl, ?hy7⟩) hS ?re7
        case hy7 => (intro w hSw; (try dsimp only at hSw); go_simp; (try with_reducible rfl))
        simp only [Act.put, List.setIfInBounds_toArray, List.set_cons_zero, List.set_cons_succ]
        refine wpAnyD_take (i := 7) rfl (by kernel_rfl) (by kernel_rfl) (by kernel_rfl) (by kernel_rfl) (fun _ _ _ h => h) (yieldsIf_load_mid (by rfl) 56 _ rfl g (q * 3) rfl (l.getD q Sd.z).v.toList _ (fun w' hw' => by rw [← Hq.out]; exact row_range hw' (by rw [revK_len]; exact HQ.out.2.2)) Tryd.underlying56 rfl (by rw [Array.length_toList]; exact info_sd _)) hS ?_
        simp only [Act.put, List.setIfInBounds_toArray, List.set_cons_zero, List.set_cons_succ]
        refine' wpAnyD_take (i := 8) (v := _) rfl (by kernel_rfl) (by kernel_rfl) (by kernel_rfl) (by kernel_rfl) (fun _ _ _ h => h) (Or.inl ⟨by rfl, ?hy8⟩) hS ?re8
        case hy8 => (intro w hSw; (try dsimp only at hSw); go_simp; (try with_reducible rfl))
        simp only [Act.put, List.setIfInBounds_toArray, List.set_cons_zero, List.set_cons_succ]
        refine' wpAnyD_take (i := 9) (v := _) rfl (by kernel_rfl) (by kernel_rfl) (by kernel_rfl) (by kernel_rfl) (fun _ _ _ h => h) (Or.inl ⟨by rfl, ?hy9⟩) hS ?re9
        case hy9 => (intro w hSw; (try dsimp only at hSw); go_simp; (try with_reducible rfl))
        simp only [Act.put, List.setIfInBounds_toArray, List.set_cons_zero, List.set_cons_succ]
        refine' wpAnyD_take (i := 10) (v := _) rfl (by kernel_rfl) (by kernel_rfl) (by kernel_rfl) (by kernel_rfl) (fun _ _ _ h => h) (Or.inl ⟨by rfl, ?hy10⟩) hS ?re10
        case hy10 => (intro w hSw; (try dsimp only at hSw); go_simp; (try with_reducible rfl))
        simp only [Act.put, List.setIfInBounds_toArray, List.set_cons_zero, List.set_cons_succ]
        refine wpAnyD_take (i := 11) rfl (by kernel_rfl) (by kernel_rfl) (by kernel_rfl) (by kernel_rfl) (fun _ _ _ h => h) (yieldsIf_load_mid (by rfl) 56 _ rfl g (k * 3) rfl (l.getD k Sd.z).v.toList _ (fun w' hw' => by rw [← Hk.out]; exact row_range hw' (by rw [revK_len]; have := HQ.out; omega)) Tryd.underlying56 rfl (by rw [Array.length_toList]; exact info_sd _)) hS ?_
        simp only [Act.put, List.setIfInBounds_toArray, List.set_cons_zero, List.set_cons_succ]
        refine' wpAnyD_take (i := 12) (v := _) rfl (by kernel_rfl) (by kernel_rfl) (by kernel_rfl) (by kernel_rfl) (fun _ _ _ h => h) (Or.inl ⟨by rfl, ?hy11⟩) hS ?re11
        case hy11 => (intro w hSw; (try dsimp only at hSw); go_simp; (try with_reducible rfl))
        simp only [Act.put, List.setIfInBounds_toArray, List.set_cons_zero, List.set_cons_succ]
        refine wpAnyD_only (i := 13) rfl (by kernel_rfl) (by rfl) (fun K hK => ?_)
        refine wp_store_mid 56 _ _ rfl g (k * 3) (l.getD q Sd.z).v rfl rfl (there_row HR.out _ _ (by simp [sdC_len, revK_len, Sd.v]; have := HQ.out; omega)) (info_sd _) (sd_one _) ?_
        have hr13 := setC_row HR.out (p := k) (by rw [revK_len]; have := HQ.out; omega) (l.getD q Sd.z)
        refine hK.out _ _ (fun h => by cases h) ?_
        clear hK K
        simp only [Act.put, List.setIfInBounds_toArray, List.set_cons_zero, List.set_cons_succ]
        refine' wpAnyD_free (i := 14) (v := _) rfl (by kernel_rfl) (by kernel_rfl) (by rfl) (by kernel_rfl) (fun _ _ _ h => h) (Or.inl ⟨by rfl, ?hy12⟩) ?re12
        case hy12 => (intro w hSw; clear hSw; go_simp; (try with_reducible rfl))
        simp only [Act.put, List.setIfInBounds_toArray, List.set_cons_zero, List.set_cons_succ]
        refine wpAnyD_only (i := 15) rfl (by kernel_rfl) (by rfl) (fun K hK => ?_)
        refine wp_store_mid 56 _ _ rfl g (q * 3) (l.getD k Sd.z).v rfl rfl (there_row hr13 _ _ (by simp [sdC_len, revK_len, Sd.v]; have := HQ.out; omega)) (info_sd _) (sd_one _) ?_
        have hr15 := setC_row hr13 (p := q) (by rw [List.length_set, revK_len]; exact HQ.out.2.2) (l.getD k Sd.z)
        rw [HS.out] at hr15
        refine hK.out _ _ (fun h => by cases h) ?_
        clear hK K hS
        refine wpAnyD_done (by kernel_rfl) ?_ _
        have HRR : RvR w ((wd.setCells g (k * 3) (l.getD q Sd.z).v.toList).setCells g (q * 3) (l.getD k Sd.z).v.toList) g l tail (k + 1) := by
          have z1 := setCells_size g (l.getD q Sd.z).v.toList (k * 3) wd
          have z2 := setCells_size g (l.getD k Sd.z).v.toList (q * 3) (wd.setCells g (k * 3) (l.getD q Sd.z).v.toList)
          obtain ⟨a1, a2, a3, a4, a5⟩ := HBd.out
          exact ⟨hr15, (z2.2.1.trans z1.2.1).trans a1, (z2.2.2.1.trans z1.2.2.1).trans a2, (z2.2.2.2.trans z1.2.2.2).trans a3, (z2.1.trans z1.1).trans a4, fun j hj => ((setCells_other g _ _ _ j hj).trans (setCells_other g _ _ _ j hj)).trans (a5 j hj)⟩
        generalize (wd.setCells g (k * 3) (l.getD q Sd.z).v.toList).setCells g (q * 3) (l.getD k Sd.z).v.toList = wz at *
        clear hr13 hr15 HR
        go_wp2
        go_roundw
        case rel => exact ⟨k + 1, by have := HQ.out; omega, by go_num, by congr 1; have := HQ.out; omega, HRR⟩
        case measure => simp [intOf]; have := HQ.out; omega
      · have q1 : ¬ (k : Int) < (l.length : Int) - 1 - (k : Int) := by omega
        have hz := revK_all l k (by omega)
        rw [hz] at hR
        go_wp2
        first | go_ret | go_end0
        refine ⟨rfl, ⟨by rw [sdC_len, List.length_reverse, Nat.mul_comm], Or.inr ⟨g, cap, _, rfl, hb, hR, h1, h2, ?_, ?_⟩⟩, ho, htp, hou, hsz, fun j hj => hbk j (fun e => hj (by rw [e]; rfl))⟩
        · have := HTL.out; simp [sdC_len]; omega
        · simp only [List.toList_toArray]
          rw [List.take_left' (by rw [sdC_len, List.length_reverse]; omega)]
end Go.Proofs.YtepohpniflmblaaDoor
