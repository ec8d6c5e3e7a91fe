
/-
  ClR ClP ClZ HiX0 HiZ0 HiZ1, one behind the other.
-/
import Derived.Test.YtepohpniflmblaaDoorClG
import Derived.Test.YtepohpniflmblaaDoorClO
import Derived.Test.YtepohpniflmblaaDoorClV
import Derived.Test.YtepohpniflmblaaDoorHiF
import Derived.Test.YtepohpniflmblaaDoorClC
import Derived.Test.YtepohpniflmblaaDoorHiG
import Derived.Test.YtepohpniflmblaaDoorHeld
import Derived.Test.YtepohpniflmblaaDoorHiL
import Derived.Deep.CutBlock
import Derived.Deep.DeepCutAuto
import Derived.Test.YtepohpniflmblaaDoorHiJ
import Derived.Test.YtepohpniflmblaaDoorHiO
/-! ClR -/
set_option maxRecDepth 100000
namespace Go.Proofs.YtepohpniflmblaaDoor
open Go.RowKit
set_option linter.unusedVariables false
set_option linter.unusedSimpArgs false

/-- A list of which one number is one more, of 256. -/
def incH (l : List Nat) (k : Nat) : List Nat := l.set k ((l.getD k 0 + 1) % 256)
theorem inc_32 {l : List Nat} (h : H32 l) (k : Nat) : H32 (incH l k) := by
  refine ⟨by unfold incH; rw [List.length_set]; exact h.1, fun x hx => ?_⟩
  unfold incH at hx
  rcases List.mem_or_eq_of_mem_set hx with hx | rfl
  · exact h.2 x hx
  · exact Nat.mod_lt _ (by decide)
theorem inc_at {l : List Nat} {k : Nat} (hk : k < l.length) : (incH l k).getD k 0 = (l.getD k 0 + 1) % 256 := by
  unfold incH; simp [List.getD, hk]
theorem inc_ne {l : List Nat} (h : H32 l) {k : Nat} (hk : k < 32) : incH l k ≠ l := by
  intro e
  have h1 := inc_at (l := l) (k := k) (by rw [h.1]; exact hk)
  rw [e] at h1
  have h2 : l.getD k 0 < 256 := h.2 _ (by simp only [List.getD]; rw [List.getElem?_eq_getElem (by rw [h.1]; exact hk)]; exact List.getElem_mem _)
  omega
theorem inc_bytes (l : List Nat) (k : Nat) : bytesL (incH l k) = (bytesL l).setIfInBounds k (.int .u8 (((l.getD k 0 + 1) % 256 : Nat) : Int)) := by
  unfold incH bytesL
  rw [List.map_set, List.setIfInBounds_toArray]
/-- One byte of a hash in a slice of hashes is one more. -/
theorem HsAt.inc {w : World} {g o n c : Nat} {L : List (List Nat)} (h : HsAt w (.slice (some ⟨g, o, none⟩) n c) L) {i : Nat} (hi : i < L.length) {k : Nat} (hk : k < 32) :
    HsAt (w.setCell ⟨g, o + i * 32 + k, none⟩ (.int .u8 ((((L.getD i []).getD k 0 + 1) % 256 : Nat) : Int))) (.slice (some ⟨g, o, none⟩) n c) (L.set i (incH (L.getD i []) k)) := by
  obtain ⟨hok, p, c', e, hn, hc, hat⟩ := h
  cases e
  have hmi : L.getD i [] ∈ L := by simp only [List.getD]; rw [List.getElem?_eq_getElem hi]; exact List.getElem_mem _
  refine ⟨set_32 hok (inc_32 (hok _ hmi) k) i, _, _, by rw [List.length_set], by rw [List.length_set]; exact hn, hc, fun q hq => ?_⟩
  rw [List.length_set] at hq
  obtain ⟨g', off, cs, e, hr, hcs⟩ := hat q hq
  cases e
  have hmem : L.getD q [] ∈ L := by simp only [List.getD]; rw [List.getElem?_eq_getElem hq]; exact List.getElem_mem _
  refine ⟨g, o, _, rfl, heap_setCell_same w g (o + i * 32 + k) cs _ _ hr, fun j hj => ?_⟩
  have hz := hcs j hj
  have h32 : (bytesL (L.getD q [])).size = 32 := by rw [bytesL_size, (hok _ hmem).1]
  have hin : o + q * 32 + j < cs.size := by
    have hz2 : (bytesL (L.getD q []))[j]? = some _ := Array.getElem?_eq_getElem (by rw [h32]; exact hj)
    rw [hz2] at hz
    exact (Array.getElem?_eq_some_iff.1 hz).1
  by_cases hqi : q = i
  · subst hqi
    have e1 : (L.set q (incH (L.getD q []) k)).getD q [] = incH (L.getD q []) k := by simp [List.getD, hq]
    rw [e1, inc_bytes]
    by_cases hjk : j = k
    · subst hjk
      rw [Array.getElem?_setIfInBounds_self_of_lt hin, Array.getElem?_setIfInBounds_self_of_lt (by rw [h32]; exact hj)]
    · rw [Array.getElem?_setIfInBounds_ne (by omega), Array.getElem?_setIfInBounds_ne (by omega)]
      exact hz
  · have e1 : (L.set i (incH (L.getD i []) k)).getD q [] = L.getD q [] := by simp [List.getD, List.getElem?_set, Ne.symm hqi]
    rw [e1, Array.getElem?_setIfInBounds_ne (by omega)]
    exact hz
/-- A tree that was turned in an elder leaf is no growth of what it was. -/
theorem turned_clash {L : List (List Nat)} (hL : ∀ x ∈ L, H32 x) {m a : Nat} (h1 : a < m) (h2 : m ≤ L.length) {y : List Nat} (hy : H32 y) (hne : y ≠ L.getD a []) {P : List (List Nat)} (hP : ∀ x ∈ P, H32 x)
    (h : GrownP m L.length (rootL (L.take m)) (rootL (L.set a y)) P) :
    ClN (grownN m L.length (rootL (L.take m)) P ++ rootN (L.set a y) ++ rootN (L.take m) ++ rootN ((L.set a y).take m)) := by
  have hG := set_32 hL hy a
  have hTL : ∀ x ∈ L.take m, H32 x := fun x hx => hL x (List.mem_of_mem_take hx)
  have hTG : ∀ x ∈ (L.set a y).take m, H32 x := fun x hx => hG x (List.mem_of_mem_take hx)
  have hg := grown_own (L := L.set a y) hG (m := m) (by omega) (by rw [List.length_set]; exact h2) (root_32 _ _ (Nat.le_refl _) hTL) hP (by rw [List.length_set]; exact h)
  rw [List.length_set] at hg
  rcases hg with hc | hr
  · exact hc.mono (by intro x hx; simp only [List.mem_append] at hx ⊢; rcases hx with hx | hx <;> simp [hx])
  · rcases root_inj _ (L.take m) ((L.set a y).take m) rfl (by simp) hTL hTG hr with hc | q
    · exact hc.mono (by intro x hx; simp only [List.mem_append] at hx ⊢; rcases hx with hx | hx <;> simp [hx])
    · have := congrArg (fun l => l.getD a []) q
      simp only [List.getD, List.getElem?_take, h1, if_true] at this
      rw [List.getElem?_set_self (by omega)] at this
      exact absurd (by simpa [List.getD] using this.symm) hne
end Go.Proofs.YtepohpniflmblaaDoor

/-! ClP -/
set_option maxRecDepth 100000
namespace Go.Proofs.YtepohpniflmblaaDoor
open Go.RowKit
set_option linter.unusedVariables false
set_option linter.unusedSimpArgs false

theorem hC_len : ∀ (L : List (List Nat)), (∀ l ∈ L, H32 l) → (hC L).length = L.length * 32
  | [], _ => rfl
  | a :: L, h => by
    rw [hC_cons, List.length_append, hb_len (h a (by simp)), hC_len L (fun x hx => h x (by simp [hx])), List.length_cons]; omega
theorem hC_one (L : List (List Nat)) : ∀ u ∈ hC L, u.oneCell' = true := by
  intro u hu
  unfold hC at hu
  obtain ⟨a, _, hu⟩ := List.mem_flatMap.1 hu
  have := bytesL_one a
  rw [Array.all_eq_true_iff_forall_mem] at this
  exact this u (by simpa using hu)
/-- What a call owns of hashes, appended to none: a copy. -/
theorem append_hs (w : World) (b0 : Nat) (u : Value) (L : List (List Nat)) (h : OwnH w b0 u L) (hok : ∀ l ∈ L, H32 l) (hl : L.length ≤ 1000) :
    ∃ v' w', (Builtin.append_ #[25, 25] 25 #[.slice none 0 0, u]).run Tryd.prog w = .ok v' w' ∧ OwnH w' w.heap.size v' L ∧ Below w.heap.size w w' := by
  obtain ⟨i, hi, z0, z1, z2⟩ := info_some hash_z
  obtain ⟨hlen, ⟨rfl, h0⟩ | ⟨g, cap, cur, rfl, hb, hg, h1, h2, h3, h4⟩⟩ := id h
  · obtain rfl : L = [] := List.eq_nil_of_length_eq_zero (by simpa using h0)
    refine ⟨.slice none 0 0, w, ?_, OwnH.nil _ _, Below.refl _ _⟩
    simp [Builtin.append_, run_underlying (show Tryd.prog.underlying 25 = some (.slice 28) by kernel_rfl), sizeOf, typeInfo, hi, Builtin.lenOf, Builtin.firstCells, loadCells, loadCellsFrom]
  · have hr : w.rangeAt g 0 (hC L) := fun j u hu => by
      have hr : Row w g cur 28 := hg
      have hj : j < L.length * 32 := by rw [← hC_len L hok]; exact (List.getElem?_eq_some_iff.1 hu).1
      rw [hr.cell, Nat.zero_add, ← hu, ← h4, List.getElem?_take, if_pos hj, Array.getElem?_toList]
    have hb63 : (0 + L.length) * i.bytes ≤ 140737488355328 := by rw [z2]; omega
    obtain ⟨v', w', h1, h2, h3, _⟩ := run_append_own_at (P := Tryd.prog) w w.heap.size 25 25 28 i _ 32 i.bytes (by kernel_rfl) hi z0 z1 rfl (by simp [Value.cells, bytesL_size]) (by decide) (.slice none 0 0) 0 [] (World.ownsRow_nil _ _ _ _) ⟨g, 0, none⟩ L.length cap (hC L) (hC_len L hok)
      (fun j u hu => by rw [show (⟨g, 0, none⟩ : Addr).add j = ⟨g, 0 + j, none⟩ from Addr.add_lit ..]; exact hr j u hu) (hC_one L) (by unfold maxLen; omega) hb63 (Nat.le_refl _)
    rw [Nat.zero_add, List.nil_append] at h2
    exact ⟨v', w', h1, h2, ⟨h3.os, h3.tape, h3.output, h3.size, fun k hk => h3.block k hk (by simp [Value.ownBlock])⟩⟩
theorem leafs_snoc (L : List (List Nat)) (b : List Nat) : leafs (L ++ [b]) = leafs L ++ [hsh (msgL b)] := by unfold leafs; simp
theorem more_clash {L : List (List Nat)} {b : List Nat} (e : rootL (leafs L) = rootL (leafs L ++ [hsh (msgL b)])) :
    ClN (L.map msgL ++ rootN (leafs L) ++ [msgL b] ++ rootN (leafs L ++ [hsh (msgL b)])) := by
  rw [← leafs_snoc] at e ⊢
  rcases leafs_inj _ L (L ++ [b]) (Nat.le_refl _) e with hc | q
  · refine hc.mono ?_
    intro x hx
    unfold allN at hx
    rw [List.map_append, List.map_singleton] at hx
    simp only [List.mem_append] at hx ⊢
    rcases hx with (h | h) | (h | h) | h <;> simp [h]
  · exact absurd (congrArg List.length q) (by simp)
end Go.Proofs.YtepohpniflmblaaDoor

/-! ClZ -/
namespace Go.Proofs.YtepohpniflmblaaDoor
open Go.RowKit
set_option maxRecDepth 100000
set_option linter.unusedVariables false
set_option linter.unusedSimpArgs false
theorem rootN_short : ∀ {A : List (List Nat)}, (∀ x ∈ A, H32 x) → ∀ l ∈ rootN A, l.length ≤ 1000 := by
  intro A
  induction hn : A.length using Nat.strongRecOn generalizing A with
  | _ n ih =>
    intro hA l hl
    rcases Nat.lt_or_ge n 2 with h2 | h2
    · match A, hn with
      | [], _ => rw [rootN_nil] at hl; simp at hl; subst hl; simp
      | [a], _ => rw [rootN_one] at hl; cases hl
      | _ :: _ :: _, h => simp at h; omega
    · have hs := split_lt h2
      rw [rootN_two (by omega), hn] at hl
      have tA : ∀ x ∈ A.take (split n), H32 x := fun x hx => hA x (List.mem_of_mem_take hx)
      have dA : ∀ x ∈ A.drop (split n), H32 x := fun x hx => hA x (List.mem_of_mem_drop hx)
      rcases List.mem_append.1 hl with hl | hl
      · rcases List.mem_append.1 hl with hl | hl
        · exact ih (split n) hs.2 (by rw [List.length_take]; omega) tA l hl
        · exact ih (n - split n) (by omega) (by rw [List.length_drop]; omega) dA l hl
      · rw [List.mem_singleton] at hl
        subst hl
        rw [msgN_len (rootL_32 tA) (rootL_32 dA)]
        omega
theorem yields_conv {ops : Array Oper} {S : World → Prop} {op : Oper} {a : Act} (hw : Region.wanted op (yielded ops a.tmps) = true) (x : Operand) (ho : op.op = .convert 37 9 x) (v : Value) (hx : a.eval x = v) (l : List Nat) (hS : ∀ w, S w → BytesAt w v l) : YieldsIf Tryd.prog ops S op (.string (strL l)) a :=
  .inl ⟨hw, fun w hw' => by
    unfold execOp
    simp only [ho, hx, Sem.run_bind, Sem.run_pure, conv_str (hS w hw'), Result.andThen_ok]⟩
theorem hash_in (l m : List Nat) (hl : l.length = 32) (hm : m.length = 32) (w : World) : (Op.equalIn 10000 28 (.agg (bytesL l)) (.agg (bytesL m))).run Tryd.prog w = .ok (decide (l = m)) w := by
  obtain ⟨i, hi, _⟩ := info_u8'
  rw [run_equalIn_array w 9999 (bytesL l) (bytesL m) Tryd.underlying28 hi, cells_u8]
  have h := run_eqItems_u8 9998 l m w (List.range 32) (fun j hj => by rw [hl, hm]; simpa using hj)
  rw [h, ← hl, all_range_eq l m (by omega)]
theorem TpAt.w8 {w : World} {base T : Nat} {N : List (List Nat)} (h : TpAt w base (.pointer (some ⟨T, 0, none⟩)) N) : ∀ l ∈ N, W8 l := by
  rcases h with h | ⟨_, _, _, _, _, _, _, h8⟩
  · cases h
  · exact h8
theorem HsAt.row {w : World} {g n c : Nat} {L : List (List Nat)} (h : HsAt w (.slice (some ⟨g, 0, none⟩) n c) L) (h0 : 0 < L.length) : ∃ cs, Row w g cs 28 := by
  obtain ⟨_, p, c', e, _, _, hat⟩ := h
  cases e
  obtain ⟨g', off, cs, e, hr, _⟩ := hat 0 h0
  cases e
  exact ⟨cs, hr⟩
theorem hs_range {w : World} {g n c : Nat} {L : List (List Nat)} (h : HsAt w (.slice (some ⟨g, 0, none⟩) n c) L) {i : Nat} (hi : i < L.length) : w.rangeAt g (i * 32) (bytesL (L.getD i [])).toList := by
  obtain ⟨g', off, e, _, hr, _⟩ := h.at hi
  cases e
  rw [Nat.zero_add] at hr
  exact hr
/-- An operation whose guard says yes. -/
theorem wpList_w {ops : Array Oper} {rest : List Oper} {o : Oper} {a : Act} {w : World} {Q : Exit → Act → World → Prop} (hw : Region.wanted o (yielded ops a.tmps) = true) (h : o.wp Tryd.prog a w (wpList Tryd.prog ops Q rest) Q) : wpList Tryd.prog ops Q (o :: rest) a w := by
  unfold wpList
  rw [if_pos hw]
  exact Or.inl h
theorem path_none (i : Int) (v : Value) (L : List (List Nat)) (w : World) (hi : i < 0 ∨ (L.length : Int) ≤ i) (hv : HsAt w v L) :
    Calls Tryd.prog 17 #[.pointer none, .int .i64 i, v] w fun e w' => e = .returned (.tuple #[.slice none 0 0, .bool false]) ∧ w' = w := by
  obtain ⟨p, c, rfl, hc1, hc2⟩ := hv.form
  clear hv
  have l0 : (0 : Int) ≤ (L.length : Int) := by omega
  by_cases h0 : i < 0
  · go_enter Tryd.func17, Tryd.ntmps17
    go_wp2
    go_ret2
    exact ⟨rfl, rfl⟩
  · have h1 : (L.length : Int) ≤ i := by omega
    have h2 : 0 ≤ i := by omega
    go_enter Tryd.func17, Tryd.ntmps17
    go_wp2
    go_ret2
    exact ⟨rfl, rfl⟩
end Go.Proofs.YtepohpniflmblaaDoor

/-! HiX0 -/
set_option maxRecDepth 100000
namespace Go.Proofs.YtepohpniflmblaaDoor
open Go.RowKit
set_option linter.unusedVariables false
set_option linter.unusedSimpArgs false

theorem TStep.low {W w w' : World} {T : Nat} (hs : TStep T w w') (hB : Below W.heap.size W w) (h0 : W.heap.size ≤ T) : Below W.heap.size W w' :=
  TStep.below hB (TStep.mk hs.os hs.tape hs.output hs.size (fun k o hk h => hs.block k o hk (h.imp (fun h => Nat.lt_of_lt_of_le h h0) id)))
theorem getD_short {P : List (List Nat)} (hP : ∀ x ∈ P, H32 x) (k : Nat) : (P.getD k []).length ≤ 32 := by
  by_cases h : k < P.length
  · have : P.getD k [] ∈ P := by simp only [List.getD]; rw [List.getElem?_eq_getElem h]; exact List.getElem_mem _
    exact Nat.le_of_eq (hP _ this).1
  · simp [List.getD, List.getElem?_eq_none (Nat.le_of_not_lt h)]
theorem joinL_short (s : Sd) {a b : List Nat} (ha : a.length ≤ 32) (hb : b.length ≤ 32) : (joinL s a b).length ≤ 65 := by
  unfold joinL msgN
  split <;> simp <;> omega
theorem grwN_short (S : List Sd) {P : List (List Nat)} (hP : ∀ x ∈ P, H32 x) {h : List Nat} (hh : H32 h) : ∀ k, ∀ l ∈ grwN S P h k, l.length ≤ 65
  | 0, l, hl => by cases hl
  | k + 1, l, hl => by
    unfold grwN at hl
    have q1 := Nat.le_of_eq (befS_32 (S := S) (P := P) hh k).1
    have q2 := Nat.le_of_eq (climbS_32 (S := S) (P := P) hh k).1
    rcases List.mem_append.1 hl with hl | hl
    · rcases List.mem_append.1 hl with hl | hl
      · exact grwN_short S hP hh k l hl
      · split at hl
        · rw [List.mem_singleton] at hl; subst hl; exact joinL_short _ q1 (getD_short hP k)
        · cases hl
    · rw [List.mem_singleton] at hl; subst hl; exact joinL_short _ q2 (getD_short hP k)
theorem climbN_short (S : List Sd) {P : List (List Nat)} (hP : ∀ x ∈ P, H32 x) {h : List Nat} (hh : H32 h) (k : Nat) : ∀ l ∈ climbN S P h k, l.length ≤ 65 := fun l hl => grwN_short S hP hh k l (climbN_grw S P h k l hl)
theorem grownN_len {m n : Nat} (hm : 0 < m) (hmn : m ≤ n) (old : List Nat) (P : List (List Nat)) : (grownN m n old P).length ≤ 2 * (n - 1) := by
  have hw := (wayL_ok _ (m - 1) true 0 n (Nat.le_refl _) (Nat.zero_le _) (by omega)).2.1
  unfold grownN
  split
  · have := grwN_len (wayL (m - 1) true 0 n).2 (othG (wayL (m - 1) true 0 n).1 P) (fstG (wayL (m - 1) true 0 n).1 old P) (wayL (m - 1) true 0 n).2.length
    omega
  · simp
theorem grownN_short {m n : Nat} {old : List Nat} (ho : H32 old) {P : List (List Nat)} (hP : ∀ x ∈ P, H32 x) : ∀ l ∈ grownN m n old P, l.length ≤ 1000 := by
  intro l hl
  unfold grownN at hl
  split at hl
  · have := grwN_short _ (othG_32 hP) (fstG_32 ho hP) _ l hl
    omega
  · cases hl
/-- A cell of another row. -/
theorem HsAt.setOther {w : World} {g n c : Nat} {L : List (List Nat)} (h : HsAt w (.slice (some ⟨g, 0, none⟩) n c) L) {g2 : Nat} (o : Nat) (v : Value) (hne : g ≠ g2) : HsAt (w.setCell ⟨g2, o, none⟩ v) (.slice (some ⟨g, 0, none⟩) n c) L := by
  obtain ⟨hok, p, c', e, hn, hc, hat⟩ := h
  refine ⟨hok, p, c', e, hn, hc, fun i hi => ?_⟩
  obtain ⟨g', off, cs, e', hr, hcs⟩ := hat i hi
  cases e
  cases e'
  exact ⟨g, 0, cs, rfl, (heap_setCell_other w ⟨g2, o, none⟩ g v hne).trans hr, hcs⟩
/-- What is held between the calls: two slices of as many hashes, a tape. -/
structure TuS (w wc : World) (T g8 g9 n c8 c9 : Nat) (A G N : List (List Nat)) : Prop where
  bw : Below w.heap.size w wc
  low : w.heap.size ≤ T
  pos : 0 < T
  tp : TpAt wc T (.pointer (some ⟨T, 0, none⟩)) N
  sz : T ≤ wc.heap.size
  hA : HsAt wc (.slice (some ⟨g8, 0, none⟩) n c8) A
  hG : HsAt wc (.slice (some ⟨g9, 0, none⟩) n c9) G
theorem TuS.later {w wc wd : World} {T g8 g9 n c8 c9 : Nat} {A G N : List (List Nat)} (h : TuS w wc T g8 g9 n c8 c9 A G N) (hb : Below wc.heap.size wc wd) : TuS w wd T g8 g9 n c8 c9 A G N :=
  ⟨h.bw.trans (hb.mono h.bw.size), h.low, h.pos, h.tp.later hb, Nat.le_trans h.sz hb.size, h.hA.later hb, h.hG.later hb⟩
theorem TuS.step {w wc wd : World} {T g8 g9 n c8 c9 : Nat} {A G N M : List (List Nat)} (h : TuS w wc T g8 g9 n c8 c9 A G N) (hs : TStep T wc wd) (ht : TpAt wd T (.pointer (some ⟨T, 0, none⟩)) M) : TuS w wd T g8 g9 n c8 c9 A G M :=
  ⟨hs.low h.bw h.low, h.low, h.pos, ht, Nat.le_trans h.sz hs.size, h.hA.tstep hs, h.hG.tstep hs⟩
end Go.Proofs.YtepohpniflmblaaDoor

/-! HiZ0 -/
set_option maxRecDepth 100000
namespace Go.Proofs.YtepohpniflmblaaDoor
open Go.RowKit
set_option linter.unusedVariables false
set_option linter.unusedSimpArgs false

theorem way_self : ∀ (m i f t : Nat), t - f ≤ m → f ≤ i → i < t → (wayL i false f t).1 = i := by
  intro m
  induction m with
  | zero => intro i f t h h1 h2; omega
  | succ m ih =>
    intro i f t h h1 h2
    by_cases g1 : f + 2 ≤ t
    · have g2 : ¬ (false = true ∧ t = i + 1) := fun h => by cases h.1
      have hs := split_lt (show 2 ≤ t - f by omega)
      by_cases g3 : i < f + split (t - f)
      · rw [wayL_low g1 g2 g3]
        exact ih i f _ (by omega) h1 g3
      · rw [wayL_high g1 g2 g3]
        exact ih i _ t (by omega) (by omega) h2
    · rw [wayL_stop (Or.inl (by omega))]
      show f = i
      omega
theorem climb_out (tv : Value) (h : List Nat) (i : Int) (n : Nat) (v : Value) (P : List (List Nat)) (w : World) (lo : -9223372036854775808 ≤ i) (hi9 : i ≤ 9223372036854775807) (hi : i < 0 ∨ (n : Int) ≤ i) (h64 : n ≤ 64) (hh : H32 h) (hv : HsAt w v P) :
    Calls Tryd.prog 18 #[tv, .agg (bytesL h), .int .i64 i, .int .i64 (n : Nat), v] w fun e w' => e = .returned (.tuple #[.agg (bytesL (List.replicate 32 0)), .bool false]) ∧ Below w.heap.size w w' := by
  obtain ⟨pp, cp, rfl, hc1, hc2⟩ := hv.form
  have n0 : (0 : Int) ≤ (n : Int) := by omega
  have n1 : (n : Int) ≤ 64 := by omega
  have iH := info_h32 hh
  have hsH : (bytesL h).size = 32 := by rw [bytesL_size, hh.1]
  have oZ := bytesL_one (List.replicate 32 0)
  have iZ : (Tryd.prog.info? 28).map (·.size) = some (bytesL (List.replicate 32 0)).size := by rw [bytesL_size]; kernel_rfl
  have r10 := Row.new (w.alloc (.cells (bytesL h) 28)) (bytesL (List.replicate 32 0)) 28 rfl
  have s1 : (w.alloc (.cells (bytesL h) 28)).heap.size = w.heap.size + 1 := by simp
  rw [s1] at r10
  have b2 := below2 w (.cells (bytesL h) 28) (.cells (bytesL (List.replicate 32 0)) 28)
  clear hv hh
  generalize bytesL h = ch at *
  have h0 : i < 0 ∨ ((¬ i < 0) ∧ (n : Int) ≤ i) := by omega
  clear hi
  rcases h0 with hi | ⟨hi0, hi⟩
  · go_enter Tryd.func18, Tryd.ntmps18
    go_upto_region 2 with fail
    try rw [zeros32b]
    go_wp2_with (refine wpList_store_row rfl 28 _ _ rfl (w.heap.size + 1) (bytesL (List.replicate 32 0)) rfl rfl 28 _ r10 iZ rfl oZ ?_)
    refine bodyPost_ret (v := .tuple #[.agg (bytesL (List.replicate 32 0)), .bool false]) (results_cell_row2 Tryd.results18 _ _ (w.heap.size + 1) (.agg (bytesL (List.replicate 32 0))) ?hp (run_loadVar_row _ (w.heap.size + 1) 28 28 (bytesL (List.replicate 32 0)) (0, 0) _ ?hg Tryd.underlying28 rfl iZ)) rfl ⟨rfl, Below.row b2 _ (by omega)⟩
    case hp => rfl
    case hg => exact r10.setRow _
  · have hi0 : (0 : Int) ≤ i := by omega
    go_enter Tryd.func18, Tryd.ntmps18
    go_upto_region 2 with fail
    try rw [zeros32b]
    go_wp2_with (refine wpList_store_row rfl 28 _ _ rfl (w.heap.size + 1) (bytesL (List.replicate 32 0)) rfl rfl 28 _ r10 iZ rfl oZ ?_)
    refine bodyPost_ret (v := .tuple #[.agg (bytesL (List.replicate 32 0)), .bool false]) (results_cell_row2 Tryd.results18 _ _ (w.heap.size + 1) (.agg (bytesL (List.replicate 32 0))) ?hp (run_loadVar_row _ (w.heap.size + 1) 28 28 (bytesL (List.replicate 32 0)) (0, 0) _ ?hg Tryd.underlying28 rfl iZ)) rfl ⟨rfl, Below.row b2 _ (by omega)⟩
    case hp => rfl
    case hg => exact r10.setRow _
theorem climb_out2 (tv : Value) (h : List Nat) (i : Int) (n : Nat) (v : Value) (P : List (List Nat)) (w : World) (lo : -9223372036854775808 ≤ i) (hi9 : i ≤ 9223372036854775807) (hi : i < 0 ∨ (n : Int) ≤ i) (h64 : n ≤ 64) (hh : H32 h) (hv : HsAt w v P) :
    Calls Tryd.prog 18 #[tv, .agg (bytesL h), .int .i64 i, .int .i64 (n : Nat), v] w fun e w' => ∃ Y, e = .returned (.tuple #[.agg (bytesL Y), .bool false]) ∧ H32 Y ∧ Below w.heap.size w w' := by
  refine (climb_out tv h i n v P w lo hi9 hi h64 hh hv).mono ?_
  rintro e w' ⟨rfl, hb⟩
  exact ⟨_, rfl, ⟨by simp, fun x hx => by rw [List.eq_of_mem_replicate hx]; decide⟩, hb⟩
theorem climb_len (tv : Value) (h : List Nat) (i : Nat) (n : Nat) (v : Value) (P : List (List Nat)) (w : World) (hi : i < n) (h64 : n ≤ 64) (hh : H32 h) (hv : HsAt w v P) (hP : P.length ≠ (wayL i false 0 n).2.length) (ht : Tab w) :
    Calls Tryd.prog 18 #[tv, .agg (bytesL h), .int .i64 (i : Nat), .int .i64 (n : Nat), v] w fun e w' => e = .returned (.tuple #[.agg (bytesL (List.replicate 32 0)), .bool false]) ∧ Below w.heap.size w w' := by
  obtain ⟨pp, cp, rfl, hc1, hc2⟩ := hv.form
  have hwo := wayL_ok _ i false 0 n (Nat.le_refl _) (Nat.zero_le _) hi
  have HI : Hid (i < n ∧ n ≤ 64) := ⟨hi, h64⟩
  have i0 : (0 : Int) ≤ (i : Int) := by omega
  have i1 : (i : Int) < (n : Int) := by omega
  obtain ⟨S, hS⟩ : ∃ S, S = (wayL i false 0 n).2 := ⟨_, rfl⟩
  have HSE : Hid ((wayL i false 0 n).2 = S) := hS.symm
  rw [← hS] at hwo hP
  have p0 : ¬ (P.length : Int) = (S.length : Int) := by omega
  have p1 : ((P.length : Int) == (S.length : Int)) = false := by rw [beq_eq_false_iff_ne]; exact p0
  have iH := info_h32 hh
  have hsH : (bytesL h).size = 32 := by rw [bytesL_size, hh.1]
  have oZ := bytesL_one (List.replicate 32 0)
  have iZ : (Tryd.prog.info? 28).map (·.size) = some (bytesL (List.replicate 32 0)).size := by rw [bytesL_size]; kernel_rfl
  have r10 := Row.new (w.alloc (.cells (bytesL h) 28)) (bytesL (List.replicate 32 0)) 28 rfl
  have s1 : (w.alloc (.cells (bytesL h) 28)).heap.size = w.heap.size + 1 := by simp
  rw [s1] at r10
  have b2 := below2 w (.cells (bytesL h) 28) (.cells (bytesL (List.replicate 32 0)) 28)
  clear hv hP ht hi h64 hwo hS hh s1
  generalize bytesL h = ch at *
  go_enter Tryd.func18, Tryd.ntmps18
  go_wp2_with (go_at_call 28; refine stop ?_)
  rw [zeros32b]
  refine (way_any i n false _ HI.out.1 HI.out.2).mono ?_
  rintro e w1 ⟨us, rfl, hus, hb1⟩
  rw [HSE.out] at hus
  obtain ⟨ps, ns, cs, rfl, hns⟩ := ownsRowN_form hus
  subst hns
  have r10 := r10.later hb1
  have b2 := chain b2 hb1
  clear hus hb1
  go_wp2_with (refine wpList_store_row rfl 28 _ _ rfl (w.heap.size + 1) (bytesL (List.replicate 32 0)) rfl rfl 28 _ r10 iZ rfl oZ ?_)
  refine bodyPost_ret (v := .tuple #[.agg (bytesL (List.replicate 32 0)), .bool false]) (results_cell_row2 Tryd.results18 _ _ (w.heap.size + 1) (.agg (bytesL (List.replicate 32 0))) ?hp (run_loadVar_row _ (w.heap.size + 1) 28 28 (bytesL (List.replicate 32 0)) (0, 0) _ ?hg Tryd.underlying28 rfl iZ)) rfl ⟨rfl, Below.row b2 _ (by omega)⟩
  case hp => rfl
  case hg => exact r10.setRow _
theorem climb_len2 (tv : Value) (h : List Nat) (i : Nat) (n : Nat) (v : Value) (P : List (List Nat)) (w : World) (hi : i < n) (h64 : n ≤ 64) (hh : H32 h) (hv : HsAt w v P) (hP : P.length ≠ (wayL i false 0 n).2.length) (ht : Tab w) :
    Calls Tryd.prog 18 #[tv, .agg (bytesL h), .int .i64 (i : Nat), .int .i64 (n : Nat), v] w fun e w' => ∃ Y, e = .returned (.tuple #[.agg (bytesL Y), .bool false]) ∧ H32 Y ∧ Below w.heap.size w w' := by
  refine (climb_len tv h i n v P w hi h64 hh hv hP ht).mono ?_
  rintro e w' ⟨rfl, hb⟩
  exact ⟨_, rfl, ⟨by simp, fun x hx => by rw [List.eq_of_mem_replicate hx]; decide⟩, hb⟩
/-- A hash appended to hashes of the call's own. -/
theorem append_row1 (w : World) (base : Nat) (v : Value) (P : List (List Nat)) (x : List Nat) (hown : OwnH w base v P) (hx : H32 x) (g : Nat) (hr : Row w g (bytesL x) 28) (hl : P.length ≤ 1000) (hb : base ≤ w.heap.size) :
    ∃ v' w', (Builtin.append_ #[25, 25] 25 #[v, .slice (some ⟨g, 0, none⟩) 1 1]).run Tryd.prog w = .ok v' w' ∧ OwnH w' base v' (P ++ [x]) ∧ w.grownBy w' v.ownBlock := by
  obtain ⟨i, hi, z0, z1, z2⟩ := info_some hash_z
  have hb63 : (P.length + 1) * i.bytes ≤ 140737488355328 := by rw [z2]; omega
  have hall : ∀ u ∈ (bytesL x).toList, u.oneCell' = true := by
    have := bytesL_one x
    rw [Array.all_eq_true_iff_forall_mem] at this
    intro u hu
    exact this u (by simpa using hu)
  obtain ⟨v', w', h1, h2, h3, _⟩ := run_append_own_at (P := Tryd.prog) w base 25 25 28 i _ 32 i.bytes (by kernel_rfl) hi z0 z1 rfl (by simp [Value.cells, bytesL_size]) (by decide) v P.length (hC P) hown ⟨g, 0, none⟩ 1 1 (bytesL x).toList (by rw [hb_len hx])
    (fun j u hu => by rw [show (⟨g, 0, none⟩ : Addr).add j = ⟨g, 0 + j, none⟩ from Addr.add_lit .., hr.cell, Nat.zero_add, ← hu, Array.getElem?_toList]) hall (by unfold maxLen; omega) hb63 hb
  refine ⟨v', w', h1, ?_, h3⟩
  unfold OwnH
  rw [List.length_append, hC_snoc]
  exact h2
/-- What Climb tells of whatever is handed to it at a place that is there. -/
def ClJ (A : List (List Nat)) (j : Nat) (h : List Nat) (P : List (List Nat)) (base : Nat) (tv : Value) (N : List (List Nat)) (w : World) (e : Ending) (w' : World) : Prop :=
  ∃ (Y : List Nat) (ok : Bool) (M : List (List Nat)), e = .returned (.tuple #[.agg (bytesL Y), .bool ok]) ∧ H32 Y ∧ M.length ≤ 6 ∧ (∀ l ∈ M, l.length ≤ 1000) ∧ TpAt w' base tv (N ++ M) ∧ TStep base w w' ∧
    (P.length = (wayL j false 0 A.length).2.length → ok = true) ∧ (h = A.getD j [] → P = pathL j false A.length A → Y = rootL A) ∧
    (ok = true → Y = rootL A → ClN (M ++ rootN A) ∨ (h = A.getD j [] ∧ ∀ k, k < P.length → P.getD k [] = (pathL j false A.length A).getD k []))
theorem climb_judge (A : List (List Nat)) (hA : ∀ x ∈ A, H32 x) (j : Nat) (hj : j < A.length) (h64 : A.length ≤ 64) (h : List Nat) (hh : H32 h) (v : Value) (P : List (List Nat)) (base : Nat) (tv : Value) (N : List (List Nat)) (w : World) (hv : HsAt w v P) (ht : Tab w) (h0 : 0 < base) (hbw : base ≤ w.heap.size) (htp : TpAt w base tv N) (hN : N.length + 64 ≤ 1000) :
    Calls Tryd.prog 18 #[tv, .agg (bytesL h), .int .i64 (j : Nat), .int .i64 (A.length : Nat), v] w (ClJ A j h P base tv N w) := by
  have hP := hv.ok
  by_cases hl : P.length = (wayL j false 0 A.length).2.length
  · refine (climb_any j A.length h v P base tv N w hj h64 hh hv hl ht h0 hbw htp hN).mono ?_
    rintro e w' ⟨rfl, htp', hs⟩
    refine ⟨_, true, _, rfl, climbS_32 hh _, ?_, ?_, htp', hs, fun _ => rfl, ?_, ?_⟩
    · have h1 := way_steps 6 j false 0 A.length (Nat.zero_le _) hj (by omega)
      have h2 := climbN_len (wayL j false 0 A.length).2 P h P.length
      omega
    · intro l hl'
      have := climbN_short _ hP hh _ l hl'
      omega
    · rintro rfl rfl
      exact climb_root hj
    · intro _ e
      rw [hl] at e ⊢
      have := climb_own A hA j false h hh P hP _ 0 A.length (Nat.le_refl _) (Nat.zero_le _) hj (Nat.le_refl _) (by rw [hl]; exact Nat.le_refl _) (by rw [seg_all]; exact e)
      rw [seg_all, way_self _ j 0 A.length (Nat.le_refl _) (Nat.zero_le _) hj, seg_one hj, rootL_one] at this
      rcases this with hc | ⟨q1, q2⟩
      · exact Or.inl hc
      · refine Or.inr ⟨q1, fun k hk => ?_⟩
        rw [q2 k hk]
        unfold pathL
        rw [sides_at _ _ hk]
  · refine (climb_len tv h j A.length v P w hj h64 hh hv hl ht).mono ?_
    rintro e w' ⟨rfl, hb⟩
    refine ⟨_, false, [], rfl, ⟨by simp, fun x hx => by rw [List.eq_of_mem_replicate hx]; decide⟩, by simp, by simp, by rw [List.append_nil]; exact htp.later hb, TStep.of hb, fun e => absurd e hl, ?_, fun e => by cases e⟩
    rintro rfl rfl
    exact absurd (path_len j false A.length A) hl
end Go.Proofs.YtepohpniflmblaaDoor

/-! HiZ1 -/
set_option maxRecDepth 100000
namespace Go.Proofs.YtepohpniflmblaaDoor
open Go.RowKit
set_option linter.unusedVariables false
set_option linter.unusedSimpArgs false

theorem pos_mod (a : Int) {n : Nat} (hn : 0 < n) : ∃ (r : Int) (i : Nat), a.tmod (n : Int) = r ∧ -(n : Int) < r ∧ r < (n : Int) ∧ (r + (n : Int)).tmod (n : Int) = (i : Int) ∧ i < n := by
  have h1 := Int.tmod_lt_of_pos a (show (0 : Int) < (n : Int) by omega)
  have h2 : -(n : Int) < a.tmod (n : Int) := by
    have := Int.tmod_lt_of_pos (-a) (show (0 : Int) < (n : Int) by omega)
    rw [Int.neg_tmod] at this
    omega
  obtain ⟨m, hm⟩ : ∃ m : Nat, a.tmod (n : Int) + (n : Int) = (m : Int) := ⟨(a.tmod (n : Int) + (n : Int)).toNat, by omega⟩
  exact ⟨_, m % n, rfl, h2, h1, by rw [hm, Int.ofNat_tmod], Nat.mod_lt _ hn⟩
theorem andl (n : Int) (s : Nat) (hs : s ≤ 10) : ∃ k : Nat, k < 2 ^ s ∧ bits .and .i64 n ((2 ^ s - 1 : Nat) : Int) = (k : Int) := by
  have hp : 2 ^ s ≤ 1024 := Nat.le_trans (Nat.pow_le_pow_right (by decide) hs) (by decide)
  have hp0 : 0 < 2 ^ s := Nat.pow_pos (by decide)
  refine ⟨(BitVec.ofInt 64 n).toNat % 2 ^ s, Nat.mod_lt _ hp0, ?_⟩
  have h : (BitVec.ofInt 64 n &&& BitVec.ofInt 64 ((2 ^ s - 1 : Nat) : Int)).toNat = (BitVec.ofInt 64 n).toNat % 2 ^ s := by
    rw [BitVec.toNat_and, show (BitVec.ofInt 64 ((2 ^ s - 1 : Nat) : Int)).toNat = 2 ^ s - 1 by rw [BitVec.ofInt_natCast, BitVec.toNat_ofNat]; omega]
    exact Nat.and_two_pow_sub_one_eq_mod _ s
  show IntKind.i64.wrap ((BitVec.ofInt 64 n &&& BitVec.ofInt 64 ((2 ^ s - 1 : Nat) : Int)).toNat : Int) = _
  rw [h, IntKind.wrap_i64]
  have := Nat.mod_lt (BitVec.ofInt 64 n).toNat hp0
  omega
theorem and1023 (n : Int) : ∃ k : Nat, k ≤ 1023 ∧ bits .and .i64 n 1023 = (k : Int) := by
  obtain ⟨k, hk, e⟩ := andl n 10 (by decide)
  exact ⟨k, by omega, e⟩
theorem and31 (n : Int) : ∃ k : Nat, k < 32 ∧ bits .and .i64 n 31 = (k : Int) := by
  obtain ⟨k, hk, e⟩ := andl n 5 (by decide)
  exact ⟨k, by omega, e⟩
/-- What is held between the calls of HistoryForged. -/
structure FoS (w wc : World) (T g4 g8 gr n c8 : Nat) (a0 a1 a2 : Int) (A : List (List Nat)) (R : List Nat) (N : List (List Nat)) : Prop where
  bw : Below w.heap.size w wc
  low : w.heap.size ≤ T
  gT : g4 < T
  tp : TpAt wc T (.pointer (some ⟨T, 0, none⟩)) N
  sz : T ≤ wc.heap.size
  hA : HsAt wc (.slice (some ⟨g8, 0, none⟩) n c8) A
  r4 : Row wc g4 #[.int .i64 a0, .int .i64 a1, .int .i64 a2] 36
  rR : Row wc gr (bytesL R) 28
theorem FoS.pos {w wc : World} {T g4 g8 gr n c8 : Nat} {a0 a1 a2 : Int} {A N : List (List Nat)} {R : List Nat} (h : FoS w wc T g4 g8 gr n c8 a0 a1 a2 A R N) : 0 < T := Nat.lt_of_le_of_lt (Nat.zero_le _) h.gT
theorem FoS.later {w wc wd : World} {T g4 g8 gr n c8 : Nat} {a0 a1 a2 : Int} {A N : List (List Nat)} {R : List Nat} (h : FoS w wc T g4 g8 gr n c8 a0 a1 a2 A R N) (hb : Below wc.heap.size wc wd) : FoS w wd T g4 g8 gr n c8 a0 a1 a2 A R N :=
  ⟨h.bw.trans (hb.mono h.bw.size), h.low, h.gT, h.tp.later hb, Nat.le_trans h.sz hb.size, h.hA.later hb, h.r4.later hb, h.rR.later hb⟩
theorem FoS.step {w wc wd : World} {T g4 g8 gr n c8 : Nat} {a0 a1 a2 : Int} {A N M : List (List Nat)} {R : List Nat} (h : FoS w wc T g4 g8 gr n c8 a0 a1 a2 A R N) (hs : TStep T wc wd) (ht : TpAt wd T (.pointer (some ⟨T, 0, none⟩)) M) : FoS w wd T g4 g8 gr n c8 a0 a1 a2 A R M :=
  ⟨hs.low h.bw h.low, h.low, h.gT, ht, Nat.le_trans h.sz hs.size, h.hA.tstep hs, hs.block g4 _ h.r4 (Or.inl h.gT), h.rR.tstep hs (by decide) (by decide)⟩
end Go.Proofs.YtepohpniflmblaaDoor
