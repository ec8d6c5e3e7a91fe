
/-
  HistoryTurned: what is plain, and what is held between its calls.
-/
import Derived.Test.YtepohpniflmblaaDoorClR
import Derived.Test.YtepohpniflmblaaDoorClQ
set_option maxRecDepth 100000
namespace Go.Proofs.YtepohpniflmblaaDoor
open Go.RowKit
set_option linter.unusedVariables false
set_option linter.unusedSimpArgs false

theorem TStep.low {W w w' : World} {T : Nat} (hs : TStep T w w') (hB : Below W.heap.size W w) (h0 : W.heap.size ≤ T) : Below W.heap.size W w' :=
  TStep.below hB (TStep.mk hs.os hs.tape hs.output hs.size (fun k o hk h => hs.block k o hk (h.imp (fun h => Nat.lt_of_lt_of_le h h0) id)))
theorem getD_short {P : List (List Nat)} (hP : ∀ x ∈ P, H32 x) (k : Nat) : (P.getD k []).length ≤ 32 := by
  by_cases h : k < P.length
  · have : P.getD k [] ∈ P := by simp only [List.getD]; rw [List.getElem?_eq_getElem h]; exact List.getElem_mem _
    exact Nat.le_of_eq (hP _ this).1
  · simp [List.getD, List.getElem?_eq_none (Nat.le_of_not_lt h)]
theorem joinL_short (s : Sd) {a b : List Nat} (ha : a.length ≤ 32) (hb : b.length ≤ 32) : (joinL s a b).length ≤ 65 := by
  unfold joinL msgN
  split <;> simp <;> omega
theorem grwN_short (S : List Sd) {P : List (List Nat)} (hP : ∀ x ∈ P, H32 x) {h : List Nat} (hh : H32 h) : ∀ k, ∀ l ∈ grwN S P h k, l.length ≤ 65
  | 0, l, hl => by cases hl
  | k + 1, l, hl => by
    unfold grwN at hl
    have q1 := Nat.le_of_eq (befS_32 (S := S) (P := P) hh k).1
    have q2 := Nat.le_of_eq (climbS_32 (S := S) (P := P) hh k).1
    rcases List.mem_append.1 hl with hl | hl
    · rcases List.mem_append.1 hl with hl | hl
      · exact grwN_short S hP hh k l hl
      · split at hl
        · rw [List.mem_singleton] at hl; subst hl; exact joinL_short _ q1 (getD_short hP k)
        · cases hl
    · rw [List.mem_singleton] at hl; subst hl; exact joinL_short _ q2 (getD_short hP k)
theorem climbN_short (S : List Sd) {P : List (List Nat)} (hP : ∀ x ∈ P, H32 x) {h : List Nat} (hh : H32 h) (k : Nat) : ∀ l ∈ climbN S P h k, l.length ≤ 65 := fun l hl => grwN_short S hP hh k l (climbN_grw S P h k l hl)
theorem grownN_len {m n : Nat} (hm : 0 < m) (hmn : m ≤ n) (old : List Nat) (P : List (List Nat)) : (grownN m n old P).length ≤ 2 * (n - 1) := by
  have hw := (wayL_ok _ (m - 1) true 0 n (Nat.le_refl _) (Nat.zero_le _) (by omega)).2.1
  unfold grownN
  split
  · have := grwN_len (wayL (m - 1) true 0 n).2 (othG (wayL (m - 1) true 0 n).1 P) (fstG (wayL (m - 1) true 0 n).1 old P) (wayL (m - 1) true 0 n).2.length
    omega
  · simp
theorem grownN_short {m n : Nat} {old : List Nat} (ho : H32 old) {P : List (List Nat)} (hP : ∀ x ∈ P, H32 x) : ∀ l ∈ grownN m n old P, l.length ≤ 1000 := by
  intro l hl
  unfold grownN at hl
  split at hl
  · have := grwN_short _ (othG_32 hP) (fstG_32 ho hP) _ l hl
    omega
  · cases hl
/-- A cell of another row. -/
theorem HsAt.setOther {w : World} {g n c : Nat} {L : List (List Nat)} (h : HsAt w (.slice (some ⟨g, 0, none⟩) n c) L) {g2 : Nat} (o : Nat) (v : Value) (hne : g ≠ g2) : HsAt (w.setCell ⟨g2, o, none⟩ v) (.slice (some ⟨g, 0, none⟩) n c) L := by
  obtain ⟨hok, p, c', e, hn, hc, hat⟩ := h
  refine ⟨hok, p, c', e, hn, hc, fun i hi => ?_⟩
  obtain ⟨g', off, cs, e', hr, hcs⟩ := hat i hi
  cases e
  cases e'
  exact ⟨g, 0, cs, rfl, (heap_setCell_other w ⟨g2, o, none⟩ g v hne).trans hr, hcs⟩
/-- What is held between the calls: two slices of as many hashes, a tape. -/
structure TuS (w wc : World) (T g8 g9 n c8 c9 : Nat) (A G N : List (List Nat)) : Prop where
  bw : Below w.heap.size w wc
  low : w.heap.size ≤ T
  pos : 0 < T
  tp : TpAt wc T (.pointer (some ⟨T, 0, none⟩)) N
  sz : T ≤ wc.heap.size
  hA : HsAt wc (.slice (some ⟨g8, 0, none⟩) n c8) A
  hG : HsAt wc (.slice (some ⟨g9, 0, none⟩) n c9) G
theorem TuS.later {w wc wd : World} {T g8 g9 n c8 c9 : Nat} {A G N : List (List Nat)} (h : TuS w wc T g8 g9 n c8 c9 A G N) (hb : Below wc.heap.size wc wd) : TuS w wd T g8 g9 n c8 c9 A G N :=
  ⟨h.bw.trans (hb.mono h.bw.size), h.low, h.pos, h.tp.later hb, Nat.le_trans h.sz hb.size, h.hA.later hb, h.hG.later hb⟩
theorem TuS.step {w wc wd : World} {T g8 g9 n c8 c9 : Nat} {A G N M : List (List Nat)} (h : TuS w wc T g8 g9 n c8 c9 A G N) (hs : TStep T wc wd) (ht : TpAt wd T (.pointer (some ⟨T, 0, none⟩)) M) : TuS w wd T g8 g9 n c8 c9 A G M :=
  ⟨hs.low h.bw h.low, h.low, h.pos, ht, Nat.le_trans h.sz hs.size, h.hA.tstep hs, h.hG.tstep hs⟩
end Go.Proofs.YtepohpniflmblaaDoor
