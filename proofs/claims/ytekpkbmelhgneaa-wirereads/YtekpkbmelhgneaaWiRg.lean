
/-
  WireReads: the statement that writes a hash, a number and raw bytes, whatever its order: what holds at each state of it.
-/
import Derived.Test.YtekpkbmelhgneaaWiRv
import Derived.Test.YtekpkbmelhgneaaSts
namespace Go.Proofs.Ytekpkbmelhgneaa
open Go.RowKit
set_option maxRecDepth 100000
set_option linter.unusedSimpArgs false
set_option linter.unusedVariables false

/-- What is held besides the writer. -/
structure RgB (w wr : World) (l : List Int) (t : List Nat) (X Nb : Nat) (u : Value) : Prop where
  rh : Row wr w.heap.size (bytesL t) 40
  rn : Row wr Nb #[.int .u64 (X : Nat), .int .u64 (l.length : Nat)] 26
  own : wr.ownsRow w.heap.size 3 1 u l.length (wants l l.length)
  below : Below w.heap.size w wr
def bytes16 (l : List Int) (t : List Nat) (X : Nat) (b2 b5 b8 : Bool) : List Nat := wB l l.length ++ ((if b2 then t else []) ++ ((if b5 then numB (X, l.length) else []) ++ (if b8 then [9] else [])))
structure RgJ (w wr : World) (l : List Int) (t : List Nat) (X Nb Wb : Nat) (u : Value) (a0 a : Act) (b : Nat → Bool) (v : Value) : Prop where
  df : a.defers = a0.defers
  sz : a.tmps.size = a0.tmps.size
  fr : ∀ k, k < 54 ∨ 62 < k → a.tmps[k]? = a0.tmps[k]?
  s0 : b 0 = true → a.tmps[54]? = some (.agg (bytesL t))
  s1 : b 1 = true → ∃ g, a.tmps[55]? = some (.slice (some ⟨g, 0, none⟩) 1 1) ∧ Row wr g (bytesL t) 40
  s2 : b 2 = true → a.tmps[56]? = some (.pointer (some ⟨Wb, 0, none⟩))
  s3 : b 3 = true → a.tmps[57]? = some (.agg #[.int .u64 (X : Nat), .int .u64 (l.length : Nat)])
  s4 : b 4 = true → ∃ g, a.tmps[58]? = some (.slice (some ⟨g, 0, none⟩) 1 1) ∧ Row wr g #[.int .u64 (X : Nat), .int .u64 (l.length : Nat)] 26
  s5 : b 5 = true → a.tmps[59]? = some (.pointer (some ⟨Wb, 0, none⟩))
  s6 : b 6 = true → ∃ g, a.tmps[60]? = some (.slice (some ⟨g, 0, none⟩) 1 1) ∧ Row wr g (bytesL [9]) 5 ∧ Far Wb v g
  s7 : b 7 = true → ∃ g g', a.tmps[61]? = some (.slice (some ⟨g, 0, none⟩) 2 2) ∧ Row wr g #[.slice none 0 0, .slice (some ⟨g', 0, none⟩) 1 1] 32 ∧ Row wr g' (bytesL [9]) 5 ∧ Far Wb v g'
  wt : WrAt wr Wb v (bytes16 l t X (b 2) (b 5) (b 8))
  hW : w.heap.size ≤ Wb
  hv : ∀ j, v.ownBlock = some j → w.heap.size ≤ j
  st : RgB w wr l t X Nb u
  c5 : b 5 = true → b 2 = true
  c8 : b 8 = true → b 5 = true
theorem RgB.later {w wr w' : World} {l : List Int} {t : List Nat} {X Nb : Nat} {u : Value} (h : RgB w wr l t X Nb u) (hb : Below wr.heap.size wr w') : RgB w w' l t X Nb u :=
  ⟨h.rh.later hb, h.rn.later hb, ownsRow_later h.own hb, h.below.trans (hb.mono h.below.size)⟩
/-- Memory that is new. -/
theorem RgJ.world {w wr w' : World} {l : List Int} {t : List Nat} {X Nb Wb : Nat} {u : Value} {a0 a : Act} {b : Nat → Bool} {v : Value} (h : RgJ w wr l t X Nb Wb u a0 a b v) (hb : Below wr.heap.size wr w') : RgJ w w' l t X Nb Wb u a0 a b v :=
  ⟨h.df, h.sz, h.fr, h.s0, fun k => let ⟨g, h1, h2⟩ := h.s1 k; ⟨g, h1, h2.later hb⟩, h.s2, h.s3, fun k => let ⟨g, h1, h2⟩ := h.s4 k; ⟨g, h1, h2.later hb⟩, h.s5,
    fun k => let ⟨g, h1, h2, h3⟩ := h.s6 k; ⟨g, h1, h2.later hb, h3⟩, fun k => let ⟨g, g', h1, h2, h3, h4⟩ := h.s7 k; ⟨g, g', h1, h2.later hb, h3.later hb, h4⟩, h.wt.later hb, h.hW, h.hv, h.st.later hb, h.c5, h.c8⟩
theorem far_row {wr : World} {Wb : Nat} {v : Value} {L : List Nat} (h : WrAt wr Wb v L) {g : Nat} {cs : Array Value} {ty : TypeId} (hr : Row wr g cs ty) (h1 : ty ≠ 54) (h2 : 5 ≠ ty) : Far Wb v g := ⟨RowN.ne hr h.row h1, own_ne h.own hr h2⟩
theorem WStep.row {wr w' : World} {Wb : Nat} {v v' : Value} (hs : WStep wr w' Wb v v') {g : Nat} {cs : Array Value} {ty : TypeId} (hr : Row wr g cs ty) (hf : Far Wb v g) : Row w' g cs ty := (hs.far hf hr.lt).trans hr
theorem WStep.farOn {wr w' : World} {Wb : Nat} {v v' : Value} (hs : WStep wr w' Wb v v') {g : Nat} (hf : Far Wb v g) (hg : g < wr.heap.size) : Far Wb v' g := ⟨hf.1, fun e => by
  rcases hs.moved g e with e | e
  · exact hf.2 e
  · omega⟩
/-- The writer has written. -/
theorem RgJ.wrote {w wr w' : World} {l : List Int} {t : List Nat} {X Nb Wb : Nat} {u : Value} {a0 a : Act} {b b' : Nat → Bool} {v v' : Value} (h : RgJ w wr l t X Nb Wb u a0 a b v) (hs : WStep wr w' Wb v v') (hw : WrAt w' Wb v' (bytes16 l t X (b' 2) (b' 5) (b' 8)))
    (k0 : b' 0 = b 0) (k1 : b' 1 = b 1) (k3 : b' 3 = b 3) (k4 : b' 4 = b 4) (k6 : b' 6 = b 6) (k7 : b' 7 = b 7) (k2 : b' 2 = true → a.tmps[56]? = some (.pointer (some ⟨Wb, 0, none⟩))) (k5 : b' 5 = true → a.tmps[59]? = some (.pointer (some ⟨Wb, 0, none⟩))) (c5 : b' 5 = true → b' 2 = true) (c8 : b' 8 = true → b' 5 = true) : RgJ w w' l t X Nb Wb u a0 a b' v' := by
  have fH := far_row h.wt h.st.rh (by decide) (by decide)
  have fN := far_row h.wt h.st.rn (by decide) (by decide)
  refine ⟨h.df, h.sz, h.fr, fun k => h.s0 (k0 ▸ k), fun k => ?_, k2, fun k => h.s3 (k3 ▸ k), fun k => ?_, k5, fun k => ?_, fun k => ?_, hw, h.hW, fun j hj => ?_, ⟨hs.row h.st.rh fH, hs.row h.st.rn fN, ?_, ?_⟩, c5, c8⟩
  · obtain ⟨g, h1, h2⟩ := h.s1 (k1 ▸ k)
    exact ⟨g, h1, hs.row h2 (far_row h.wt h2 (by decide) (by decide))⟩
  · obtain ⟨g, h1, h2⟩ := h.s4 (k4 ▸ k)
    exact ⟨g, h1, hs.row h2 (far_row h.wt h2 (by decide) (by decide))⟩
  · obtain ⟨g, h1, h2, h3⟩ := h.s6 (k6 ▸ k)
    exact ⟨g, h1, hs.row h2 h3, hs.farOn h3 h2.lt⟩
  · obtain ⟨g, g', h1, h2, h3, h4⟩ := h.s7 (k7 ▸ k)
    exact ⟨g, g', h1, hs.row h2 (far_row h.wt h2 (by decide) (by decide)), hs.row h3 h4, hs.farOn h4 h3.lt⟩
  · rcases hs.moved j hj with e | e
    · exact h.hv j e
    · exact Nat.le_trans h.st.below.size e
  · refine ownsRow_keep h.st.own fun j h1 h2 h3 => hs.block j h2 (fun e => own_ne h.st.own h.wt.row (by decide) (e ▸ h3)) (fun e => ?_)
    rcases own_own h.wt.own h.st.own (by decide) with k | k
    · rw [k] at e; cases e
    · exact k (e.trans h3.symm)
  · exact h.st.below.trans ⟨hs.os, hs.tape, hs.output, hs.size, fun j hj => hs.block j (Nat.lt_of_lt_of_le hj h.st.below.size) (by have := h.hW; omega) (fun e => by have := h.hv j e; omega)⟩
/-- One more slot. -/
theorem put_at {T : Array Value} {k : Nat} (hk : k < T.size) (x : Value) : (T.setIfInBounds k x)[k]? = some x := by simp [hk]
theorem put_ne {T : Array Value} {k j : Nat} (x : Value) (h : k ≠ j) : (T.setIfInBounds k x)[j]? = T[j]? := by simp [Array.getElem?_setIfInBounds, h]
theorem RgJ.put {w wr : World} {l : List Int} {t : List Nat} {X Nb Wb : Nat} {u : Value} {a0 a : Act} {b : Nat → Bool} {v : Value} (h : RgJ w wr l t X Nb Wb u a0 a b v) (k : Nat) (hk : 54 ≤ k ∧ k ≤ 62) (hz : 62 < a0.tmps.size) (x : Value) (b' : Nat → Bool) (he : ∀ i, i + 54 ≠ k → b' i = b i)
    (hb2 : b' 2 = b 2) (hb5 : b' 5 = b 5) (hb8 : b' 8 = b 8)
    (p0 : k = 54 → x = .agg (bytesL t)) (p1 : k = 55 → ∃ g, x = .slice (some ⟨g, 0, none⟩) 1 1 ∧ Row wr g (bytesL t) 40) (p2 : k = 56 → x = .pointer (some ⟨Wb, 0, none⟩)) (p3 : k = 57 → x = .agg #[.int .u64 (X : Nat), .int .u64 (l.length : Nat)])
    (p4 : k = 58 → ∃ g, x = .slice (some ⟨g, 0, none⟩) 1 1 ∧ Row wr g #[.int .u64 (X : Nat), .int .u64 (l.length : Nat)] 26) (p5 : k = 59 → x = .pointer (some ⟨Wb, 0, none⟩)) (p6 : k = 60 → ∃ g, x = .slice (some ⟨g, 0, none⟩) 1 1 ∧ Row wr g (bytesL [9]) 5 ∧ Far Wb v g)
    (p7 : k = 61 → ∃ g g', x = .slice (some ⟨g, 0, none⟩) 2 2 ∧ Row wr g #[.slice none 0 0, .slice (some ⟨g', 0, none⟩) 1 1] 32 ∧ Row wr g' (bytesL [9]) 5 ∧ Far Wb v g') :
    RgJ w wr l t X Nb Wb u a0 (a.put (some k) x) b' v := by
  have hks : k < a.tmps.size := by rw [h.sz]; omega
  have ht : (a.put (some k) x).tmps = a.tmps.setIfInBounds k x := rfl
  refine ⟨h.df, by rw [ht]; simp [h.sz], fun j hj => by rw [ht, put_ne x (by omega)]; exact h.fr j hj, fun q => ?_, fun q => ?_, fun q => ?_, fun q => ?_, fun q => ?_, fun q => ?_, fun q => ?_, fun q => ?_, by rw [hb2, hb5, hb8]; exact h.wt, h.hW, h.hv, h.st, by rw [hb2, hb5]; exact h.c5, by rw [hb5, hb8]; exact h.c8⟩
  · by_cases e : k = 54
    · subst e; rw [ht, put_at hks, p0 rfl]
    · rw [ht, put_ne x e]; exact h.s0 (he 0 (fun q => e q.symm) ▸ q)
  · by_cases e : k = 55
    · subst e; obtain ⟨g, rfl, hg⟩ := p1 rfl; exact ⟨g, by rw [ht, put_at hks], hg⟩
    · rw [ht, put_ne x e]; exact h.s1 (he 1 (fun q => e q.symm) ▸ q)
  · by_cases e : k = 56
    · subst e; rw [ht, put_at hks, p2 rfl]
    · rw [ht, put_ne x e]; exact h.s2 (he 2 (fun q => e q.symm) ▸ q)
  · by_cases e : k = 57
    · subst e; rw [ht, put_at hks, p3 rfl]
    · rw [ht, put_ne x e]; exact h.s3 (he 3 (fun q => e q.symm) ▸ q)
  · by_cases e : k = 58
    · subst e; obtain ⟨g, rfl, hg⟩ := p4 rfl; exact ⟨g, by rw [ht, put_at hks], hg⟩
    · rw [ht, put_ne x e]; exact h.s4 (he 4 (fun q => e q.symm) ▸ q)
  · by_cases e : k = 59
    · subst e; rw [ht, put_at hks, p5 rfl]
    · rw [ht, put_ne x e]; exact h.s5 (he 5 (fun q => e q.symm) ▸ q)
  · by_cases e : k = 60
    · subst e; obtain ⟨g, rfl, hg⟩ := p6 rfl; exact ⟨g, by rw [ht, put_at hks], hg⟩
    · rw [ht, put_ne x e]; exact h.s6 (he 6 (fun q => e q.symm) ▸ q)
  · by_cases e : k = 61
    · subst e; obtain ⟨g, g', rfl, hg⟩ := p7 rfl; exact ⟨g, g', by rw [ht, put_at hks], hg⟩
    · rw [ht, put_ne x e]; exact h.s7 (he 7 (fun q => e q.symm) ▸ q)
/-- All slots known: the act. -/
theorem mid_ext (T T0 : Array Value) (hs : T.size = T0.size) (hz : 62 < T0.size) (hf : ∀ k, k < 54 ∨ 62 < k → T[k]? = T0[k]?) :
    T = ((((((((T0.setIfInBounds 54 (T.getD 54 undef)).setIfInBounds 55 (T.getD 55 undef)).setIfInBounds 56 (T.getD 56 undef)).setIfInBounds 57 (T.getD 57 undef)).setIfInBounds 58 (T.getD 58 undef)).setIfInBounds 59 (T.getD 59 undef)).setIfInBounds 60 (T.getD 60 undef)).setIfInBounds 61 (T.getD 61 undef)).setIfInBounds 62 (T.getD 62 undef) := by
  apply Array.ext_getElem?
  intro k
  by_cases hk : k < 54 ∨ 62 < k
  · rw [put_ne _ (by omega), put_ne _ (by omega), put_ne _ (by omega), put_ne _ (by omega), put_ne _ (by omega), put_ne _ (by omega), put_ne _ (by omega), put_ne _ (by omega), put_ne _ (by omega)]
    exact hf k hk
  · have hc : k = 54 ∨ k = 55 ∨ k = 56 ∨ k = 57 ∨ k = 58 ∨ k = 59 ∨ k = 60 ∨ k = 61 ∨ k = 62 := by omega
    have hT : T[k]? = some (T.getD k undef) := by
      have : k < T.size := by omega
      simp [this]
    rw [hT]
    rcases hc with rfl | rfl | rfl | rfl | rfl | rfl | rfl | rfl | rfl <;> simp [Array.getElem?_setIfInBounds, hz] <;> omega
end Go.Proofs.Ytekpkbmelhgneaa
