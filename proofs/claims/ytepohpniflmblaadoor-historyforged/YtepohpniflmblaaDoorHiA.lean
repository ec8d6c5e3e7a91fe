
/-
  sha.Of with a tape or none, as one contract; what a call that notes leaves alone. For at most 1000 notes, and a million bytes.
-/
import Derived.Test.YtepohpniflmblaaDoorShN
namespace Go.Proofs.YtepohpniflmblaaDoor
open Go.RowKit
set_option maxRecDepth 100000
set_option linter.unusedVariables false
set_option linter.unusedSimpArgs false

/-- A block that no tape has. -/
def Safe (o : Obj) : Prop := ∀ cs t f, o = .cells cs t f → t ≠ 40 ∧ t ≠ 37
/-- What a call that may note leaves alone: all that was there ahead of base, and all but tapes and lists of notes. -/
structure TStep (base : Nat) (w w' : World) : Prop where
  os : w'.os = w.os
  tape : w'.tape = w.tape
  output : w'.output = w.output
  size : w.heap.size ≤ w'.heap.size
  block : ∀ k o, w.heap[k]? = some o → (k < base ∨ Safe o) → w'.heap[k]? = some o
theorem TStep.of {base : Nat} {w w' : World} (h : Below w.heap.size w w') : TStep base w w' :=
  ⟨h.os, h.tape, h.output, h.size, fun k o hk _ => (h.block k (Array.getElem?_eq_some_iff.1 hk).1).trans hk⟩
theorem TStep.refl (base : Nat) (w : World) : TStep base w w := .of (Below.refl _ _)
theorem TStep.trans {base : Nat} {a b c : World} (h : TStep base a b) (k : TStep base b c) : TStep base a c :=
  ⟨k.os.trans h.os, k.tape.trans h.tape, k.output.trans h.output, Nat.le_trans h.size k.size, fun i o hi hs => k.block i o (h.block i o hi hs) hs⟩
theorem TStep.below {w0 w w' : World} (hb : Below w0.heap.size w0 w) (h : TStep w0.heap.size w w') : Below w0.heap.size w0 w' :=
  ⟨h.os.trans hb.os, h.tape.trans hb.tape, h.output.trans hb.output, Nat.le_trans hb.size h.size, fun k hk => by
    have hk' : k < w.heap.size := Nat.lt_of_lt_of_le hk hb.size
    have e := h.block k w.heap[k] (by simp [hk']) (Or.inl hk)
    rw [e, ← hb.block k hk]
    simp [hk']⟩
theorem Safe.row {cs : Array Value} {t : TypeId} {f : Nat × Nat} (h1 : t ≠ 40) (h2 : t ≠ 37) : Safe (.cells cs t f) := fun _ _ _ e => by cases e; exact ⟨h1, h2⟩
theorem Row.tstep {base : Nat} {w w' : World} {b : Nat} {cs : Array Value} {t : TypeId} (h : Row w b cs t) (hs : TStep base w w') (h1 : t ≠ 40) (h2 : t ≠ 37) : Row w' b cs t := hs.block b _ h (Or.inr (Safe.row h1 h2))
theorem ownsRow_tstep {base b n sz : Nat} {w w' : World} {e : TypeId} {v : Value} {xs : List Value} (h : w.ownsRow b e sz v n xs) (hs : TStep base w w') (h1 : e ≠ 40) (h2 : e ≠ 37) : w'.ownsRow b e sz v n xs :=
  ⟨h.1, h.2.imp id fun ⟨g, cap, cur, e, k1, k2, k3⟩ => ⟨g, cap, cur, e, k1, hs.block g _ k2 (Or.inr (Safe.row h1 h2)), k3⟩⟩
theorem Own.tstep {base b : Nat} {w w' : World} {v : Value} {l : List Nat} (h : Own w b v l) (hs : TStep base w w') : Own w' b v l := ownsRow_tstep h hs (by decide) (by decide)
theorem Tab.tstep {base : Nat} {w w' : World} (h : Tab w) (hb : 0 < base) (hs : TStep base w w') : Tab w' := by
  intro i hi
  have hp := h.pos
  have e := hs.block 0 w.heap[0] (by simp [hp]) (Or.inl hb)
  exact (World.cell?_of_block (a := ⟨0, i, none⟩) (by rw [e]; simp [hp])).trans (h i hi)
theorem KeptBut.tstep {base T : Nat} {w w' : World} {vN : Value} {ns : List Value} (h : KeptBut w w' T vN) (ht : TapeAt w base T vN ns) : TStep base w w' :=
  ⟨h.os, h.tape, h.output, h.size, fun k o hk hs => by
    have hlt := (Array.getElem?_eq_some_iff.1 hk).1
    have h1 : k ≠ T := by
      rintro rfl
      rcases hs with hs | hs
      · have := ht.le; omega
      · have hr := ht.row
        unfold Row at hr
        rw [hk] at hr
        exact (hs _ _ _ (Option.some.inj hr)).1 rfl
    have h2 : some k ≠ vN.ownBlock := by
      intro e
      obtain ⟨_, ⟨rfl, _⟩ | ⟨g, cap, cur, rfl, hb, hg, _⟩⟩ := id ht.own
      · cases e
      · simp [Value.ownBlock] at e
        subst e
        rcases hs with hs | hs
        · omega
        · rw [hk] at hg
          exact (hs _ _ _ (Option.some.inj hg)).2 rfl
    exact (h.block k hlt h1 h2).trans hk⟩
/-- A tape that holds these notes; or none, whatever is said of its notes. -/
def TpAt (w : World) (base : Nat) (tv : Value) (N : List (List Nat)) : Prop :=
  tv = .pointer none ∨ ∃ T vN ns, tv = .pointer (some ⟨T, 0, none⟩) ∧ TapeAt w base T vN ns ∧ ns.length = N.length ∧ (∀ i, i < N.length → Own w base (ns.getD i undef) (N.getD i [])) ∧ ∀ l ∈ N, W8 l
theorem TpAt.nil (w : World) (base : Nat) (N : List (List Nat)) : TpAt w base (.pointer none) N := Or.inl rfl
theorem TpAt.later {w w' : World} {base : Nat} {tv : Value} {N : List (List Nat)} (h : TpAt w base tv N) (hb : Below w.heap.size w w') : TpAt w' base tv N := by
  rcases h with h | ⟨T, vN, ns, e, ht, hl, ho, h8⟩
  · exact Or.inl h
  · exact Or.inr ⟨T, vN, ns, e, ⟨ht.row.later hb, ownsRow_later ht.own hb, ht.ne, ht.le⟩, hl, fun i hi => ownsRow_later (ho i hi) hb, h8⟩
theorem TpAt.form {w : World} {base : Nat} {tv : Value} {N : List (List Nat)} (h : TpAt w base tv N) : ∃ p, tv = .pointer p := by
  rcases h with h | ⟨T, _, _, e, _⟩
  · exact ⟨_, h⟩
  · exact ⟨_, e⟩
/-- A new tape. -/
theorem TpAt.new {w w' : World} {base T : Nat} (hr : Row w T #[.slice none 0 0] 40) (hb : base ≤ T) : TpAt w base (.pointer (some ⟨T, 0, none⟩)) [] :=
  Or.inr ⟨T, _, [], rfl, ⟨hr, World.ownsRow_nil _ _ _ _, (fun e => by cases e), hb⟩, rfl, fun i hi => by simp at hi, fun l hl => by cases hl⟩
/-- A block that is new is written. -/
theorem TStep.setNew {base : Nat} {w w1 : World} (h : TStep base w w1) {g : Nat} (hg : w.heap.size ≤ g) (ds : Array Value) : TStep base w (w1.setRow g ds) :=
  ⟨h.os, h.tape, h.output, by simp [World.setRow]; exact h.size, fun k o hk hs => by
    have hlt := (Array.getElem?_eq_some_iff.1 hk).1
    exact (setRow_other w1 g k ds (by omega)).trans (h.block k o hk hs)⟩
theorem TpAt.setNew {w : World} {base : Nat} {tv : Value} {N : List (List Nat)} (h : TpAt w base tv N) {g : Nat} {cs : Array Value} {t : TypeId} (hr : Row w g cs t) (h1 : t ≠ 40) (h2 : 37 ≠ t) (h3 : 5 ≠ t) (ds : Array Value) : TpAt (w.setRow g ds) base tv N := by
  rcases h with h | ⟨T, vN, ns, e, ht, hl, ho, h8⟩
  · exact Or.inl h
  · refine Or.inr ⟨T, vN, ns, e, ⟨ht.row.setRowOther _ (fun e => ?_), ownsRow_row ht.own (own_ne ht.own hr h2) _, ht.ne, ht.le⟩, hl, fun i hi => ownsRow_row (ho i hi) (own_ne (ho i hi) hr h3) _, h8⟩
    subst e
    have e2 := hr.symm.trans ht.row
    simp at e2
    exact h1 e2.2
/-- sha.Of. -/
theorem of_tp (pv : Value) (L : List (List Nat)) (M H : List Nat) (base : Nat) (tv : Value) (N : List (List Nat)) (w : World) (hp : PartsAt w pv L) (hfl : L.flatten = M) (hl : M.length ≤ 1000000) (ht : Tab w) (h0 : 0 < base) (hbw : base ≤ w.heap.size) (hH : hashF KW M = H) (htp : TpAt w base tv N) (hN : N.length ≤ 1000) :
    Calls Tryd.prog 25 #[tv, pv] w fun e w' => e = .returned (.agg (bytesL H)) ∧ TpAt w' base tv (N ++ [M]) ∧ TStep base w w' := by
  have h8 : W8 M := by rw [← hfl]; exact hp.ok
  rcases htp with rfl | ⟨T, vN, ns, rfl, hta, hln, ho, hn8⟩
  · refine (of_eq pv L M H w hp hfl hl ht hH).mono ?_
    rintro e w' ⟨rfl, hb⟩
    exact ⟨rfl, TpAt.nil _ _ _, .of hb⟩
  · refine (of_tape pv L M H base T vN ns w hp hfl hl ht hH hta (by omega) (by have := hta.le; omega) (fun e => ?_)).mono ?_
    · have := (hta.own.lt 0 e.symm).1; omega
    rintro e w' ⟨vN', u, rfl, hta', hu, hk⟩
    have hs := hk.tstep hta
    refine ⟨rfl, Or.inr ⟨T, vN', ns ++ [u], rfl, hta', by simp [hln], fun i hi => ?_, fun l hl => ?_⟩, hs⟩
    · rw [List.length_append, List.length_singleton] at hi
      rcases Nat.lt_or_ge i N.length with hlt | hge
      · have := (ho i hlt).tstep hs
        simpa [List.getD, List.getElem?_append, hlt, hln] using this
      · obtain rfl : i = N.length := by omega
        have e1 : (ns ++ [u]).getD N.length undef = u := by simp [List.getD, ← hln]
        have e2 : (N ++ [M]).getD N.length [] = M := by simp [List.getD]
        rw [e1, e2]
        exact ⟨hu.1, hu.2.imp id fun ⟨g, cap, cur, e, h1, h2⟩ => ⟨g, cap, cur, e, Nat.le_trans hbw h1, h2⟩⟩
    · rcases List.mem_append.1 hl with hl | hl
      · exact hn8 l hl
      · obtain rfl := List.mem_singleton.1 hl; exact h8
end Go.Proofs.YtepohpniflmblaaDoor
