
/-
  A region that draws its order, gone through by states: which operations have come up is a function b; what their slots hold is G. For any program.
-/
import Derived.Test.YtmmnlgcpiljdbaaDoorSts
import Derived.RowKit
namespace Go.Proofs.YtmmnlgcpiljdbaaDoor
set_option linter.unusedVariables false
set_option linter.unusedSimpArgs false
open Go.RowKit

/-- b with number i set. -/
def onb (b : Nat → Bool) (i : Nat) : Nat → Bool := fun j => if j = i then true else b j
theorem onb_self (b : Nat → Bool) (i : Nat) : onb b i i = true := if_pos rfl
theorem onb_ne (b : Nat → Bool) {i j : Nat} (h : j ≠ i) : onb b i j = b j := if_neg h
theorem tput_at {T : Array Value} {k : Nat} (hk : k < T.size) (x : Value) : (T.setIfInBounds k x)[k]? = some x := by simp [hk]
theorem tput_ne {T : Array Value} {k j : Nat} (x : Value) (h : k ≠ j) : (T.setIfInBounds k x)[j]? = T[j]? := by simp [Array.getElem?_setIfInBounds, h]
/-- The slots from s on, n of them, hold G where b says that they were written; all others are as in a0. -/
structure StJ (G : Nat → Value → Prop) (s n : Nat) (a0 a : Act) (b : Nat → Bool) : Prop where
  df : a.defers = a0.defers
  sz : a.tmps.size = a0.tmps.size
  fr : ∀ k, k < s ∨ s + n ≤ k → a.tmps[k]? = a0.tmps[k]?
  hz : s + n ≤ a0.tmps.size
  got : ∀ k, k < n → b k = true → ∃ x, a.tmps[s + k]? = some x ∧ G k x
theorem StJ.start {G : Nat → Value → Prop} {s n : Nat} {a0 : Act} (hz : s + n ≤ a0.tmps.size) : StJ G s n a0 a0 (fun _ => false) := ⟨rfl, rfl, fun _ _ => rfl, hz, fun _ _ h => by cases h⟩
theorem StJ.mono {G G' : Nat → Value → Prop} {s n : Nat} {a0 a : Act} {b : Nat → Bool} (h : StJ G s n a0 a b) (hg : ∀ k x, G k x → G' k x) : StJ G' s n a0 a b :=
  ⟨h.df, h.sz, h.fr, h.hz, fun k hk hb => let ⟨x, e, hx⟩ := h.got k hk hb; ⟨x, e, hg k x hx⟩⟩
theorem StJ.put {G : Nat → Value → Prop} {s n : Nat} {a0 a : Act} {b : Nat → Bool} (h : StJ G s n a0 a b) (k : Nat) (hk : k < n) (d : Nat) (hd : d = s + k) (x : Value) (hx : G k x) : StJ G s n a0 (a.put (some d) x) (onb b k) := by
  subst hd
  have hz := h.hz
  have ht : (a.put (some (s + k)) x).tmps = a.tmps.setIfInBounds (s + k) x := rfl
  refine ⟨h.df, by rw [ht]; simp [h.sz], fun j hj => by rw [ht, tput_ne x (by omega)]; exact h.fr j hj, hz, fun j hj hb => ?_⟩
  by_cases e : j = k
  · subst e
    exact ⟨x, by rw [ht, tput_at (by rw [h.sz]; omega)], hx⟩
  · rw [onb_ne b e] at hb
    obtain ⟨y, e1, e2⟩ := h.got j hj hb
    exact ⟨y, by rw [ht, tput_ne x (by omega), e1], e2⟩
theorem StJ.old {G : Nat → Value → Prop} {s n : Nat} {a0 a : Act} {b : Nat → Bool} (h : StJ G s n a0 a b) {k : Nat} {x : Value} (hk : k < s ∨ s + n ≤ k) (h0 : a0.tmps[k]? = some x) : a.tmps[k]? = some x := (h.fr k hk).trans h0
/-- All slots, laid one by one. -/
def layT (T0 T : Array Value) (s : Nat) : Nat → Array Value
  | 0 => T0
  | n + 1 => (layT T0 T s n).setIfInBounds (s + n) (T.getD (s + n) undef)
theorem layT_size (T0 T : Array Value) (s : Nat) : ∀ n, (layT T0 T s n).size = T0.size
  | 0 => rfl
  | n + 1 => by show ((layT T0 T s n).setIfInBounds _ _).size = _; rw [Array.size_setIfInBounds, layT_size T0 T s n]
theorem layT_at (T0 T : Array Value) (s : Nat) : ∀ n k, s + n ≤ T0.size → T.size = T0.size → (layT T0 T s n)[k]? = if s ≤ k ∧ k < s + n then T[k]? else T0[k]?
  | 0, k, _, _ => by rw [if_neg (by omega)]; rfl
  | n + 1, k, h, hs => by
    show ((layT T0 T s n).setIfInBounds (s + n) (T.getD (s + n) undef))[k]? = _
    by_cases e : s + n = k
    · subst e
      rw [tput_at (by rw [layT_size]; omega), if_pos (by omega)]
      have : s + n < T.size := by omega
      simp [this]
    · rw [tput_ne _ e, layT_at T0 T s n k (by omega) hs]
      by_cases c : s ≤ k ∧ k < s + n
      · rw [if_pos c, if_pos (by omega)]
      · rw [if_neg c, if_neg (by omega)]
theorem StJ.all {G : Nat → Value → Prop} {s n : Nat} {a0 a : Act} {b : Nat → Bool} (h : StJ G s n a0 a b) : a = { tmps := layT a0.tmps a.tmps s n, defers := a0.defers } := by
  have e : a.tmps = layT a0.tmps a.tmps s n := by
    apply Array.ext_getElem?
    intro k
    rw [layT_at _ _ _ _ _ h.hz h.sz]
    by_cases c : s ≤ k ∧ k < s + n
    · rw [if_pos c]
    · rw [if_neg c]; exact h.fr k (by omega)
  obtain ⟨T, D⟩ := a
  have hd : D = a0.defers := h.df
  subst hd
  simp only at e ⊢
  rw [← e]
section
variable {P : Program} {ops : Array Oper} {Q : Exit → Act → World → Prop}
/-- All edges go back. -/
def backB (ops : Array Oper) : Bool := (List.range ops.size).all fun i => match ops[i]? with | some o => o.after.all (fun e => decide (e.on < i)) | none => true
theorem backB_spec (h : backB ops = true) {i : Nat} {o : Oper} (ho : ops[i]? = some o) {e : Edge} (he : e ∈ o.after) : e.on < i := by
  have h1 := List.all_eq_true.1 h i (List.mem_range.2 (Array.getElem?_eq_some_iff.1 ho).1)
  rw [ho] at h1
  obtain ⟨k, hk, rfl⟩ := Array.getElem_of_mem he
  simpa using (Array.all_eq_true.1 h1) k hk
theorem wp_region_st {id : Nat} {a : Act} {w : World} (hm : P.follows .mixedOrders = true) (hb : backB ops = true) (J : (Nat → Bool) → Act → World → Prop)
    (h0 : J (fun _ => false) a w.drew) (hdone : ∀ b a w, (∀ k, k < ops.size → b k = true) → J b a w → Q .normal a w)
    (hstep : ∀ b a w i oi, i < ops.size → ops[i]? = some oi → b i = false → (∀ e ∈ oi.after, Region.binds .any e = true → b e.on = true) → J b a w → wpOp P ops Q i (fun a' w' => J (onb b i) a' w') a w) :
    (Code.region id ops true).wp P Q a w := by
  refine wp_region_any hm ?_
  refine wpAny_states (fun listed a w => ∃ b : Nat → Bool, (listed.size = ops.size ∧ ∀ k, k < ops.size → listed[k]? = some (b k)) ∧ J b a w) ?_ ?_ _ _ _ _ (by simp) ⟨fun _ => false, ⟨by simp, fun k hk => by simp [hk]⟩, h0⟩
  · rintro listed a w ⟨b, ⟨hs, hl⟩, hJ⟩ hr
    refine hdone b a w ?_ hJ
    have : ∀ n k, k ≤ n → k < ops.size → b k = true := by
      intro n
      induction n with
      | zero =>
        intro k hk hlt
        obtain rfl : k = 0 := by omega
        cases hbk : b 0 with
        | true => rfl
        | false =>
          have hl0 := hl 0 hlt
          rw [hbk] at hl0
          have : 0 ∈ Region.ready .any ops listed := mem_ready.2 ⟨by simp [Array.getD_eq_getD_getElem?, hl0], ops[0], by simp, fun e he _ => by have := backB_spec hb (i := 0) (o := ops[0]) (by simp) he; omega⟩
          rw [hr] at this
          cases this
      | succ n ih =>
        intro k hk hlt
        rcases Nat.lt_or_ge k (n + 1) with h | h
        · exact ih k (by omega) hlt
        · obtain rfl : k = n + 1 := by omega
          cases hbk : b (n + 1) with
          | true => rfl
          | false =>
            have hl0 := hl (n + 1) hlt
            rw [hbk] at hl0
            have : n + 1 ∈ Region.ready .any ops listed := mem_ready.2 ⟨by simp [Array.getD_eq_getD_getElem?, hl0], ops[n + 1], by simp, fun e he _ => by
              have h1 := backB_spec hb (i := n + 1) (o := ops[n + 1]) (by simp) he
              have h2 := hl e.on (by omega)
              rw [ih e.on (by omega) (by omega)] at h2
              simp [Array.getD_eq_getD_getElem?, h2]⟩
            rw [hr] at this
            cases this
    exact fun k hk => this k k (Nat.le_refl _) hk
  · rintro listed a w i ⟨b, ⟨hs, hl⟩, hJ⟩ hi
    obtain ⟨h1, oi, hoi, h2⟩ := mem_ready.1 hi
    have hlt := (Array.getElem?_eq_some_iff.1 hoi).1
    have hbi : b i = false := by
      have := hl i hlt
      simpa [Array.getD_eq_getD_getElem?, this] using h1
    refine wpOp_mono (fun a' w' h' => ?_) (hstep b a w i oi hlt hoi hbi (fun e he hbd => by
      have h3 := h2 e he hbd
      have h4 := hl e.on (by have := backB_spec hb hoi he; omega)
      simpa [Array.getD_eq_getD_getElem?, h4] using h3) hJ)
    refine ⟨onb b i, ⟨by simpa using hs, fun k hk => ?_⟩, h'⟩
    by_cases e : i = k
    · subst e
      rw [onb_self]
      simp [hs, hlt]
    · rw [onb_ne b (fun h => e h.symm), Array.getElem?_setIfInBounds, if_neg e, hl k hk]
theorem wpOp_op {i : Nat} {oi : Oper} {K : Act → World → Prop} {a : Act} {w : World} (hi' : ops.toList[i]? = some oi) (hg : oi.guard = none) (h : ∀ K' : Act → World → Prop, Shut (∀ a' w', K a' w' → K' a' w') → oi.wp P a w K' Q) : wpOp P ops Q i K a w := by
  have hi : ops[i]? = some oi := by simpa using hi'
  unfold wpOp
  rw [hi]
  simp only [Region.wanted, hg]
  exact Or.inl (h _ (fun _ _ h => h))
end
end Go.Proofs.YtmmnlgcpiljdbaaDoor
