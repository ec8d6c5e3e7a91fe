
/-
  What any bytes are, told by parts: errors; requests that were read, as they are handed to Tame.
-/
import Derived.Test.YtiiaceeaffdmpaaWiL4
namespace Go.Proofs.Ytiiaceeaffdmpaa
open Go.RowKit
set_option maxRecDepth 100000

def Ac.inn (a : Ac) : AIn := ⟨a.cells, a.hi, a.lo, a.led, a.fl⟩
def Tr.inn (a : Tr) : TIn := ⟨a.cells, a.h1, a.l1, a.h2, a.l2, a.h3, a.l3, a.h4, a.l4, a.h5, a.l5, a.tm, a.led, a.fl⟩
theorem Ac.inn_ok (a : Ac) (h : a.fits) : a.inn.ok := ⟨rfl, Ac.one a, rfl, rfl, rfl, rfl, h.1⟩
theorem Tr.inn_ok (a : Tr) (h : a.fits) : a.inn.ok := ⟨rfl, Tr.one a, rfl, rfl, rfl, rfl, rfl, rfl, rfl, rfl, rfl, rfl, rfl, rfl, rfl, h.1.1, h.1.2.1, h.1.2.2.1, h.1.2.2.2.1, h.1.2.2.2.2⟩
theorem Ac.inn_tame (a : Ac) (h : a.fits) : a.inn.tame = a := by
  obtain ⟨hi, lo, led, fl⟩ := a
  simp [AIn.tame, Ac.inn, low_id _ _ h.2.1, low_id _ _ h.2.2]
theorem Tr.inn_tame (a : Tr) (h : a.fits) : a.inn.tame = a := by
  obtain ⟨h1, l1, h2, l2, h3, l3, h4, l4, h5, l5, tm, led, fl⟩ := a
  simp [TIn.tame, Tr.inn, low_id _ _ h.2.1, low_id _ _ h.2.2.1, low_id _ _ h.2.2.2]
/-- What was read, with a kind of one less. -/
def Rq.inn (q : Rq) : RIn := ⟨(q.kind : Int) - 1, q.acs.map Ac.inn, q.trs.map Tr.inn, q.hi, q.lo, q.fr, q.to, q.lim⟩
theorem map_inn_ac (L : List Ac) (h : ∀ a ∈ L, Ac.fits a) : (L.map Ac.inn).map AIn.tame = L := by
  rw [List.map_map]
  conv => rhs; rw [← List.map_id L]
  exact List.map_congr_left fun a ha => Ac.inn_tame a (h a ha)
theorem map_inn_tr (L : List Tr) (h : ∀ a ∈ L, Tr.fits a) : (L.map Tr.inn).map TIn.tame = L := by
  rw [List.map_map]
  conv => rhs; rw [← List.map_id L]
  exact List.map_congr_left fun a ha => Tr.inn_tame a (h a ha)
theorem low_kind (k j : Nat) (h : k = j + 1) (hj : j < 9) : low 256 ((k : Int) - 1) % 9 = j := by
  subst h
  rw [show (((j + 1 : Nat) : Int) - 1) = ((j : Nat) : Int) from by omega, low_id 256 j (by omega)]
  omega
theorem tame_inn (q : Rq) (h : q.good) : q.inn.tame = q := by
  rcases h with ⟨L, rfl, hL, hf⟩ | ⟨L, rfl, hL, hf⟩ | ⟨x, rfl, hx⟩ | ⟨k, hi, lo, rfl, hk, hw⟩ | ⟨k, hi, lo, fr, to, lim, rfl, hk, hw, h1, h2, h3⟩ | ⟨fr, to, rfl, h1, h2⟩
  · unfold RIn.tame Rq.inn
    dsimp only
    rw [if_pos (low_kind 1 0 rfl (by decide)), List.take_of_length_le (by simpa using hL), map_inn_ac L hf]
  · unfold RIn.tame Rq.inn
    dsimp only
    rw [low_kind 2 1 rfl (by decide), if_neg (by decide), if_pos rfl, List.take_of_length_le (by simpa using hL), map_inn_tr L hf]
  · unfold RIn.tame Rq.inn
    dsimp only
    rw [low_kind 3 2 rfl (by decide), if_neg (by decide), if_neg (by decide), if_pos rfl, low_id _ _ hx]
  · unfold RIn.tame Rq.inn
    dsimp only
    rcases hk with rfl | rfl | rfl
    · rw [low_kind 4 3 rfl (by decide)]; rfl
    · rw [low_kind 5 4 rfl (by decide)]; rfl
    · rw [low_kind 7 6 rfl (by decide)]; rfl
  · unfold RIn.tame Rq.inn
    dsimp only
    rw [low_id _ _ h1, low_id _ _ h2, low_id _ _ h3]
    rcases hk with rfl | rfl
    · rw [low_kind 6 5 rfl (by decide)]; rfl
    · rw [low_kind 8 7 rfl (by decide)]; rfl
  · unfold RIn.tame Rq.inn
    dsimp only
    rw [low_kind 9 8 rfl (by decide), low_id _ _ h1, low_id _ _ h2]; rfl
theorem rows_in {α β : Type} (f : α → List Value) (g : β → Array Value) (t : α → β) (hgt : ∀ a, (g (t a)).toList = f a) (z : Nat) (hf : ∀ a, (f a).length = z) {w : World} {base : Nat} {ty : TypeId} {v : Value} {L : List α} (h : w.ownsRow base ty z v L.length (L.flatMap f)) (hl : L.length ≤ 1000) : RowsIn g z w v (L.map t) := by
  obtain ⟨p, n, c, rfl, hn⟩ := ownsRow_form h
  subst hn
  refine ⟨by simp [maxLen]; omega, p, c, by simp, fun k b hk => ?_⟩
  rw [List.getElem?_map] at hk
  cases hLk : L[k]? with
  | none => rw [hLk] at hk; cases hk
  | some a =>
    rw [hLk] at hk
    obtain rfl : t a = b := by simpa using hk
    obtain ⟨gg, rfl, hg, hr⟩ := rows_range' f z hf h k a hLk
    exact ⟨gg, 0, rfl, hg, by rw [Nat.zero_add, hgt]; exact hr⟩
theorem RqAt.inn {w : World} {base k : Nat} {va vt : Value} {A : List Ac} {T : List Tr} {hi lo fr to lim : Nat} (ha : AcsAt w base va A) (ht : TrsAt w base vt T) (hg : Rq.good ⟨k, A, T, hi, lo, fr, to, lim⟩) :
    RInAt w (.agg (riC ((k : Int) - 1) va vt hi lo fr to lim)) (Rq.inn ⟨k, A, T, hi, lo, fr, to, lim⟩) := by
  obtain ⟨l1, l2⟩ := Rq.good_len hg
  have z64 : Word64 (0, 0) := ⟨by decide, by decide⟩
  refine ⟨⟨va, vt, rfl, rows_in (fun a : Ac => a.cells.toList) AIn.cs Ac.inn (fun _ => rfl) 46 (fun _ => rfl) ha l1, rows_in (fun a : Tr => a.cells.toList) TIn.cs Tr.inn (fun _ => rfl) 16 (fun _ => rfl) ht l2⟩, ?_, ?_, ?_⟩
  · intro a h
    obtain ⟨x, hx, rfl⟩ := List.mem_map.1 h
    refine Ac.inn_ok x ?_
    rcases hg with ⟨L, e, _, hf⟩ | ⟨L, e, _, hf⟩ | ⟨x, e, _⟩ | ⟨k, hi, lo, e, _⟩ | ⟨k, hi, lo, fr, to, lim, e, _⟩ | ⟨fr, to, e, _⟩ <;> (rw [e] at hx; first | exact hf x hx | cases hx)
  · intro a h
    obtain ⟨x, hx, rfl⟩ := List.mem_map.1 h
    refine Tr.inn_ok x ?_
    rcases hg with ⟨L, e, _, hf⟩ | ⟨L, e, _, hf⟩ | ⟨x, e, _⟩ | ⟨k, hi, lo, e, _⟩ | ⟨k, hi, lo, fr, to, lim, e, _⟩ | ⟨fr, to, e, _⟩ <;> (rw [e] at hx; first | exact hf x hx | cases hx)
  · rcases hg with ⟨L, e, _, hf⟩ | ⟨L, e, _, hf⟩ | ⟨x, e, _⟩ | ⟨k, hi, lo, e, _, hw⟩ | ⟨k, hi, lo, fr, to, lim, e, _, hw, _⟩ | ⟨fr, to, e, _⟩
    · rw [e]; exact z64
    · rw [e]; exact z64
    · rw [e]; exact z64
    · rw [e]; exact hw
    · rw [e]; exact hw
    · rw [e]; exact z64

/-- What the error is. -/
theorem rF_err (s : List Nat × Bool) : (rF s).2.1 = 0 ∨ ((rF s).2.1 = 1 ∧ ¬ ((rI 1 s = 1 ∨ rI 1 s = 2) ∧ 8 < rI 1 (rDrop 1 s))) ∨ ((rF s).2.1 = 2 ∧ (rI 1 s = 1 ∨ rI 1 s = 2) ∧ 8 < rI 1 (rDrop 1 s)) := by
  unfold rF
  repeat' split
  all_goals first | exact Or.inl rfl | (refine Or.inr (Or.inr ⟨rfl, ?_, ?_⟩) <;> omega) | (refine Or.inr (Or.inl ⟨rfl, ?_⟩); omega)
theorem rF_long (s : List Nat × Bool) (h : (rI 1 s = 1 ∨ rI 1 s = 2) ∧ 8 < rI 1 (rDrop 1 s)) : (rF s).2.1 = 2 := by
  unfold rF
  rcases h with ⟨h1 | h1, h2⟩
  · rw [if_pos h1, if_pos h2]
  · rw [if_neg (by omega), if_pos h1, if_pos h2]
theorem parse_err (l : List Nat) (h : (parse l).2 ≠ 0) : (parse l).1 = Rq.zero ∧ (((rI 1 (l, false) = 1 ∨ rI 1 (l, false) = 2) ∧ 8 < rI 1 (rDrop 1 (l, false))) → (parse l).2 = 2) ∧ (¬ ((rI 1 (l, false) = 1 ∨ rI 1 (l, false) = 2) ∧ 8 < rI 1 (rDrop 1 (l, false))) → (parse l).2 = 1) := by
  have he := rF_err (l, false)
  have hl := rF_long (l, false)
  unfold parse at h ⊢
  by_cases h0 : (rF (l, false)).2.1 = 0
  · rw [if_pos h0] at h ⊢
    by_cases hd : rDone (rF (l, false)).2.2 = true
    · rw [if_pos hd] at h; exact absurd rfl h
    · rw [if_neg hd]
      exact ⟨rfl, fun hh => absurd (hl hh) (by omega), fun _ => rfl⟩
  · rw [if_neg h0]
    refine ⟨rfl, fun hh => hl hh, fun hh => ?_⟩
    rcases he with he | ⟨he, _⟩ | ⟨_, he⟩
    · exact absurd he h0
    · exact he
    · exact absurd he hh
theorem rI_nil : rI 1 ([], false) = 0 := rfl
end Go.Proofs.Ytiiaceeaffdmpaa
