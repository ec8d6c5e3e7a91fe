
/-
  ShaTapes: what its first loop holds.
-/
import Derived.Test.YtmmnlgcpiljdbaaDoorShRa
namespace Go.Proofs.YtmmnlgcpiljdbaaDoor
open Go.RowKit
set_option maxRecDepth 100000
set_option linter.unusedVariables false
set_option linter.unusedSimpArgs false

theorem info_str : (Tryd.prog.info? 9).map (fun i => (i.zero, i.size, i.bytes)) = some (some (.string ⟨#[]⟩), 1, 16) := by kernel_rfl
theorem info_str' : ∃ i, Tryd.prog.info? 9 = some i ∧ i.zero = some (.string ⟨#[]⟩) ∧ i.size = 1 ∧ i.bytes = 16 := by
  cases hi : Tryd.prog.info? 9 with
  | none => have h := info_str; rw [hi] at h; cases h
  | some i =>
    have h := info_str
    rw [hi] at h
    simp at h
    exact ⟨i, rfl, h.1, h.2.1, h.2.2⟩
theorem under_strs : Tryd.prog.underlying 33 = some (.slice 9) := by kernel_rfl
theorem append_want (w : World) (base : Nat) (ty : TypeId) (vN : Value) (ns : List Value) (hown : w.ownsRow base 9 1 vN ns.length ns) (u : Value) (hu : u.oneCell' = true) (hn : ns.length ≤ 1000) (hb : base ≤ w.heap.size) :
    ∃ v' w', (Builtin.append_ #[33, 33] ty #[vN, .slice (some ⟨w.heap.size, 0, none⟩) 1 1]).run Tryd.prog (w.alloc (.cells #[u] 9)) = .ok v' w' ∧ w'.ownsRow base 9 1 v' (ns.length + 1) (ns ++ [u]) ∧ (w.alloc (.cells #[u] 9)).grownBy w' vN.ownBlock := by
  obtain ⟨i, hi, z0, z1, z2⟩ := info_str'
  obtain ⟨v', w', h1, h2, h3, _⟩ := run_append_own (P := Tryd.prog) (w.alloc (.cells #[u] 9)) base 33 ty 9 i _ 1 16 under_strs hi z0 z1 z2 rfl (by decide) vN ns.length ns (ownsRow_later hown (below1 _ _)) ⟨w.heap.size, 0, none⟩ 1 1 [u] (by simp)
    (fun j v hv => by
      have hj : j = 0 := by have := (List.getElem?_eq_some_iff.1 hv).1; simpa using this
      subst hj
      rw [show (⟨w.heap.size, 0, none⟩ : Addr).add 0 = ⟨w.heap.size, 0 + 0, none⟩ from Addr.add_lit .., World.cell?_alloc_at _ _ _ _ rfl, ← hv]
      rfl) (fun x hx => by simp at hx; rw [hx]; exact hu) (by unfold maxLen; omega) (by omega) (by simp; omega)
  exact ⟨v', w', h1, h2, h3⟩
theorem str_snoc (l : List Nat) (h : W8 l) : strL (l ++ [7]) = strL l ++ ⟨#[7]⟩ := by
  unfold strL strOfNums
  first | (simp; done) | (apply ByteArray.ext; simp; done) | (simp; rfl)
/-- What ShaTapes holds behind k parts. -/
structure TpR (w wr : World) (L : List (List Nat)) (b3 b4 b6 T k : Nat) (stop : Int) (vN vW : Value) (ns : List Value) : Prop where
  ta : TapeAt wr w.heap.size T vN ns
  len : ns.length = k
  notes : ∀ i, i < k → Own wr w.heap.size (ns.getD i undef) (L.getD i [] ++ [7])
  r3 : Row wr b3 #[.int .i64 stop] 3
  r4 : Row wr b4 #[.bool false] 4
  r6 : Row wr b6 #[vW] 33
  want : wr.ownsRow w.heap.size 9 1 vW k ((List.range k).map fun i => .string (strL (L.getD i [] ++ [7])))
  below : Below w.heap.size w wr
  g3 : w.heap.size ≤ b3
  g4 : w.heap.size ≤ b4
  g6 : w.heap.size ≤ b6
theorem TpR.later {w wr w1 : World} {L : List (List Nat)} {b3 b4 b6 T k : Nat} {stop : Int} {vN vW : Value} {ns : List Value} (h : TpR w wr L b3 b4 b6 T k stop vN vW ns) (hb : Below wr.heap.size wr w1) : TpR w w1 L b3 b4 b6 T k stop vN vW ns :=
  ⟨h.ta.later hb, h.len, fun i hi => ownsRow_later (h.notes i hi) hb, h.r3.later hb, h.r4.later hb, h.r6.later hb, ownsRow_later h.want hb, chain h.below hb, h.g3, h.g4, h.g6⟩
/-- A call that notes u: the tape has one more. -/
theorem TpR.noted {w wr w1 : World} {L : List (List Nat)} {b3 b4 b6 T k : Nat} {stop : Int} {vN vW vN' u : Value} {ns : List Value} (h : TpR w wr L b3 b4 b6 T k stop vN vW ns) (kb : KeptBut wr w1 T vN) (ta : TapeAt w1 w.heap.size T vN' (ns ++ [u])) (hu : Own w1 wr.heap.size u (L.getD k [] ++ [7])) :
    (∀ i, i < k + 1 → Own w1 w.heap.size ((ns ++ [u]).getD i undef) (L.getD i [] ++ [7])) ∧ Row w1 b3 #[.int .i64 stop] 3 ∧ Row w1 b4 #[.bool false] 4 ∧ Row w1 b6 #[vW] 33 ∧
      w1.ownsRow w.heap.size 9 1 vW k ((List.range k).map fun i => .string (strL (L.getD i [] ++ [7]))) ∧ Below w.heap.size w w1 := by
  have row : ∀ (b : Nat) (cs : Array Value) (t : TypeId), Row wr b cs t → t ≠ 32 → 22 ≠ t → Row w1 b cs t := fun b cs t hr h1 h2 =>
    (kb.block b hr.lt (fun e => by
      subst e
      have e2 := hr.symm.trans h.ta.row
      simp at e2
      exact h1 e2.2) (fun e => own_ne h.ta.own hr h2 e.symm)).trans hr
  have hsz := h.below.size
  refine ⟨fun i hi => ?_, row _ _ _ h.r3 (by decide) (by decide), row _ _ _ h.r4 (by decide) (by decide), row _ _ _ h.r6 (by decide) (by decide), ?_, Below.noted h.below h.ta kb⟩
  · by_cases hik : i < k
    · have e : (ns ++ [u]).getD i undef = ns.getD i undef := by simp [List.getD, List.getElem?_append_left, h.len, hik]
      rw [e]
      exact Own.noted (h.notes i hik) h.ta kb
    · obtain rfl : i = k := by omega
      have e : (ns ++ [u]).getD i undef = u := by simp [List.getD, ← h.len]
      rw [e]
      exact ⟨hu.1, hu.2.imp id fun ⟨g, cap, cur, e, h1, h2⟩ => ⟨g, cap, cur, e, by omega, h2⟩⟩
  · refine ownsRow_keep h.want fun g hg => kb.block g (ownsRow_lt h.want g hg).2 (fun hh => own_ne h.want h.ta.row (by decide) (by rw [hg, hh])) (fun hh => ?_)
    rcases own_own h.ta.own h.want (by decide) with h1 | h1
    · rw [h1] at hh; cases hh
    · exact h1 (by rw [hg, hh])
end Go.Proofs.YtmmnlgcpiljdbaaDoor
