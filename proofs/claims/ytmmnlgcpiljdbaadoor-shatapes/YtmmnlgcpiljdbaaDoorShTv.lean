
/-
  ShTapes: what the rounds of its range hold.
-/
import Derived.Test.YtmmnlgcpiljdbaaDoorShRg
set_option maxRecDepth 100000
namespace Go.Proofs.YtmmnlgcpiljdbaaDoor
open Go.RowKit
set_option linter.unusedVariables false
set_option linter.unusedSimpArgs false

/-- Behind k rounds. -/
def TwI (wr W : World) (st : Int) (k : Nat) : Prop := Below wr.heap.size wr W ∧ Row W wr.heap.size #[.int .i64 (k : Nat)] 3 ∧ ∀ j : Nat, j < k → st ≠ (j : Int)
/-- Where it was left. -/
def TwX (wr W : World) (st : Int) (n : Nat) (c : Code) : Prop := c = .exit 4 ∧ Below wr.heap.size wr W ∧ ∃ m : Nat, st = (m : Int) ∧ m < n ∧ Row W wr.heap.size #[.int .i64 (m : Nat)] 3
theorem below_kb {wr W W' : World} {D : Nat} (h : Below wr.heap.size wr W) (hk : Kb D W W') (hD : wr.heap.size ≤ D) : Below wr.heap.size wr W' :=
  ⟨hk.os.trans h.os, hk.tape.trans h.tape, hk.output.trans h.output, Nat.le_trans h.size hk.size, fun k hlt => (hk.block k (Nat.lt_of_lt_of_le hlt h.size) (by omega)).trans (h.block k hlt)⟩
theorem row_kb {W W' : World} {D b : Nat} {cs : Array Value} {t : TypeId} (h : Row W b cs t) (hk : Kb D W W') (hD : b ≠ D) : Row W' b cs t := (hk.block b h.lt hD).trans h
theorem TwI.kb {wr W W' : World} {st : Int} {k D : Nat} (h : TwI wr W st k) (hk : Kb D W W') (hD : wr.heap.size < D) : TwI wr W' st k :=
  ⟨below_kb h.1 hk (Nat.le_of_lt hD), row_kb h.2.1 hk (by omega), h.2.2⟩
theorem TwX.kb {wr W W' : World} {st : Int} {n D : Nat} {c : Code} (h : TwX wr W st n c) (hk : Kb D W W') (hD : wr.heap.size < D) : TwX wr W' st n c := by
  obtain ⟨h1, h2, m, h3, h4, h5⟩ := h
  exact ⟨h1, below_kb h2 hk (Nat.le_of_lt hD), m, h3, h4, row_kb h5 hk (by omega)⟩
/-- The tape's notes, as parts. -/
theorem TpR.parts {w wr : World} {L : List (List Nat)} {b3 b4 b6 T : Nat} {stop : Int} {vN vW : Value} {ns : List Value} (h : TpR w wr L b3 b4 b6 T L.length stop vN vW ns) (h8 : ∀ i, i < L.length → W8 (L.getD i [])) (hl : ∀ i, i < L.length → (L.getD i []).length ≤ 200) (hn : L.length ≤ 1000) :
    PartsAt wr vN (L.map fun l => l ++ [7]) := by
  have hat : ∀ i, i < L.length → (L.map fun l => l ++ [7]).getD i [] = L.getD i [] ++ [7] := fun i hi => by simp [List.getD, hi]
  refine ⟨by rw [List.length_map]; unfold maxLen; omega, ?_⟩
  rw [List.length_map]
  have hlen := h.len
  obtain ⟨_, ⟨rfl, h0⟩ | ⟨g, cap, cur, rfl, hb, hg, h1, h2, h3, h4⟩⟩ := h.ta.own
  · have hN0 : L.length = 0 := by omega
    exact ⟨none, 0, by rw [hN0], fun i hi => by omega⟩
  · refine ⟨_, cap, by rw [← hlen], fun i hi => ?_⟩
    have hi' : i < ns.length := by omega
    rw [hat i hi]
    refine ⟨g, 0, ns.getD i undef, rfl, (Array.getElem?_eq_some_iff.1 hg).1, ?_, (h.notes i hi).bytes ?_ ?_⟩
    · rw [cell_of_row wr g (0 + i) cur _ _ hg, Nat.zero_add]
      have e := congrArg (fun x : List Value => x[i]?) h4
      simp only [Nat.mul_one, List.getElem?_take, hi', if_true] at e
      rw [← Array.getElem?_toList, e]
      simp [List.getD, hi']
    · intro x hx
      rcases List.mem_append.1 hx with hx | hx
      · exact h8 i hi x hx
      · simp at hx; omega
    · have := hl i hi
      simp only [List.length_append, List.length_singleton]
      unfold maxLen
      omega
/-- What was wanted at a place. -/
theorem TpR.wantAt {w wr : World} {L : List (List Nat)} {b3 b4 b6 T : Nat} {stop : Int} {vN vW : Value} {ns : List Value} (h : TpR w wr L b3 b4 b6 T L.length stop vN vW ns) {k : Nat} (hk : k < L.length) :
    ∃ g c, vW = .slice (some ⟨g, 0, none⟩) L.length c ∧ g < wr.heap.size ∧ wr.cell? ⟨g, 0 + k, none⟩ = some (.string (strL (L.getD k [] ++ [7]))) := by
  obtain ⟨_, ⟨_, h0⟩ | ⟨g, cap, cur, rfl, hb, hg, h1, h2, h3, h4⟩⟩ := h.want
  · omega
  · refine ⟨g, cap, rfl, (Array.getElem?_eq_some_iff.1 hg).1, ?_⟩
    rw [cell_of_row wr g (0 + k) cur _ _ hg, Nat.zero_add]
    have e := congrArg (fun x : List Value => x[k]?) h4
    simp only [Nat.mul_one, List.getElem?_take, hk, if_true] at e
    rw [← Array.getElem?_toList, e]
    simp [hk]
end Go.Proofs.YtmmnlgcpiljdbaaDoor
