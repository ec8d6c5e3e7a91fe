
/-
  WalRuns: what its walk holds.
-/
import Derived.Test.YtfhaphbfbmpbiaaWaK
import Derived.Test.YtfhaphbfbmpbiaaWaOd
namespace Go.Proofs.Ytfhaphbfbmpbiaa
open Go.RowKit
set_option maxRecDepth 100000
set_option linter.unusedVariables false
set_option linter.unusedSimpArgs false

theorem kind_mod4 (x : Int) : (wrap64 (x.tmod 4 + 4)).tmod 4 = x % 4 ∧ (0 ≤ x % 4 ∧ x % 4 < 4) := by
  refine ⟨?_, by omega, by omega⟩
  have h : -4 < x.tmod 4 ∧ x.tmod 4 < 4 ∧ (x.tmod 4 + 4) % 4 = x % 4 := by
    rcases Int.le_total 0 x with hx | hx
    · rw [Int.tmod_eq_emod_of_nonneg hx]; omega
    · obtain ⟨y, rfl⟩ : ∃ y, x = -y := ⟨-x, by omega⟩
      rw [Int.neg_tmod, Int.tmod_eq_emod_of_nonneg (by omega)]; omega
  have hw : wrap64 (x.tmod 4 + 4) = x.tmod 4 + 4 := by unfold wrap64; omega
  rw [hw, Int.tmod_eq_emod_of_nonneg (by omega)]
  exact h.2.2
theorem own_far {w : World} {b c sz sz' : Nat} {e e' : TypeId} {v u : Value} {xs ys : List Value} {n m : Nat} (h : w.ownsRow b e sz v n xs) (k : w.ownsRow c e' sz' u m ys) (hne : e ≠ e') {j : Nat} (hj : v.ownBlock = some j) : u.ownBlock ≠ some j := by
  intro hu
  obtain ⟨_, ⟨rfl, _⟩ | ⟨g, cap, cur, rfl, _, hg, _⟩⟩ := h
  · cases hj
  · obtain ⟨_, ⟨rfl, _⟩ | ⟨g', cap', cur', rfl, _, hg', _⟩⟩ := k
    · cases hu
    · simp [Value.ownBlock] at hj hu
      subst hj hu
      rw [hg] at hg'
      simp at hg'
      exact hne hg'.2
/-- A list of byte strings that were handed in; its own row is the call's. -/
structure SureAt (w0 w : World) (u : Value) (L : List (List Nat)) : Prop where
  ex : ∃ vs : List Value, w.ownsRow w0.heap.size 31 1 u L.length vs ∧ vs.length = L.length ∧ ∀ i, i < L.length → BytesAt w0 (vs.getD i undef) (L.getD i [])
theorem SureAt.keep {w0 w w' : World} {u : Value} {L : List (List Nat)} (h : SureAt w0 w u L) (hb : ∀ k, u.ownBlock = some k → k < w.heap.size → w'.heap[k]? = w.heap[k]?) : SureAt w0 w' u L := by
  obtain ⟨vs, h1, h2, h3⟩ := h.ex
  exact ⟨vs, ownsRow_keep h1 (fun k _ hk e => hb k e hk), h2, h3⟩
theorem SureAt.later {w0 w w' : World} {u : Value} {L : List (List Nat)} (h : SureAt w0 w u L) (hb : Below w.heap.size w w') : SureAt w0 w' u L := h.keep fun k _ hk => hb.block k hk
theorem SureAt.nil (w0 w : World) : SureAt w0 w (.slice none 0 0) [] := ⟨[], World.ownsRow_nil _ _ _ _, rfl, fun i hi => by simp at hi⟩
theorem SureAt.form {w0 w : World} {u : Value} {L : List (List Nat)} (h : SureAt w0 w u L) : ∃ p n c, u = .slice p n c ∧ n = L.length := by
  obtain ⟨vs, h1, _⟩ := h.ex
  exact ownsRow_form h1
theorem SureAt.astep {w0 w w' : World} {W R S : Nat} {v v' u : Value} {d : Dk} {cs : Array Value} {L : List (List Nat)} (h : SureAt w0 w u L) (hW : Row w W cs 75) (hD : DkAt w R S v d) (hs : AStep w w' W R S v v') : SureAt w0 w' u L := by
  obtain ⟨vs, h1, h2, h3⟩ := h.ex
  refine h.keep fun k hk hlt => hs.block k hlt ?_ ?_ ?_ ?_
  · rintro rfl; exact ownN_ne h1 hW (by decide) hk
  · rintro rfl; exact ownN_ne h1 hD.row (by decide) hk
  · rintro rfl; exact ownN_ne h1 hD.sure (by decide) hk
  · exact own_far h1 hD.own (by decide) hk
theorem SureAt.dstep {w0 w w' : World} {R S : Nat} {v v' u : Value} {d : Dk} {L : List (List Nat)} (h : SureAt w0 w u L) (hD : DkAt w R S v d) (hs : DStep w w' R S v v') : SureAt w0 w' u L := by
  obtain ⟨vs, h1, h2, h3⟩ := h.ex
  refine h.keep fun k hk hlt => hs.block k hlt ?_ ?_ ?_
  · rintro rfl; exact ownN_ne h1 hD.row (by decide) hk
  · rintro rfl; exact ownN_ne h1 hD.sure (by decide) hk
  · exact own_far h1 hD.own (by decide) hk
theorem SureAt.at {w0 w : World} {u : Value} {L : List (List Nat)} (h : SureAt w0 w u L) {i : Nat} (hi : i < L.length) : ∃ g cap x, u = .slice (some ⟨g, 0, none⟩) L.length cap ∧ w.cell? ⟨g, i, none⟩ = some x ∧ BytesAt w0 x (L.getD i []) := by
  obtain ⟨vs, h1, h2, h3⟩ := h.ex
  obtain ⟨_, ⟨rfl, h0⟩ | ⟨g, cap, cur, rfl, hb, hg, h5, h6, h7, h8⟩⟩ := id h1
  · omega
  · refine ⟨g, cap, vs.getD i undef, rfl, ?_, h3 i hi⟩
    have hc := h1.cells (g := g) rfl i (vs.getD i undef) (by simp [List.getD, show i < vs.length by omega])
    rwa [Addr.add_lit, Nat.zero_add] at hc
/-- What an append to such a list leaves alone. -/
structure SStep (w w' : World) (u : Value) : Prop where
  os : w'.os = w.os
  tape : w'.tape = w.tape
  output : w'.output = w.output
  size : w.heap.size ≤ w'.heap.size
  block : ∀ k, k < w.heap.size → u.ownBlock ≠ some k → w'.heap[k]? = w.heap[k]?
theorem LogW.sstep {w0 w w' : World} {W R S : Nat} {v u : Value} {d : Dk} {L M : List (List Nat)} {e st : Nat} (h : LogW w0 w W R S v d L e st) (hu : SureAt w0 w u M) (hs : SStep w w' u) : LogW w0 w' W R S v d L e st := by
  obtain ⟨vs, h1, _, _⟩ := hu.ex
  have hm := h.mine
  refine ⟨⟨hm.dk.keep (hs.block R hm.dk.row.lt (ownN_ne h1 hm.dk.row (by decide))) (hs.block S hm.dk.sure.lt (ownN_ne h1 hm.dk.sure (by decide))) (fun k hk => hs.block k (hm.dk.vlt hk) (own_far hm.dk.own h1 (by decide) hk)), ⟨hs.os.trans hm.below.os, hs.tape.trans hm.below.tape, hs.output.trans hm.below.output, Nat.le_trans hm.below.size hs.size, fun k hk => (hs.block k (Nat.lt_of_lt_of_le hk hm.below.size) (fun e => by have := (h1.lt k e).1; omega)).trans (hm.below.block k hk)⟩, hm.hR, hm.hS, hm.hv⟩, (hs.block W h.row.lt (ownN_ne h1 h.row (by decide))).trans h.row, h.hW, h.st, h.lg⟩
theorem Row.sstep {w0 w w' : World} {g : Nat} {cs : Array Value} {t : TypeId} {u : Value} {M : List (List Nat)} (h : Row w g cs t) (hu : SureAt w0 w u M) (ht : 31 ≠ t) (hs : SStep w w' u) : Row w' g cs t := by
  obtain ⟨vs, h1, _, _⟩ := hu.ex
  exact (hs.block g h.lt (ownN_ne h1 h ht)).trans h
theorem LogAt.sstep {w0 w w' : World} {B : Nat} {u s : Value} {L M : List (List Nat)} (h : LogAt w B u L) (hu : SureAt w0 w s M) (hs : SStep w w' s) (hB : ∀ k, s.ownBlock = some k → k < B) : LogAt w' B u L := by
  obtain ⟨⟨vs, h1, h2, h3⟩, h4⟩ := h
  have keep : ∀ k, B ≤ k → k < w.heap.size → w'.heap[k]? = w.heap[k]? := fun k h1 h2 => hs.block k h2 (fun e => by have := hB k e; omega)
  exact ⟨⟨vs, ownsRow_keep h1 fun k h1 h2 _ => keep k h1 h2, h2, fun i hi => ownsRow_keep (h3 i hi) fun k h1 h2 _ => keep k h1 h2⟩, h4⟩
theorem SureAt.lt {w0 w : World} {u : Value} {L : List (List Nat)} (h : SureAt w0 w u L) : ∀ k, u.ownBlock = some k → k < w.heap.size := fun k hk => by
  obtain ⟨vs, h1, _⟩ := h.ex
  exact (h1.lt k hk).2
/-- One more: append(u, x). -/
theorem SureAt.put {w0 w : World} {u x : Value} {L : List (List Nat)} {l : List Nat} (h : SureAt w0 w u L) (hx : BytesAt w0 x l) (hx1 : x.oneCell' = true) (hl : L.length ≤ 1000) (hb : w0.heap.size ≤ w.heap.size) :
    ∃ u' w', (Builtin.append_ #[27, 27] 27 #[u, .slice (some ⟨w.heap.size, 0, none⟩) 1 1]).run Try.prog (w.alloc (.cells #[x] 31)) = .ok u' w' ∧ SureAt w0 w' u' (L ++ [l]) ∧ SStep w w' u := by
  obtain ⟨vs, h1, h2, h3⟩ := h.ex
  obtain ⟨u', w', run, own, gr, mv⟩ := append_two Try.underlying27 info_bytes3 rfl (by decide) (by decide) w w0.heap.size 27 _ _ _ h1 #[x] rfl (by simp [hx1]) (by omega) hb _ rfl
  refine ⟨u', w', run, ⟨vs ++ [x], by rw [List.length_append]; exact own, by simp [h2], fun i hi => ?_⟩, ⟨gr.os, gr.tape, gr.output, by have := gr.size; simp at this; omega, fun k hk hne => (gr.block k (by simp; omega) (fun e => hne e.symm)).trans (heap_alloc_old w _ hk)⟩⟩
  rw [List.length_append, List.length_singleton] at hi
  rcases Nat.lt_or_ge i L.length with hlt | hge
  · have := h3 i hlt
    simpa [List.getD, List.getElem?_append, hlt, h2] using this
  · obtain rfl : i = L.length := by omega
    simpa [List.getD, List.getElem?_append, h2] using hx
/-- Between two deeds. -/
structure RunN (w0 w : World) (W R S N k : Nat) (u : Value) (L : List (List Nat)) (e : Nat) : Prop where
  ex : ∃ v d st, LogW w0 w W R S v d L e st ∧ d.n = N ∧ d.cnt ≤ 100 * k
  sure : SureAt w0 w u L
  len : L.length ≤ k
/-- What was read behind a crash, beside what was sure. -/
structure Cmp2 (w0 : World) (B : Nat) (w : World) (W R S : Nat) (v : Value) (d : Dk) (L : List (List Nat)) (e st : Nat) (u s : Value) : Prop where
  log : LogAt w B u L
  sure : SureAt w0 w s L
  lw : LogW w0 w W R S v d L e st
theorem Cmp2.later {w0 w w' : World} {B W R S : Nat} {v : Value} {d : Dk} {L : List (List Nat)} {e st : Nat} {u s : Value} (h : Cmp2 w0 B w W R S v d L e st u s) (hb : Below w.heap.size w w') : Cmp2 w0 B w' W R S v d L e st u s := ⟨h.log.later hb, h.sure.later hb, h.lw.later hb⟩
/-- What Open reads behind a crash: what was sure, or one more. -/
def CrashP (d : Dk) (L : List (List Nat)) (e : Nat) (b : List Nat) (way : Bool) : Prop :=
  ∀ f : Nat → Nat, (∀ i, f i ≤ 64) → ∀ L' e', Rl ((crashed f d).curs d.n) [] 0 L' e' → (L' = L ∧ e' = e) ∨ (way = true ∧ L' = L ++ [b] ∧ e' = e + secs b.length)
theorem CrashP.calm {d : Dk} {L : List (List Nat)} {e : Nat} (h : Lg d L e) (b : List Nat) : CrashP d L e b false := fun f _ L' e' hr => by
  have h2 := h.calm f
  exact Or.inl (h2.rd.done h2.nw hr)
theorem CrashP.way {d0 : Dk} {L : List (List Nat)} {e st k : Nat} {b : List Nat} (h : Lg d0 L e) (hF : d0.F.length = 64 * d0.n) (hn : d0.n ≤ 4096) (h0 : 0 < st) (h1 : st < 4294967296) (h8 : W8 b) (hb4 : b.length ≤ 4096) (hroom : e + secs b.length ≤ d0.n) (hk : k ≤ secs b.length) :
    CrashP (layN st (L.length + 1) b d0 e k) L e b true := fun f hf L' e' hr => by
  rw [layN_n] at hr
  rcases crash_rl h hF hn h0 h1 h8 hb4 hf hroom hk hr with h | ⟨q1, q2, _⟩
  · exact Or.inl h
  · exact Or.inr ⟨rfl, q1, q2⟩
end Go.Proofs.Ytfhaphbfbmpbiaa
