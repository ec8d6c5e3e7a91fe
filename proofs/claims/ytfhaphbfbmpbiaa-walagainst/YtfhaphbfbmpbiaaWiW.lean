
/-
  package wire's Writer: Raw, Num, Int, Bytes. For all bytes, as long as there are at most 2^20.
-/
import Derived.Test.YtfhaphbfbmpbiaaWiR
import Derived.Test.YtfhaphbfbmpbiaaHeld
namespace Go.Proofs.Ytfhaphbfbmpbiaa
open Go.RowKit
set_option maxRecDepth 100000

/-- A writer in block b: its slice v, which holds the bytes l. -/
structure WrAt (w : World) (b : Nat) (v : Value) (l : List Nat) : Prop where
  row : Row w b #[v] 53
  own : Own w 0 v l
  w8 : W8 l
/-- What a call on a writer leaves alone: all but its block and its bytes' block; its bytes lie where they did, or in a new block. -/
structure WStep (w w' : World) (b : Nat) (v v' : Value) : Prop where
  os : w'.os = w.os
  tape : w'.tape = w.tape
  output : w'.output = w.output
  size : w.heap.size ≤ w'.heap.size
  block : ∀ k, k < w.heap.size → k ≠ b → v.ownBlock ≠ some k → w'.heap[k]? = w.heap[k]?
  moved : ∀ g, v'.ownBlock = some g → v.ownBlock = some g ∨ w.heap.size ≤ g
theorem WStep.refl (w : World) (b : Nat) (v : Value) : WStep w w b v v := ⟨rfl, rfl, rfl, Nat.le_refl _, fun _ _ _ _ => rfl, fun _ h => Or.inl h⟩
theorem WStep.of {w w' : World} (h : Below w.heap.size w w') (b : Nat) (v : Value) : WStep w w' b v v := ⟨h.os, h.tape, h.output, h.size, fun k hk _ _ => h.block k hk, fun _ h => Or.inl h⟩
theorem WStep.trans {a b c : World} {B : Nat} {v v1 v2 : Value} (h : WStep a b B v v1) (k : WStep b c B v1 v2) : WStep a c B v v2 := by
  refine ⟨k.os.trans h.os, k.tape.trans h.tape, k.output.trans h.output, Nat.le_trans h.size k.size, fun i hi h1 h2 => ?_, fun g hg => ?_⟩
  · refine (k.block i (Nat.lt_of_lt_of_le hi h.size) h1 (fun e => ?_)).trans (h.block i hi h1 h2)
    rcases h.moved i e with e | e
    · exact h2 e
    · omega
  · rcases k.moved g hg with e | e
    · exact h.moved g e
    · exact Or.inr (Nat.le_trans h.size e)
/-- Blocks that such a call leaves alone. -/
def Far (b : Nat) (v : Value) (k : Nat) : Prop := k ≠ b ∧ v.ownBlock ≠ some k
theorem WStep.far {w w' : World} {b : Nat} {v v' : Value} (h : WStep w w' b v v') {k : Nat} (hk : Far b v k) (hl : k < w.heap.size) : w'.heap[k]? = w.heap[k]? := h.block k hl hk.1 hk.2
theorem WrAt.lt {w : World} {b : Nat} {v : Value} {l : List Nat} (h : WrAt w b v l) : b < w.heap.size := h.row.lt
theorem WrAt.ne {w : World} {b : Nat} {v : Value} {l : List Nat} (h : WrAt w b v l) : v.ownBlock ≠ some b := own_ne h.own h.row (by decide)
theorem WrAt.olt {w : World} {b : Nat} {v : Value} {l : List Nat} (h : WrAt w b v l) {k : Nat} (hk : v.ownBlock = some k) : k < w.heap.size := (h.own.lt k hk).2
theorem WrAt.far {w : World} {b : Nat} {v : Value} {l : List Nat} (h : WrAt w b v l) {k : Nat} (hk : w.heap.size ≤ k) : Far b v k := ⟨by have := h.lt; omega, fun e => by have := h.olt e; omega⟩
theorem WrAt.later {w w' : World} {b : Nat} {v : Value} {l : List Nat} (h : WrAt w b v l) (hb : Below w.heap.size w w') : WrAt w' b v l := ⟨h.row.later hb, ownsRow_later h.own hb, h.w8⟩

/-- Bytes in blocks of which N holds. -/
def BytesOff (w : World) (N : Nat → Prop) (v : Value) (l : List Nat) : Prop :=
  W8 l ∧ l.length ≤ maxLen ∧ ∃ p c, v = .slice p l.length c ∧ ∀ i, i < l.length → ∃ b off, p = some ⟨b, off, none⟩ ∧ N b ∧ b < w.heap.size ∧ w.cell? ⟨b, off + i, none⟩ = some (.int .u8 (l.getD i 0 : Nat))
theorem BytesOff.at {w : World} {N : Nat → Prop} {v : Value} {l : List Nat} (h : BytesOff w N v l) : BytesAt w v l := by
  obtain ⟨h1, h2, p, c, e, h⟩ := h
  exact ⟨h1, h2, p, c, e, fun i hi => by obtain ⟨b, off, e, _, hb, hc⟩ := h i hi; exact ⟨b, off, e, hb, hc⟩⟩
theorem BytesOff.keep {w w' : World} {N : Nat → Prop} {v : Value} {l : List Nat} (h : BytesOff w N v l) (hz : w.heap.size ≤ w'.heap.size) (hk : ∀ k, k < w.heap.size → N k → w'.heap[k]? = w.heap[k]?) : BytesOff w' N v l := by
  obtain ⟨h1, h2, p, c, e, h⟩ := h
  exact ⟨h1, h2, p, c, e, fun i hi => by
    obtain ⟨b, off, e, hN, hb, hc⟩ := h i hi
    exact ⟨b, off, e, hN, Nat.lt_of_lt_of_le hb hz, (World.cell?_of_block (a := ⟨b, off + i, none⟩) (hk b hb hN)).trans hc⟩⟩
theorem BytesOff.nil (w : World) (N : Nat → Prop) : BytesOff w N (.slice none 0 0) [] := ⟨(fun _ h => by cases h), by simp [maxLen], none, 0, rfl, fun i hi => by simp at hi⟩
/-- Parts in blocks of which N holds. -/
def PartsOff (w : World) (N : Nat → Prop) (v : Value) (L : List (List Nat)) : Prop :=
  L.length ≤ maxLen ∧ ∃ p c, v = .slice p L.length c ∧ ∀ i, i < L.length → ∃ b off u, p = some ⟨b, off, none⟩ ∧ N b ∧ b < w.heap.size ∧ w.cell? ⟨b, off + i, none⟩ = some u ∧ BytesOff w N u (L.getD i [])

/-- The bytes of the first k parts. -/
def firsts (L : List (List Nat)) (k : Nat) : List Nat := (L.take k).flatten
theorem firsts_succ (L : List (List Nat)) (k : Nat) (h : k < L.length) : firsts L (k + 1) = firsts L k ++ L.getD k [] := by
  unfold firsts
  rw [List.take_succ_eq_append_getElem (i := k) (l := L) h]
  simp only [List.getD, List.getElem?_eq_getElem h, Option.getD_some, List.flatten_append, List.flatten_cons, List.flatten_nil, List.append_nil]
theorem firsts_le (L : List (List Nat)) (k : Nat) : (firsts L k).length ≤ L.flatten.length := by
  unfold firsts
  conv => rhs; rw [← List.take_append_drop k L]
  rw [List.flatten_append, List.length_append]
  omega
theorem firsts_all (L : List (List Nat)) (k : Nat) (h : L.length ≤ k) : firsts L k = L.flatten := by unfold firsts; rw [List.take_of_length_le h]

/-- Behind an append to the writer's bytes, and the store of the new slice. -/
theorem WrAt.put {w w2 : World} {b : Nat} {v v2 : Value} {l m : List Nat} (h : WrAt w b v l) (hm : W8 m) (ho : Own w2 0 v2 (l ++ m)) (hg : w.grownBy w2 v.ownBlock) (hmv : v2.ownBlock = v.ownBlock ∨ v2.ownBlock = some w.heap.size) :
    WrAt (w2.setCell ⟨b, 0, none⟩ v2) b v2 (l ++ m) ∧ WStep w (w2.setCell ⟨b, 0, none⟩ v2) b v v2 := by
  have hb : w2.heap[b]? = w.heap[b]? := hg.block b h.lt (fun e => h.ne e.symm)
  have r2 : Row w2 b #[v] 53 := hb.trans h.row
  have hne : v2.ownBlock ≠ some b := by
    rcases hmv with e | e
    · rw [e]; exact h.ne
    · rw [e]; intro hh; have := h.lt; simp at hh; omega
  refine ⟨⟨r2.set 0 v2, ownsRow_set ho hne v2, h.w8.append hm⟩, ⟨hg.os, hg.tape, hg.output, by simpa [World.setCell] using hg.size, fun k hk h1 h2 => ?_, fun g hh => ?_⟩⟩
  · exact (heap_setCell_other w2 ⟨b, 0, none⟩ k v2 h1).trans (hg.block k hk (fun e => h2 e.symm))
  · rcases hmv with e | e
    · exact Or.inl (e ▸ hh)
    · rw [e] at hh; simp at hh; exact Or.inr (by omega)

set_option maxHeartbeats 2000000 in
theorem raw_any (pv : Value) (L : List (List Nat)) (w : World) (b : Nat) (v : Value) (l : List Nat) (h : WrAt w b v l) (hp : PartsOff w (Far b v) pv L) (hT : l.length + L.flatten.length ≤ 1048576) :
    Calls Try.prog 25 #[.pointer (some ⟨b, 0, none⟩), pv] w fun e w' => ∃ v', e = .returned (.pointer (some ⟨b, 0, none⟩)) ∧ WrAt w' b v' (l ++ L.flatten) ∧ WStep w w' b v v' := by
  obtain ⟨hm, p, c, rfl, hc⟩ := id hp
  unfold maxLen at hm
  have hm0 : (0 : Int) ≤ (L.length : Int) := by omega
  have hm1 : (L.length : Int) ≤ 9223372036854775807 := by omega
  go_enter Try.func25, Try.ntmps25
  go_wp2
  go_loopw [9] (fun i wr => ∃ (k : Nat) (vk : Value), k ≤ L.length ∧ i = .int .i64 k ∧ WrAt wr b vk (l ++ firsts L k) ∧ WStep w wr b v vk) (fun i _ => L.length - (intOf i).toNat)
  case atStart => exact ⟨0, v, Nat.zero_le _, rfl, by simpa [firsts] using h, WStep.refl _ _ _⟩
  case round =>
    obtain ⟨k, vk, hk, rfl, hw, hs⟩ := hrel
    by_cases hlt : k < L.length
    · obtain ⟨bb, off, u, rfl, hN, hbb, hcell, hu⟩ := hc k hlt
      have hcell' := (World.cell?_of_block (a := ⟨bb, off + k, none⟩) (hs.far hN hbb)).trans hcell
      have hu' := (hu.keep hs.size (fun j hj hN => hs.far hN hj))
      have hsu := firsts_succ L k hlt
      have hle1 := firsts_le L (k + 1)
      rw [hsu, List.length_append] at hle1
      have c0 := hw.row.cell 0
      simp only [List.getElem?_toArray, List.getElem?_cons_zero] at c0
      obtain ⟨v2, w2, run2, own2, gr2, _, mv2⟩ := append_bytes wr 0 31 vk _ hw.own u _ hu'.at (by simp only [List.length_append]; omega) (Nat.zero_le _)
      obtain ⟨hw2, hs2⟩ := hw.put hu.1 own2 gr2 mv2
      have hrow2 : Row w2 b #[vk] 53 := (gr2.block b hw.lt (fun e => hw.ne e.symm)).trans hw.row
      have f2 := hrow2.frozen 0
      have c2 := hrow2.cell 0
      simp only [List.getElem?_toArray, List.getElem?_cons_zero] at c2
      rw [List.append_assoc, ← hsu] at hw2
      have hs3 := hs.trans hs2
      obtain ⟨pk, nk, ck, rfl, hnk⟩ := hw.own.form
      obtain ⟨pu, nu, cu, rfl, hnu⟩ := own2.form
      obtain ⟨_, hx2, pq, cq, rfl, hx3⟩ := hu
      clear hnk hnu hx2 hx3
      clear hle1 hsu hc hp hcell hu' gr2 own2 hrow2 mv2
      generalize (L.getD k []).length = n2 at *
      go_wp2_with (at_builtin; refine Lib.wpList_append_run _ rfl _ _ _ _ rfl _ _ rfl rfl _ _ run2 ?_)
      go_roundw
      case rel => exact ⟨k + 1, _, by omega, by go_num, hw2, hs3⟩
      case measure => simp [intOf]; omega
    · rw [firsts_all L k (by omega)] at hw
      go_wp2
      go_ret
      exact ⟨_, rfl, hw, hs⟩
end Go.Proofs.Ytfhaphbfbmpbiaa
