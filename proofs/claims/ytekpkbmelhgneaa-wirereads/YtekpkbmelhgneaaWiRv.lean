
/-
  WireReads: what is written and held.
-/
import Derived.Test.YtekpkbmelhgneaaWiAe
import Derived.Test.YtekpkbmelhgneaaWiL1
import Derived.Test.YtekpkbmelhgneaaHeld
import Derived.Deep.DeepCutAuto
import Derived.Deep.CutBlock
namespace Go.Proofs.Ytekpkbmelhgneaa
open Go.RowKit
set_option maxRecDepth 100000
set_option linter.unusedSimpArgs false
set_option linter.unusedVariables false

/-- Numbers in a slice, as they are handed in. -/
def IntsIn (w : World) (v : Value) (l : List Int) : Prop :=
  l.length ≤ maxLen ∧ ∃ p c, v = .slice p l.length c ∧ ∀ i, i < l.length → ∃ b off, p = some ⟨b, off, none⟩ ∧ b < w.heap.size ∧ w.cell? ⟨b, off + i, none⟩ = some (.int .i64 (l.getD i 0))
theorem IntsIn.later {w w1 : World} {v : Value} {l : List Int} (h : IntsIn w v l) (hb : Below w.heap.size w w1) : IntsIn w1 v l := by
  obtain ⟨h2, p, c, e, h⟩ := h
  refine ⟨h2, p, c, e, fun i hi => ?_⟩
  obtain ⟨b, off, e, hlt, hc⟩ := h i hi
  exact ⟨b, off, e, Nat.lt_of_lt_of_le hlt hb.size, (hb.cell (p := ⟨b, off + i, none⟩) hlt).trans hc⟩
/-- How many bytes the i-th has; what is left of it; the bytes of the first n. -/
def kf (i : Nat) : Nat := 1 + i % 6
def wv (l : List Int) (i : Nat) : Nat := low (256 ^ kf i) (l.getD i 0)
def wB (l : List Int) (n : Nat) : List Nat := (List.range n).flatMap fun j => intB (kf j) (wv l j : Nat)
theorem wB_succ (l : List Int) (n : Nat) : wB l (n + 1) = wB l n ++ intB (kf n) (wv l n : Nat) := by
  unfold wB; rw [List.range_succ, List.flatMap_append]; simp
theorem kf_lt (i : Nat) : 1 ≤ kf i ∧ kf i ≤ 6 := by unfold kf; omega
theorem wB_le (l : List Int) : ∀ n, (wB l n).length ≤ 6 * n
  | 0 => by simp [wB]
  | n + 1 => by rw [wB_succ, List.length_append, intB_len]; have := wB_le l n; have := kf_lt n; omega
theorem wB_w8 (l : List Int) : ∀ n, W8 (wB l n)
  | 0 => fun x hx => by simp [wB] at hx
  | n + 1 => by rw [wB_succ]; exact (wB_w8 l n).append (intB_w8 _ _)
def wants (l : List Int) (n : Nat) : List Value := (List.range n).map fun j => Value.int .i64 (wv l j : Nat)
theorem wants_succ (l : List Int) (n : Nat) : wants l (n + 1) = wants l n ++ [.int .i64 (wv l n : Nat)] := by unfold wants; rw [List.range_succ, List.map_append]; rfl
theorem wants_len (l : List Int) (n : Nat) : (wants l n).length = n := by simp [wants]
theorem mask_kk (x : Int) (kk : Nat) (h1 : 1 ≤ kk) (h6 : kk ≤ 6) : bits BinOp.and IntKind.i64 x (wrap64 (wrap64 (2 ^ (8 * kk)) - 1)) = (low (256 ^ kk) x : Nat) := by
  have hc : kk = 1 ∨ kk = 2 ∨ kk = 3 ∨ kk = 4 ∨ kk = 5 ∨ kk = 6 := by omega
  have key : ∀ (m : Int) (k : Nat), m = ((2 ^ k - 1 : Nat) : Int) → k ≤ 62 → bits .and .i64 x m = (low (2 ^ k) x : Nat) := fun m k hm hk => (mask_i64 x k m hm hk).trans (low_eq _ (Nat.two_pow_pos k) x)
  rcases hc with rfl | rfl | rfl | rfl | rfl | rfl
  · rw [show wrap64 (wrap64 (2 ^ (8 * 1)) - 1) = 255 by unfold wrap64; decide]; exact key 255 8 rfl (by decide)
  · rw [show wrap64 (wrap64 (2 ^ (8 * 2)) - 1) = 65535 by unfold wrap64; decide]; exact key 65535 16 rfl (by decide)
  · rw [show wrap64 (wrap64 (2 ^ (8 * 3)) - 1) = 16777215 by unfold wrap64; decide]; exact key 16777215 24 rfl (by decide)
  · rw [show wrap64 (wrap64 (2 ^ (8 * 4)) - 1) = 4294967295 by unfold wrap64; decide]; exact key 4294967295 32 rfl (by decide)
  · rw [show wrap64 (wrap64 (2 ^ (8 * 5)) - 1) = 1099511627775 by unfold wrap64; decide]; exact key 1099511627775 40 rfl (by decide)
  · rw [show wrap64 (wrap64 (2 ^ (8 * 6)) - 1) = 281474976710655 by unfold wrap64; decide]; exact key 281474976710655 48 rfl (by decide)
theorem info_int3 : (Try.prog.info? 3).map (fun i => (i.zero, i.size, i.bytes)) = some (some (.int .i64 0), 1, 8) := by kernel_rfl
theorem wv_lt (l : List Int) (i : Nat) : wv l i < 256 ^ kf i := low_lt _ (Nat.pow_pos (by decide)) _
theorem RowN.ne {w : World} {b c : Nat} {cs ds : Array Value} {t u : TypeId} (h : Row w b cs t) (k : Row w c ds u) (hne : t ≠ u) : b ≠ c := by
  intro e
  subst e
  unfold Row at h k
  rw [h] at k
  simp at k
  exact hne k.2
/-- What is held while it is written. -/
structure RdsR (w wr : World) (l : List Int) (t : List Nat) (X Nb Wb k : Nat) (v u : Value) : Prop where
  rh : Row wr w.heap.size (bytesL t) 40
  rn : Row wr Nb #[.int .u64 (X : Nat), .int .u64 (l.length : Nat)] 26
  wt : WrAt wr Wb v (wB l k)
  own : wr.ownsRow w.heap.size 3 1 u k (wants l k)
  below : Below w.heap.size w wr
  hW : w.heap.size ≤ Wb
  hN : w.heap.size ≤ Nb
  hv : ∀ j, v.ownBlock = some j → w.heap.size ≤ j
theorem RdsR.keep {w wr w' : World} {l : List Int} {t : List Nat} {X Nb Wb k n : Nat} {v v' u u' : Value} (h : RdsR w wr l t X Nb Wb k v u) (hr : w'.heap[w.heap.size]? = wr.heap[w.heap.size]?) (hn : w'.heap[Nb]? = wr.heap[Nb]?)
    (ht : WrAt w' Wb v' (wB l n)) (ho : w'.ownsRow w.heap.size 3 1 u' n (wants l n)) (hb : Below w.heap.size w w') (hv : ∀ j, v'.ownBlock = some j → w.heap.size ≤ j) : RdsR w w' l t X Nb Wb n v' u' :=
  ⟨hr.trans h.rh, hn.trans h.rn, ht, ho, hb, h.hW, h.hN, hv⟩
end Go.Proofs.Ytekpkbmelhgneaa
