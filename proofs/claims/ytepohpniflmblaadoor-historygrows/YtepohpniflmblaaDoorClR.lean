
/-
  A hash of which one byte is another one; trees that are turned in a leaf.
-/
import Derived.Test.YtepohpniflmblaaDoorClG
import Derived.Test.YtepohpniflmblaaDoorClO
set_option maxRecDepth 100000
namespace Go.Proofs.YtepohpniflmblaaDoor
open Go.RowKit
set_option linter.unusedVariables false
set_option linter.unusedSimpArgs false

/-- A list of which one number is one more, of 256. -/
def incH (l : List Nat) (k : Nat) : List Nat := l.set k ((l.getD k 0 + 1) % 256)
theorem inc_32 {l : List Nat} (h : H32 l) (k : Nat) : H32 (incH l k) := by
  refine ⟨by unfold incH; rw [List.length_set]; exact h.1, fun x hx => ?_⟩
  unfold incH at hx
  rcases List.mem_or_eq_of_mem_set hx with hx | rfl
  · exact h.2 x hx
  · exact Nat.mod_lt _ (by decide)
theorem inc_at {l : List Nat} {k : Nat} (hk : k < l.length) : (incH l k).getD k 0 = (l.getD k 0 + 1) % 256 := by
  unfold incH; simp [List.getD, hk]
theorem inc_ne {l : List Nat} (h : H32 l) {k : Nat} (hk : k < 32) : incH l k ≠ l := by
  intro e
  have h1 := inc_at (l := l) (k := k) (by rw [h.1]; exact hk)
  rw [e] at h1
  have h2 : l.getD k 0 < 256 := h.2 _ (by simp only [List.getD]; rw [List.getElem?_eq_getElem (by rw [h.1]; exact hk)]; exact List.getElem_mem _)
  omega
theorem inc_bytes (l : List Nat) (k : Nat) : bytesL (incH l k) = (bytesL l).setIfInBounds k (.int .u8 (((l.getD k 0 + 1) % 256 : Nat) : Int)) := by
  unfold incH bytesL
  rw [List.map_set, List.setIfInBounds_toArray]
/-- One byte of a hash in a slice of hashes is one more. -/
theorem HsAt.inc {w : World} {g o n c : Nat} {L : List (List Nat)} (h : HsAt w (.slice (some ⟨g, o, none⟩) n c) L) {i : Nat} (hi : i < L.length) {k : Nat} (hk : k < 32) :
    HsAt (w.setCell ⟨g, o + i * 32 + k, none⟩ (.int .u8 ((((L.getD i []).getD k 0 + 1) % 256 : Nat) : Int))) (.slice (some ⟨g, o, none⟩) n c) (L.set i (incH (L.getD i []) k)) := by
  obtain ⟨hok, p, c', e, hn, hc, hat⟩ := h
  cases e
  have hmi : L.getD i [] ∈ L := by simp only [List.getD]; rw [List.getElem?_eq_getElem hi]; exact List.getElem_mem _
  refine ⟨set_32 hok (inc_32 (hok _ hmi) k) i, _, _, by rw [List.length_set], by rw [List.length_set]; exact hn, hc, fun q hq => ?_⟩
  rw [List.length_set] at hq
  obtain ⟨g', off, cs, e, hr, hcs⟩ := hat q hq
  cases e
  have hmem : L.getD q [] ∈ L := by simp only [List.getD]; rw [List.getElem?_eq_getElem hq]; exact List.getElem_mem _
  refine ⟨g, o, _, rfl, heap_setCell_same w g (o + i * 32 + k) cs _ _ hr, fun j hj => ?_⟩
  have hz := hcs j hj
  have h32 : (bytesL (L.getD q [])).size = 32 := by rw [bytesL_size, (hok _ hmem).1]
  have hin : o + q * 32 + j < cs.size := by
    have hz2 : (bytesL (L.getD q []))[j]? = some _ := Array.getElem?_eq_getElem (by rw [h32]; exact hj)
    rw [hz2] at hz
    exact (Array.getElem?_eq_some_iff.1 hz).1
  by_cases hqi : q = i
  · subst hqi
    have e1 : (L.set q (incH (L.getD q []) k)).getD q [] = incH (L.getD q []) k := by simp [List.getD, hq]
    rw [e1, inc_bytes]
    by_cases hjk : j = k
    · subst hjk
      rw [Array.getElem?_setIfInBounds_self_of_lt hin, Array.getElem?_setIfInBounds_self_of_lt (by rw [h32]; exact hj)]
    · rw [Array.getElem?_setIfInBounds_ne (by omega), Array.getElem?_setIfInBounds_ne (by omega)]
      exact hz
  · have e1 : (L.set i (incH (L.getD i []) k)).getD q [] = L.getD q [] := by simp [List.getD, List.getElem?_set, Ne.symm hqi]
    rw [e1, Array.getElem?_setIfInBounds_ne (by omega)]
    exact hz
/-- A tree that was turned in an elder leaf is no growth of what it was. -/
theorem turned_clash {L : List (List Nat)} (hL : ∀ x ∈ L, H32 x) {m a : Nat} (h1 : a < m) (h2 : m ≤ L.length) {y : List Nat} (hy : H32 y) (hne : y ≠ L.getD a []) {P : List (List Nat)} (hP : ∀ x ∈ P, H32 x)
    (h : GrownP m L.length (rootL (L.take m)) (rootL (L.set a y)) P) :
    ClN (grownN m L.length (rootL (L.take m)) P ++ rootN (L.set a y) ++ rootN (L.take m) ++ rootN ((L.set a y).take m)) := by
  have hG := set_32 hL hy a
  have hTL : ∀ x ∈ L.take m, H32 x := fun x hx => hL x (List.mem_of_mem_take hx)
  have hTG : ∀ x ∈ (L.set a y).take m, H32 x := fun x hx => hG x (List.mem_of_mem_take hx)
  have hg := grown_own (L := L.set a y) hG (m := m) (by omega) (by rw [List.length_set]; exact h2) (root_32 _ _ (Nat.le_refl _) hTL) hP (by rw [List.length_set]; exact h)
  rw [List.length_set] at hg
  rcases hg with hc | hr
  · exact hc.mono (by intro x hx; simp only [List.mem_append] at hx ⊢; rcases hx with hx | hx <;> simp [hx])
  · rcases root_inj _ (L.take m) ((L.set a y).take m) rfl (by simp) hTL hTG hr with hc | q
    · exact hc.mono (by intro x hx; simp only [List.mem_append] at hx ⊢; rcases hx with hx | hx <;> simp [hx])
    · have := congrArg (fun l => l.getD a []) q
      simp only [List.getD, List.getElem?_take, h1, if_true] at this
      rw [List.getElem?_set_self (by omega)] at this
      exact absurd (by simpa [List.getD] using this.symm) hne
end Go.Proofs.YtepohpniflmblaaDoor
