
/-
  Requests that their bytes can tell: Tame makes such; Request tells their bytes.
-/
import Derived.Test.YtekpkbmelhgneaaWiU2
import Derived.Test.YtekpkbmelhgneaaWiTb
import Derived.Test.YtekpkbmelhgneaaWiC8
namespace Go.Proofs.Ytekpkbmelhgneaa
open Go.RowKit
set_option maxRecDepth 100000

def Ac.fits (a : Ac) : Prop := Word64 (a.hi, a.lo) ∧ a.led < 4294967296 ∧ a.fl < 65536
def Tr.fits (a : Tr) : Prop := a.ok ∧ a.tm < 4294967296 ∧ a.led < 4294967296 ∧ a.fl < 65536
/-- A request that its bytes can tell. -/
def Rq.good (q : Rq) : Prop :=
  (∃ L, q = ⟨1, L, [], 0, 0, 0, 0, 0⟩ ∧ L.length ≤ 8 ∧ ∀ a ∈ L, Ac.fits a) ∨ (∃ L, q = ⟨2, [], L, 0, 0, 0, 0, 0⟩ ∧ L.length ≤ 8 ∧ ∀ a ∈ L, Tr.fits a) ∨
  (∃ x, q = ⟨3, [], [], 0, 0, x, 0, 0⟩ ∧ x < 4294967296) ∨ (∃ k hi lo, q = ⟨k, [], [], hi, lo, 0, 0, 0⟩ ∧ (k = 4 ∨ k = 5 ∨ k = 7) ∧ Word64 (hi, lo)) ∨
  (∃ k hi lo fr to lim, q = ⟨k, [], [], hi, lo, fr, to, lim⟩ ∧ (k = 6 ∨ k = 8) ∧ Word64 (hi, lo) ∧ fr < 281474976710656 ∧ to < 281474976710656 ∧ lim < 256) ∨
  (∃ fr to, q = ⟨9, [], [], 0, 0, fr, to, 0⟩ ∧ fr < 4294967296 ∧ to < 4294967296)

theorem tame_good (q : RIn) (ha : ∀ a ∈ q.acs, a.ok) (ht : ∀ a ∈ q.trs, a.ok) (hw : Word64 (q.hi, q.lo)) : q.tame.good := by
  have p32 : 0 < 4294967296 := by decide
  unfold RIn.tame
  have hk : low 256 q.kind % 9 < 9 := Nat.mod_lt _ (by decide)
  generalize low 256 q.kind % 9 = n at *
  by_cases h0 : n = 0
  · rw [if_pos h0]
    refine Or.inl ⟨_, rfl, by simp; omega, fun a ha' => ?_⟩
    obtain ⟨x, hx, rfl⟩ := List.mem_map.1 ha'
    exact ⟨(ha x (List.mem_of_mem_take hx)).w, low_lt _ (by decide) _, low_lt _ (by decide) _⟩
  rw [if_neg h0]
  by_cases h1 : n = 1
  · rw [if_pos h1]
    refine Or.inr (Or.inl ⟨_, rfl, by simp; omega, fun a ha' => ?_⟩)
    obtain ⟨x, hx, rfl⟩ := List.mem_map.1 ha'
    have o := ht x (List.mem_of_mem_take hx)
    exact ⟨⟨o.w1, o.w2, o.w3, o.w4, o.w5⟩, low_lt _ (by decide) _, low_lt _ (by decide) _, low_lt _ (by decide) _⟩
  rw [if_neg h1]
  by_cases h2 : n = 2
  · rw [if_pos h2]
    exact Or.inr (Or.inr (Or.inl ⟨_, rfl, low_lt _ (by decide) _⟩))
  rw [if_neg h2]
  by_cases h3 : n = 3 ∨ n = 4 ∨ n = 6
  · rw [if_pos h3]
    exact Or.inr (Or.inr (Or.inr (Or.inl ⟨_, _, _, rfl, by omega, hw⟩)))
  rw [if_neg h3]
  by_cases h4 : n = 5 ∨ n = 7
  · rw [if_pos h4]
    exact Or.inr (Or.inr (Or.inr (Or.inr (Or.inl ⟨_, _, _, _, _, _, rfl, by omega, hw, low_lt _ (by decide) _, low_lt _ (by decide) _, low_lt _ (by decide) _⟩))))
  rw [if_neg h4]
  exact Or.inr (Or.inr (Or.inr (Or.inr (Or.inr ⟨_, _, rfl, low_lt _ (by decide) _, low_lt _ (by decide) _⟩))))

theorem tame_any (v : Value) (q : RIn) (w : World) (h : RInAt w v q) (h1 : q.acs.length ≤ 1000) (h2 : q.trs.length ≤ 1000) :
    Calls Try.prog 13 #[v] w fun e w' => ∃ u, e = .returned u ∧ RqAt w' w.heap.size u q.tame ∧ Below w.heap.size w w' := by
  obtain ⟨⟨va, vt, rfl, ha, ht⟩, oka, okt, hw⟩ := h
  have hk : low 256 q.kind % 9 < 9 := Nat.mod_lt _ (by decide)
  have fin : ∀ (k hi lo fr to lim : Nat) (hq : q.tame = ⟨k, [], [], hi, lo, fr, to, lim⟩) (e : Ending) (w' : World), e = .returned (.agg (rqC k (.slice none 0 0) (.slice none 0 0) hi lo fr to lim)) ∧ Below w.heap.size w w' →
      ∃ u, e = .returned u ∧ RqAt w' w.heap.size u q.tame ∧ Below w.heap.size w w' := fun k hi lo fr to lim hq e w' ⟨he, hb⟩ => ⟨_, he, by rw [hq]; exact ⟨_, _, rfl, acs_nil _ _, trs_nil _ _⟩, hb⟩
  have cases9 : low 256 q.kind % 9 = 0 ∨ low 256 q.kind % 9 = 1 ∨ low 256 q.kind % 9 = 2 ∨ low 256 q.kind % 9 = 3 ∨ low 256 q.kind % 9 = 4 ∨ low 256 q.kind % 9 = 5 ∨ low 256 q.kind % 9 = 6 ∨ low 256 q.kind % 9 = 7 ∨ low 256 q.kind % 9 = 8 := by omega
  rcases cases9 with h | h | h | h | h | h | h | h | h
  · refine (tame_acs q va vt w h q.acs ha oka h1).mono fun e w' ⟨u, he, hA, hb⟩ => ⟨_, he, ?_, hb⟩
    rw [RIn.tame, if_pos h]
    exact ⟨_, _, rfl, hA, trs_nil _ _⟩
  · refine (tame_trs q va vt w h q.trs ht okt h2).mono fun e w' ⟨u, he, hA, hb⟩ => ⟨_, he, ?_, hb⟩
    rw [RIn.tame, if_neg (by omega), if_pos h]
    exact ⟨_, _, rfl, acs_nil _ _, hA⟩
  · exact (tame_tick q va vt w h).mono (fin _ _ _ _ _ _ (by rw [RIn.tame, h]; rfl))
  · exact (tame_find4 q va vt w h).mono (fin _ _ _ _ _ _ (by rw [RIn.tame, h]; rfl))
  · exact (tame_find5 q va vt w h).mono (fin _ _ _ _ _ _ (by rw [RIn.tame, h]; rfl))
  · exact (tame_span6 q va vt w h).mono (fin _ _ _ _ _ _ (by rw [RIn.tame, h]; rfl))
  · exact (tame_find7 q va vt w h).mono (fin _ _ _ _ _ _ (by rw [RIn.tame, h]; rfl))
  · exact (tame_span8 q va vt w h).mono (fin _ _ _ _ _ _ (by rw [RIn.tame, h]; rfl))
  · exact (tame_grow q va vt w h).mono (fin _ _ _ _ _ _ (by rw [RIn.tame, h]; rfl))

theorem request_any (u : Value) (q : Rq) (base : Nat) (w : World) (h : RqAt w base u q) (hg : q.good) :
    Calls Try.prog 14 #[u] w fun e w' => ∃ v, e = .returned v ∧ Own w' w.heap.size v q.bytes ∧ Below w.heap.size w w' := by
  obtain ⟨va, vt, rfl, ha, ht⟩ := h
  have oa := slice_one ha
  have ot := slice_one ht
  have z64 : Word64 (0, 0) := ⟨by decide, by decide⟩
  rcases hg with ⟨L, rfl, hL, hf⟩ | ⟨L, rfl, hL, hf⟩ | ⟨x, rfl, hx⟩ | ⟨k, hi, lo, rfl, hk, hw⟩ | ⟨k, hi, lo, fr, to, lim, rfl, hk, hw, _⟩ | ⟨fr, to, rfl, _⟩
  · exact reqB_acs 1 rfl va vt 0 0 0 0 0 w base z64 oa ot L ha (fun a h => (hf a h).1) (by omega)
  · exact reqB_trs 2 rfl va vt 0 0 0 0 0 w base z64 oa ot L ht (fun a h => (hf a h).1) (by omega)
  · exact reqB_tick 3 rfl va vt 0 0 x 0 0 w base z64 oa ot
  · have e : Rq.bytes ⟨k, [], [], hi, lo, 0, 0, 0⟩ = intB 1 (k : Nat) ++ numB (hi, lo) := by
      unfold Rq.bytes Rq.body
      dsimp only
      rw [if_neg (by omega), if_neg (by omega), if_neg (by omega), if_pos hk]
    rw [e]
    exact reqB_find k hk va vt hi lo 0 0 0 w base hw oa ot
  · have e : Rq.bytes ⟨k, [], [], hi, lo, fr, to, lim⟩ = intB 1 (k : Nat) ++ (numB (hi, lo) ++ (intB 6 (fr : Nat) ++ intB 6 (to : Nat)) ++ intB 1 (lim : Nat)) := by
      unfold Rq.bytes Rq.body
      dsimp only
      rw [if_neg (by omega), if_neg (by omega), if_neg (by omega), if_neg (by omega), if_pos hk]
    rw [e]
    rcases hk with rfl | rfl
    · have := reqB_span6 6 rfl va vt hi lo fr to lim w base hw oa ot
      simpa only [List.append_assoc] using this
    · have := reqB_span8 8 rfl va vt hi lo fr to lim w base hw oa ot
      simpa only [List.append_assoc] using this
  · exact reqB_grow 9 rfl va vt 0 0 fr to 0 w base z64 oa ot
end Go.Proofs.Ytekpkbmelhgneaa
