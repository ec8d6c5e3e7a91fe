/-
  Slices of words: what they hold, rows of the call's own, append.
-/
import Derived.Test.YtbbpihdebdknhaaDoorRfA
namespace Go.Proofs.YtbbpihdebdknhaaDoor
open Go.RowKit

theorem info_u32 : (Tryd.prog.info? 46).map (fun i => (i.zero, i.size, i.bytes)) = some (some (.int .u32 0), 1, 4) := by kernel_rfl
theorem info_u32' : ∃ i, Tryd.prog.info? 46 = some i ∧ i.zero = some (.int .u32 0) ∧ i.size = 1 ∧ i.bytes = 4 := by
  cases hi : Tryd.prog.info? 46 with
  | none => have h := info_u32; rw [hi] at h; cases h
  | some i =>
    have h := info_u32
    rw [hi] at h
    have h' : (i.zero, i.size, i.bytes) = (some (.int .u32 0), 1, 4) := Option.some.inj h
    exact ⟨i, rfl, congrArg (·.1) h', congrArg (·.2.1) h', congrArg (·.2.2) h'⟩
/-- A slice value with these words. -/
def WordsAt (w : World) (v : Value) (l : List Nat) : Prop :=
  W32 l ∧ l.length ≤ maxLen ∧ ∃ p c, v = .slice p l.length c ∧ ∀ i, i < l.length → ∃ b off, p = some ⟨b, off, none⟩ ∧ b < w.heap.size ∧ w.cell? ⟨b, off + i, none⟩ = some (.int .u32 (l.getD i 0 : Nat))
theorem WordsAt.later {w w1 : World} {v : Value} {l : List Nat} (h : WordsAt w v l) (hb : Below w.heap.size w w1) : WordsAt w1 v l := by
  obtain ⟨h1, h2, p, c, e, h⟩ := h
  refine ⟨h1, h2, p, c, e, fun i hi => ?_⟩
  obtain ⟨b, off, e, hlt, hc⟩ := h i hi
  exact ⟨b, off, e, Nat.lt_of_lt_of_le hlt hb.size, (hb.cell (p := ⟨b, off + i, none⟩) hlt).trans hc⟩

/-- A row of words of the call's own. -/
def OwnW (w : World) (base : Nat) (v : Value) (l : List Nat) : Prop := w.ownsRow base 46 1 v l.length (l.map fun x : Nat => Value.int .u32 (x : Int))
theorem OwnW.words {w : World} {base : Nat} {v : Value} {l : List Nat} (h : OwnW w base v l) (hw : W32 l) (hl : l.length ≤ maxLen) : WordsAt w v l := by
  obtain ⟨_, ⟨rfl, h0⟩ | ⟨g, cap, cur, rfl, hb, hg, h1, h2, h3, h4⟩⟩ := h
  · obtain rfl := List.eq_nil_of_length_eq_zero h0
    exact ⟨hw, hl, none, 0, rfl, fun i hi => by simp at hi⟩
  · refine ⟨hw, hl, _, _, rfl, fun i hi => ⟨g, 0, rfl, (Array.getElem?_eq_some_iff.1 hg).1, ?_⟩⟩
    rw [cell_of_row w g (0 + i) cur _ _ hg, Nat.zero_add]
    have e := congrArg (fun x : List Value => x[i]?) h4
    simp only [Nat.mul_one, List.getElem?_take, hi, if_true] at e
    rw [← Array.getElem?_toList, e]
    simp [hi]

theorem under_words : Tryd.prog.underlying 44 = some (.slice 46) := by kernel_rfl

theorem src_emptyW (w : World) (i : TypeInfo) (p : Option Addr) (c : Nat) : Src Tryd.prog i.size 44 (.slice p ([] : List Nat).length c) 0 [] w := by
  cases p with
  | none => exact Src.ofNil w under_words c
  | some a => exact Src.ofSlice w under_words a 0 c [] (by simp) (fun j u h => by simp at h) (fun u h => by cases h)
/-- append(v, x...) where v is the call's own row. -/
theorem append_words (w : World) (base : Nat) (ty : TypeId) (v : Value) (xs : List Nat) (hown : OwnW w base v xs) (x : Value) (l : List Nat) (hx : WordsAt w x l) (hn : xs.length + l.length ≤ 1048576) (hb : base ≤ w.heap.size) :
    ∃ v' w', (Builtin.append_ #[44, 44] ty #[v, x]).run Tryd.prog w = .ok v' w' ∧ OwnW w' base v' (xs ++ l) ∧ w.grownBy w' v.ownBlock ∧ (v' = .slice none 0 0 ↔ v = .slice none 0 0 ∧ l = []) := by
  obtain ⟨i, hi, z0, z1, z2⟩ := info_u32'
  obtain ⟨_, hm, p, c, rfl, hc⟩ := hx
  by_cases hl : l = []
  · subst hl
    refine ⟨v, w, ?_, by simpa using hown, ⟨rfl, rfl, rfl, Nat.le_refl _, fun _ _ _ => rfl⟩, by simp⟩
    obtain ⟨_, ⟨rfl, h0⟩ | ⟨g, cap, cur, rfl, hb, hg, h1, h2, h3, h4⟩⟩ := hown
    · exact run_append_nothing w _ _ ty _ i under_words hi none 0 0 (Nat.le_refl _) _ (src_emptyW w i p c)
    · exact run_append_nothing w _ _ ty _ i under_words hi _ _ cap h1 _ (src_emptyW w i p c)
  · have hpos : 0 < l.length := List.length_pos_iff.2 hl
    obtain ⟨b, off, rfl, _, _⟩ := hc 0 hpos
    obtain ⟨v', w', h1, h2, h3, h4⟩ := run_append_own (P := Tryd.prog) w base 44 ty 46 i _ 1 4 under_words hi z0 z1 z2 rfl (by decide) v xs.length _ hown ⟨b, off, none⟩ l.length c (l.map fun x : Nat => Value.int .u32 (x : Int)) (by simp)
      (fun j u hu => by
        have hj : j < l.length := by
          have := (List.getElem?_eq_some_iff.1 hu).1
          simpa using this
        obtain ⟨b', off', e', _, hcell⟩ := hc j hj
        cases e'
        rw [show (⟨b, off, none⟩ : Addr).add j = ⟨b, off + j, none⟩ from Addr.add_lit .., hcell, ← hu]
        simp [hj]) (fun u hu => by obtain ⟨y, _, rfl⟩ := List.mem_map.1 hu; rfl) (by unfold maxLen; omega) (by omega) hb
    refine ⟨v', w', h1, ?_, h3, by rw [h4]; simp [hl]⟩
    unfold OwnW
    rw [List.map_append, List.length_append]
    exact h2


theorem OwnW.form {w : World} {base : Nat} {v : Value} {l : List Nat} (h : OwnW w base v l) : ∃ p n c, v = .slice p n c ∧ n = l.length := by
  obtain ⟨_, ⟨rfl, h0⟩ | ⟨g, cap, cur, rfl, _⟩⟩ := h
  · exact ⟨_, _, _, rfl, h0.symm⟩
  · exact ⟨_, _, _, rfl, rfl⟩
theorem WordsAt.new1 (w : World) (x : Nat) (hx : x < 4294967296) : WordsAt (w.alloc (.cells #[.int .u32 (x : Nat)] 46)) (.slice (some ⟨w.heap.size, 0, none⟩) 1 1) [x] :=
  ⟨(fun y hy => by simp at hy; omega), by simp [maxLen], _, _, rfl, fun i hi => by
    obtain rfl : i = 0 := by simpa using hi
    exact ⟨_, 0, rfl, by simp, by rw [World.cell?_alloc_at _ _ _ _ rfl]; rfl⟩⟩
theorem BytesAt.new1 (w : World) (x : Nat) (hx : x < 256) : BytesAt (w.alloc (.cells #[.int .u8 (x : Nat)] 5)) (.slice (some ⟨w.heap.size, 0, none⟩) 1 1) [x] :=
  ⟨(fun y hy => by simp at hy; omega), by simp [maxLen], _, _, rfl, fun i hi => by
    obtain rfl : i = 0 := by simpa using hi
    exact ⟨_, 0, rfl, by simp, by rw [World.cell?_alloc_at _ _ _ _ rfl]; rfl⟩⟩
end Go.Proofs.YtbbpihdebdknhaaDoor
