
/-
  Numbers as bytes, the highest first; what a reader takes and leaves. Plain mathematics of lists.
-/
import Derived.Test.YtfhaphbfbmpbiaaWiA
namespace Go.Proofs.Ytfhaphbfbmpbiaa

theorem snoc_ind {p : List Nat → Prop} (h0 : p []) (h1 : ∀ l x, p l → p (l ++ [x])) (l : List Nat) : p l := by
  have h : ∀ m : List Nat, p m.reverse := by
    intro m
    induction m with
    | nil => exact h0
    | cons x m ih => rw [List.reverse_cons]; exact h1 _ _ ih
  rw [← List.reverse_reverse l]
  exact h _
/-- The number of bytes, the highest first. -/
def be (l : List Nat) : Nat := l.foldl (fun a x => a * 256 + x) 0
theorem be_snoc (l : List Nat) (x : Nat) : be (l ++ [x]) = be l * 256 + x := by simp [be, List.foldl_append]
theorem be_nil : be [] = 0 := rfl
theorem be_append (l m : List Nat) : be (l ++ m) = be l * 256 ^ m.length + be m := by
  refine snoc_ind (p := fun m => be (l ++ m) = be l * 256 ^ m.length + be m) ?_ ?_ m
  · simp [be_nil]
  · intro m x ih
    rw [← List.append_assoc, be_snoc, ih, be_snoc, List.length_append, List.length_singleton, Nat.pow_succ, Nat.add_mul, Nat.mul_assoc, Nat.add_assoc]
theorem be_lt (l : List Nat) (h : W8 l) : be l < 256 ^ l.length := by
  revert h
  refine snoc_ind (p := fun l => W8 l → be l < 256 ^ l.length) ?_ ?_ l
  · simp [be_nil]
  · intro m x ih h
    have h1 := ih fun y hy => h y (by simp [hy])
    have h2 := h x (by simp)
    rw [be_snoc, List.length_append, List.length_singleton, Nat.pow_succ]
    omega
/-- The lowest n bytes of a number, the highest first. -/
def enc : Nat → Nat → List Nat
  | 0, _ => []
  | n + 1, x => enc n (x / 256) ++ [x % 256]
theorem enc_len : ∀ n x, (enc n x).length = n
  | 0, _ => rfl
  | n + 1, x => by rw [enc, List.length_append, enc_len n]; rfl
theorem enc_w8 : ∀ n x, W8 (enc n x)
  | 0, _ => fun _ h => by cases h
  | n + 1, x => fun y hy => by
    rw [enc, List.mem_append] at hy
    rcases hy with hy | hy
    · exact enc_w8 n _ y hy
    · simp at hy; omega
theorem be_enc : ∀ n x, be (enc n x) = x % 256 ^ n
  | 0, x => by simp [enc, be_nil, Nat.mod_one]
  | n + 1, x => by
    rw [enc, be_snoc, be_enc n, Nat.pow_succ, Nat.mul_comm (256 ^ n) 256, Nat.mod_mul, Nat.mul_comm, Nat.add_comm]
theorem be_enc_lt {n x : Nat} (h : x < 256 ^ n) : be (enc n x) = x := by rw [be_enc, Nat.mod_eq_of_lt h]
theorem enc_be (l : List Nat) (h : W8 l) : enc l.length (be l) = l := by
  revert h
  refine snoc_ind (p := fun l => W8 l → enc l.length (be l) = l) ?_ ?_ l
  · intro _; rfl
  · intro m x ih h
    have h1 := ih fun y hy => h y (by simp [hy])
    have h2 := h x (by simp)
    rw [be_snoc, List.length_append, List.length_singleton, enc]
    rw [show (be m * 256 + x) / 256 = be m from by omega, show (be m * 256 + x) % 256 = x from by omega, h1]
theorem W8.append {l m : List Nat} (h : W8 l) (k : W8 m) : W8 (l ++ m) := fun x hx => by
  rcases List.mem_append.1 hx with hx | hx
  · exact h x hx
  · exact k x hx
theorem W8.take {l : List Nat} (h : W8 l) (n : Nat) : W8 (l.take n) := fun x hx => h x (List.mem_of_mem_take hx)
theorem W8.drop {l : List Nat} (h : W8 l) (n : Nat) : W8 (l.drop n) := fun x hx => h x (List.mem_of_mem_drop hx)
theorem W8.nil : W8 [] := fun _ h => by cases h

/-- What a reader takes of n bytes; what it is behind that. -/
def rTake (n : Nat) (s : List Nat × Bool) : List Nat := if s.2 = false ∧ n ≤ s.1.length then s.1.take n else []
def rDrop (n : Nat) (s : List Nat × Bool) : List Nat × Bool := if s.2 = false ∧ n ≤ s.1.length then (s.1.drop n, false) else (s.1, true)
theorem rTake_yes {n : Nat} {s : List Nat × Bool} (h : s.2 = false) (k : n ≤ s.1.length) : rTake n s = s.1.take n := if_pos ⟨h, k⟩
theorem rDrop_yes {n : Nat} {s : List Nat × Bool} (h : s.2 = false) (k : n ≤ s.1.length) : rDrop n s = (s.1.drop n, false) := if_pos ⟨h, k⟩
theorem rTake_bad {n : Nat} {s : List Nat × Bool} (h : s.2 = true) : rTake n s = [] := if_neg fun k => by rw [h] at k; cases k.1
theorem rDrop_bad {n : Nat} {s : List Nat × Bool} (h : s.2 = true) : rDrop n s = (s.1, true) := if_neg fun k => by rw [h] at k; cases k.1
theorem rTake_few {n : Nat} {s : List Nat × Bool} (h : s.1.length < n) : rTake n s = [] := if_neg fun k => by omega
theorem rDrop_few {n : Nat} {s : List Nat × Bool} (h : s.1.length < n) : rDrop n s = (s.1, true) := if_neg fun k => by omega
theorem rTake_len (n : Nat) (s : List Nat × Bool) : (rTake n s).length ≤ n := by
  unfold rTake
  split
  · simp; omega
  · simp
theorem rTake_or (n : Nat) (s : List Nat × Bool) : rTake n s = [] ∨ (rTake n s).length = n := by
  unfold rTake
  split
  · rename_i h; right; simp; omega
  · exact Or.inl rfl
theorem rTake_w8 {n : Nat} {s : List Nat × Bool} (h : W8 s.1) : W8 (rTake n s) := by
  unfold rTake
  split
  · exact h.take n
  · exact W8.nil
end Go.Proofs.Ytfhaphbfbmpbiaa
