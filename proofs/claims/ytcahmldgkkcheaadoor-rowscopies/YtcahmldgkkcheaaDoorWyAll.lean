
/-
  WyBas WyAdd WyDiv WyDec WyPrint WyFit WyOrd WyDigits WyByt WyWiA WyWiM WyWiR WyWiW WyWiN WyWiI WyWiE WyWiX WyWiV WyWiY WyWiF WyWiB WyWiHa WyWiAv, one behind the other.
-/
import Derived.Test.YtcahmldgkkcheaaDoorRows
import Derived.WalkKit
import Derived.WalkSpells
import Derived.WalkLawsBesides
import Derived.Laws.Externs
import Derived.Shelf.Spec.BitsCarry
import Derived.Shelf.Bits.Mul64
import Derived.Laws.BytesArg
import Derived.BigRegion
import Derived.Deep.MidRow
import Derived.Laws.MakeOwn
import Derived.Laws.Bits64b
import Derived.Laws.BitsAllLaws
import Derived.Laws.Rows
import Derived.Lib.AppendZeros
import Derived.Deep.Upon
import Derived.Maps.AppendAt
import Derived.ChangeKeysEq
import Derived.Laws.StructEq
import Derived.Lib.LazyBuf
import Derived.Test.YtcahmldgkkcheaaDoorHeld
/-! WyBas -/
set_option maxRecDepth 100000
namespace Go.Proofs.YtcahmldgkkcheaaDoor.W
open Go.RowKit

/-- A word of 64 bits. -/
def Word (x : Int) : Prop := 0 ≤ x ∧ x < 18446744073709551616

theorem ret_int {k : IntKind} {a b : Int} (h : a = b) : Ending.returned (.int k a) = .returned (.int k b) := by rw [h]

/-- The borrow of a difference of words. -/
def bor (x y : Int) : Int := if x < y then 1 else 0

theorem below1 (w : World) (o : Obj) : Below w.heap.size w (w.alloc o) := (Below.refl _ _).alloc (Nat.le_refl _) _
theorem below2 (w : World) (o p : Obj) : Below w.heap.size w ((w.alloc o).alloc p) := (below1 w o).alloc (by simp) _
theorem below3 (w : World) (o p q : Obj) : Below w.heap.size w (((w.alloc o).alloc p).alloc q) := (below2 w o p).alloc (by simp; omega) _
theorem below4 (w : World) (o p q r : Obj) : Below w.heap.size w ((((w.alloc o).alloc p).alloc q).alloc r) := (below3 w o p q).alloc (by simp; omega) _

/-- One call behind another. -/
theorem chain {a b c : World} (h : Below a.heap.size a b) (k : Below b.heap.size b c) : Below a.heap.size a c := h.trans (k.mono h.size)
theorem chainA {a b : World} (h : Below a.heap.size a b) (o : Obj) : Below a.heap.size a (b.alloc o) := h.alloc h.size o

/-- -1, 0, 1. -/
def cmpI (x y : Int) : Int := if x < y then -1 else if y < x then 1 else 0

theorem of_any (n : Int) (w : World) :
    Calls Tryd.prog 23 #[.int .u64 n] w fun e w' => e = .returned (.agg #[.int .u64 0, .int .u64 n]) ∧ Below w.heap.size w w' := by
  go_enter Tryd.func23, Tryd.ntmps23
  go_wp2
  exact bodyPost_ret (v := .agg #[.int .u64 0, .int .u64 n]) (by simp [results, Tryd.results23, go_sem]) rfl ⟨rfl, below1 _ _⟩

/-- Of two numbers of two words each. -/
def cmp2 (ah al bh bl : Int) : Int := if cmpI ah bh != 0 then cmpI ah bh else cmpI al bl

/-- Is the one less than the other? -/
def ltB (ah al bh bl : Int) : Bool := decide (ah < bh + bor al bl)

end Go.Proofs.YtcahmldgkkcheaaDoor.W
/-! WyAdd -/
set_option maxRecDepth 100000
namespace Go.Proofs.YtcahmldgkkcheaaDoor.W
open Go.RowKit

/-- A slice of numbers of two words each, as it lies in memory. -/
def Nums (w : World) (a : Option Addr) (n : Nat) (H L : Nat → Int) : Prop :=
  n ≤ maxLen ∧ ∀ i, i < n → ∃ b off, a = some ⟨b, off, none⟩ ∧ b < w.heap.size ∧ w.cell? ⟨b, off + i * 2, none⟩ = some (.int .u64 (H i)) ∧ w.cell? ⟨b, off + i * 2 + 1, none⟩ = some (.int .u64 (L i)) ∧ Word (H i) ∧ Word (L i)

/-- The sum of the first k. -/
def sumTo (H L : Nat → Int) : Nat → Int
  | 0 => 0
  | k + 1 => sumTo H L k + (H k * 18446744073709551616 + L k)

theorem sumTo_nonneg {H L : Nat → Int} {n : Nat} (h : ∀ i, i < n → Word (H i) ∧ Word (L i)) (k : Nat) (hk : k ≤ n) : 0 ≤ sumTo H L k := by
  induction k with
  | zero => simp [sumTo]
  | succ k ih =>
    have := ih (by omega)
    obtain ⟨⟨_, _⟩, ⟨_, _⟩⟩ := h k (by omega)
    simp only [sumTo]; omega

theorem sumTo_mono {H L : Nat → Int} {n : Nat} (h : ∀ i, i < n → Word (H i) ∧ Word (L i)) (k d : Nat) (hk : k + d ≤ n) : sumTo H L k ≤ sumTo H L (k + d) := by
  induction d with
  | zero => simp
  | succ d ih =>
    have := ih (by omega)
    obtain ⟨⟨_, _⟩, ⟨_, _⟩⟩ := h (k + d) (by omega)
    rw [← Nat.add_assoc]; simp only [sumTo]; omega

/-- What Add answers of a sum. -/
def addV (s : Int) : Value :=
  if s < 340282366920938463463374607431768211456 then .tuple #[.agg #[.int .u64 (s / 18446744073709551616), .int .u64 (s % 18446744073709551616)], .bool true]
  else .tuple #[.agg #[.int .u64 0, .int .u64 0], .bool false]
theorem addV_yes {s : Int} (h : s < 340282366920938463463374607431768211456) : addV s = .tuple #[.agg #[.int .u64 (s / 18446744073709551616), .int .u64 (s % 18446744073709551616)], .bool true] := by rw [addV, if_pos h]
theorem addV_no {s : Int} (h : ¬ s < 340282366920938463463374607431768211456) : addV s = .tuple #[.agg #[.int .u64 0, .int .u64 0], .bool false] := by rw [addV, if_neg h]

theorem cells_eq {a b c d : Int} (h : a = c) (k : b = d) : Ending.returned (.tuple #[.agg #[.int .u64 a, .int .u64 b], .bool true]) = .returned (.tuple #[.agg #[.int .u64 c, .int .u64 d], .bool true]) := by rw [h, k]

end Go.Proofs.YtcahmldgkkcheaaDoor.W
/-! WyDiv -/
namespace Go.Proofs.YtcahmldgkkcheaaDoor.W
open Go.RowKit

theorem ret_ints {k l : IntKind} {a b c d : Int} (h : a = c) (h' : b = d) : Ending.returned (.tuple #[.int k a, .int l b]) = .returned (.tuple #[.int k c, .int l d]) := by rw [h, h']

theorem or_add (a b : Nat) (k : Nat) (h : b < 2 ^ k) (ha : a * 2 ^ k < 18446744073709551616) (hb : b < 18446744073709551616) : bits .or .u64 ((a * 2 ^ k : Nat) : Int) (b : Int) = ((a * 2 ^ k + b : Nat) : Int) := by
  have h1 := bits_or_u64_nat (a * 2 ^ k) b ha hb
  rw [h1, Nat.mul_comm, ← Nat.two_pow_add_eq_or_of_lt h]

theorem and_mod (x : Int) (h0 : 0 ≤ x) (h1 : x < 18446744073709551616) : bits BinOp.and IntKind.u64 x 4294967295 = x % 4294967296 := by
  obtain ⟨n, rfl⟩ := Int.eq_ofNat_of_zero_le h0
  rw [Go.Proofs.Mul64.maskN n (by omega)]
  omega

end Go.Proofs.YtcahmldgkkcheaaDoor.W
/-! WyDec -/
set_option maxRecDepth 100000
namespace Go.Proofs.YtcahmldgkkcheaaDoor.W
/-- The digits of a number that is not 0, none of 0; with fuel. -/
def dT : Nat → Nat → List Int
  | 0, _ => []
  | f + 1, n => if n = 0 then [] else dT f (n / 10) ++ [((48 + n % 10 : Nat) : Int)]

/-- The decimal digits of a number below 10^39. -/
def dec (n : Nat) : List Int := dT 38 (n / 10) ++ [((48 + n % 10 : Nat) : Int)]

theorem dT_zero (f : Nat) : dT f 0 = [] := by cases f <;> simp [dT]
theorem dT_succ (f n : Nat) (h : n ≠ 0) : dT (f + 1) n = dT f (n / 10) ++ [((48 + n % 10 : Nat) : Int)] := by simp [dT, h]

theorem dT_length_le (f n : Nat) : (dT f n).length ≤ f := by
  induction f generalizing n with
  | zero => simp [dT]
  | succ f ih =>
    by_cases h : n = 0
    · subst h; simp [dT]
    · rw [dT_succ f n h]; have := ih (n / 10); simp; omega

theorem dT_digit (f n : Nat) : ∀ c ∈ dT f n, 48 ≤ c ∧ c ≤ 57 := by
  induction f generalizing n with
  | zero => simp [dT]
  | succ f ih =>
    by_cases h : n = 0
    · subst h; simp [dT]
    · rw [dT_succ f n h]
      intro c hc
      simp only [List.mem_append, List.mem_singleton] at hc
      rcases hc with hc | rfl
      · exact ih _ c hc
      · omega

theorem dec_digit (n : Nat) : ∀ c ∈ dec n, 48 ≤ c ∧ c ≤ 57 := by
  intro c hc
  simp only [dec, List.mem_append, List.mem_singleton] at hc
  rcases hc with hc | rfl
  · exact dT_digit _ _ c hc
  · omega

theorem dec_length (n : Nat) : 1 ≤ (dec n).length ∧ (dec n).length ≤ 39 := by
  have := dT_length_le 38 (n / 10)
  simp [dec]; omega

/-- The number of digits, the highest first. -/
def valOf (l : List Int) : Nat := l.foldl (fun v c => v * 10 + (c - 48).toNat) 0

theorem valOf_snoc (l : List Int) (c : Int) : valOf (l ++ [c]) = valOf l * 10 + (c - 48).toNat := by simp [valOf]

theorem valOf_dT (f n : Nat) (h : n < 10 ^ f) : valOf (dT f n) = n := by
  induction f generalizing n with
  | zero => simp at h; subst h; simp [dT, valOf]
  | succ f ih =>
    by_cases h0 : n = 0
    · subst h0; simp [dT, valOf]
    · rw [dT_succ f n h0, valOf_snoc, ih (n / 10) (by rw [Nat.pow_succ] at h; omega)]
      omega

theorem valOf_dec (n : Nat) (h : n < 10 ^ 39) : valOf (dec n) = n := by
  rw [dec, valOf_snoc, valOf_dT 38 (n / 10) (by omega)]
  omega

theorem dT_head (f n : Nat) (h : n < 10 ^ f) : n ≠ 0 → ∃ c l, dT f n = c :: l ∧ 49 ≤ c := by
  induction f generalizing n with
  | zero => intro h0; simp at h; omega
  | succ f ih =>
    intro h0
    rw [dT_succ f n h0]
    by_cases h1 : n / 10 = 0
    · rw [h1, dT_zero]
      exact ⟨_, [], rfl, by omega⟩
    · obtain ⟨c, l, e, hc⟩ := ih (n / 10) (by rw [Nat.pow_succ] at h; omega) h1
      exact ⟨c, l ++ [((48 + n % 10 : Nat) : Int)], by rw [e]; rfl, hc⟩

/-- No nought stands ahead of other digits. -/
theorem dec_head (n : Nat) (h : n < 10 ^ 39) (hl : 1 < (dec n).length) : ∃ c l, dec n = c :: l ∧ 49 ≤ c := by
  by_cases h1 : n / 10 = 0
  · simp [dec, h1, dT_zero] at hl
  · obtain ⟨c, l, e, hc⟩ := dT_head 38 (n / 10) (by omega) h1
    exact ⟨c, l ++ [((48 + n % 10 : Nat) : Int)], by rw [dec, e]; rfl, hc⟩

/-- One more round of the loop that writes them. -/
theorem dec_first (n : Nat) : dec n = dT 38 (n / 10) ++ [((48 + n % 10 : Nat) : Int)] := rfl
theorem dec_more {n m p : Nat} {ds : List Int} (h : dec n = dT p m ++ ds) (hm : m ≠ 0) (hp : m < 10 ^ p) : dec n = dT (p - 1) (m / 10) ++ (((48 + m % 10 : Nat) : Int) :: ds) := by
  match p, hp with
  | 0, hp => simp at hp; omega
  | p + 1, _ =>
    rw [h, dT_succ p m hm]
    simp
end Go.Proofs.YtcahmldgkkcheaaDoor.W
/-! WyPrint -/
set_option maxRecDepth 100000
namespace Go.Proofs.YtcahmldgkkcheaaDoor.W
open Go.RowKit

/-- What holds ahead of each round of Print's loop: p cells are free; what is left of the number; the digits behind. -/
structure PR (w wr : World) (n p : Nat) (hi lo : Int) (ds : List Int) : Prop where
  p39 : p ≤ 39
  h0 : 0 ≤ hi
  h1 : hi < 18446744073709551616
  l0 : 0 ≤ lo
  l1 : lo < 18446744073709551616
  c0 : wr.cell? ⟨w.heap.size, 0, none⟩ = some (.int .u64 hi)
  c1 : wr.cell? ⟨w.heap.size, 1, none⟩ = some (.int .u64 lo)
  f0 : wr.frozen? ⟨w.heap.size, 0, none⟩ = false
  f1 : wr.frozen? ⟨w.heap.size, 1, none⟩ = false
  X : ∀ j, j < 39 → (∃ v, wr.cell? ⟨w.heap.size + 1, j, none⟩ = some v) ∧ wr.frozen? ⟨w.heap.size + 1, j, none⟩ = false
  L : ds.length = 39 - p
  D : ∀ i, i < 39 - p → wr.cell? ⟨w.heap.size + 1, p + i, none⟩ = some (.int .u8 (ds.getD i 0))
  R : (p = 39 ∧ (hi * 18446744073709551616 + lo).toNat = n) ∨ (p < 39 ∧ dec n = dT p (hi * 18446744073709551616 + lo).toNat ++ ds)
  B : (hi * 18446744073709551616 + lo).toNat < 10 ^ p
  bel : Below w.heap.size w wr
  z : w.heap.size + 1 < wr.heap.size

/-- One round: the last digit of what is left goes ahead of those that are there. -/
theorem PR.step {w wr w1 : World} {n p : Nat} {hi lo : Int} {ds : List Int} (h : PR w wr n (p + 1) hi lo ds) (hb : Below wr.heap.size wr w1) (hc : p = 38 ∨ (hi * 18446744073709551616 + lo) ≠ 0) :
    PR w (((w1.setCell ⟨w.heap.size, 0, none⟩ (.int .u64 (hi / 10))).setCell ⟨w.heap.size, 1, none⟩ (.int .u64 ((hi % 10 * 18446744073709551616 + lo) / 10))).setCell ⟨w.heap.size + 1, p, none⟩ (.int .u8 (48 + (hi % 10 * 18446744073709551616 + lo) % 10)))
      n p (hi / 10) ((hi % 10 * 18446744073709551616 + lo) / 10) ((48 + (hi % 10 * 18446744073709551616 + lo) % 10) :: ds) := by
  obtain ⟨p39, h0, h1, l0, l1, c0, c1, f0, f1, X, L, D, R, B, bel, z⟩ := h
  have z' : w.heap.size < wr.heap.size := by omega
  have d0 := (hb.cell (p := ⟨w.heap.size, 0, none⟩) z').trans c0
  have d1 := (hb.cell (p := ⟨w.heap.size, 1, none⟩) z').trans c1
  have e0 := (hb.frozen (p := ⟨w.heap.size, 0, none⟩) z').trans f0
  have e1 := (hb.frozen (p := ⟨w.heap.size, 1, none⟩) z').trans f1
  have dj := fun j => hb.cell (p := ⟨w.heap.size + 1, j, none⟩) z
  have ej := fun j => hb.frozen (p := ⟨w.heap.size + 1, j, none⟩) z
  have hz1 := hb.size
  have em : (hi * 18446744073709551616 + lo).toNat / 10 = (hi / 10 * 18446744073709551616 + (hi % 10 * 18446744073709551616 + lo) / 10).toNat := by omega
  have ed : ((48 + (hi * 18446744073709551616 + lo).toNat % 10 : Nat) : Int) = 48 + (hi % 10 * 18446744073709551616 + lo) % 10 := by omega
  refine ⟨by omega, by omega, by omega, by omega, by omega, ?_, ?_, ?_, ?_, ?_, ?_, ?_, ?_, ?_, ?_, ?_⟩
  · simp [go_sem, d0]
  · simp [go_sem, d1]
  · simp [go_sem, e0]
  · simp [go_sem, e1]
  · intro j hj
    obtain ⟨⟨v, hv⟩, hf⟩ := X j hj
    have dv := (dj j).trans hv
    have ev := (ej j).trans hf
    by_cases hjp : j = p
    · subst hjp
      exact ⟨⟨_, by simp [go_sem, dv]; rfl⟩, by simp [go_sem, ev]⟩
    · exact ⟨⟨v, by simp [go_sem, dv]⟩, by simp [go_sem, ev]⟩
  · simp [L]; omega
  · intro i hi'
    cases i with
    | zero =>
      obtain ⟨⟨v, hv⟩, hf⟩ := X p (by omega)
      have dv := (dj p).trans hv
      simp [go_sem, dv]
    | succ i =>
      have dv := (dj (p + 1 + i)).trans (D i (by omega))
      rw [show p + (i + 1) = p + 1 + i from by omega]
      simp [go_sem, dv]
  · right
    refine ⟨by omega, ?_⟩
    rw [← em, ← ed]
    rcases R with ⟨hp, hn⟩ | ⟨hp, hn⟩
    · obtain rfl : p = 38 := by omega
      have : ds = [] := by apply List.eq_nil_of_length_eq_zero; omega
      subst this
      rw [hn]
      exact dec_first n
    · have hm : (hi * 18446744073709551616 + lo).toNat ≠ 0 := by omega
      exact dec_more hn hm B
  · rw [← em]
    rw [Nat.pow_succ] at B
    omega
  · exact (((bel.trans (hb.mono (by omega))).setCell (by simp) _).setCell (by simp) _).setCell (by simp) _
  · simp [World.setCell]; omega

end Go.Proofs.YtcahmldgkkcheaaDoor.W
/-! WyFit -/
set_option maxRecDepth 100000
namespace Go.Proofs.YtcahmldgkkcheaaDoor.W
open Go.RowKit

theorem cell_new_of (w : World) (C : Array Value) (t : TypeId) (i : Nat) : (w.alloc (.cells C t)).cell? ⟨w.heap.size, i, none⟩ = C[i]? := World.cell?_alloc_new w C t i

theorem word_max : Word 18446744073709551615 := ⟨by decide, by decide⟩
theorem word_one : Word 1 := ⟨by decide, by decide⟩
theorem word_zero : Word 0 := ⟨by decide, by decide⟩

end Go.Proofs.YtcahmldgkkcheaaDoor.W
/-! WyOrd -/
set_option maxRecDepth 100000
namespace Go.Proofs.YtcahmldgkkcheaaDoor.W
open Go.RowKit

theorem cmp2_num (ah al bh bl : Int) (h1 : Word ah) (h2 : Word al) (h3 : Word bh) (h4 : Word bl) : cmp2 ah al bh bl = cmpI (ah * 18446744073709551616 + al) (bh * 18446744073709551616 + bl) := by
  obtain ⟨_, _⟩ := h1; obtain ⟨_, _⟩ := h2; obtain ⟨_, _⟩ := h3; obtain ⟨_, _⟩ := h4
  unfold cmp2 cmpI
  by_cases p1 : ah < bh
  · simp only [if_pos p1]; rw [if_pos (by decide), if_pos (by omega)]
  · by_cases p2 : bh < ah
    · simp only [if_neg p1, if_pos p2]; rw [if_pos (by decide), if_neg (by omega), if_pos (by omega)]
    · simp only [if_neg p1, if_neg p2]
      obtain rfl : ah = bh := by omega
      rw [if_neg (by decide)]
      by_cases q1 : al < bl
      · rw [if_pos q1, if_pos (by omega)]
      · by_cases q2 : bl < al
        · rw [if_neg q1, if_pos q2, if_neg (by omega), if_pos (by omega)]
        · rw [if_neg q1, if_neg q2, if_neg (by omega), if_neg (by omega)]

theorem cmpI_le (x y : Int) : cmpI x y ≤ 0 ↔ x ≤ y := by
  unfold cmpI; split
  · constructor <;> intro <;> omega
  · split <;> constructor <;> intro <;> omega
theorem cmpI_eq (x y : Int) : cmpI x y = 0 ↔ x = y := by
  unfold cmpI; split
  · constructor <;> intro <;> omega
  · split <;> constructor <;> intro <;> omega
theorem cmpI_ge (x y : Int) : 0 ≤ cmpI x y ↔ y ≤ x := by
  unfold cmpI; split
  · constructor <;> intro <;> omega
  · split <;> constructor <;> intro <;> omega

theorem addV_form (s : Int) : ∃ h l ok, addV s = .tuple #[.agg #[.int .u64 h, .int .u64 l], .bool ok] := by
  by_cases h : s < 340282366920938463463374607431768211456
  · exact ⟨_, _, _, addV_yes h⟩
  · exact ⟨_, _, _, addV_no h⟩

/-- A number that lies in a block. -/
def NumAt (w : World) (b : Nat) (hi lo : Int) : Prop := b < w.heap.size ∧ w.cell? ⟨b, 0, none⟩ = some (.int .u64 hi) ∧ w.cell? ⟨b, 1, none⟩ = some (.int .u64 lo)
theorem NumAt.later {w w' : World} {b : Nat} {hi lo : Int} (h : NumAt w b hi lo) (hb : Below w.heap.size w w') : NumAt w' b hi lo :=
  ⟨Nat.lt_of_lt_of_le h.1 hb.size, (hb.cell (p := ⟨b, 0, none⟩) h.1).trans h.2.1, (hb.cell (p := ⟨b, 1, none⟩) h.1).trans h.2.2⟩
theorem NumAt.new (w : World) (hi lo : Int) (t : TypeId) : NumAt (w.alloc (.cells #[.int .u64 hi, .int .u64 lo] t)) w.heap.size hi lo := ⟨by simp, by simp, by simp⟩


theorem cmpI_lt (x y : Int) : cmpI x y < 0 ↔ x < y := by
  unfold cmpI; split
  · constructor <;> intro <;> omega
  · split <;> constructor <;> intro <;> omega
theorem cmpI_neg (x y : Int) : cmpI y x = -cmpI x y := by
  unfold cmpI
  by_cases h1 : x < y
  · rw [if_neg (by omega), if_pos h1, if_pos h1]; rfl
  · by_cases h2 : y < x
    · rw [if_pos h2, if_neg h1, if_pos h2]
    · rw [if_neg h2, if_neg h1, if_neg h1, if_neg h2]; rfl
theorem cmpI_bd (x y : Int) : -1 ≤ cmpI x y ∧ cmpI x y ≤ 1 := by
  unfold cmpI; split
  · omega
  · split <;> omega
end Go.Proofs.YtcahmldgkkcheaaDoor.W
/-! WyDigits -/
namespace Go.Proofs.YtcahmldgkkcheaaDoor.W
open Go.RowKit

/-- Byte j, the lowest first, once k rounds are done. -/
def dK (ah al : Int) (k j : Nat) : Int :=
  if j < 8 then (if j < k then al / 256 ^ j % 256 else 0) else if j < 16 then (if j - 8 < k then ah / 256 ^ (j - 8) % 256 else 0) else 0

structure DigR (w wr : World) (ah al : Int) (k : Nat) : Prop where
  k8 : k ≤ 8
  a : NumAt wr w.heap.size ah al
  d : ∀ j, j < 17 → wr.cell? ⟨w.heap.size + 1 + 1, j, none⟩ = some (.int .i64 (dK ah al k j)) ∧ wr.frozen? ⟨w.heap.size + 1 + 1, j, none⟩ = false
  r : ∀ j, j < 17 → wr.cell? ⟨w.heap.size + 1, j, none⟩ = some (.int .i64 0) ∧ wr.frozen? ⟨w.heap.size + 1, j, none⟩ = false
  bel : Below w.heap.size w wr
  z : w.heap.size + 1 + 1 < wr.heap.size

theorem byte_and (x : Int) (k : Nat) (h0 : 0 ≤ x) (h1 : x < 18446744073709551616) : wrap64 (bits BinOp.and IntKind.u64 (x / 2 ^ (8 * k)) 255) = x / 256 ^ k % 256 := by
  have e : x / 2 ^ (8 * k) ≤ x := Int.ediv_le_self _ h0
  have e0 : 0 ≤ x / 2 ^ (8 * k) := Int.ediv_nonneg h0 (Int.le_of_lt (Int.pow_pos (by decide)))
  have ep : (2 : Int) ^ (8 * k) = 256 ^ k := by rw [Int.pow_mul]; rfl
  rw [ep] at e e0 ⊢
  obtain ⟨n, hn⟩ := Int.eq_ofNat_of_zero_le e0
  rw [hn]
  have h := bits_and_u64_nat n 255 (by omega) (by omega)
  have e2 : n &&& 255 = n % 256 := Nat.and_two_pow_sub_one_eq_mod n 8
  rw [e2] at h
  have h2 : bits BinOp.and IntKind.u64 ((n : Nat) : Int) 255 = ((n % 256 : Nat) : Int) := h
  rw [h2]
  unfold wrap64
  omega

theorem DigR.step {w wr : World} {ah al : Int} {k : Nat} (h : DigR w wr ah al k) (hk : k < 8) (h1 : Word ah) (h2 : Word al) :
    DigR w ((wr.setCell ⟨w.heap.size + 1 + 1, k, none⟩ (.int .i64 (wrap64 (bits BinOp.and IntKind.u64 (al / 2 ^ (8 * k)) 255)))).setCell ⟨w.heap.size + 1 + 1, k + 8, none⟩
      (.int .i64 (wrap64 (bits BinOp.and IntKind.u64 (ah / 2 ^ (8 * k)) 255)))).drew ah al (k + 1) := by
  obtain ⟨k8, ⟨z0, a0, a1⟩, d, r, bel, z⟩ := h
  rw [byte_and al k h2.1 h2.2, byte_and ah k h1.1 h1.2]
  refine ⟨by omega, ⟨by simpa [World.setCell] using z0, by simp [go_sem, a0], by simp [go_sem, a1]⟩, fun j hj => ?_, fun j hj => ?_, ((bel.setCell (by simp; omega) _).setCell (by simp; omega) _).drew, by simpa [World.setCell] using z⟩
  · obtain ⟨d0, d1⟩ := d j hj
    refine ⟨?_, by simp [go_sem, d1]⟩
    by_cases e1 : j = k
    · subst e1
      have : ¬ j = j + 8 := by omega
      simp [go_sem, d0, dK, hk]
    · by_cases e2 : j = k + 8
      · subst e2
        have e3 : ¬ k + 8 < 8 := by omega
        have e4 : k + 8 < 16 := by omega
        have e6 : dK ah al (k + 1) (k + 8) = ah / 256 ^ k % 256 := by rw [dK, if_neg e3, if_pos e4, if_pos (by omega)]; simp
        rw [e6]
        simp [go_sem, d0]
      · have e5 : dK ah al (k + 1) j = dK ah al k j := by
          unfold dK
          by_cases c1 : j < 8
          · rw [if_pos c1, if_pos c1]
            by_cases c2 : j < k
            · rw [if_pos c2, if_pos (by omega)]
            · rw [if_neg c2, if_neg (by omega)]
          · rw [if_neg c1, if_neg c1]
            by_cases c3 : j < 16
            · rw [if_pos c3, if_pos c3]
              by_cases c2 : j - 8 < k
              · rw [if_pos c2, if_pos (by omega)]
              · rw [if_neg c2, if_neg (by omega)]
            · rw [if_neg c3, if_neg c3]
        rw [e5]
        have n1 : (⟨w.heap.size + 1 + 1, j, none⟩ : Addr) ≠ ⟨w.heap.size + 1 + 1, k, none⟩ := fun h => e1 (by cases h; rfl)
        have n2 : (⟨w.heap.size + 1 + 1, j, none⟩ : Addr) ≠ ⟨w.heap.size + 1 + 1, k + 8, none⟩ := fun h => e2 (by cases h; rfl)
        simp [go_sem, d0]
  · obtain ⟨d0, d1⟩ := r j hj
    exact ⟨by simp [go_sem, d0], by simp [go_sem, d1]⟩

theorem dK_zero (ah al : Int) (j : Nat) : dK ah al 0 j = 0 := by unfold dK; simp
theorem zeros17 (j : Nat) (h : j < 17) : (#[Value.int .i64 0, .int .i64 0, .int .i64 0, .int .i64 0, .int .i64 0, .int .i64 0, .int .i64 0, .int .i64 0, .int .i64 0, .int .i64 0, .int .i64 0, .int .i64 0, .int .i64 0, .int .i64 0, .int .i64 0, .int .i64 0, .int .i64 0] : Array Value)[j]? = some (.int .i64 0) := by
  show (Array.replicate 17 (Value.int .i64 0))[j]? = _
  simp [h]

/-- The digits, as a list of values. -/
def digs (ah al : Int) (k : Nat) : List Value := (List.range 17).map fun j => Value.int .i64 (dK ah al k j)
theorem digs_len (ah al : Int) (k : Nat) : (digs ah al k).length = 17 := by simp [digs]
theorem digs_one (ah al : Int) (k : Nat) : ∀ v ∈ digs ah al k, v.oneCell' = true := by
  intro v hv
  simp only [digs, List.mem_map] at hv
  obtain ⟨j, _, rfl⟩ := hv
  rfl
theorem digs_at (ah al : Int) (k j : Nat) (h : j < 17) : (digs ah al k)[j]? = some (.int .i64 (dK ah al k j)) := by simp [digs, h]

theorem below_setCells {B : Nat} {a : World} : ∀ (vs : List Value) (o : Nat) (w : World) (b : Nat), Below B a w → B ≤ b → Below B a (w.setCells b o vs)
  | [], _, _, _, h, _ => h
  | v :: vs, o, _, b, h, hb => below_setCells vs (o + 1) _ b (h.setCell (p := ⟨b, o, none⟩) hb v) hb

theorem asAddr_ptr {P : Program} (a : Addr) (w : World) : (asAddr (.pointer (some a))).run P w = .ok a w := rfl

end Go.Proofs.YtcahmldgkkcheaaDoor.W
/-! WyByt -/
namespace Go.Proofs.YtcahmldgkkcheaaDoor.W
open Go.RowKit

theorem info_u8 : (Tryd.prog.info? 5).map (fun i => (i.zero, i.size, i.bytes)) = some (some (.int .u8 0), 1, 1) := by kernel_rfl
theorem made16 : madeCells (Value.int .u8 0).cells 16 = Array.replicate 16 (.int .u8 0) := by kernel_rfl
theorem make16 (w : World) : (Instr.makeSlice 65 (.int .i64 16) (.int .i64 16)).run Tryd.prog w = .ok (.slice (some ⟨w.heap.size, 0, none⟩) 16 16) (w.alloc (.cells (Array.replicate 16 (.int .u8 0)) 5)) := by
  cases hi : Tryd.prog.info? 5 with
  | none => have h := info_u8; rw [hi] at h; cases h
  | some i =>
    have h := info_u8
    rw [hi] at h
    have h' : (i.zero, i.size, i.bytes) = (some (.int .u8 0), 1, 1) := Option.some.inj h
    have z0 : i.zero = some (.int .u8 0) := congrArg (·.1) h'
    have z1 : i.size = 1 := congrArg (·.2.1) h'
    have z2 : i.bytes = 1 := congrArg (·.2.2) h'
    have e := run_makeSlice (P := Tryd.prog) w 65 5 i _ (by kernel_rfl) hi z0 .i64 .i64 16 16 (by decide) (by decide) (by rw [z1]; decide) (by rw [z2]; decide) (by decide)
    rw [z1] at e
    rw [e]
    show Result.ok _ (w.alloc (.cells (madeCells (Value.int .u8 0).cells 16) _)) = _
    rw [made16]
    rfl

/-- Byte j, the highest first. -/
def bH (ah al : Int) (j : Nat) : Int := if j < 8 then ah / 2 ^ (8 * (7 - j)) % 256 else al / 2 ^ (8 * (15 - j)) % 256
structure BytR (w wr : World) (ah al : Int) (k : Nat) : Prop where
  k8 : k ≤ 8
  a : NumAt wr w.heap.size ah al
  d : ∀ j, j < 16 → wr.cell? ⟨w.heap.size + 1, j, none⟩ = some (.int .u8 (if j % 8 < k then bH ah al j else 0)) ∧ wr.frozen? ⟨w.heap.size + 1, j, none⟩ = false
  bel : Below w.heap.size w wr
  z : w.heap.size + 1 < wr.heap.size

theorem BytR.step {w wr : World} {ah al : Int} {k : Nat} (h : BytR w wr ah al k) (hk : k < 8) :
    BytR w ((wr.setCell ⟨w.heap.size + 1, k, none⟩ (.int .u8 (ah / 2 ^ (8 * (7 - k)) % 256))).setCell ⟨w.heap.size + 1, 8 + k, none⟩ (.int .u8 (al / 2 ^ (8 * (7 - k)) % 256))) ah al (k + 1) := by
  obtain ⟨k8, ⟨z0, a0, a1⟩, d, bel, z⟩ := h
  refine ⟨by omega, ⟨by simpa [World.setCell] using z0, by simp [go_sem, a0], by simp [go_sem, a1]⟩, fun j hj => ?_, (bel.setCell (by simp) _).setCell (by simp) _, by simpa [World.setCell] using z⟩
  obtain ⟨d0, d1⟩ := d j hj
  refine ⟨?_, by simp [go_sem, d1]⟩
  by_cases e1 : j = k
  · subst e1
    have n1 : ¬ j = 8 + j := by omega
    have n2 : j % 8 < j + 1 := by omega
    simp [go_sem, d0, bH, hk, n2]
  · by_cases e2 : j = 8 + k
    · subst e2
      have n2 : (8 + k) % 8 < k + 1 := by omega
      have n3 : ¬ 8 + k < 8 := by omega
      have n4 : 15 - (8 + k) = 7 - k := by omega
      rw [if_pos n2, bH, if_neg n3, n4]
      simp [go_sem, d0]
    · have e5 : (if j % 8 < k + 1 then bH ah al j else 0) = (if j % 8 < k then bH ah al j else 0) := by
        by_cases c : j % 8 < k
        · rw [if_pos c, if_pos (by omega)]
        · rw [if_neg c, if_neg (by omega)]
      rw [e5]
      have n1 : (⟨w.heap.size + 1, j, none⟩ : Addr) ≠ ⟨w.heap.size + 1, k, none⟩ := fun h => e1 (by cases h; rfl)
      have n2 : (⟨w.heap.size + 1, j, none⟩ : Addr) ≠ ⟨w.heap.size + 1, 8 + k, none⟩ := fun h => e2 (by cases h; rfl)
      simp [go_sem, d0]

set_option maxRecDepth 100000 in
theorem bytes_any (ah al : Int) (w : World) (h1 : Word ah) (h2 : Word al) :
    Calls Tryd.prog 50 #[.agg #[.int .u64 ah, .int .u64 al]] w fun e w' => ∃ B, w.heap.size ≤ B ∧ B < w'.heap.size ∧ e = .returned (.slice (some ⟨B, 0, none⟩) 16 16) ∧ (∀ j, j < 16 → w'.cell? ⟨B, j, none⟩ = some (.int .u8 (bH ah al j))) ∧ Below w.heap.size w w' := by
  obtain ⟨a1, a2⟩ := id h1
  obtain ⟨b1, b2⟩ := id h2
  go_enter Tryd.func50, Tryd.ntmps50
  go_wp2
  rw [make16]
  go_wp2
  go_loopw [7] (fun i wr => ∃ k : Nat, i = .int .i64 k ∧ BytR w wr ah al k)
    (fun i _ => 8 - (intOf i).toNat)
  case atStart =>
    refine ⟨0, rfl, by omega, ⟨by simp; omega, ?_, ?_⟩, fun j hj => ⟨?_, ?_⟩, below2 _ _ _, by simp⟩
    · simp [go_sem]
    · simp [go_sem]
    · rw [World.cell?_alloc_at _ _ _ _ (by simp)]
      simp [hj]
    · rw [World.frozen?_alloc_at _ _ _ _ (by simp)]
  case round =>
    obtain ⟨k, rfl, hr⟩ := hrel
    have hk := hr.k8
    obtain ⟨hz, q0, q1⟩ := hr.a
    by_cases hlt : k < 8
    · obtain ⟨d0, d1⟩ := hr.d k (by omega)
      obtain ⟨e0, e1⟩ := hr.d (8 + k) (by omega)
      have g0 : (0 : Int) ≤ (k : Int) := by omega
      have g1 : (k : Int) < 8 := by omega
      have HR : Hid (BytR w wr ah al k) := hr
      clear hr
      go_wp2
      go_roundw
      case rel => exact ⟨k + 1, by go_num, HR.out.step hlt⟩
      case measure => simp [intOf]; omega
    · obtain rfl : k = 8 := by omega
      have hd := hr.d
      have bel := hr.bel
      have z := hr.z
      clear hr
      go_wp2
      go_ret
      exact ⟨w.heap.size + 1, by omega, z, rfl, fun j hj => by have := (hd j hj).1; rwa [if_pos (Nat.mod_lt _ (by decide))] at this, bel⟩

/-- A row of bytes. -/
def BytesIn (w : World) (p : Option Addr) (n : Nat) (z : Nat → Int) : Prop :=
  n ≤ maxLen ∧ ∀ i, i < n → ∃ bb off, p = some ⟨bb, off, none⟩ ∧ bb < w.heap.size ∧ w.cell? ⟨bb, off + i, none⟩ = some (.int .u8 (z i)) ∧ 0 ≤ z i ∧ z i < 256
theorem BytesIn.later {w w1 : World} {p : Option Addr} {n : Nat} {z : Nat → Int} (h : BytesIn w p n z) (hb : Below w.heap.size w w1) : BytesIn w1 p n z :=
  ⟨h.1, fun i hi => by
    obtain ⟨bb, off, e, hbb, c, r⟩ := h.2 i hi
    exact ⟨bb, off, e, Nat.lt_of_lt_of_le hbb hb.size, (hb.cell (p := ⟨bb, off + i, none⟩) hbb).trans c, r⟩⟩

/-- The number of k bytes, the highest first. -/
def rd (z : Nat → Int) : Nat → Int
  | 0 => 0
  | k + 1 => rd z k * 256 + z k
theorem rd_lt {z : Nat → Int} : ∀ k, (∀ i, i < k → 0 ≤ z i ∧ z i < 256) → 0 ≤ rd z k ∧ rd z k < 256 ^ k
  | 0, _ => ⟨by simp [rd], by simp [rd]⟩
  | k + 1, h => by
    obtain ⟨i0, i1⟩ := rd_lt k fun i hi => h i (by omega)
    obtain ⟨z0, z1⟩ := h k (by omega)
    rw [Int.pow_succ]
    unfold rd
    constructor <;> omega

structure RdR (w wr : World) (z : Nat → Int) (k : Nat) : Prop where
  k8 : k ≤ 8
  a : NumAt wr (w.heap.size + 1) (rd z k) (rd (fun j => z (8 + j)) k)
  f0 : wr.frozen? ⟨w.heap.size + 1, 0, none⟩ = false
  f1 : wr.frozen? ⟨w.heap.size + 1, 1, none⟩ = false
  r : NumAt wr w.heap.size 0 0
  r0 : wr.frozen? ⟨w.heap.size, 0, none⟩ = false
  r1 : wr.frozen? ⟨w.heap.size, 1, none⟩ = false
  bel : Below w.heap.size w wr

theorem or_byte (x z : Int) (h0 : 0 ≤ x) (h1 : x < 72057594037927936) (z0 : 0 ≤ z) (z1 : z < 256) : bits BinOp.or IntKind.u64 (x * 256) z = x * 256 + z := by
  obtain ⟨a, rfl⟩ := Int.eq_ofNat_of_zero_le h0
  obtain ⟨b, rfl⟩ := Int.eq_ofNat_of_zero_le z0
  have e : (a : Int) * 256 = ((2 ^ 8 * a : Nat) : Int) := by omega
  rw [e, bits_or_u64_nat _ _ (by omega) (by omega), ← Nat.two_pow_add_eq_or_of_lt (by omega)]
  omega
theorem rd_small {z : Nat → Int} {k : Nat} (hk : k < 8) (h : ∀ i, i < k → 0 ≤ z i ∧ z i < 256) : 0 ≤ rd z k ∧ rd z k < 72057594037927936 := by
  obtain ⟨a, b⟩ := rd_lt k h
  have e : 256 ^ k ≤ 256 ^ 7 := Nat.pow_le_pow_right (by decide) (show k ≤ 7 by omega)
  have e2 : (256 : Int) ^ k = ((256 ^ k : Nat) : Int) := by simp
  rw [e2] at b
  omega
theorem RdR.step {w wr : World} {z : Nat → Int} {k : Nat} (h : RdR w wr z k) (hk : k < 8) :
    RdR w ((wr.setCell ⟨w.heap.size + 1, 0, none⟩ (.int .u64 (rd z k * 256 + z k))).setCell ⟨w.heap.size + 1, 1, none⟩ (.int .u64 (rd (fun j => z (8 + j)) k * 256 + z (8 + k)))).drew.drew z (k + 1) := by
  obtain ⟨k8, ⟨z0, a0, a1⟩, f0, f1, ⟨y0, b0, b1⟩, g0, g1, bel⟩ := h
  refine ⟨by omega, ⟨by simpa [World.setCell] using z0, by simp [go_sem, a0, rd], by simp [go_sem, a1, rd]⟩, by simp [go_sem, f0], by simp [go_sem, f1], ⟨by simpa [World.setCell] using y0, by simp [go_sem, b0], by simp [go_sem, b1]⟩, by simp [go_sem, g0], by simp [go_sem, g1], ((bel.setCell (by simp) _).setCell (by simp) _).drew.drew⟩

end Go.Proofs.YtcahmldgkkcheaaDoor.W
/-! WyWiA -/
set_option maxRecDepth 100000
namespace Go.Proofs.YtcahmldgkkcheaaDoor.W
open Go.RowKit

theorem under_byte : Tryd.prog.underlying 5 = some (.int .u8) := by kernel_rfl
def bytesL (l : List Nat) : Array Value := (l.map fun x : Nat => Value.int .u8 (x : Int)).toArray
theorem bytesL_size (l : List Nat) : (bytesL l).size = l.length := by simp [bytesL]
theorem bytesL_at (l : List Nat) (i : Nat) (h : i < l.length) : (bytesL l)[i]? = some (.int .u8 (l.getD i 0 : Nat)) := by simp [bytesL, h]
theorem bytesL_set (l : List Nat) (i x : Nat) : (bytesL l).setIfInBounds i (.int .u8 (x : Nat)) = bytesL (l.set i x) := by
  simp [bytesL, List.map_set]
theorem bytesL_one (l : List Nat) : (bytesL l).all (·.oneCell') = true := by
  rw [Array.all_eq_true_iff_forall_mem]
  intro v hv
  simp [bytesL] at hv
  obtain ⟨x, _, rfl⟩ := hv
  rfl
def W8 (l : List Nat) : Prop := ∀ x ∈ l, x < 256
theorem getD_mem_or (l : List Nat) (i : Nat) : l.getD i 0 ∈ l ∨ l.getD i 0 = 0 := by
  rcases Nat.lt_or_ge i l.length with h | h
  · left; simp [List.getD, h]
  · right; simp [List.getD, List.getElem?_eq_none h]
theorem W8.at {l : List Nat} (h : W8 l) (i : Nat) : l.getD i 0 < 256 := by
  rcases getD_mem_or l i with e | e
  · exact h _ e
  · rw [e]; decide
theorem W8.set {l : List Nat} (h : W8 l) (i : Nat) {x : Nat} (hx : x < 256) : W8 (l.set i x) := by
  intro y hy
  rcases List.mem_or_eq_of_mem_set hy with e | e
  · exact h _ e
  · rw [e]; exact hx
/-- A block that is a row of cells. -/
def Row (w : World) (b : Nat) (cs : Array Value) (t : TypeId) : Prop := w.heap[b]? = some (.cells cs t (0, 0))
theorem Row.lt {w : World} {b : Nat} {cs : Array Value} {t : TypeId} (h : Row w b cs t) : b < w.heap.size := (Array.getElem?_eq_some_iff.1 h).1
theorem Row.cell {w : World} {b : Nat} {cs : Array Value} {t : TypeId} (h : Row w b cs t) (i : Nat) : w.cell? ⟨b, i, none⟩ = cs[i]? := cell_of_row w b i cs t _ h
theorem Row.frozen {w : World} {b : Nat} {cs : Array Value} {t : TypeId} (h : Row w b cs t) (i : Nat) : w.frozen? ⟨b, i, none⟩ = false := frozen_of_row w b i cs t h
theorem Row.later {w w1 : World} {b : Nat} {cs : Array Value} {t : TypeId} (h : Row w b cs t) (hb : Below w.heap.size w w1) : Row w1 b cs t :=
  (hb.block b h.lt).trans h
theorem Row.set {w : World} {b : Nat} {cs : Array Value} {t : TypeId} (h : Row w b cs t) (i : Nat) (v : Value) : Row (w.setCell ⟨b, i, none⟩ v) b (cs.setIfInBounds i v) t := heap_setCell_same w b i cs t v h
theorem Row.setOther {w : World} {b : Nat} {cs : Array Value} {t : TypeId} (h : Row w b cs t) {a : Addr} (v : Value) (hne : b ≠ a.block) : Row (w.setCell a v) b cs t := (heap_setCell_other w a b v hne).trans h
theorem Row.new (w : World) (cs : Array Value) (t : TypeId) {b : Nat} (hb : b = w.heap.size) : Row (w.alloc (.cells cs t)) b cs t := by subst hb; exact heap_alloc_new w _
theorem Row.alloc {w : World} {b : Nat} {cs : Array Value} {t : TypeId} (h : Row w b cs t) (o : Obj) : Row (w.alloc o) b cs t := (heap_alloc_old w o h.lt).trans h
theorem Row.drew {w : World} {b : Nat} {cs : Array Value} {t : TypeId} (h : Row w b cs t) : Row w.drew b cs t := h
theorem Row.setRow {w : World} {b : Nat} {cs : Array Value} {t : TypeId} (h : Row w b cs t) (ds : Array Value) : Row (w.setRow b ds) b ds t := setRow_heap w b cs ds t _ h
theorem Row.setRowOther {w : World} {b : Nat} {cs : Array Value} {t : TypeId} (h : Row w b cs t) {g : Nat} (ds : Array Value) (hne : b ≠ g) : Row (w.setRow g ds) b cs t := (setRow_other w g b ds hne).trans h
theorem Below.row {B : Nat} {w w1 : World} (h : Below B w w1) {g : Nat} (ds : Array Value) (hg : B ≤ g) : Below B w (w1.setRow g ds) :=
  h.trans ⟨rfl, rfl, rfl, by simp [World.setRow], fun k hk => setRow_other w1 g k ds (by omega)⟩
theorem below_drewN {B : Nat} {w w1 : World} (h : Below B w w1) (n : Nat) : Below B w (w1.drewN n) := ⟨h.os, h.tape, h.output, h.size, h.block⟩
theorem info_u8' : ∃ i, Tryd.prog.info? 5 = some i ∧ i.zero = some (.int .u8 0) ∧ i.size = 1 ∧ i.bytes = 1 := by
  cases hi : Tryd.prog.info? 5 with
  | none => have h := info_u8; rw [hi] at h; cases h
  | some i =>
    have h := info_u8
    rw [hi] at h
    have h' : (i.zero, i.size, i.bytes) = (some (.int .u8 0), 1, 1) := Option.some.inj h
    exact ⟨i, rfl, congrArg (·.1) h', congrArg (·.2.1) h', congrArg (·.2.2) h'⟩
theorem made_bytes (n : Nat) : madeCells (Value.int .u8 0).cells n = bytesL (List.replicate n 0) := by
  have e : ∀ x, (Value.int .u8 0).cells[x % (Value.int .u8 0).cells.size]! = .int .u8 0 := fun x => by show (#[Value.int .u8 0])[x % 1]! = _; rw [Nat.mod_one]; rfl
  unfold madeCells bytesL
  simp only [e]
  apply Array.ext
  · simp
  · intro i h1 h2; simp
theorem make_bytes (n : Nat) (hn : n ≤ 1048576) (w : World) : (Instr.makeSlice 65 (.int .i64 n) (.int .i64 n)).run Tryd.prog w = .ok (.slice (some ⟨w.heap.size, 0, none⟩) n n) (w.alloc (.cells (bytesL (List.replicate n 0)) 5)) := by
  obtain ⟨i, hi, z0, z1, z2⟩ := info_u8'
  have e := run_makeSlice (P := Tryd.prog) w 65 5 i _ (by kernel_rfl) hi z0 .i64 .i64 n n (by omega) (by omega) (by rw [z1]; omega) (by rw [z2]; omega) (by omega)
  rw [z1, Int.toNat_natCast, Nat.mul_one, made_bytes] at e
  exact e
/-- A slice value with these bytes. -/
def BytesAt (w : World) (v : Value) (l : List Nat) : Prop :=
  W8 l ∧ l.length ≤ maxLen ∧ ∃ p c, v = .slice p l.length c ∧ ∀ i, i < l.length → ∃ b off, p = some ⟨b, off, none⟩ ∧ b < w.heap.size ∧ w.cell? ⟨b, off + i, none⟩ = some (.int .u8 (l.getD i 0 : Nat))
theorem BytesAt.later {w w1 : World} {v : Value} {l : List Nat} (h : BytesAt w v l) (hb : Below w.heap.size w w1) : BytesAt w1 v l := by
  obtain ⟨h1, h2, p, c, e, h⟩ := h
  refine ⟨h1, h2, p, c, e, fun i hi => ?_⟩
  obtain ⟨b, off, e, hlt, hc⟩ := h i hi
  exact ⟨b, off, e, Nat.lt_of_lt_of_le hlt hb.size, (hb.cell (p := ⟨b, off + i, none⟩) hlt).trans hc⟩
theorem BytesAt.below {B : World} {w1 : World} {v : Value} {l : List Nat} (h : BytesAt B v l) (hb : Below B.heap.size B w1) : BytesAt w1 v l := h.later hb
/-- A slice of such. -/
def PartsAt (w : World) (v : Value) (L : List (List Nat)) : Prop :=
  L.length ≤ maxLen ∧ ∃ p c, v = .slice p L.length c ∧ ∀ i, i < L.length → ∃ b off u, p = some ⟨b, off, none⟩ ∧ b < w.heap.size ∧ w.cell? ⟨b, off + i, none⟩ = some u ∧ BytesAt w u (L.getD i [])
theorem PartsAt.later {w w1 : World} {v : Value} {L : List (List Nat)} (h : PartsAt w v L) (hb : Below w.heap.size w w1) : PartsAt w1 v L := by
  obtain ⟨h2, p, c, e, h⟩ := h
  refine ⟨h2, p, c, e, fun i hi => ?_⟩
  obtain ⟨b, off, u, e, hlt, hc, hu⟩ := h i hi
  exact ⟨b, off, u, e, Nat.lt_of_lt_of_le hlt hb.size, (hb.cell (p := ⟨b, off + i, none⟩) hlt).trans hc, hu.later hb⟩
theorem Row.bytes {w : World} {b : Nat} {l : List Nat} {t : TypeId} (h : Row w b (bytesL l) t) (hw : W8 l) (hl : l.length ≤ maxLen) (n c : Nat) (hn : n = l.length) : BytesAt w (.slice (some ⟨b, 0, none⟩) n c) l := by
  subst hn
  exact ⟨hw, hl, _, _, rfl, fun i hi => ⟨b, 0, rfl, h.lt, by rw [h.cell, Nat.zero_add]; exact bytesL_at _ i hi⟩⟩
theorem parts0 (w : World) : PartsAt w (.slice none 0 0) [] := ⟨Nat.zero_le _, none, 0, rfl, fun i hi => by simp at hi⟩
theorem parts1 (w : World) {u : Value} {l : List Nat} (t : TypeId) (h : BytesAt w u l) (c : Nat) : PartsAt (w.alloc (.cells #[u] t)) (.slice (some ⟨w.heap.size, 0, none⟩) 1 c) [l] :=
  ⟨by simp [maxLen], _, _, rfl, fun i hi => by
    obtain rfl : i = 0 := by simpa using hi
    exact ⟨_, 0, u, rfl, by simp, by rw [World.cell?_alloc_at _ _ _ _ rfl]; rfl, h.later (below1 _ _)⟩⟩
theorem parts2 (w : World) {u v : Value} {l k : List Nat} (t : TypeId) (h : BytesAt w u l) (g : BytesAt w v k) (c : Nat) : PartsAt (w.alloc (.cells #[u, v] t)) (.slice (some ⟨w.heap.size, 0, none⟩) 2 c) [l, k] :=
  ⟨by simp [maxLen], _, _, rfl, fun i hi => by
    match i, hi with
    | 0, _ => exact ⟨_, 0, u, rfl, by simp, by rw [World.cell?_alloc_at _ _ _ _ rfl]; rfl, h.later (below1 _ _)⟩
    | 1, _ => exact ⟨_, 0, v, rfl, by simp, by rw [World.cell?_alloc_at _ _ _ _ rfl]; rfl, g.later (below1 _ _)⟩⟩
theorem parts3 (w : World) {u v x : Value} {l k m : List Nat} (t : TypeId) (h : BytesAt w u l) (g : BytesAt w v k) (f : BytesAt w x m) (c : Nat) : PartsAt (w.alloc (.cells #[u, v, x] t)) (.slice (some ⟨w.heap.size, 0, none⟩) 3 c) [l, k, m] :=
  ⟨by simp [maxLen], _, _, rfl, fun i hi => by
    match i, hi with
    | 0, _ => exact ⟨_, 0, u, rfl, by simp, by rw [World.cell?_alloc_at _ _ _ _ rfl]; rfl, h.later (below1 _ _)⟩
    | 1, _ => exact ⟨_, 0, v, rfl, by simp, by rw [World.cell?_alloc_at _ _ _ _ rfl]; rfl, g.later (below1 _ _)⟩
    | 2, _ => exact ⟨_, 0, x, rfl, by simp, by rw [World.cell?_alloc_at _ _ _ _ rfl]; rfl, f.later (below1 _ _)⟩⟩
theorem BytesAt.nil (w : World) : BytesAt w (.slice none 0 0) [] := ⟨(fun _ h => by cases h), by simp [maxLen], none, 0, rfl, fun i hi => by simp at hi⟩
/-- A row of bytes of the call's own. -/
def Own (w : World) (base : Nat) (v : Value) (l : List Nat) : Prop := w.ownsRow base 5 1 v l.length (l.map fun x : Nat => Value.int .u8 (x : Int))
theorem Own.bytes {w : World} {base : Nat} {v : Value} {l : List Nat} (h : Own w base v l) (hw : W8 l) (hl : l.length ≤ maxLen) : BytesAt w v l := by
  obtain ⟨_, ⟨rfl, h0⟩ | ⟨g, cap, cur, rfl, hb, hg, h1, h2, h3, h4⟩⟩ := h
  · obtain rfl := List.eq_nil_of_length_eq_zero h0
    exact ⟨hw, hl, none, 0, rfl, fun i hi => by simp at hi⟩
  · refine ⟨hw, hl, _, _, rfl, fun i hi => ⟨g, 0, rfl, (Array.getElem?_eq_some_iff.1 hg).1, ?_⟩⟩
    rw [cell_of_row w g (0 + i) cur _ _ hg, Nat.zero_add]
    have e := congrArg (fun x : List Value => x[i]?) h4
    simp only [Nat.mul_one, List.getElem?_take, hi, if_true] at e
    rw [← Array.getElem?_toList, e]
    simp [hi]
theorem below_grown {B : Nat} {w w1 w2 : World} {row : Option Nat} (h : Below B w w1) (hB : B ≤ w1.heap.size) (hg : w1.grownBy w2 row) (hr : ∀ k, row = some k → B ≤ k) : Below B w w2 :=
  h.trans ⟨hg.os, hg.tape, hg.output, hg.size, fun k hk => hg.block k (by omega) (fun e => by have := hr k e.symm; omega)⟩
theorem under_bytes : Tryd.prog.underlying 65 = some (.slice 5) := by kernel_rfl
theorem src_empty (w : World) (i : TypeInfo) (p : Option Addr) (c : Nat) : Src Tryd.prog i.size 65 (.slice p ([] : List Nat).length c) 0 [] w := by
  cases p with
  | none => exact Src.ofNil w under_bytes c
  | some a => exact Src.ofSlice w under_bytes a 0 c [] (by simp) (fun j u h => by simp at h) (fun u h => by cases h)
theorem ownsRow_at {w : World} {base : Nat} {e : TypeId} {v : Value} {ns : List Value} {n : Nat} (h : w.ownsRow base e 1 v n ns) : ∃ p n' c, v = .slice p n' c ∧ n' = n := by
  obtain ⟨_, ⟨rfl, h0⟩ | ⟨g, cap, cur, rfl, _⟩⟩ := h
  · exact ⟨_, _, _, rfl, h0.symm⟩
  · exact ⟨_, _, _, rfl, rfl⟩
theorem ownsRow_later {w w1 : World} {base : Nat} {e : TypeId} {v : Value} {ns : List Value} {n : Nat} (h : w.ownsRow base e 1 v n ns) (hb : Below w.heap.size w w1) : w1.ownsRow base e 1 v n ns :=
  ⟨h.1, h.2.imp id fun ⟨g, cap, cur, e, h1, h2, h3⟩ => ⟨g, cap, cur, e, h1, (hb.block g (Array.getElem?_eq_some_iff.1 h2).1).trans h2, h3⟩⟩
theorem ownsRow_set {w : World} {base : Nat} {e : TypeId} {v : Value} {ns : List Value} {n : Nat} (h : w.ownsRow base e 1 v n ns) {T i : Nat} (hne : v.ownBlock ≠ some T) (u : Value) : (w.setCell ⟨T, i, none⟩ u).ownsRow base e 1 v n ns :=
  ⟨h.1, h.2.imp id fun ⟨g, cap, cur, e, h1, h2, h3⟩ => ⟨g, cap, cur, e, h1, (heap_setCell_other w ⟨T, i, none⟩ g u (fun hh => hne (by rw [e]; simp [Value.ownBlock, hh]))).trans h2, h3⟩⟩
theorem ownsRow_row {w : World} {base : Nat} {e : TypeId} {v : Value} {ns : List Value} {n : Nat} (h : w.ownsRow base e 1 v n ns) {T : Nat} (hne : v.ownBlock ≠ some T) (ds : Array Value) : (w.setRow T ds).ownsRow base e 1 v n ns :=
  ⟨h.1, h.2.imp id fun ⟨g, cap, cur, e, h1, h2, h3⟩ => ⟨g, cap, cur, e, h1, (setRow_other w T g ds (fun hh => hne (by rw [e]; simp [Value.ownBlock, hh]))).trans h2, h3⟩⟩
/-- A row of one type is none of another one. -/
theorem own_ne {w : World} {base : Nat} {e t : TypeId} {v : Value} {ns : List Value} {n T : Nat} {cs : Array Value} (h : w.ownsRow base e 1 v n ns) (hr : Row w T cs t) (hne : e ≠ t) : v.ownBlock ≠ some T := by
  intro hh
  obtain ⟨_, ⟨rfl, _⟩ | ⟨g, cap, cur, rfl, _, hg, _⟩⟩ := h
  · cases hh
  · simp [Value.ownBlock] at hh
    subst hh
    unfold Row at hr
    rw [hg] at hr
    simp at hr
    exact hne hr.2
theorem own_own {w : World} {b c : Nat} {e e' : TypeId} {v u : Value} {xs ys : List Value} {n m : Nat} (h : w.ownsRow b e 1 v n xs) (k : w.ownsRow c e' 1 u m ys) (hne : e ≠ e') : v.ownBlock = none ∨ v.ownBlock ≠ u.ownBlock := by
  obtain ⟨_, ⟨rfl, _⟩ | ⟨g, cap, cur, rfl, _, hg, _⟩⟩ := h
  · exact Or.inl rfl
  · right
    intro hh
    obtain ⟨_, ⟨rfl, _⟩ | ⟨g', cap', cur', rfl, _, hg', _⟩⟩ := k
    · cases hh
    · simp [Value.ownBlock] at hh
      subst hh
      rw [hg] at hg'
      simp at hg'
      exact hne hg'.2
/-- append(v, x...) where v is the call's own row. -/
theorem append_bytes (w : World) (base : Nat) (ty : TypeId) (v : Value) (xs : List Nat) (hown : Own w base v xs) (x : Value) (l : List Nat) (hx : BytesAt w x l) (hn : xs.length + l.length ≤ 1048576) (hb : base ≤ w.heap.size) :
    ∃ v' w', (Builtin.append_ #[65, 65] ty #[v, x]).run Tryd.prog w = .ok v' w' ∧ Own w' base v' (xs ++ l) ∧ w.grownBy w' v.ownBlock ∧ (v' = .slice none 0 0 ↔ v = .slice none 0 0 ∧ l = []) ∧ (v'.ownBlock = v.ownBlock ∨ v'.ownBlock = some w.heap.size) := by
  obtain ⟨i, hi, z0, z1, z2⟩ := info_u8'
  obtain ⟨_, hm, p, c, rfl, hc⟩ := hx
  by_cases hl : l = []
  · subst hl
    refine ⟨v, w, ?_, by simpa using hown, ⟨rfl, rfl, rfl, Nat.le_refl _, fun _ _ _ => rfl⟩, by simp, Or.inl rfl⟩
    obtain ⟨_, ⟨rfl, h0⟩ | ⟨g, cap, cur, rfl, hb, hg, h1, h2, h3, h4⟩⟩ := hown
    · exact run_append_nothing w _ _ ty _ i under_bytes hi none 0 0 (Nat.le_refl _) _ (src_empty w i p c)
    · exact run_append_nothing w _ _ ty _ i under_bytes hi _ _ cap h1 _ (src_empty w i p c)
  · have hpos : 0 < l.length := List.length_pos_iff.2 hl
    obtain ⟨b, off, rfl, _, _⟩ := hc 0 hpos
    obtain ⟨v', w', h1, h2, h3, h4, h5⟩ := run_append_own_at (P := Tryd.prog) w base 65 ty 5 i _ 1 1 under_bytes hi z0 z1 z2 rfl (by decide) v xs.length _ hown ⟨b, off, none⟩ l.length c (l.map fun x : Nat => Value.int .u8 (x : Int)) (by simp)
      (fun j u hu => by
        have hj : j < l.length := by
          have := (List.getElem?_eq_some_iff.1 hu).1
          simpa using this
        obtain ⟨b', off', e', _, hcell⟩ := hc j hj
        cases e'
        rw [show (⟨b, off, none⟩ : Addr).add j = ⟨b, off + j, none⟩ from Addr.add_lit .., hcell, ← hu]
        simp [hj]) (fun u hu => by obtain ⟨y, _, rfl⟩ := List.mem_map.1 hu; rfl) (by unfold maxLen; omega) (by omega) hb
    refine ⟨v', w', h1, ?_, h3, by rw [h4]; simp [hl], h5⟩
    unfold Own
    rw [List.map_append, List.length_append]
    exact h2
/-- The bytes as a string. -/
def strL (l : List Nat) : ByteArray := strOfNums (l.map fun x : Nat => (x : Int))
theorem conv_str {w : World} {v : Value} {l : List Nat} (h : BytesAt w v l) : (convert 65 9 v).run Tryd.prog w = .ok (.string (strL l)) w := by
  obtain ⟨hw, hm, p, c, rfl, hc⟩ := h
  have hs : Tryd.prog.underlying 9 = some .string := by kernel_rfl
  by_cases hl : l = []
  · subst hl
    cases p with
    | none => exact run_convert_bytes_nil w _ _ under_bytes under_byte _ _ _ hs
    | some a =>
      rw [run_convert_bytes_string w _ _ _ _ _ _ under_bytes under_byte hs, run_bytesToString w _ _ c [] (by simp [loadCells, loadCellsFrom])]
      rfl
  · obtain ⟨b, off, rfl, _, _⟩ := hc 0 (List.length_pos_iff.2 hl)
    refine run_convert_bytes_arg w _ _ under_bytes under_byte b off _ c (l.map fun x : Nat => (x : Int)) (by simp) (fun i hi => ?_) _ hs
    obtain ⟨b', off', e', _, hcell⟩ := hc i hi
    cases e'
    rw [hcell]
    simp [List.getD, hi]
theorem strL_inj {l m : List Nat} (hl : W8 l) (hm : W8 m) (h : strL l = strL m) : l = m := by
  have h1 := congrArg (fun s : ByteArray => s.data.toList) h
  simp only [strL, strOfNums_data, List.map_map] at h1
  have h2 := congrArg (List.map UInt8.toNat) h1
  simp only [List.map_map] at h2
  have k : ∀ n : List Nat, W8 n → n.map (UInt8.toNat ∘ ((fun n : Int => UInt8.ofNat n.toNat) ∘ fun x : Nat => (x : Int))) = n := by
    intro n hn
    conv => rhs; rw [← List.map_id n]
    apply List.map_congr_left
    intro x hx
    have := hn x hx
    simp only [Function.comp, Int.toNat_natCast, id]
    rw [UInt8.toNat_ofNat']
    omega
  rw [k l hl, k m hm] at h2
  exact h2
theorem strL_ne {l m : List Nat} (hl : W8 l) (hm : W8 m) (h : l ≠ m) : ¬ (strL l).toList = (strL m).toList := by
  intro e
  apply h
  apply strL_inj hl hm
  rw [Go.ByteArray.toList_eq, Go.ByteArray.toList_eq] at e
  generalize strL l = a at e
  generalize strL m = b at e
  obtain ⟨⟨x⟩⟩ := a
  obtain ⟨⟨y⟩⟩ := b
  exact congrArg (fun z : List UInt8 => (⟨⟨z⟩⟩ : ByteArray)) e
theorem Own.form {w : World} {base : Nat} {v : Value} {l : List Nat} (h : Own w base v l) : ∃ p n c, v = .slice p n c ∧ n = l.length := by
  obtain ⟨_, ⟨rfl, h0⟩ | ⟨g, cap, cur, rfl, _⟩⟩ := h
  · exact ⟨_, _, _, rfl, h0.symm⟩
  · exact ⟨_, _, _, rfl, rfl⟩
/-- An append under a guard that says yes. -/
theorem wpList_append_w {P : Program} (w : World) {ops : Array Oper} {rest : List Oper} {o : Oper} {a : Act} {Q : Exit → Act → World → Prop} (hw : Region.wanted o (yielded ops a.tmps) = true) (s x : Operand) (t tn : TypeId)
    (ho : o.op = .call { callee := .builtin .append, args := #[s, x], argTypes := #[t, tn] }) (vs vx : Value) (hs : a.eval s = vs) (hx : a.eval x = vx)
    (v' : Value) (w' : World) (hr : (Builtin.append_ #[t, tn] o.type #[vs, vx]).run P w = .ok v' w') (h : wpList P ops Q rest (a.put o.dst v') w') : wpList P ops Q (o :: rest) a w :=
  wpList_step fun _ hK => by rw [if_pos hw]; exact Lib.wp_append_run w s x t tn ho vs vx hs hx v' w' hr (hK _ _ h)
/-- A goal at which the walk stands still. -/
def Stop (p : Prop) : Prop := p
theorem stop {p : Prop} (h : Stop p) : p := h
/-- Every block but R is as it was. -/
structure Else (R : Nat) (w w' : World) : Prop where
  os : w'.os = w.os
  tape : w'.tape = w.tape
  output : w'.output = w.output
  size : w.heap.size ≤ w'.heap.size
  block : ∀ k, k < w.heap.size → k ≠ R → w'.heap[k]? = w.heap[k]?
theorem Else.refl (R : Nat) (w : World) : Else R w w := ⟨rfl, rfl, rfl, Nat.le_refl _, fun _ _ _ => rfl⟩
theorem Else.trans {R : Nat} {a b c : World} (h : Else R a b) (k : Else R b c) : Else R a c :=
  ⟨k.os.trans h.os, k.tape.trans h.tape, k.output.trans h.output, Nat.le_trans h.size k.size, fun i hi hn => (k.block i (Nat.lt_of_lt_of_le hi h.size) hn).trans (h.block i hi hn)⟩
theorem Else.of {R : Nat} {a b : World} (h : Below a.heap.size a b) : Else R a b := ⟨h.os, h.tape, h.output, h.size, fun i hi _ => h.block i hi⟩
theorem Else.set {R : Nat} {a b : World} (h : Else R a b) (i : Nat) (v : Value) : Else R a (b.setCell ⟨R, i, none⟩ v) :=
  ⟨h.os, h.tape, h.output, by simpa [World.setCell] using h.size, fun k hk hn => (heap_setCell_other b ⟨R, i, none⟩ k v hn).trans (h.block k hk hn)⟩
/-- A block that is new to a may be turned, too. -/
theorem Else.setNew {R : Nat} {a b : World} (h : Else R a b) {A : Nat} (hA : a.heap.size ≤ A) (i : Nat) (v : Value) : Else R a (b.setCell ⟨A, i, none⟩ v) :=
  ⟨h.os, h.tape, h.output, by simpa [World.setCell] using h.size, fun k hk hn => (heap_setCell_other b ⟨A, i, none⟩ k v (by simp; omega)).trans (h.block k hk hn)⟩
theorem Else.rowNew {R : Nat} {a b : World} (h : Else R a b) {A : Nat} (hA : a.heap.size ≤ A) (ds : Array Value) : Else R a (b.setRow A ds) :=
  ⟨h.os, h.tape, h.output, by simpa [World.setRow] using h.size, fun k hk hn => (setRow_other b A k ds (by omega)).trans (h.block k hk hn)⟩
theorem Else.alloc {R : Nat} {a b : World} (h : Else R a b) (o : Obj) : Else R a (b.alloc o) :=
  ⟨h.os, h.tape, h.output, by have := h.size; simp; omega, fun k hk hn => (heap_alloc_old b o (Nat.lt_of_lt_of_le hk h.size)).trans (h.block k hk hn)⟩
theorem Else.drew {R : Nat} {a b : World} (h : Else R a b) : Else R a b.drew := ⟨h.os, h.tape, h.output, h.size, h.block⟩
theorem Else.below {R B : Nat} {a b : World} (h : Else R a b) (hB : B ≤ a.heap.size) (hR : B ≤ R) : Below B a b := ⟨h.os, h.tape, h.output, h.size, fun k hk => h.block k (by omega) (by omega)⟩
theorem Row.else {R : Nat} {w w' : World} {b : Nat} {cs : Array Value} {t : TypeId} (h : Row w b cs t) (e : Else R w w') (hne : b ≠ R) : Row w' b cs t := (e.block b h.lt hne).trans h
end Go.Proofs.YtcahmldgkkcheaaDoor.W
/-! WyWiM -/
set_option maxRecDepth 100000
namespace Go.Proofs.YtcahmldgkkcheaaDoor.W
theorem snoc_ind {p : List Nat → Prop} (h0 : p []) (h1 : ∀ l x, p l → p (l ++ [x])) (l : List Nat) : p l := by
  have h : ∀ m : List Nat, p m.reverse := by
    intro m
    induction m with
    | nil => exact h0
    | cons x m ih => rw [List.reverse_cons]; exact h1 _ _ ih
  rw [← List.reverse_reverse l]
  exact h _
/-- The number of bytes, the highest first. -/
def be (l : List Nat) : Nat := l.foldl (fun a x => a * 256 + x) 0
theorem be_snoc (l : List Nat) (x : Nat) : be (l ++ [x]) = be l * 256 + x := by simp [be, List.foldl_append]
theorem be_nil : be [] = 0 := rfl
theorem be_append (l m : List Nat) : be (l ++ m) = be l * 256 ^ m.length + be m := by
  refine snoc_ind (p := fun m => be (l ++ m) = be l * 256 ^ m.length + be m) ?_ ?_ m
  · simp [be_nil]
  · intro m x ih
    rw [← List.append_assoc, be_snoc, ih, be_snoc, List.length_append, List.length_singleton, Nat.pow_succ, Nat.add_mul, Nat.mul_assoc, Nat.add_assoc]
theorem be_lt (l : List Nat) (h : W8 l) : be l < 256 ^ l.length := by
  revert h
  refine snoc_ind (p := fun l => W8 l → be l < 256 ^ l.length) ?_ ?_ l
  · simp [be_nil]
  · intro m x ih h
    have h1 := ih fun y hy => h y (by simp [hy])
    have h2 := h x (by simp)
    rw [be_snoc, List.length_append, List.length_singleton, Nat.pow_succ]
    omega
/-- The lowest n bytes of a number, the highest first. -/
def enc : Nat → Nat → List Nat
  | 0, _ => []
  | n + 1, x => enc n (x / 256) ++ [x % 256]
theorem enc_len : ∀ n x, (enc n x).length = n
  | 0, _ => rfl
  | n + 1, x => by rw [enc, List.length_append, enc_len n]; rfl
theorem enc_w8 : ∀ n x, W8 (enc n x)
  | 0, _ => fun _ h => by cases h
  | n + 1, x => fun y hy => by
    rw [enc, List.mem_append] at hy
    rcases hy with hy | hy
    · exact enc_w8 n _ y hy
    · simp at hy; omega
theorem be_enc : ∀ n x, be (enc n x) = x % 256 ^ n
  | 0, x => by simp [enc, be_nil, Nat.mod_one]
  | n + 1, x => by
    rw [enc, be_snoc, be_enc n, Nat.pow_succ, Nat.mul_comm (256 ^ n) 256, Nat.mod_mul, Nat.mul_comm, Nat.add_comm]
theorem be_enc_lt {n x : Nat} (h : x < 256 ^ n) : be (enc n x) = x := by rw [be_enc, Nat.mod_eq_of_lt h]
theorem enc_be (l : List Nat) (h : W8 l) : enc l.length (be l) = l := by
  revert h
  refine snoc_ind (p := fun l => W8 l → enc l.length (be l) = l) ?_ ?_ l
  · intro _; rfl
  · intro m x ih h
    have h1 := ih fun y hy => h y (by simp [hy])
    have h2 := h x (by simp)
    rw [be_snoc, List.length_append, List.length_singleton, enc]
    rw [show (be m * 256 + x) / 256 = be m from by omega, show (be m * 256 + x) % 256 = x from by omega, h1]
theorem W8.append {l m : List Nat} (h : W8 l) (k : W8 m) : W8 (l ++ m) := fun x hx => by
  rcases List.mem_append.1 hx with hx | hx
  · exact h x hx
  · exact k x hx
theorem W8.take {l : List Nat} (h : W8 l) (n : Nat) : W8 (l.take n) := fun x hx => h x (List.mem_of_mem_take hx)
theorem W8.drop {l : List Nat} (h : W8 l) (n : Nat) : W8 (l.drop n) := fun x hx => h x (List.mem_of_mem_drop hx)
theorem W8.nil : W8 [] := fun _ h => by cases h

/-- What a reader takes of n bytes; what it is behind that. -/
def rTake (n : Nat) (s : List Nat × Bool) : List Nat := if s.2 = false ∧ n ≤ s.1.length then s.1.take n else []
def rDrop (n : Nat) (s : List Nat × Bool) : List Nat × Bool := if s.2 = false ∧ n ≤ s.1.length then (s.1.drop n, false) else (s.1, true)
theorem rTake_yes {n : Nat} {s : List Nat × Bool} (h : s.2 = false) (k : n ≤ s.1.length) : rTake n s = s.1.take n := if_pos ⟨h, k⟩
theorem rDrop_yes {n : Nat} {s : List Nat × Bool} (h : s.2 = false) (k : n ≤ s.1.length) : rDrop n s = (s.1.drop n, false) := if_pos ⟨h, k⟩
theorem rTake_bad {n : Nat} {s : List Nat × Bool} (h : s.2 = true) : rTake n s = [] := if_neg fun k => by rw [h] at k; cases k.1
theorem rDrop_bad {n : Nat} {s : List Nat × Bool} (h : s.2 = true) : rDrop n s = (s.1, true) := if_neg fun k => by rw [h] at k; cases k.1
theorem rTake_few {n : Nat} {s : List Nat × Bool} (h : s.1.length < n) : rTake n s = [] := if_neg fun k => by omega
theorem rDrop_few {n : Nat} {s : List Nat × Bool} (h : s.1.length < n) : rDrop n s = (s.1, true) := if_neg fun k => by omega
theorem rTake_len (n : Nat) (s : List Nat × Bool) : (rTake n s).length ≤ n := by
  unfold rTake
  split
  · simp; omega
  · simp
theorem rTake_or (n : Nat) (s : List Nat × Bool) : rTake n s = [] ∨ (rTake n s).length = n := by
  unfold rTake
  split
  · rename_i h; right; simp; omega
  · exact Or.inl rfl
theorem rTake_w8 {n : Nat} {s : List Nat × Bool} (h : W8 s.1) : W8 (rTake n s) := by
  unfold rTake
  split
  · exact h.take n
  · exact W8.nil
end Go.Proofs.YtcahmldgkkcheaaDoor.W
/-! WyWiR -/
namespace Go.Proofs.YtcahmldgkkcheaaDoor.W
open Go.RowKit
set_option maxRecDepth 100000

theorem getD_take (l : List Nat) (n i : Nat) (h : i < n) : (l.take n).getD i 0 = l.getD i 0 := by simp [List.getD, h]
theorem getD_drop (l : List Nat) (n i : Nat) : (l.drop n).getD i 0 = l.getD (n + i) 0 := by simp [List.getD, List.getElem?_drop]

theorem or_be (x z : Nat) (h1 : x < 281474976710656) (z1 : z < 256) : bits BinOp.or IntKind.u64 ((x : Int) * 256) (z : Int) = ((x * 256 + z : Nat) : Int) := by
  rw [or_byte (x : Int) (z : Int) (by omega) (by omega) (by omega) (by omega)]
  omega
theorem take_snoc (l : List Nat) (k : Nat) (h : k < l.length) : l.take (k + 1) = l.take k ++ [l.getD k 0] := by
  rw [List.take_succ_eq_append_getElem (by simpa using h)]
  simp [List.getD, h]
theorem be_take_lt {l : List Nat} (hw : W8 l) {k : Nat} (hk : k ≤ 6) : be (l.take k) < 281474976710656 := by
  have h1 := be_lt _ (hw.take k)
  have h2 : (l.take k).length ≤ 6 := by simp; omega
  exact Nat.lt_of_lt_of_le h1 (Nat.le_trans (Nat.pow_le_pow_right (by decide) h2) (by decide))

/-- A number of 128 bits as a value, of bytes. -/
def numV (t : List Nat) : Value := .agg #[.int .u64 (be (t.take 8) : Nat), .int .u64 (be (t.drop 8) : Nat)]
theorem rd_be (l : List Nat) (o : Nat) : ∀ k, o + k ≤ l.length → rd (fun j => ((l.getD (o + j) 0 : Nat) : Int)) k = (be ((l.drop o).take k) : Nat)
  | 0, _ => by simp [rd, be_nil]
  | k + 1, h => by
    rw [rd, rd_be l o k (by omega), take_snoc _ _ (by simp; omega), be_snoc, getD_drop]
    omega
theorem BytesAt.in {w : World} {p : Option Addr} {n c : Nat} {l : List Nat} (h : BytesAt w (.slice p n c) l) : n = l.length ∧ BytesIn w p l.length (fun i => ((l.getD i 0 : Nat) : Int)) := by
  obtain ⟨h1, h2, p', c', e, hc⟩ := h
  cases e
  refine ⟨rfl, h2, fun i hi => ?_⟩
  obtain ⟨b, off, e, hb, hcell⟩ := hc i hi
  have := h1.at i
  exact ⟨b, off, e, hb, hcell, by dsimp only; omega, by dsimp only; omega⟩

theorem own_made (w : World) (base : Nat) (hb : base ≤ w.heap.size) : Own (w.alloc (.cells #[] 5)) base (.slice (some ⟨w.heap.size, 0, none⟩) 0 0) [] :=
  ⟨rfl, Or.inr ⟨w.heap.size, 0, #[], rfl, hb, heap_alloc_new w _, Nat.le_refl _, Nat.zero_le _, rfl, rfl⟩⟩

theorem clone_any (v : Value) (l : List Nat) (w : World) (h : BytesAt w v l) (hl : l.length ≤ 1048576) :
    Calls Tryd.prog 43 #[v] w fun e w' => ∃ v', e = .returned v' ∧ Own w' w.heap.size v' l ∧ Below w.heap.size w w' := by
  obtain ⟨h8, hm, p, c, rfl, hc⟩ := id h
  have hq := fun w => Go.run_eql_slice_nil (P := Tryd.prog) w 65 5 p l.length c under_bytes
  cases p with
  | none =>
    obtain rfl : l = [] := by
      cases l with
      | nil => rfl
      | cons x l => obtain ⟨_, _, e, _⟩ := hc 0 (by simp); cases e
    simp only [List.length_nil, Option.isNone_none] at hq ⊢
    go_enter Tryd.func43, Tryd.ntmps43
    go_wp2
    go_ret
    exact ⟨_, rfl, World.ownsRow_nil _ _ _ _, Below.refl _ _⟩
  | some a =>
    obtain ⟨v1, w1, run1, own1, gr1, _, _⟩ := append_bytes (w.alloc (.cells #[] 5)) w.heap.size 65 (.slice (some ⟨w.heap.size, 0, none⟩) 0 0) [] (own_made w _ (Nat.le_refl _)) _ l (h.later (below1 _ _)) (by simpa using hl) (by simp)
    have hb1 : Below w.heap.size w w1 := below_grown (below1 w _) (by simp) gr1 (fun k hk => by simp [Value.ownBlock] at hk; omega)
    clear hc gr1
    generalize l.length = n at *
    go_enter Tryd.func43, Tryd.ntmps43
    go_wp2_with (at_builtin; refine Lib.wpList_append_run _ rfl _ _ _ _ rfl _ _ rfl rfl _ _ run1 ?_)
    go_ret
    exact ⟨_, rfl, by simpa using own1, hb1⟩

end Go.Proofs.YtcahmldgkkcheaaDoor.W
/-! WyWiW -/
namespace Go.Proofs.YtcahmldgkkcheaaDoor.W
open Go.RowKit
set_option maxRecDepth 100000

/-- A writer in block b: its slice v, which holds the bytes l. -/
structure WrAt (w : World) (b : Nat) (v : Value) (l : List Nat) : Prop where
  row : Row w b #[v] 85
  own : Own w 0 v l
  w8 : W8 l
/-- What a call on a writer leaves alone: all but its block and its bytes' block; its bytes lie where they did, or in a new block. -/
structure WStep (w w' : World) (b : Nat) (v v' : Value) : Prop where
  os : w'.os = w.os
  tape : w'.tape = w.tape
  output : w'.output = w.output
  size : w.heap.size ≤ w'.heap.size
  block : ∀ k, k < w.heap.size → k ≠ b → v.ownBlock ≠ some k → w'.heap[k]? = w.heap[k]?
  moved : ∀ g, v'.ownBlock = some g → v.ownBlock = some g ∨ w.heap.size ≤ g
theorem WStep.refl (w : World) (b : Nat) (v : Value) : WStep w w b v v := ⟨rfl, rfl, rfl, Nat.le_refl _, fun _ _ _ _ => rfl, fun _ h => Or.inl h⟩
theorem WStep.of {w w' : World} (h : Below w.heap.size w w') (b : Nat) (v : Value) : WStep w w' b v v := ⟨h.os, h.tape, h.output, h.size, fun k hk _ _ => h.block k hk, fun _ h => Or.inl h⟩
theorem WStep.trans {a b c : World} {B : Nat} {v v1 v2 : Value} (h : WStep a b B v v1) (k : WStep b c B v1 v2) : WStep a c B v v2 := by
  refine ⟨k.os.trans h.os, k.tape.trans h.tape, k.output.trans h.output, Nat.le_trans h.size k.size, fun i hi h1 h2 => ?_, fun g hg => ?_⟩
  · refine (k.block i (Nat.lt_of_lt_of_le hi h.size) h1 (fun e => ?_)).trans (h.block i hi h1 h2)
    rcases h.moved i e with e | e
    · exact h2 e
    · omega
  · rcases k.moved g hg with e | e
    · exact h.moved g e
    · exact Or.inr (Nat.le_trans h.size e)
/-- Blocks that such a call leaves alone. -/
def Far (b : Nat) (v : Value) (k : Nat) : Prop := k ≠ b ∧ v.ownBlock ≠ some k
theorem WStep.far {w w' : World} {b : Nat} {v v' : Value} (h : WStep w w' b v v') {k : Nat} (hk : Far b v k) (hl : k < w.heap.size) : w'.heap[k]? = w.heap[k]? := h.block k hl hk.1 hk.2
theorem WrAt.lt {w : World} {b : Nat} {v : Value} {l : List Nat} (h : WrAt w b v l) : b < w.heap.size := h.row.lt
theorem WrAt.ne {w : World} {b : Nat} {v : Value} {l : List Nat} (h : WrAt w b v l) : v.ownBlock ≠ some b := own_ne h.own h.row (by decide)
theorem WrAt.olt {w : World} {b : Nat} {v : Value} {l : List Nat} (h : WrAt w b v l) {k : Nat} (hk : v.ownBlock = some k) : k < w.heap.size := (h.own.lt k hk).2
theorem WrAt.far {w : World} {b : Nat} {v : Value} {l : List Nat} (h : WrAt w b v l) {k : Nat} (hk : w.heap.size ≤ k) : Far b v k := ⟨by have := h.lt; omega, fun e => by have := h.olt e; omega⟩
theorem WrAt.later {w w' : World} {b : Nat} {v : Value} {l : List Nat} (h : WrAt w b v l) (hb : Below w.heap.size w w') : WrAt w' b v l := ⟨h.row.later hb, ownsRow_later h.own hb, h.w8⟩

/-- Bytes in blocks of which N holds. -/
def BytesOff (w : World) (N : Nat → Prop) (v : Value) (l : List Nat) : Prop :=
  W8 l ∧ l.length ≤ maxLen ∧ ∃ p c, v = .slice p l.length c ∧ ∀ i, i < l.length → ∃ b off, p = some ⟨b, off, none⟩ ∧ N b ∧ b < w.heap.size ∧ w.cell? ⟨b, off + i, none⟩ = some (.int .u8 (l.getD i 0 : Nat))
theorem BytesOff.at {w : World} {N : Nat → Prop} {v : Value} {l : List Nat} (h : BytesOff w N v l) : BytesAt w v l := by
  obtain ⟨h1, h2, p, c, e, h⟩ := h
  exact ⟨h1, h2, p, c, e, fun i hi => by obtain ⟨b, off, e, _, hb, hc⟩ := h i hi; exact ⟨b, off, e, hb, hc⟩⟩
theorem BytesOff.keep {w w' : World} {N : Nat → Prop} {v : Value} {l : List Nat} (h : BytesOff w N v l) (hz : w.heap.size ≤ w'.heap.size) (hk : ∀ k, k < w.heap.size → N k → w'.heap[k]? = w.heap[k]?) : BytesOff w' N v l := by
  obtain ⟨h1, h2, p, c, e, h⟩ := h
  exact ⟨h1, h2, p, c, e, fun i hi => by
    obtain ⟨b, off, e, hN, hb, hc⟩ := h i hi
    exact ⟨b, off, e, hN, Nat.lt_of_lt_of_le hb hz, (World.cell?_of_block (a := ⟨b, off + i, none⟩) (hk b hb hN)).trans hc⟩⟩
theorem BytesOff.nil (w : World) (N : Nat → Prop) : BytesOff w N (.slice none 0 0) [] := ⟨(fun _ h => by cases h), by simp [maxLen], none, 0, rfl, fun i hi => by simp at hi⟩
/-- Parts in blocks of which N holds. -/
def PartsOff (w : World) (N : Nat → Prop) (v : Value) (L : List (List Nat)) : Prop :=
  L.length ≤ maxLen ∧ ∃ p c, v = .slice p L.length c ∧ ∀ i, i < L.length → ∃ b off u, p = some ⟨b, off, none⟩ ∧ N b ∧ b < w.heap.size ∧ w.cell? ⟨b, off + i, none⟩ = some u ∧ BytesOff w N u (L.getD i [])

/-- The bytes of the first k parts. -/
def firsts (L : List (List Nat)) (k : Nat) : List Nat := (L.take k).flatten
theorem firsts_succ (L : List (List Nat)) (k : Nat) (h : k < L.length) : firsts L (k + 1) = firsts L k ++ L.getD k [] := by
  unfold firsts
  rw [List.take_succ_eq_append_getElem (i := k) (l := L) h]
  simp only [List.getD, List.getElem?_eq_getElem h, Option.getD_some, List.flatten_append, List.flatten_cons, List.flatten_nil, List.append_nil]
theorem firsts_le (L : List (List Nat)) (k : Nat) : (firsts L k).length ≤ L.flatten.length := by
  unfold firsts
  conv => rhs; rw [← List.take_append_drop k L]
  rw [List.flatten_append, List.length_append]
  omega
theorem firsts_all (L : List (List Nat)) (k : Nat) (h : L.length ≤ k) : firsts L k = L.flatten := by unfold firsts; rw [List.take_of_length_le h]

/-- Behind an append to the writer's bytes, and the store of the new slice. -/
theorem WrAt.put {w w2 : World} {b : Nat} {v v2 : Value} {l m : List Nat} (h : WrAt w b v l) (hm : W8 m) (ho : Own w2 0 v2 (l ++ m)) (hg : w.grownBy w2 v.ownBlock) (hmv : v2.ownBlock = v.ownBlock ∨ v2.ownBlock = some w.heap.size) :
    WrAt (w2.setCell ⟨b, 0, none⟩ v2) b v2 (l ++ m) ∧ WStep w (w2.setCell ⟨b, 0, none⟩ v2) b v v2 := by
  have hb : w2.heap[b]? = w.heap[b]? := hg.block b h.lt (fun e => h.ne e.symm)
  have r2 : Row w2 b #[v] 85 := hb.trans h.row
  have hne : v2.ownBlock ≠ some b := by
    rcases hmv with e | e
    · rw [e]; exact h.ne
    · rw [e]; intro hh; have := h.lt; simp at hh; omega
  refine ⟨⟨r2.set 0 v2, ownsRow_set ho hne v2, h.w8.append hm⟩, ⟨hg.os, hg.tape, hg.output, by simpa [World.setCell] using hg.size, fun k hk h1 h2 => ?_, fun g hh => ?_⟩⟩
  · exact (heap_setCell_other w2 ⟨b, 0, none⟩ k v2 h1).trans (hg.block k hk (fun e => h2 e.symm))
  · rcases hmv with e | e
    · exact Or.inl (e ▸ hh)
    · rw [e] at hh; simp at hh; exact Or.inr (by omega)

set_option maxHeartbeats 2000000 in
theorem raw_any (pv : Value) (L : List (List Nat)) (w : World) (b : Nat) (v : Value) (l : List Nat) (h : WrAt w b v l) (hp : PartsOff w (Far b v) pv L) (hT : l.length + L.flatten.length ≤ 1048576) :
    Calls Tryd.prog 49 #[.pointer (some ⟨b, 0, none⟩), pv] w fun e w' => ∃ v', e = .returned (.pointer (some ⟨b, 0, none⟩)) ∧ WrAt w' b v' (l ++ L.flatten) ∧ WStep w w' b v v' := by
  obtain ⟨hm, p, c, rfl, hc⟩ := id hp
  unfold maxLen at hm
  have hm0 : (0 : Int) ≤ (L.length : Int) := by omega
  have hm1 : (L.length : Int) ≤ 9223372036854775807 := by omega
  go_enter Tryd.func49, Tryd.ntmps49
  go_wp2
  go_loopw [9] (fun i wr => ∃ (k : Nat) (vk : Value), k ≤ L.length ∧ i = .int .i64 k ∧ WrAt wr b vk (l ++ firsts L k) ∧ WStep w wr b v vk) (fun i _ => L.length - (intOf i).toNat)
  case atStart => exact ⟨0, v, Nat.zero_le _, rfl, by simpa [firsts] using h, WStep.refl _ _ _⟩
  case round =>
    obtain ⟨k, vk, hk, rfl, hw, hs⟩ := hrel
    by_cases hlt : k < L.length
    · obtain ⟨bb, off, u, rfl, hN, hbb, hcell, hu⟩ := hc k hlt
      have hcell' := (World.cell?_of_block (a := ⟨bb, off + k, none⟩) (hs.far hN hbb)).trans hcell
      have hu' := (hu.keep hs.size (fun j hj hN => hs.far hN hj))
      have hsu := firsts_succ L k hlt
      have hle1 := firsts_le L (k + 1)
      rw [hsu, List.length_append] at hle1
      have c0 := hw.row.cell 0
      simp only [List.getElem?_toArray, List.getElem?_cons_zero] at c0
      obtain ⟨v2, w2, run2, own2, gr2, _, mv2⟩ := append_bytes wr 0 65 vk _ hw.own u _ hu'.at (by simp only [List.length_append]; omega) (Nat.zero_le _)
      obtain ⟨hw2, hs2⟩ := hw.put hu.1 own2 gr2 mv2
      have hrow2 : Row w2 b #[vk] 85 := (gr2.block b hw.lt (fun e => hw.ne e.symm)).trans hw.row
      have f2 := hrow2.frozen 0
      have c2 := hrow2.cell 0
      simp only [List.getElem?_toArray, List.getElem?_cons_zero] at c2
      rw [List.append_assoc, ← hsu] at hw2
      have hs3 := hs.trans hs2
      obtain ⟨pk, nk, ck, rfl, hnk⟩ := hw.own.form
      obtain ⟨pu, nu, cu, rfl, hnu⟩ := own2.form
      obtain ⟨_, hx2, pq, cq, rfl, hx3⟩ := hu
      clear hnk hnu hx2 hx3
      clear hle1 hsu hc hp hcell hu' gr2 own2 hrow2 mv2
      generalize (L.getD k []).length = n2 at *
      go_wp2_with (at_builtin; refine Lib.wpList_append_run _ rfl _ _ _ _ rfl _ _ rfl rfl _ _ run2 ?_)
      go_roundw
      case rel => exact ⟨k + 1, _, by omega, by go_num, hw2, hs3⟩
      case measure => simp [intOf]; omega
    · rw [firsts_all L k (by omega)] at hw
      go_wp2
      go_ret
      exact ⟨_, rfl, hw, hs⟩
end Go.Proofs.YtcahmldgkkcheaaDoor.W
/-! WyWiN -/
namespace Go.Proofs.YtcahmldgkkcheaaDoor.W
open Go.RowKit
set_option maxRecDepth 100000

theorem getD_app_l (l m : List Nat) (j : Nat) (h : j < l.length) : (l ++ m).getD j 0 = l.getD j 0 := by rw [List.getD, List.getD, List.getElem?_append_left h]
theorem getD_app_r (l m : List Nat) (j : Nat) (h : l.length ≤ j) : (l ++ m).getD j 0 = m.getD (j - l.length) 0 := by simp [List.getD, List.getElem?_append_right h]
theorem enc_getD : ∀ (n x j : Nat), j < n → (enc n x).getD j 0 = x / 256 ^ (n - 1 - j) % 256
  | 0, _, _, h => by omega
  | n + 1, x, j, h => by
    rw [enc]
    by_cases hj : j < n
    · rw [getD_app_l _ _ _ (by rw [enc_len]; exact hj), enc_getD n (x / 256) j hj, Nat.div_div_eq_div_mul, show n + 1 - 1 - j = (n - 1 - j) + 1 from by omega, Nat.pow_succ, Nat.mul_comm]
    · obtain rfl : j = n := by omega
      rw [getD_app_r _ _ _ (by rw [enc_len]; exact Nat.le_refl _), enc_len]
      simp
/-- The sixteen bytes of a number. -/
def numB (n : Nat × Nat) : List Nat := enc 8 n.1 ++ enc 8 n.2
theorem numB_len (n : Nat × Nat) : (numB n).length = 16 := by rw [numB, List.length_append, enc_len, enc_len]
theorem numB_w8 (n : Nat × Nat) : W8 (numB n) := (enc_w8 _ _).append (enc_w8 _ _)
theorem bH_getD (n : Nat × Nat) (j : Nat) (hj : j < 16) : bH (n.1 : Nat) (n.2 : Nat) j = ((numB n).getD j 0 : Nat) := by
  have e2 : ∀ k : Nat, (2 : Int) ^ (8 * k) = ((256 ^ k : Nat) : Int) := fun k => by rw [Int.pow_mul, Int.natCast_pow]; rfl
  unfold bH numB
  by_cases h : j < 8
  · rw [if_pos h, getD_app_l _ _ _ (by rw [enc_len]; exact h), enc_getD 8 _ j h, e2, show 8 - 1 - j = 7 - j from by omega]
    omega
  · rw [if_neg h, getD_app_r _ _ _ (by rw [enc_len]; omega), enc_len, enc_getD 8 _ (j - 8) (by omega), e2, show 8 - 1 - (j - 8) = 15 - j from by omega]
    omega
def Word64 (n : Nat × Nat) : Prop := n.1 < 18446744073709551616 ∧ n.2 < 18446744073709551616
theorem numbytes_any (n : Nat × Nat) (w : World) (h : Word64 n) :
    Calls Tryd.prog 50 #[.agg #[.int .u64 (n.1 : Nat), .int .u64 (n.2 : Nat)]] w fun e w' => ∃ B, w.heap.size ≤ B ∧ B < w'.heap.size ∧ e = .returned (.slice (some ⟨B, 0, none⟩) 16 16) ∧ (∀ j, j < 16 → w'.cell? ⟨B, j, none⟩ = some (.int .u8 ((numB n).getD j 0 : Nat))) ∧ Below w.heap.size w w' := by
  refine (bytes_any _ _ w ⟨by omega, by have := h.1; omega⟩ ⟨by omega, by have := h.2; omega⟩).mono ?_
  rintro e w' ⟨B, h1, h2, h3, h4, h5⟩
  exact ⟨B, h1, h2, h3, fun j hj => by rw [h4 j hj, bH_getD n j hj], h5⟩

/-- Numbers in blocks of which N holds. -/
def NumsOff (w : World) (N : Nat → Prop) (v : Value) (L : List (Nat × Nat)) : Prop :=
  L.length ≤ 1000 ∧ ∃ p c, v = .slice p L.length c ∧ ∀ i, i < L.length → ∃ b off, p = some ⟨b, off, none⟩ ∧ N b ∧ b < w.heap.size ∧ w.cell? ⟨b, off + i * 2, none⟩ = some (.int .u64 ((L.getD i (0, 0)).1 : Nat)) ∧ w.cell? ⟨b, off + i * 2 + 1, none⟩ = some (.int .u64 ((L.getD i (0, 0)).2 : Nat)) ∧ Word64 (L.getD i (0, 0))
/-- The bytes of the first k numbers. -/
def numsB (L : List (Nat × Nat)) (k : Nat) : List Nat := (L.take k).flatMap numB
theorem numsB_succ (L : List (Nat × Nat)) (k : Nat) (h : k < L.length) : numsB L (k + 1) = numsB L k ++ numB (L.getD k (0, 0)) := by
  unfold numsB
  rw [List.take_succ_eq_append_getElem (i := k) (l := L) h, List.flatMap_append]
  simp only [List.getD, List.getElem?_eq_getElem h, Option.getD_some, List.flatMap_cons, List.flatMap_nil, List.append_nil]
theorem numsB_len (L : List (Nat × Nat)) (k : Nat) (h : k ≤ L.length) : (numsB L k).length = 16 * k := by
  induction k with
  | zero => simp [numsB]
  | succ k ih => rw [numsB_succ L k (by omega), List.length_append, ih (by omega), numB_len]; omega
theorem numsB_all (L : List (Nat × Nat)) (k : Nat) (h : L.length ≤ k) : numsB L k = L.flatMap numB := by unfold numsB; rw [List.take_of_length_le h]

set_option maxHeartbeats 2000000 in
theorem wnum_any (pv : Value) (L : List (Nat × Nat)) (w : World) (b : Nat) (v : Value) (l : List Nat) (h : WrAt w b v l) (hp : NumsOff w (Far b v) pv L) (hT : l.length ≤ 1000000) :
    Calls Tryd.prog 37 #[.pointer (some ⟨b, 0, none⟩), pv] w fun e w' => ∃ v', e = .returned (.pointer (some ⟨b, 0, none⟩)) ∧ WrAt w' b v' (l ++ L.flatMap numB) ∧ WStep w w' b v v' := by
  obtain ⟨hm, p, c, rfl, hc⟩ := id hp
  have hm0 : (0 : Int) ≤ (L.length : Int) := by omega
  have hm1 : (L.length : Int) ≤ 1000 := by omega
  go_enter Tryd.func37, Tryd.ntmps37
  go_wp2
  go_loopw [9] (fun i wr => ∃ (k : Nat) (vk : Value), k ≤ L.length ∧ i = .int .i64 k ∧ WrAt wr b vk (l ++ numsB L k) ∧ WStep w wr b v vk) (fun i _ => L.length - (intOf i).toNat)
  case atStart => exact ⟨0, v, Nat.zero_le _, rfl, by simpa [numsB] using h, WStep.refl _ _ _⟩
  case round =>
    obtain ⟨k, vk, hk, rfl, hw, hs⟩ := hrel
    by_cases hlt : k < L.length
    · obtain ⟨bb, off, rfl, hN, hbb, hc0, hc1, hw64⟩ := hc k hlt
      have d0 := (World.cell?_of_block (a := ⟨bb, off + k * 2, none⟩) (hs.far hN hbb)).trans hc0
      have d1 := (World.cell?_of_block (a := ⟨bb, off + k * 2 + 1, none⟩) (hs.far hN hbb)).trans hc1
      have hsu := numsB_succ L k hlt
      have hle := numsB_len L k (by omega)
      have HS : Hid (numsB L (k + 1) = numsB L k ++ numB (L.getD k (0, 0))) := hsu
      have hlen : (l ++ numsB L k).length ≤ 1016000 := by rw [List.length_append, hle]; omega
      clear hsu hc hp hc0 hc1 hle
      generalize L.getD k (0, 0) = nn at *
      have g0 : (0 : Int) ≤ (k : Int) := by omega
      have g1 : (k : Int) < (L.length : Int) := by omega
      go_wp2_with (go_at_call 50; refine stop ?_)
      have hw1 := hw.later (below1 wr (.cells #[.int .u64 (nn.1 : Nat), .int .u64 (nn.2 : Nat)] 32))
      have hs1 : WStep w (wr.alloc (.cells #[.int .u64 (nn.1 : Nat), .int .u64 (nn.2 : Nat)] 32)) b v vk := hs.trans (WStep.of (below1 wr _) b vk)
      refine (numbytes_any nn _ hw64).mono ?_
      generalize wr.alloc (.cells #[.int .u64 (nn.1 : Nat), .int .u64 (nn.2 : Nat)] 32) = w1 at *
      rintro e w2 ⟨B, hB1, hB2, rfl, hcel, hb2⟩
      have hw2 := hw1.later hb2
      have hs2 := hs1.trans (WStep.of hb2 b vk)
      have hfB : Far b vk B := hw1.far hB1
      clear hw1 hs1 hb2 hw hs
      go_wp2_with (go_at_call 49; refine stop ?_)
      have hw3 := hw2.later (below1 w2 (.cells #[.slice (some ⟨B, 0, none⟩) 16 16] 65))
      have hs3 : WStep w (w2.alloc (.cells #[.slice (some ⟨B, 0, none⟩) 16 16] 65)) b v vk := hs2.trans (WStep.of (below1 w2 _) b vk)
      have hpo : PartsOff (w2.alloc (.cells #[.slice (some ⟨B, 0, none⟩) 16 16] 65)) (Far b vk) (.slice (some ⟨w2.heap.size, 0, none⟩) 1 1) [numB nn] := by
        refine ⟨by simp [maxLen], _, _, rfl, fun i hi => ?_⟩
        obtain rfl : i = 0 := by simpa using hi
        refine ⟨_, 0, .slice (some ⟨B, 0, none⟩) 16 16, rfl, hw2.far (Nat.le_refl _), by simp, by rw [World.cell?_alloc_at _ _ _ _ rfl]; rfl, ?_⟩
        refine ⟨numB_w8 nn, by rw [show ([numB nn].getD 0 []) = numB nn from rfl, numB_len]; simp [maxLen], _, 16, by rw [show ([numB nn].getD 0 []) = numB nn from rfl, numB_len], fun j hj => ⟨B, 0, rfl, hfB, by simp; omega, ?_⟩⟩
        rw [show ([numB nn].getD 0 []) = numB nn from rfl, numB_len] at hj
        rw [World.cell?_of_block (w := w2) (a := ⟨B, 0 + j, none⟩) (heap_alloc_old w2 _ hB2), Nat.zero_add]
        exact hcel j hj
      refine (raw_any _ [numB nn] _ b vk _ hw3 hpo (by simp only [List.flatten_cons, List.flatten_nil, List.append_nil, numB_len]; omega)).mono ?_
      rintro e w4 ⟨v4, rfl, hw4, hs4⟩
      have hs5 := hs3.trans hs4
      simp only [List.flatten_cons, List.flatten_nil, List.append_nil] at hw4
      rw [List.append_assoc, ← HS.out] at hw4
      clear hw3 hs3 hpo hs4 hw2 hs2
      go_wp2
      go_roundw
      case rel => exact ⟨k + 1, _, by omega, by go_num, hw4, hs5⟩
      case measure => simp [intOf]; omega
    · rw [numsB_all L k (by omega)] at hw
      go_wp2
      go_ret
      exact ⟨_, rfl, hw, hs⟩

theorem wbytes_any (w : World) (b : Nat) (v : Value) (l : List Nat) (h : WrAt w b v l) (hl : l.length ≤ 1048576) :
    Calls Tryd.prog 39 #[.pointer (some ⟨b, 0, none⟩)] w fun e w' => ∃ v', e = .returned v' ∧ Own w' w.heap.size v' l ∧ Below w.heap.size w w' := by
  have c0 := h.row.cell 0
  simp only [List.getElem?_toArray, List.getElem?_cons_zero] at c0
  have hb := h.own.bytes h.w8 (by unfold maxLen; omega)
  obtain ⟨p, n, c, rfl, hn⟩ := h.own.form
  clear hn
  go_enter Tryd.func39, Tryd.ntmps39
  go_wp2_with (go_at_call 43; refine stop ?_)
  refine (clone_any _ l w hb hl).mono ?_
  rintro e w1 ⟨v', rfl, ho, hb1⟩
  obtain ⟨p', n', c', rfl, hn'⟩ := ho.form
  clear hn'
  go_wp2
  go_ret
  exact ⟨_, rfl, ho, hb1⟩
end Go.Proofs.YtcahmldgkkcheaaDoor.W
/-! WyWiI -/
namespace Go.Proofs.YtcahmldgkkcheaaDoor.W
open Go.RowKit
set_option maxRecDepth 100000

/-- The lowest n bytes of a number of 64 bits. -/
def intB (n : Nat) (x : Int) : List Nat := enc n (x % 18446744073709551616).toNat
theorem intB_len (n : Nat) (x : Int) : (intB n x).length = n := enc_len _ _
theorem intB_w8 (n : Nat) (x : Int) : W8 (intB n x) := enc_w8 _ _
/-- Whole numbers in blocks of which N holds. -/
def IntsOff (w : World) (N : Nat → Prop) (v : Value) (L : List Int) : Prop :=
  L.length ≤ 1000 ∧ ∃ p c, v = .slice p L.length c ∧ ∀ i, i < L.length → ∃ b off, p = some ⟨b, off, none⟩ ∧ N b ∧ b < w.heap.size ∧ w.cell? ⟨b, off + i, none⟩ = some (.int .i64 (L.getD i 0))
def intsB (n : Nat) (L : List Int) (k : Nat) : List Nat := (L.take k).flatMap (intB n)
theorem intsB_succ (n : Nat) (L : List Int) (k : Nat) (h : k < L.length) : intsB n L (k + 1) = intsB n L k ++ intB n (L.getD k 0) := by
  unfold intsB
  rw [List.take_succ_eq_append_getElem (i := k) (l := L) h, List.flatMap_append]
  simp only [List.getD, List.getElem?_eq_getElem h, Option.getD_some, List.flatMap_cons, List.flatMap_nil, List.append_nil]
theorem intsB_len (n : Nat) (L : List Int) (k : Nat) (h : k ≤ L.length) : (intsB n L k).length = n * k := by
  induction k with
  | zero => simp [intsB]
  | succ k ih => rw [intsB_succ n L k (by omega), List.length_append, ih (by omega), intB_len, Nat.mul_succ]
theorem intsB_all (n : Nat) (L : List Int) (k : Nat) (h : L.length ≤ k) : intsB n L k = L.flatMap (intB n) := by unfold intsB; rw [List.take_of_length_le h]

theorem byte_at (n j : Nat) (hj : j < n) (x : Int) : IntKind.u8.wrap (IntKind.u64.wrap x / 2 ^ (8 * ((n : Int) - 1 - (j : Int))).toNat) = ((intB n x).getD j 0 : Nat) := by
  rw [intB, enc_getD n _ j hj, IntKind.wrap_u64, show (8 * ((n : Int) - 1 - (j : Int))).toNat = 8 * (n - 1 - j) from by omega, show (2 : Int) ^ (8 * (n - 1 - j)) = ((256 ^ (n - 1 - j) : Nat) : Int) from by rw [Int.pow_mul, Int.natCast_pow]; rfl]
  obtain ⟨U, hU⟩ := Int.eq_ofNat_of_zero_le (Int.emod_nonneg x (show (18446744073709551616 : Int) ≠ 0 by decide))
  rw [hU, ← Int.natCast_ediv, IntKind.wrap_u8]
  simp
set_option maxHeartbeats 2000000 in
theorem wint_any (n : Nat) (hn : n ≤ 8) (pv : Value) (L : List Int) (w : World) (b : Nat) (v : Value) (l : List Nat) (h : WrAt w b v l) (hp : IntsOff w (Far b v) pv L) (hT : l.length ≤ 1000000) :
    Calls Tryd.prog 38 #[.pointer (some ⟨b, 0, none⟩), .int .i64 n, pv] w fun e w' => ∃ v', e = .returned (.pointer (some ⟨b, 0, none⟩)) ∧ WrAt w' b v' (l ++ L.flatMap (intB n)) ∧ WStep w w' b v v' := by
  obtain ⟨hm, p, c, rfl, hc⟩ := id hp
  have hm0 : (0 : Int) ≤ (L.length : Int) := by omega
  have hm1 : (L.length : Int) ≤ 1000 := by omega
  have n0 : (0 : Int) ≤ (n : Int) := by omega
  have n1 : (n : Int) ≤ 8 := by omega
  go_enter Tryd.func38, Tryd.ntmps38
  go_wp2
  go_loopw [15] (fun i wr => ∃ (k : Nat) (vk : Value), k ≤ L.length ∧ i = .int .i64 k ∧ WrAt wr b vk (l ++ intsB n L k) ∧ WStep w wr b v vk) (fun i _ => L.length - (intOf i).toNat)
  case atStart => exact ⟨0, v, Nat.zero_le _, rfl, by simpa [intsB] using h, WStep.refl _ _ _⟩
  case round =>
    obtain ⟨k, vk, hk, rfl, hw, hs⟩ := hrel
    by_cases hlt : k < L.length
    · obtain ⟨bb, off, rfl, hN, hbb, hc0⟩ := hc k hlt
      have d0 := (World.cell?_of_block (a := ⟨bb, off + k, none⟩) (hs.far hN hbb)).trans hc0
      have hle := intsB_len n L k (by omega)
      have HS : Hid (intsB n L (k + 1) = intsB n L k ++ intB n (L.getD k 0)) := intsB_succ n L k hlt
      have hlen : (l ++ intsB n L k).length ≤ 1008000 := by
        rw [List.length_append, hle]
        have : n * k ≤ 8 * 1000 := Nat.mul_le_mul hn (by omega)
        omega
      clear hc hp hc0 hle
      generalize L.getD k 0 = x at *
      have g0 : (0 : Int) ≤ (k : Int) := by omega
      have g1 : (k : Int) < (L.length : Int) := by omega
      go_wp2
      go_loopw [20] (fun i wr => ∃ (j : Nat) (vj : Value), j ≤ n ∧ i = .int .i64 j ∧ WrAt wr b vj (l ++ intsB n L k ++ (intB n x).take j) ∧ WStep w wr b v vj) (fun i _ => n - (intOf i).toNat)
      case atStart => exact ⟨0, vk, Nat.zero_le _, rfl, by simpa using hw, hs⟩
      case round =>
        obtain ⟨j, vj, hj, rfl, hwj, hsj⟩ := hrel
        clear hw hs d0
        by_cases hlj : j < n
        · have j0 : (0 : Int) ≤ (j : Int) := by omega
          have j1 : (j : Int) < (n : Int) := by omega
          have c0 := hwj.row.cell 0
          simp only [List.getElem?_toArray, List.getElem?_cons_zero] at c0
          obtain ⟨pj, nj, cj, rfl, hnj⟩ := hwj.own.form
          clear hnj
          go_wp2_with fail
          refine wp_region_D (fun i => i != 14) (fun w' => w'.cell? ⟨b, 0, none⟩ = some (.slice pj nj cj)) (by kernel_rfl) ?_
          have hS : (fun w' : World => w'.cell? ⟨b, 0, none⟩ = some (.slice pj nj cj)) wr.drew := c0
          refine' wpAnyD_take (i := 0) (v := _) rfl (by kernel_rfl) (by kernel_rfl) (by kernel_rfl) (by kernel_rfl) (fun _ _ _ h => h) (Or.inl ⟨by rfl, ?hy1⟩) hS ?re1
          case hy1 => (intro w hSw; (try dsimp only at hSw); go_simp; (try with_reducible rfl))
          simp only [Act.put, List.setIfInBounds_toArray, List.set_cons_zero, List.set_cons_succ]
          refine' wpAnyD_take (i := 1) (v := _) rfl (by kernel_rfl) (by kernel_rfl) (by kernel_rfl) (by kernel_rfl) (fun _ _ _ h => h) (Or.inl ⟨by rfl, ?hy2⟩) hS ?re2
          case hy2 => (intro w hSw; (try dsimp only at hSw); go_simp; (try with_reducible rfl))
          simp only [Act.put, List.setIfInBounds_toArray, List.set_cons_zero, List.set_cons_succ]
          refine' wpAnyD_take (i := 2) (v := _) rfl (by kernel_rfl) (by kernel_rfl) (by kernel_rfl) (by kernel_rfl) (fun _ _ _ h => h) (Or.inl ⟨by rfl, ?hy3⟩) hS ?re3
          case hy3 => (intro w hSw; (try dsimp only at hSw); go_simp; (try with_reducible rfl))
          simp only [Act.put, List.setIfInBounds_toArray, List.set_cons_zero, List.set_cons_succ]
          refine' wpAnyD_take (i := 3) (v := _) rfl (by kernel_rfl) (by kernel_rfl) (by kernel_rfl) (by kernel_rfl) (fun _ _ _ h => h) (Or.inl ⟨by rfl, ?hy4⟩) hS ?re4
          case hy4 => (intro w hSw; (try dsimp only at hSw); go_simp; (try with_reducible rfl))
          simp only [Act.put, List.setIfInBounds_toArray, List.set_cons_zero, List.set_cons_succ]
          refine' wpAnyD_take (i := 4) (v := _) rfl (by kernel_rfl) (by kernel_rfl) (by kernel_rfl) (by kernel_rfl) (fun _ _ _ h => h) (Or.inl ⟨by rfl, ?hy5⟩) hS ?re5
          case hy5 => (intro w hSw; (try dsimp only at hSw); go_simp; (try with_reducible rfl))
          simp only [Act.put, List.setIfInBounds_toArray, List.set_cons_zero, List.set_cons_succ]
          refine' wpAnyD_take (i := 5) (v := _) rfl (by kernel_rfl) (by kernel_rfl) (by kernel_rfl) (by kernel_rfl) (fun _ _ _ h => h) (Or.inl ⟨by rfl, ?hy6⟩) hS ?re6
          case hy6 => (intro w hSw; (try dsimp only at hSw); go_simp; (try with_reducible rfl))
          simp only [Act.put, List.setIfInBounds_toArray, List.set_cons_zero, List.set_cons_succ]
          refine' wpAnyD_take (i := 6) (v := _) rfl (by kernel_rfl) (by kernel_rfl) (by kernel_rfl) (by kernel_rfl) (fun _ _ _ h => h) (Or.inl ⟨by rfl, ?hy7⟩) hS ?re7
          case hy7 => (intro w hSw; (try dsimp only at hSw); go_simp; (try with_reducible rfl))
          simp only [Act.put, List.setIfInBounds_toArray, List.set_cons_zero, List.set_cons_succ]
          refine' wpAnyD_take (i := 7) (v := _) rfl (by kernel_rfl) (by kernel_rfl) (by kernel_rfl) (by kernel_rfl) (fun _ _ _ h => h) (Or.inl ⟨by rfl, ?hy8⟩) hS ?re8
          case hy8 => (intro w hSw; (try dsimp only at hSw); go_simp; (try with_reducible rfl))
          simp only [Act.put, List.setIfInBounds_toArray, List.set_cons_zero, List.set_cons_succ]
          refine' wpAnyD_take (i := 8) (v := _) rfl (by kernel_rfl) (by kernel_rfl) (by kernel_rfl) (by kernel_rfl) (fun _ _ _ h => h) (Or.inl ⟨by rfl, ?hy9⟩) hS ?re9
          case hy9 => (intro w hSw; (try dsimp only at hSw); go_simp; (try with_reducible rfl))
          simp only [Act.put, List.setIfInBounds_toArray, List.set_cons_zero, List.set_cons_succ]
          refine' wpAnyD_take (i := 9) (v := _) rfl (by kernel_rfl) (by kernel_rfl) (by kernel_rfl) (by kernel_rfl) (fun _ _ _ h => h) (Or.inl ⟨by rfl, ?hy10⟩) hS ?re10
          case hy10 => (intro w hSw; (try dsimp only at hSw); go_simp; (try with_reducible rfl))
          simp only [Act.put, List.setIfInBounds_toArray, List.set_cons_zero, List.set_cons_succ]
          refine wpAnyD_only (i := 10) rfl (by kernel_rfl) (by rfl) (fun K hK => ?_)
          go_simp
          rw [byte_at n j hlj x]
          have hz : (intB n x).getD j 0 < 256 := (intB_w8 n x).at j
          have HT : Hid ((intB n x).take (j + 1) = (intB n x).take j ++ [(intB n x).getD j 0]) := take_snoc _ _ (by rw [intB_len]; exact hlj)
          generalize (intB n x).getD j 0 = z at *
          have hb1 : Below wr.heap.size wr (wr.alloc (.cells #[.int .u8 (z : Nat)] 5)).drew := (below1 wr _).drew
          have hx1 : BytesAt (wr.alloc (.cells #[.int .u8 (z : Nat)] 5)).drew (.slice (some ⟨wr.heap.size, 0, none⟩) 1 1) [z] := (Row.new wr (bytesL [z]) 5 rfl).drew.bytes (fun y hy => by simp at hy; omega) (by simp [maxLen]) 1 1 rfl
          have hw1 := hwj.later hb1
          have hs1 := hsj.trans (WStep.of hb1 b _)
          have c1 := hw1.row.cell 0
          simp only [List.getElem?_toArray, List.getElem?_cons_zero] at c1
          clear hwj hsj c0 hb1
          try dsimp only
          have hSn := c1
          refine hK.out _ _ (fun _ => hSn) ?_
          clear hK K hS
          have hS := hSn
          clear hSn
          try simp only [Act.put, List.setIfInBounds_toArray, List.set_cons_zero, List.set_cons_succ]
          generalize (wr.alloc (.cells #[.int .u8 (z : Nat)] 5)).drew = w1 at *
          have hlj2 : ((intB n x).take j).length = j := by rw [List.length_take, intB_len]; omega
          have hle4 : (l ++ intsB n L k ++ (intB n x).take j).length + [z].length ≤ 1048576 := by
            rw [List.length_append] at hlen
            simp only [List.length_append, hlj2, List.length_singleton]
            omega
          obtain ⟨v2, w2, run2, own2, gr2, _, mv2⟩ := append_bytes w1 0 65 _ _ hw1.own _ [z] hx1 hle4 (Nat.zero_le _)
          obtain ⟨hw2, hs2⟩ := hw1.put hx1.1 own2 gr2 mv2
          have hrow2 : Row w2 b #[.slice pj nj cj] 85 := (gr2.block b hw1.lt (fun e => hw1.ne e.symm)).trans hw1.row
          have f2 := hrow2.frozen 0
          have c2 := hrow2.cell 0
          simp only [List.getElem?_toArray, List.getElem?_cons_zero] at c2
          rw [List.append_assoc, ← HT.out] at hw2
          have hs3 := hs1.trans hs2
          obtain ⟨p2, n2, c2', rfl, hn2⟩ := own2.form
          clear hn2 hx1 own2 gr2 mv2 hrow2 hw1 hs1 hs2 hlj2 hle4
          refine wpAnyD_only (i := 11) rfl (by kernel_rfl) (by rfl) (fun K hK => ?_)
          refine Lib.wp_append_run _ (.tmp 32) (.tmp 38) 65 65 rfl _ _ rfl rfl _ _ run2 ?_
          try dsimp only
          have hSn := c2
          refine hK.out _ _ (fun _ => hSn) ?_
          clear hK K hS
          have hS := hSn
          clear hSn
          try simp only [Act.put, List.setIfInBounds_toArray, List.set_cons_zero, List.set_cons_succ]
          refine' wpAnyD_take (i := 12) (v := _) rfl (by kernel_rfl) (by kernel_rfl) (by kernel_rfl) (by kernel_rfl) (fun _ _ _ h => h) (Or.inl ⟨by rfl, ?hy11⟩) hS ?re11
          case hy11 => (intro w hSw; (try dsimp only at hSw); go_simp; (try with_reducible rfl))
          simp only [Act.put, List.setIfInBounds_toArray, List.set_cons_zero, List.set_cons_succ]
          refine' wpAnyD_take (i := 13) (v := _) rfl (by kernel_rfl) (by kernel_rfl) (by kernel_rfl) (by kernel_rfl) (fun _ _ _ h => h) (Or.inl ⟨by rfl, ?hy12⟩) hS ?re12
          case hy12 => (intro w hSw; (try dsimp only at hSw); go_simp; (try with_reducible rfl))
          simp only [Act.put, List.setIfInBounds_toArray, List.set_cons_zero, List.set_cons_succ]
          refine wpAnyD_only (i := 14) rfl (by kernel_rfl) (by rfl) (fun K hK => ?_)
          go_simp
          refine hK.out _ _ (fun h => by cases h) ?_
          clear hK K
          try simp only [Act.put, List.setIfInBounds_toArray, List.set_cons_zero, List.set_cons_succ]
          refine wpAnyD_done (by kernel_rfl) ?_ _
          go_wp2
          go_roundw
          case rel => exact ⟨j + 1, _, by omega, by go_num, hw2, hs3⟩
          case measure => simp [intOf]; omega
        · obtain rfl : j = n := by omega
          have j1 : ¬ (j : Int) < (j : Int) := by omega
          rw [List.take_of_length_le (l := intB j x) (by rw [intB_len]; exact Nat.le_refl _), List.append_assoc, ← HS.out] at hwj
          go_wp2
          go_roundw
          case rel => exact ⟨k + 1, _, by omega, by go_num, hwj, hsj⟩
          case measure => simp [intOf]; omega
    · rw [intsB_all n L k (by omega)] at hw
      go_wp2
      go_ret
      exact ⟨_, rfl, hw, hs⟩
end Go.Proofs.YtcahmldgkkcheaaDoor.W
/-! WyWiE -/
namespace Go.Proofs.YtcahmldgkkcheaaDoor.W
open Go.RowKit
set_option maxRecDepth 100000

/-- What a reader reads next: the two words of a number; a number of n bytes. -/
def rHi (s : List Nat × Bool) : Nat := be ((rTake 16 s).take 8)
def rLo (s : List Nat × Bool) : Nat := be ((rTake 16 s).drop 8)
def rI (n : Nat) (s : List Nat × Bool) : Nat := be (rTake n s)
/-- An account as a request tells it; its cells. -/
structure Ac where
  hi : Nat
  lo : Nat
  led : Nat
  fl : Nat
def Ac.cells (a : Ac) : Array Value := #[.int .u64 a.hi, .int .u64 a.lo, .int .i64 a.led, .int .i64 a.fl, .int .u64 0, .int .u64 0, .int .u64 0, .int .u64 0, .int .u64 0, .int .u64 0, .int .u64 0, .int .u64 0, .int .i64 0, .int .i64 0, .int .u8 0, .int .u8 0, .int .u8 0, .int .u8 0, .int .u8 0, .int .u8 0, .int .u8 0, .int .u8 0, .int .u8 0, .int .u8 0, .int .u8 0, .int .u8 0, .int .u8 0, .int .u8 0, .int .u8 0, .int .u8 0, .int .u8 0, .int .u8 0, .int .u8 0, .int .u8 0, .int .u8 0, .int .u8 0, .int .u8 0, .int .u8 0, .int .u8 0, .int .u8 0, .int .u8 0, .int .u8 0, .int .u8 0, .int .u8 0, .int .u8 0, .int .u8 0]
theorem acc_lit : (#[.int .u64 0, .int .u64 0, .int .i64 0, .int .i64 0, .int .u64 0, .int .u64 0, .int .u64 0, .int .u64 0, .int .u64 0, .int .u64 0, .int .u64 0, .int .u64 0, .int .i64 0, .int .i64 0, .int .u8 0, .int .u8 0, .int .u8 0, .int .u8 0, .int .u8 0, .int .u8 0, .int .u8 0, .int .u8 0, .int .u8 0, .int .u8 0, .int .u8 0, .int .u8 0, .int .u8 0, .int .u8 0, .int .u8 0, .int .u8 0, .int .u8 0, .int .u8 0, .int .u8 0, .int .u8 0, .int .u8 0, .int .u8 0, .int .u8 0, .int .u8 0, .int .u8 0, .int .u8 0, .int .u8 0, .int .u8 0, .int .u8 0, .int .u8 0, .int .u8 0, .int .u8 0] : Array Value) = Ac.cells ⟨0, 0, 0, 0⟩ := rfl
theorem Ac.size (a : Ac) : a.cells.size = 46 := rfl
theorem Ac.one (a : Ac) : a.cells.all (·.oneCell') = true := by simp [Ac.cells, Value.oneCell']
/-- A transfer as a request tells it; its cells. -/
structure Tr where
  h1 : Nat
  l1 : Nat
  h2 : Nat
  l2 : Nat
  h3 : Nat
  l3 : Nat
  h4 : Nat
  l4 : Nat
  h5 : Nat
  l5 : Nat
  tm : Nat
  led : Nat
  fl : Nat
def Tr.cells (a : Tr) : Array Value := #[.int .u64 a.h1, .int .u64 a.l1, .int .u64 a.h2, .int .u64 a.l2, .int .u64 a.h3, .int .u64 a.l3, .int .u64 a.h4, .int .u64 a.l4, .int .u64 a.h5, .int .u64 a.l5, .int .i64 a.tm, .int .i64 a.led, .int .i64 a.fl, .int .i64 0, .int .i64 0, .int .i64 0]
theorem tr_lit : (#[.int .u64 0, .int .u64 0, .int .u64 0, .int .u64 0, .int .u64 0, .int .u64 0, .int .u64 0, .int .u64 0, .int .u64 0, .int .u64 0, .int .i64 0, .int .i64 0, .int .i64 0, .int .i64 0, .int .i64 0, .int .i64 0] : Array Value) = Tr.cells ⟨0, 0, 0, 0, 0, 0, 0, 0, 0, 0, 0, 0, 0⟩ := rfl
theorem Tr.size (a : Tr) : a.cells.size = 16 := rfl
theorem Tr.one (a : Tr) : a.cells.all (·.oneCell') = true := by simp [Tr.cells, Value.oneCell']
/-- What is read of an account, of a transfer, and what the reader is behind it. -/
def rAc (s : List Nat × Bool) : Ac := ⟨rHi (s), rLo (s), rI 4 (rDrop 16 (s)), rI 2 (rDrop 4 (rDrop 16 (s)))⟩
def rAcS (s : List Nat × Bool) : List Nat × Bool := rDrop 2 (rDrop 4 (rDrop 16 (s)))
def rTr (s : List Nat × Bool) : Tr := ⟨rHi (s), rLo (s), rHi (rDrop 16 (s)), rLo (rDrop 16 (s)), rHi (rDrop 16 (rDrop 16 (s))), rLo (rDrop 16 (rDrop 16 (s))), rHi (rDrop 16 (rDrop 16 (rDrop 16 (s)))), rLo (rDrop 16 (rDrop 16 (rDrop 16 (s)))), rHi (rDrop 16 (rDrop 16 (rDrop 16 (rDrop 16 (s))))), rLo (rDrop 16 (rDrop 16 (rDrop 16 (rDrop 16 (s))))), rI 4 (rDrop 16 (rDrop 16 (rDrop 16 (rDrop 16 (rDrop 16 (s)))))), rI 4 (rDrop 4 (rDrop 16 (rDrop 16 (rDrop 16 (rDrop 16 (rDrop 16 (s))))))), rI 2 (rDrop 4 (rDrop 4 (rDrop 16 (rDrop 16 (rDrop 16 (rDrop 16 (rDrop 16 (s))))))))⟩
def rTrS (s : List Nat × Bool) : List Nat × Bool := rDrop 2 (rDrop 4 (rDrop 4 (rDrop 16 (rDrop 16 (rDrop 16 (rDrop 16 (rDrop 16 (s))))))))

end Go.Proofs.YtcahmldgkkcheaaDoor.W
/-! WyWiX -/
namespace Go.Proofs.YtcahmldgkkcheaaDoor.W
open Go.RowKit
set_option maxRecDepth 100000
set_option linter.unusedSimpArgs false

theorem WrAt.alloc {w : World} {b : Nat} {v : Value} {l : List Nat} (h : WrAt w b v l) (o : Obj) : WrAt (w.alloc o) b v l := h.later (below1 _ _)
theorem WStep.alloc {w w1 : World} {b : Nat} {v v1 : Value} (h : WStep w w1 b v v1) (o : Obj) : WStep w (w1.alloc o) b v v1 := h.trans (WStep.of (below1 _ _) _ _)
/-- Numbers that were laid in a new block. -/
theorem nums_new {w : World} {b : Nat} {v : Value} {l : List Nat} (h : WrAt w b v l) (cs : Array Value) (L : List (Nat × Nat)) (hL : L.length ≤ 1000) (g n c : Nat) (hg : g = w.heap.size) (hn : n = L.length)
    (hc : ∀ i, i < L.length → cs[i * 2]? = some (.int .u64 ((L.getD i (0, 0)).1 : Nat)) ∧ cs[i * 2 + 1]? = some (.int .u64 ((L.getD i (0, 0)).2 : Nat)) ∧ Word64 (L.getD i (0, 0))) (t : TypeId) :
    NumsOff (w.alloc (.cells cs t)) (Far b v) (.slice (some ⟨g, 0, none⟩) n c) L := by
  subst hg hn
  refine ⟨hL, _, _, rfl, fun i hi => ⟨w.heap.size, 0, rfl, h.far (Nat.le_refl _), by simp, ?_, ?_, (hc i hi).2.2⟩⟩
  · rw [World.cell?_alloc_at _ _ _ _ rfl, Nat.zero_add]; exact (hc i hi).1
  · rw [World.cell?_alloc_at _ _ _ _ rfl, Nat.zero_add]; exact (hc i hi).2.1
theorem ints_new {w : World} {b : Nat} {v : Value} {l : List Nat} (h : WrAt w b v l) (L : List Int) (hL : L.length ≤ 1000) (g n c : Nat) (hg : g = w.heap.size) (hn : n = L.length) (cs : Array Value) (hcs : cs = (L.map fun x => Value.int .i64 x).toArray) (t : TypeId) :
    IntsOff (w.alloc (.cells cs t)) (Far b v) (.slice (some ⟨g, 0, none⟩) n c) L := by
  subst hg hn hcs
  refine ⟨hL, _, _, rfl, fun i hi => ⟨w.heap.size, 0, rfl, h.far (Nat.le_refl _), by simp, ?_⟩⟩
  rw [World.cell?_alloc_at _ _ _ _ rfl, Nat.zero_add]
  simp [hi]
theorem num1 {w : World} {b : Nat} {v : Value} {l : List Nat} (h : WrAt w b v l) (x y : Nat) (hw : Word64 (x, y)) (g : Nat) (hg : g = w.heap.size) (t : TypeId) :
    NumsOff (w.alloc (.cells #[.int .u64 (x : Nat), .int .u64 (y : Nat)] t)) (Far b v) (.slice (some ⟨g, 0, none⟩) 1 1) [(x, y)] :=
  nums_new h _ [(x, y)] (by simp) g 1 1 hg rfl (fun i hi => by
    obtain rfl : i = 0 := by simpa using hi
    exact ⟨rfl, rfl, hw⟩) t
theorem int1 {w : World} {b : Nat} {v : Value} {l : List Nat} (h : WrAt w b v l) (x : Int) (g : Nat) (hg : g = w.heap.size) (t : TypeId) :
    IntsOff (w.alloc (.cells #[.int .i64 x] t)) (Far b v) (.slice (some ⟨g, 0, none⟩) 1 1) [x] := ints_new h [x] (by simp) g 1 1 hg rfl _ rfl t
theorem int2 {w : World} {b : Nat} {v : Value} {l : List Nat} (h : WrAt w b v l) (x y : Int) (g : Nat) (hg : g = w.heap.size) (t : TypeId) :
    IntsOff (w.alloc (.cells #[.int .i64 x, .int .i64 y] t)) (Far b v) (.slice (some ⟨g, 0, none⟩) 2 2) [x, y] := ints_new h [x, y] (by simp) g 2 2 hg rfl _ rfl t
theorem wint' (n : Nat) (hn : n ≤ 8) (m : Int) (hm : m = n) (pv : Value) (L : List Int) (w : World) (b : Nat) (v : Value) (l : List Nat) (h : WrAt w b v l) (hp : IntsOff w (Far b v) pv L) (hT : l.length ≤ 1000000) :
    Calls Tryd.prog 38 #[.pointer (some ⟨b, 0, none⟩), .int .i64 m, pv] w fun e w' => ∃ v', e = .returned (.pointer (some ⟨b, 0, none⟩)) ∧ WrAt w' b v' (l ++ L.flatMap (intB n)) ∧ WStep w w' b v v' := by
  subst hm
  exact wint_any n hn pv L w b v l h hp hT

/-- The bytes of an account as a request tells it. -/
def acB (hi lo : Nat) (led fl : Int) : List Nat := numB (hi, lo) ++ intB 4 led ++ intB 2 fl
theorem acB_len (hi lo : Nat) (led fl : Int) : (acB hi lo led fl).length = 22 := by simp [acB, numB_len, intB_len]

/-- The bytes of a transfer as a request tells it. -/
def trB (h1 l1 h2 l2 h3 l3 h4 l4 h5 l5 : Nat) (tm led fl : Int) : List Nat := numB (h1, l1) ++ (numB (h2, l2) ++ (numB (h3, l3) ++ (numB (h4, l4) ++ numB (h5, l5)))) ++ (intB 4 tm ++ intB 4 led) ++ intB 2 fl
theorem trB_len (h1 l1 h2 l2 h3 l3 h4 l4 h5 l5 : Nat) (tm led fl : Int) : (trB h1 l1 h2 l2 h3 l3 h4 l4 h5 l5 tm led fl).length = 90 := by simp [trB, numB_len, intB_len]

end Go.Proofs.YtcahmldgkkcheaaDoor.W
/-! WyWiV -/
namespace Go.Proofs.YtcahmldgkkcheaaDoor.W
open Go.RowKit
set_option maxRecDepth 100000

/-- A reader behind k events; the events. -/
def itS (f : List Nat × Bool → List Nat × Bool) : Nat → List Nat × Bool → List Nat × Bool
  | 0, s => s
  | n + 1, s => f (itS f n s)
def evs {α : Type} (g : List Nat × Bool → α) (f : List Nat × Bool → List Nat × Bool) : Nat → List Nat × Bool → List α
  | 0, _ => []
  | n + 1, s => evs g f n s ++ [g (itS f n s)]
theorem evs_len {α : Type} (g : List Nat × Bool → α) (f : List Nat × Bool → List Nat × Bool) : ∀ n s, (evs g f n s).length = n
  | 0, _ => rfl
  | n + 1, s => by rw [evs, List.length_append, evs_len g f n]; rfl

/-- The cells of some, one behind the other. -/
def acsC (l : List Ac) : List Value := l.flatMap fun a => a.cells.toList
def trsC (l : List Tr) : List Value := l.flatMap fun a => a.cells.toList
theorem acsC_snoc (l : List Ac) (a : Ac) : acsC (l ++ [a]) = acsC l ++ a.cells.toList := by simp [acsC]
theorem trsC_snoc (l : List Tr) (a : Tr) : trsC (l ++ [a]) = trsC l ++ a.cells.toList := by simp [trsC]
theorem ownsRow_keep {w w1 : World} {base : Nat} {e : TypeId} {v : Value} {ns : List Value} {n sz : Nat} (h : w.ownsRow base e sz v n ns) (hb : ∀ k, base ≤ k → k < w.heap.size → v.ownBlock = some k → w1.heap[k]? = w.heap[k]?) : w1.ownsRow base e sz v n ns :=
  ⟨h.1, h.2.imp id fun ⟨g, cap, cur, e, h1, h2, h3⟩ => ⟨g, cap, cur, e, h1, (hb g h1 (Array.getElem?_eq_some_iff.1 h2).1 (by rw [e]; rfl)).trans h2, h3⟩⟩
theorem ownsRow_form {w : World} {base : Nat} {e : TypeId} {v : Value} {ns : List Value} {n sz : Nat} (h : w.ownsRow base e sz v n ns) : ∃ p n' c, v = .slice p n' c ∧ n' = n := by
  obtain ⟨_, ⟨rfl, h0⟩ | ⟨g, cap, cur, rfl, _⟩⟩ := h
  · exact ⟨_, _, _, rfl, h0.symm⟩
  · exact ⟨_, _, _, rfl, rfl⟩

theorem info_some {t : TypeId} {z : Option Value} {a b : Nat} (h : (Tryd.prog.info? t).map (fun i => (i.zero, i.size, i.bytes)) = some (z, a, b)) : ∃ i, Tryd.prog.info? t = some i ∧ i.zero = z ∧ i.size = a ∧ i.bytes = b := by
  cases hi : Tryd.prog.info? t with
  | none => rw [hi] at h; cases h
  | some i =>
    rw [hi] at h
    have h' : (i.zero, i.size, i.bytes) = (z, a, b) := Option.some.inj h
    exact ⟨i, rfl, congrArg (·.1) h', congrArg (·.2.1) h', congrArg (·.2.2) h'⟩

/-- All cells of a row laid anew. -/
theorem lay_list : ∀ (l : List Value) (k : Nat) (z : Array Value), k + l.length ≤ z.size → (l.zipIdx k).foldl (fun (c : Array Value) x => c.setIfInBounds x.2 x.1) z = (z.toList.take k ++ l ++ z.toList.drop (k + l.length)).toArray
  | [], k, z, _ => by simp
  | x :: l, k, z, h => by
    rw [List.length_cons] at h
    rw [List.zipIdx_cons, List.foldl_cons, lay_list l (k + 1) _ (by simp; omega)]
    congr 1
    have e := list_seg_step z.toList k x l (by simp; omega)
    simpa [Array.toList_setIfInBounds, Nat.add_assoc] using e
theorem lay_all (z cs : Array Value) (n : Nat) (h : cs.size = n) (hz : z.size = n) : Array.foldl (fun c x => c.setIfInBounds x.2 x.1) z cs.zipIdx 0 n = cs := by
  obtain ⟨l⟩ := cs
  have hl : l.length = n := by simpa using h
  have e := lay_list l 0 z (by omega)
  rw [show ((⟨l⟩ : Array Value).zipIdx) = (l.zipIdx 0).toArray from by simp]
  subst hl
  have e2 : ∀ (m : List (Value × Nat)) (k : Nat), m.length = k → Array.foldl (fun (c : Array Value) (x : Value × Nat) => c.setIfInBounds x.2 x.1) z m.toArray 0 k = List.foldl (fun (c : Array Value) (x : Value × Nat) => c.setIfInBounds x.2 x.1) z m := by
    intro m k hk
    subst hk
    simp
  rw [e2 _ _ (by simp), e]
  simp
  omega

/-- append(v, x), x a struct of some cells, v the call's own. -/
theorem append_one {t e : TypeId} {z : Value} {sz bytes : Nat} (ht : Tryd.prog.underlying t = some (.slice e)) (hi : (Tryd.prog.info? e).map (fun i => (i.zero, i.size, i.bytes)) = some (some z, sz, bytes)) (hzs : z.cells.size = sz) (hpos : 0 < sz) (hby : bytes ≤ 1000)
    (w : World) (base : Nat) (ty : TypeId) (v : Value) (n : Nat) (xs : List Value) (hown : w.ownsRow base e sz v n xs) (cs : Array Value) (hcs : cs.size = sz) (h1 : cs.all (·.oneCell') = true) (hn : n ≤ 1000) (hb : base ≤ w.heap.size) (g : Nat) (hg : g = w.heap.size) :
    ∃ v' w', (Builtin.append_ #[t, t] ty #[v, .slice (some ⟨g, 0, none⟩) 1 1]).run Tryd.prog (w.alloc (.cells cs e)) = .ok v' w' ∧ w'.ownsRow base e sz v' (n + 1) (xs ++ cs.toList) ∧ (w.alloc (.cells cs e)).grownBy w' v.ownBlock := by
  subst hg
  obtain ⟨i, hi, z0, z1, z2⟩ := info_some hi
  have hall : ∀ u ∈ cs.toList, u.oneCell' = true := by
    rw [Array.all_eq_true_iff_forall_mem] at h1
    intro u hu
    exact h1 u (by simpa using hu)
  have hb63 : (n + 1) * bytes ≤ 140737488355328 := Nat.le_trans (Nat.mul_le_mul (show n + 1 ≤ 1001 by omega) hby) (by decide)
  obtain ⟨v', w', h1, h2, h3, _, _⟩ := run_append_own_at (P := Tryd.prog) (w.alloc (.cells cs e)) base t ty e i _ sz bytes ht hi z0 z1 z2 hzs hpos v n xs (ownsRow_keep hown (fun k _ hk _ => heap_alloc_old w _ hk)) ⟨w.heap.size, 0, none⟩ 1 1 cs.toList (by simpa using hcs)
    (fun j u hu => by
      rw [show (⟨w.heap.size, 0, none⟩ : Addr).add j = ⟨w.heap.size, 0 + j, none⟩ from Addr.add_lit .., World.cell?_alloc_at _ _ _ _ rfl, ← hu, Nat.zero_add]
      simp) hall (by unfold maxLen; omega) hb63 (by simp; omega)
  exact ⟨v', w', h1, h2, h3⟩

end Go.Proofs.YtcahmldgkkcheaaDoor.W
/-! WyWiY -/
namespace Go.Proofs.YtcahmldgkkcheaaDoor.W
open Go.RowKit
set_option maxRecDepth 100000

theorem flat_get {α : Type} (f : α → List Value) (z : Nat) (hf : ∀ a, (f a).length = z) : ∀ (L : List α) (k j : Nat), j < z → (L.flatMap f)[k * z + j]? = (L[k]?).bind (fun a => (f a)[j]?)
  | [], k, j, _ => by simp
  | a :: L, 0, j, h => by
    rw [List.flatMap_cons, Nat.zero_mul, Nat.zero_add, List.getElem?_append_left (by rw [hf]; exact h)]
    rfl
  | a :: L, k + 1, j, h => by
    rw [List.flatMap_cons, List.getElem?_append_right (by rw [hf, Nat.add_mul]; omega), hf, show (k + 1) * z + j - z = k * z + j from by rw [Nat.add_mul]; omega, flat_get f z hf L k j h]
    rfl
theorem rows_range {α : Type} (f : α → List Value) (z : Nat) (hf : ∀ a, (f a).length = z) {w : World} {base : Nat} {t : TypeId} {v : Value} {L : List α} (h : w.ownsRow base t z v L.length (L.flatMap f)) (k : Nat) (a : α) (hk : L[k]? = some a) :
    ∃ g c cur, v = .slice (some ⟨g, 0, none⟩) L.length c ∧ w.heap[g]? = some (.cells cur t (0, 0)) ∧ w.rangeAt g (k * z) (f a) := by
  have hkl : k < L.length := (List.getElem?_eq_some_iff.1 hk).1
  obtain ⟨_, ⟨rfl, h0⟩ | ⟨g, cap, cur, rfl, hbg, hg, h1, h2, h3, h4⟩⟩ := h
  · omega
  · refine ⟨g, cap, cur, rfl, hg, fun j u hu => ?_⟩
    have hj : j < z := by rw [← hf a]; exact (List.getElem?_eq_some_iff.1 hu).1
    have e := flat_get f z hf L k j hj
    rw [hk, ← h4] at e
    have hlt : k * z + j < L.length * z := by
      have : (k + 1) * z ≤ L.length * z := Nat.mul_le_mul_right _ hkl
      rw [Nat.add_mul] at this
      omega
    rw [List.getElem?_take_of_lt hlt] at e
    rw [cell_of_row w g (k * z + j) cur _ _ hg, ← Array.getElem?_toList, e]
    exact hu

/-- Do the words fit? -/
def Ac.ok (a : Ac) : Prop := Word64 (a.hi, a.lo)
def Tr.ok (a : Tr) : Prop := Word64 (a.h1, a.l1) ∧ Word64 (a.h2, a.l2) ∧ Word64 (a.h3, a.l3) ∧ Word64 (a.h4, a.l4) ∧ Word64 (a.h5, a.l5)
def Ac.bytes (a : Ac) : List Nat := acB a.hi a.lo a.led a.fl
def Tr.bytes (a : Tr) : List Nat := trB a.h1 a.l1 a.h2 a.l2 a.h3 a.l3 a.h4 a.l4 a.h5 a.l5 a.tm a.led a.fl
theorem Ac.bytes_len (a : Ac) : a.bytes.length = 22 := acB_len _ _ _ _
theorem Tr.bytes_len (a : Tr) : a.bytes.length = 90 := trB_len ..
theorem flat_take_succ {α : Type} (f : α → List Nat) (L : List α) (k : Nat) (a : α) (h : L[k]? = some a) : (L.take (k + 1)).flatMap f = (L.take k).flatMap f ++ f a := by
  obtain ⟨hk, rfl⟩ := List.getElem?_eq_some_iff.1 h
  rw [List.take_succ_eq_append_getElem (i := k) (l := L) hk, List.flatMap_append]
  simp only [List.flatMap_cons, List.flatMap_nil, List.append_nil]
theorem flat_len {α : Type} (f : α → List Nat) (z : Nat) (hf : ∀ a, (f a).length = z) (L : List α) : (L.flatMap f).length = L.length * z := by
  induction L with
  | nil => simp
  | cons a L ih => rw [List.flatMap_cons, List.length_append, hf, ih, List.length_cons, Nat.add_mul]; omega

theorem far_of_block {w : World} {b : Nat} {v : Value} {l : List Nat} (h : WrAt w b v l) {g : Nat} {cur : Array Value} {t : TypeId} {fr : Nat × Nat} (hg : w.heap[g]? = some (.cells cur t fr)) (h1 : t ≠ 5) (h2 : t ≠ 85) : Far b v g := by
  refine ⟨fun e => ?_, fun e => ?_⟩
  · subst e
    have := hg.symm.trans h.row
    simp at this
    exact h2 this.2.1
  · obtain ⟨_, ⟨hn, _⟩ | ⟨g', cap, cur', hv, _, hg', _⟩⟩ := h.own
    · rw [hn] at e; cases e
    · rw [hv] at e
      cases e
      have := hg.symm.trans hg'
      simp at this
      exact h1 this.2.1
theorem ownsRow_far {w : World} {b : Nat} {v : Value} {l : List Nat} (h : WrAt w b v l) {base : Nat} {t : TypeId} {u : Value} {ns : List Value} {n sz : Nat} (ho : w.ownsRow base t sz u n ns) (h1 : t ≠ 5) (h2 : t ≠ 85) {w' : World} {v' : Value} (hs : WStep w w' b v v') : w'.ownsRow base t sz u n ns :=
  ownsRow_keep ho fun k _ hk hu => by
    obtain ⟨_, ⟨hn, _⟩ | ⟨g', cap, cur', hv, _, hg', _⟩⟩ := id ho
    · rw [hn] at hu; cases hu
    · rw [hv] at hu
      cases hu
      exact hs.far (far_of_block h hg' h1 h2) hk

end Go.Proofs.YtcahmldgkkcheaaDoor.W
/-! WyWiF -/
namespace Go.Proofs.YtcahmldgkkcheaaDoor.W
open Go.RowKit
set_option maxRecDepth 100000

/-- A request; its cells. -/
structure Rq where
  kind : Nat
  acs : List Ac
  trs : List Tr
  hi : Nat
  lo : Nat
  fr : Nat
  to : Nat
  lim : Nat
def rqC (k : Nat) (va vt : Value) (hi lo fr to lim : Nat) : Array Value := #[.int .i64 k, va, vt, .int .u64 hi, .int .u64 lo, .int .i64 fr, .int .i64 to, .int .i64 lim]
theorem rqC_size (k : Nat) (va vt : Value) (hi lo fr to lim : Nat) : (rqC k va vt hi lo fr to lim).size = 8 := rfl
theorem rqC_one (k : Nat) (va vt : Value) (hi lo fr to lim : Nat) (h1 : va.oneCell' = true) (h2 : vt.oneCell' = true) : (rqC k va vt hi lo fr to lim).all (·.oneCell') = true := by
  have e : ∀ (j : IntKind) (x : Int), (Value.int j x).oneCell' = true := fun _ _ => rfl
  simp [rqC, e, h1, h2]
theorem rq_lit : (#[.int .i64 0, .slice none 0 0, .slice none 0 0, .int .u64 0, .int .u64 0, .int .i64 0, .int .i64 0, .int .i64 0] : Array Value) = rqC 0 (.slice none 0 0) (.slice none 0 0) 0 0 0 0 0 := rfl
theorem slice_one {w : World} {base : Nat} {e : TypeId} {v : Value} {ns : List Value} {n sz : Nat} (h : w.ownsRow base e sz v n ns) : v.oneCell' = true := by
  obtain ⟨_, _, _, rfl, _⟩ := ownsRow_form h
  rfl
theorem results_cell_slot {fn : Func} {p q : Tmp} {ty : TypeId} (h : fn.results = #[.cell p ty, .tmp q]) (tmps : Array Value) (w : World) (g : Nat) (cs : Array Value) (u : Value)
    (hp : tmps.getD p undef = .pointer (some ⟨g, 0, none⟩)) (hq : tmps.getD q undef = u) (hl : (loadVar ty ⟨g, 0, none⟩).run Tryd.prog w = .ok (.agg cs) w) :
    (results fn tmps).run Tryd.prog w = .ok (.tuple #[.agg cs, u]) w := by
  have hp' : tmps[p]?.getD undef = .pointer (some ⟨g, 0, none⟩) := by simpa using hp
  have hq' : tmps[q]?.getD undef = u := by simpa using hq
  simp [results, h, hp', hq', asAddr, hl]

end Go.Proofs.YtcahmldgkkcheaaDoor.W
/-! WyWiB -/
namespace Go.Proofs.YtcahmldgkkcheaaDoor.W
open Go.RowKit
set_option maxRecDepth 100000
set_option linter.unusedSimpArgs false
set_option linter.unusedVariables false

/-- The bytes of a request. -/
def Rq.body (q : Rq) : List Nat :=
  if q.kind = 1 then intB 1 (q.acs.length : Nat) ++ q.acs.flatMap Ac.bytes
  else if q.kind = 2 then intB 1 (q.trs.length : Nat) ++ q.trs.flatMap Tr.bytes
  else if q.kind = 3 then intB 4 (q.fr : Nat)
  else if q.kind = 4 ∨ q.kind = 5 ∨ q.kind = 7 then numB (q.hi, q.lo)
  else if q.kind = 6 ∨ q.kind = 8 then numB (q.hi, q.lo) ++ (intB 6 (q.fr : Nat) ++ intB 6 (q.to : Nat)) ++ intB 1 (q.lim : Nat)
  else intB 4 (q.fr : Nat) ++ intB 4 (q.to : Nat)
def Rq.bytes (q : Rq) : List Nat := intB 1 (q.kind : Nat) ++ q.body
theorem wr_new (w : World) : WrAt (w.alloc (.cells #[.slice none 0 0] 85)) w.heap.size (.slice none 0 0) [] := ⟨Row.new _ _ _ rfl, World.ownsRow_nil _ _ _ _, W8.nil⟩
/-- What Request leaves: all that was there. -/
theorem below_of_wstep {w w1 w2 : World} {b : Nat} {v v' : Value} (hb : Below w.heap.size w w1) (h : WStep w1 w2 b v v') (h1 : w.heap.size ≤ b) (h2 : ∀ g, v.ownBlock = some g → w.heap.size ≤ g) : Below w.heap.size w w2 :=
  ⟨h.os.trans hb.os, h.tape.trans hb.tape, h.output.trans hb.output, Nat.le_trans hb.size h.size, fun k hk => (h.block k (Nat.lt_of_lt_of_le hk hb.size) (by omega) (fun e => by have := h2 k e; omega)).trans (hb.block k hk)⟩

end Go.Proofs.YtcahmldgkkcheaaDoor.W
/-! WyWiHa -/
namespace Go.Proofs.YtcahmldgkkcheaaDoor.W
open Go.RowKit
set_option maxRecDepth 100000
set_option linter.unusedSimpArgs false
set_option linter.unusedVariables false

theorem info_hash : (Tryd.prog.info? 42).map (·.size) = some 32 := by kernel_rfl
theorem info_hash' {t : List Nat} (h : t.length = 32) : (Tryd.prog.info? 42).map (·.size) = some (bytesL t).size := by rw [bytesL_size, h]; exact info_hash
def upTo (t : List Nat) (k : Nat) : List Nat := if k = 0 then [] else t
theorem hash_lit : (#[.int .u8 0, .int .u8 0, .int .u8 0, .int .u8 0, .int .u8 0, .int .u8 0, .int .u8 0, .int .u8 0, .int .u8 0, .int .u8 0, .int .u8 0, .int .u8 0, .int .u8 0, .int .u8 0, .int .u8 0, .int .u8 0, .int .u8 0, .int .u8 0, .int .u8 0, .int .u8 0, .int .u8 0, .int .u8 0, .int .u8 0, .int .u8 0, .int .u8 0, .int .u8 0, .int .u8 0, .int .u8 0, .int .u8 0, .int .u8 0, .int .u8 0, .int .u8 0] : Array Value) = bytesL (List.replicate 32 0) := rfl

end Go.Proofs.YtcahmldgkkcheaaDoor.W
/-! WyWiAv -/
namespace Go.Proofs.YtcahmldgkkcheaaDoor.W
open Go.RowKit
set_option maxRecDepth 100000
set_option linter.unusedSimpArgs false
set_option linter.unusedVariables false

def rowB (H0 L0 : Nat) (tm rs : Int) (H1 L1 H2 L2 H3 L3 H4 L4 H5 L5 : Nat) : List Nat := numB (H0, L0) ++ (intB 6 tm ++ (intB 2 (rs + 1) ++ (numB (H1, L1) ++ (numB (H2, L2) ++ (numB (H3, L3) ++ (numB (H4, L4) ++ numB (H5, L5)))))))
theorem rowB_len (H0 L0 : Nat) (tm rs : Int) (H1 L1 H2 L2 H3 L3 H4 L4 H5 L5 : Nat) : (rowB H0 L0 tm rs H1 L1 H2 L2 H3 L3 H4 L4 H5 L5).length = 104 := by simp [rowB, numB_len, intB_len]
def accB (H0 L0 : Nat) (led fl : Int) (H1 L1 H2 L2 H3 L3 H4 L4 : Nat) (tm un : Int) (t : List Nat) : List Nat := acB H0 L0 led fl ++ (numB (H1, L1) ++ (numB (H2, L2) ++ (numB (H3, L3) ++ (numB (H4, L4) ++ (intB 6 tm ++ (intB 6 un ++ t))))))
theorem info_row : (Tryd.prog.info? 34).map (·.size) = some 14 := by kernel_rfl

set_option maxHeartbeats 4000000 in
theorem wrow_any (cs : Array Value) (H0 L0 : Nat) (tm rs : Int) (H1 L1 H2 L2 H3 L3 H4 L4 H5 L5 : Nat) (hwH0 : Word64 (H0, L0)) (hwH1 : Word64 (H1, L1)) (hwH2 : Word64 (H2, L2)) (hwH3 : Word64 (H3, L3)) (hwH4 : Word64 (H4, L4)) (hwH5 : Word64 (H5, L5)) (k0 : cs[0]? = some (.int .u64 (H0 : Nat))) (k1 : cs[1]? = some (.int .u64 (L0 : Nat))) (k2 : cs[2]? = some (.int .i64 tm)) (k3 : cs[3]? = some (.int .i64 rs)) (k4 : cs[4]? = some (.int .u64 (H1 : Nat))) (k5 : cs[5]? = some (.int .u64 (L1 : Nat))) (k6 : cs[6]? = some (.int .u64 (H2 : Nat))) (k7 : cs[7]? = some (.int .u64 (L2 : Nat))) (k8 : cs[8]? = some (.int .u64 (H3 : Nat))) (k9 : cs[9]? = some (.int .u64 (L3 : Nat))) (k10 : cs[10]? = some (.int .u64 (H4 : Nat))) (k11 : cs[11]? = some (.int .u64 (L4 : Nat))) (k12 : cs[12]? = some (.int .u64 (H5 : Nat))) (k13 : cs[13]? = some (.int .u64 (L5 : Nat))) (rs0 : -1 ≤ rs) (rs1 : rs ≤ 65534) (w : World) :
    Calls Tryd.prog 27 #[.agg cs] w fun e w' => ∃ v', e = .returned v' ∧ Own w' w.heap.size v' (rowB H0 L0 tm rs H1 L1 H2 L2 H3 L3 H4 L4 H5 L5) ∧ Below w.heap.size w w' := by
  have b0 := below2 w (.cells cs 34) (.cells #[.slice none 0 0] 85)
  have r0 : Row ((w.alloc (.cells cs 34)).alloc (.cells #[.slice none 0 0] 85)) w.heap.size cs 34 := (Row.new w cs 34 rfl).alloc _
  have h0 : WrAt ((w.alloc (.cells cs 34)).alloc (.cells #[.slice none 0 0] 85)) (w.heap.size + 1) (.slice none 0 0) [] := by have := wr_new (w.alloc (.cells cs 34)); simpa using this
  obtain ⟨b, hb⟩ : ∃ b, w.heap.size + 1 = b := ⟨_, rfl⟩
  have hAb : w.heap.size ≠ b := by omega
  have z0 : Hid (b + 1 = ((w.alloc (.cells cs 34)).alloc (.cells #[.slice none 0 0] 85)).heap.size) := by show _ = _; rw [← hb]; simp
  have HB : Hid (w.heap.size + 1 = b) := hb
  rw [hb] at h0
  have s0 : WStep ((w.alloc (.cells cs 34)).alloc (.cells #[.slice none 0 0] 85)) ((w.alloc (.cells cs 34)).alloc (.cells #[.slice none 0 0] 85)) b (.slice none 0 0) (.slice none 0 0) := WStep.refl _ _ _
  go_enter Tryd.func27, Tryd.ntmps27
  have c0_0 := (r0.cell 0).trans k0
  have c0_1 := (r0.cell 1).trans k1
  go_wp2_with (go_at_call 37; refine stop ?_)
  clear hb
  generalize (w.alloc (.cells cs 34)).alloc (.cells #[.slice none 0 0] 85) = u0 at *
  have hp0 := nums_new h0 #[.int .u64 (H0 : Nat), .int .u64 (L0 : Nat)] [(H0, L0)] (by simp) _ 1 1 z0.out rfl (fun j hj => by
    match j, hj with
    | 0, _ => exact ⟨rfl, rfl, hwH0⟩) 32
  have ha0 := h0.alloc (.cells #[.int .u64 (H0 : Nat), .int .u64 (L0 : Nat)] 32)
  have ra0 := r0.alloc (.cells #[.int .u64 (H0 : Nat), .int .u64 (L0 : Nat)] 32)
  have sa0 := s0.alloc (.cells #[.int .u64 (H0 : Nat), .int .u64 (L0 : Nat)] 32)
  have hf0 : Far b _ w.heap.size := ⟨hAb, own_ne ha0.own ra0 (by decide)⟩
  refine (wnum_any _ [(H0, L0)] _ b _ _ ha0 hp0 (by first | omega | (simp [numB_len, intB_len]; omega) | simp [numB_len, intB_len])).mono ?_
  rintro e u1 ⟨v1, rfl, h1, q0⟩
  have r1 : Row u1 w.heap.size cs 34 := (q0.far hf0 ra0.lt).trans ra0
  have s1 := sa0.trans q0
  simp only [List.flatMap_cons, List.flatMap_nil, List.append_nil] at h1
  clear hp0 ha0 ra0 sa0 hf0 q0 r0 s0 h0 z0 c0_0 c0_1
  have c1_2 := (r1.cell 2).trans k2
  go_wp2_with (go_at_call 38; refine stop ?_)
  have hp1 := ints_new h1 [tm] (by simp) _ 1 1 rfl rfl _ rfl 3
  have ha1 := h1.alloc (.cells #[.int .i64 tm] 3)
  have ra1 := r1.alloc (.cells #[.int .i64 tm] 3)
  have sa1 := s1.alloc (.cells #[.int .i64 tm] 3)
  have hf1 : Far b _ w.heap.size := ⟨hAb, own_ne ha1.own ra1 (by decide)⟩
  refine (wint' 6 (by decide) _ rfl _ [tm] _ b _ _ ha1 hp1 (by first | omega | (simp [numB_len, intB_len]; omega) | simp [numB_len, intB_len])).mono ?_
  rintro e u2 ⟨v2, rfl, h2, q1⟩
  have r2 : Row u2 w.heap.size cs 34 := (q1.far hf1 ra1.lt).trans ra1
  have s2 := sa1.trans q1
  simp only [List.flatMap_cons, List.flatMap_nil, List.append_nil] at h2
  clear hp1 ha1 ra1 sa1 hf1 q1 r1 s1 h1 c1_2
  have c2_3 := (r2.cell 3).trans k3
  go_wp2_with (go_at_call 38; refine stop ?_)
  have hp2 := ints_new h2 [(rs + 1)] (by simp) _ 1 1 rfl rfl _ rfl 3
  have ha2 := h2.alloc (.cells #[.int .i64 (rs + 1)] 3)
  have ra2 := r2.alloc (.cells #[.int .i64 (rs + 1)] 3)
  have sa2 := s2.alloc (.cells #[.int .i64 (rs + 1)] 3)
  have hf2 : Far b _ w.heap.size := ⟨hAb, own_ne ha2.own ra2 (by decide)⟩
  refine (wint' 2 (by decide) _ rfl _ [(rs + 1)] _ b _ _ ha2 hp2 (by first | omega | (simp [numB_len, intB_len]; omega) | simp [numB_len, intB_len])).mono ?_
  rintro e u3 ⟨v3, rfl, h3, q2⟩
  have r3 : Row u3 w.heap.size cs 34 := (q2.far hf2 ra2.lt).trans ra2
  have s3 := sa2.trans q2
  simp only [List.flatMap_cons, List.flatMap_nil, List.append_nil] at h3
  clear hp2 ha2 ra2 sa2 hf2 q2 r2 s2 h2 c2_3
  have c3_4 := (r3.cell 4).trans k4
  have c3_5 := (r3.cell 5).trans k5
  go_wp2_with (go_at_call 37; refine stop ?_)
  have hp3 := nums_new h3 #[.int .u64 (H1 : Nat), .int .u64 (L1 : Nat)] [(H1, L1)] (by simp) _ 1 1 rfl rfl (fun j hj => by
    match j, hj with
    | 0, _ => exact ⟨rfl, rfl, hwH1⟩) 32
  have ha3 := h3.alloc (.cells #[.int .u64 (H1 : Nat), .int .u64 (L1 : Nat)] 32)
  have ra3 := r3.alloc (.cells #[.int .u64 (H1 : Nat), .int .u64 (L1 : Nat)] 32)
  have sa3 := s3.alloc (.cells #[.int .u64 (H1 : Nat), .int .u64 (L1 : Nat)] 32)
  have hf3 : Far b _ w.heap.size := ⟨hAb, own_ne ha3.own ra3 (by decide)⟩
  refine (wnum_any _ [(H1, L1)] _ b _ _ ha3 hp3 (by first | omega | (simp [numB_len, intB_len]; omega) | simp [numB_len, intB_len])).mono ?_
  rintro e u4 ⟨v4, rfl, h4, q3⟩
  have r4 : Row u4 w.heap.size cs 34 := (q3.far hf3 ra3.lt).trans ra3
  have s4 := sa3.trans q3
  simp only [List.flatMap_cons, List.flatMap_nil, List.append_nil] at h4
  clear hp3 ha3 ra3 sa3 hf3 q3 r3 s3 h3 c3_4 c3_5
  have c4_6 := (r4.cell 6).trans k6
  have c4_7 := (r4.cell 7).trans k7
  have c4_8 := (r4.cell 8).trans k8
  have c4_9 := (r4.cell 9).trans k9
  have c4_10 := (r4.cell 10).trans k10
  have c4_11 := (r4.cell 11).trans k11
  have c4_12 := (r4.cell 12).trans k12
  have c4_13 := (r4.cell 13).trans k13
  go_wp2_with (go_at_call 37; refine stop ?_)
  have hp4 := nums_new h4 #[.int .u64 (H2 : Nat), .int .u64 (L2 : Nat), .int .u64 (H3 : Nat), .int .u64 (L3 : Nat), .int .u64 (H4 : Nat), .int .u64 (L4 : Nat), .int .u64 (H5 : Nat), .int .u64 (L5 : Nat)] [(H2, L2), (H3, L3), (H4, L4), (H5, L5)] (by simp) _ 4 4 rfl rfl (fun j hj => by
    match j, hj with
    | 0, _ => exact ⟨rfl, rfl, hwH2⟩
    | 1, _ => exact ⟨rfl, rfl, hwH3⟩
    | 2, _ => exact ⟨rfl, rfl, hwH4⟩
    | 3, _ => exact ⟨rfl, rfl, hwH5⟩) 32
  have ha4 := h4.alloc (.cells #[.int .u64 (H2 : Nat), .int .u64 (L2 : Nat), .int .u64 (H3 : Nat), .int .u64 (L3 : Nat), .int .u64 (H4 : Nat), .int .u64 (L4 : Nat), .int .u64 (H5 : Nat), .int .u64 (L5 : Nat)] 32)
  have ra4 := r4.alloc (.cells #[.int .u64 (H2 : Nat), .int .u64 (L2 : Nat), .int .u64 (H3 : Nat), .int .u64 (L3 : Nat), .int .u64 (H4 : Nat), .int .u64 (L4 : Nat), .int .u64 (H5 : Nat), .int .u64 (L5 : Nat)] 32)
  have sa4 := s4.alloc (.cells #[.int .u64 (H2 : Nat), .int .u64 (L2 : Nat), .int .u64 (H3 : Nat), .int .u64 (L3 : Nat), .int .u64 (H4 : Nat), .int .u64 (L4 : Nat), .int .u64 (H5 : Nat), .int .u64 (L5 : Nat)] 32)
  have hf4 : Far b _ w.heap.size := ⟨hAb, own_ne ha4.own ra4 (by decide)⟩
  refine (wnum_any _ [(H2, L2), (H3, L3), (H4, L4), (H5, L5)] _ b _ _ ha4 hp4 (by first | omega | (simp [numB_len, intB_len]; omega) | simp [numB_len, intB_len])).mono ?_
  rintro e u5 ⟨v5, rfl, h5, q4⟩
  have r5 : Row u5 w.heap.size cs 34 := (q4.far hf4 ra4.lt).trans ra4
  have s5 := sa4.trans q4
  simp only [List.flatMap_cons, List.flatMap_nil, List.append_nil] at h5
  clear hp4 ha4 ra4 sa4 hf4 q4 r4 s4 h4 c4_6 c4_7 c4_8 c4_9 c4_10 c4_11 c4_12 c4_13
  go_wp2_with (go_at_call 39; refine stop ?_)
  refine (wbytes_any _ b _ _ h5 (by simp [numB_len, intB_len, acB])).mono ?_
  rintro e uz ⟨vz, rfl, oz, bz⟩
  have bf : Below w.heap.size w u5 := below_of_wstep b0 s5 (by have := HB.out; omega) (fun g hg => by cases hg)
  obtain ⟨pz, nz, cz, rfl, hz⟩ := oz.form
  clear hz
  have oz2 : Own uz w.heap.size (.slice pz nz cz) _ := ⟨oz.1, oz.2.imp id fun ⟨g, cap, cur, e, h1, h2⟩ => ⟨g, cap, cur, e, Nat.le_trans bf.size h1, h2⟩⟩
  clear oz
  go_wp2
  go_ret
  refine ⟨_, rfl, ?_, chain bf bz⟩
  simpa [rowB, List.append_assoc] using oz2
end Go.Proofs.YtcahmldgkkcheaaDoor.W