
/-
  The anchor of layer 4's statements; a disk of the call's own; small numbers; the walk of DiskDown.
-/
import Derived.Test.YtfhaphbfbmpbiaaDkF
import Derived.Test.YtfhaphbfbmpbiaaWiM
namespace Go.Proofs.Ytfhaphbfbmpbiaa
open Go.RowKit
set_option maxRecDepth 100000
set_option linter.unusedVariables false
set_option linter.unusedSimpArgs false

theorem and_low (n : Int) (s : Nat) (hs : s ≤ 8) : ∃ k : Nat, k < 2 ^ s ∧ bits .and .i64 n ((2 ^ s - 1 : Nat) : Int) = (k : Int) := by
  have hp : 2 ^ s ≤ 256 := Nat.le_trans (Nat.pow_le_pow_right (by decide) hs) (by decide)
  have hp0 : 0 < 2 ^ s := Nat.pow_pos (by decide)
  refine ⟨(BitVec.ofInt 64 n).toNat % 2 ^ s, Nat.mod_lt _ hp0, ?_⟩
  have h : (BitVec.ofInt 64 n &&& BitVec.ofInt 64 ((2 ^ s - 1 : Nat) : Int)).toNat = (BitVec.ofInt 64 n).toNat % 2 ^ s := by
    rw [BitVec.toNat_and, show (BitVec.ofInt 64 ((2 ^ s - 1 : Nat) : Int)).toNat = 2 ^ s - 1 by rw [BitVec.ofInt_natCast, BitVec.toNat_ofNat]; omega]
    exact Nat.and_two_pow_sub_one_eq_mod _ s
  show IntKind.i64.wrap ((BitVec.ofInt 64 n &&& BitVec.ofInt 64 ((2 ^ s - 1 : Nat) : Int)).toNat : Int) = _
  rw [h, IntKind.wrap_i64]
  have := Nat.mod_lt (BitVec.ofInt 64 n).toNat hp0
  omega
theorem and15 (n : Int) : ∃ k : Nat, k ≤ 15 ∧ bits .and .i64 n 15 = (k : Int) := by
  obtain ⟨k, hk, e⟩ := and_low n 4 (by decide)
  exact ⟨k, by omega, e⟩
theorem and7 (n : Int) : ∃ k : Nat, k ≤ 7 ∧ bits .and .i64 n 7 = (k : Int) := by
  obtain ⟨k, hk, e⟩ := and_low n 3 (by decide)
  exact ⟨k, by omega, e⟩
theorem and3 (n : Int) : ∃ k : Nat, k ≤ 3 ∧ bits .and .i64 n 3 = (k : Int) := by
  obtain ⟨k, hk, e⟩ := and_low n 2 (by decide)
  exact ⟨k, by omega, e⟩

/-- A disk that the call made: what was there before is as it was. -/
structure Mine (w0 w : World) (R S : Nat) (v : Value) (d : Dk) : Prop where
  dk : DkAt w R S v d
  below : Below w0.heap.size w0 w
  hR : w0.heap.size ≤ R
  hS : w0.heap.size ≤ S
  hv : ∀ k, v.ownBlock = some k → w0.heap.size ≤ k
theorem Mine.step {w0 w w' : World} {R S : Nat} {v v' : Value} {d d' : Dk} (h : Mine w0 w R S v d) (hd : DkAt w' R S v' d') (hs : DStep w w' R S v v') : Mine w0 w' R S v' d' :=
  ⟨hd, h.below.trans (hs.below h.below.size h.hR h.hS h.hv), h.hR, h.hS, hs.belowOn h.below.size h.hv⟩
theorem Mine.later {w0 w w' : World} {R S : Nat} {v : Value} {d : Dk} (h : Mine w0 w R S v d) (hb : Below w.heap.size w w') : Mine w0 w' R S v d :=
  ⟨h.dk.later hb, h.below.trans (hb.mono h.below.size), h.hR, h.hS, h.hv⟩
theorem Mine.drew {w0 w : World} {R S : Nat} {v : Value} {d : Dk} (h : Mine w0 w R S v d) : Mine w0 w.drew R S v d := ⟨h.dk.drew, h.below.drew, h.hR, h.hS, h.hv⟩
theorem Mine.new {w0 w w' : World} {R S n : Nat} (hb : Below w0.heap.size w0 w) (hd : DkAt w' R S (.slice none 0 0) (Dk.new n)) (hb2 : Below w.heap.size w w') (hR : w.heap.size ≤ R) (hS : w.heap.size ≤ S) : Mine w0 w' R S (.slice none 0 0) (Dk.new n) :=
  ⟨hd, hb.trans (hb2.mono hb.size), Nat.le_trans hb.size hR, Nat.le_trans hb.size hS, fun k hk => by cases hk⟩

theorem W8.of {l : List Nat} (h : l.all (· < 256) = true) : W8 l := fun x hx => by simpa using List.all_eq_true.1 h x hx
theorem BytesAt.take {w : World} {p : Option Addr} {c m : Nat} {l : List Nat} (h : BytesAt w (.slice p l.length c) l) (n : Nat) (hn : n ≤ l.length) (c' : Nat) : BytesAt w (.slice p n c') (l.take n) := by
  obtain ⟨h1, h2, p', cc, e, h3⟩ := h
  cases e
  refine ⟨h1.take n, by rw [List.length_take]; omega, p, c', by rw [List.length_take, Nat.min_eq_left hn], fun i hi => ?_⟩
  rw [List.length_take] at hi
  obtain ⟨b, off, e, hb, hc⟩ := h3 i (by omega)
  refine ⟨b, off, e, hb, ?_⟩
  rw [hc]
  simp [List.getD, List.getElem?_take, show i < n by omega]

/-- The disk of the anchor. -/
def fitD : Dk := (Dk.new 2).put 1 [1, 2, 3, 4, 5]
def fitE : Dk := { fitD with F := setl (kept 1 0 3) fitD.F fitD.ws, ws := [], armed := false, left := 0 }
theorem fitE2 : (fitE.cur 1).getD 2 0 = 3 := by rfl
theorem fitE3 : (fitE.cur 1).getD 3 0 = 0 := by rfl
theorem fitEl : (fitE.cur 1).length = 64 := by rfl

end Go.Proofs.Ytfhaphbfbmpbiaa
