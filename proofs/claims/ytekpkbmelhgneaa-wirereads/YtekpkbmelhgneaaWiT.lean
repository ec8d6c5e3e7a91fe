
/-
  paciolilaw03's own functions: what a mask leaves; light; four (Tame's own).
-/
import Derived.Test.YtekpkbmelhgneaaWiQ
import Derived.Test.YtekpkbmelhgneaaWiY
import Derived.Test.YtekpkbmelhgneaaHeld
namespace Go.Proofs.Ytekpkbmelhgneaa
open Go.RowKit
set_option maxRecDepth 100000

theorem mask_i64 (x : Int) (k : Nat) (m : Int) (hm : m = ((2 ^ k - 1 : Nat) : Int)) (hk : k ≤ 62) : bits .and .i64 x m = x % ((2 ^ k : Nat) : Int) := by
  have hp : 0 < 2 ^ k := Nat.two_pow_pos k
  have hlt : 2 ^ k ≤ 2 ^ 62 := Nat.pow_le_pow_right (by decide) hk
  have e0 : (BitVec.ofInt 64 m).toNat = 2 ^ k - 1 := by
    rw [hm, BitVec.toNat_ofInt]
    have h64 : (2 : Nat) ^ 64 = 18446744073709551616 := by decide
    have h62 : (2 : Nat) ^ 62 = 4611686018427387904 := by decide
    have e1 : ((2 ^ k - 1 : Nat) : Int) % ((2 ^ 64 : Nat) : Int) = ((2 ^ k - 1 : Nat) : Int) := Int.emod_eq_of_lt (by omega) (by omega)
    rw [e1]
    exact Int.toNat_natCast _
  have h : (BitVec.ofInt 64 x &&& BitVec.ofInt 64 m).toNat = (BitVec.ofInt 64 x).toNat % 2 ^ k := by
    rw [BitVec.toNat_and, e0]
    exact Nat.and_two_pow_sub_one_eq_mod _ k
  show IntKind.i64.wrap ((BitVec.ofInt 64 x &&& BitVec.ofInt 64 m).toNat : Int) = _
  rw [h, IntKind.wrap_i64]
  have h2 : ((BitVec.ofInt 64 x).toNat : Int) = x % ((2 ^ 64 : Nat) : Int) := by
    rw [BitVec.toNat_ofInt]
    exact Int.toNat_of_nonneg (Int.emod_nonneg _ (by decide))
  have h3 : ((BitVec.ofInt 64 x).toNat : Int) % ((2 ^ k : Nat) : Int) = x % ((2 ^ k : Nat) : Int) := by
    rw [h2]
    exact Int.emod_emod_of_dvd x (Int.natCast_dvd_natCast.2 (Nat.pow_dvd_pow 2 (by omega)))
  have h4 : (((BitVec.ofInt 64 x).toNat % 2 ^ k : Nat) : Int) = x % ((2 ^ k : Nat) : Int) := by rw [← h3]; exact Int.natCast_emod _ _
  have h5 : (BitVec.ofInt 64 x).toNat % 2 ^ k < 2 ^ k := Nat.mod_lt _ hp
  have h6 : (2 : Nat) ^ 62 = 4611686018427387904 := by decide
  rw [h4] at *
  omega
theorem mask8 (x : Int) : bits .and .i64 x 255 = x % 256 := mask_i64 x 8 255 rfl (by decide)
theorem mask16 (x : Int) : bits .and .i64 x 65535 = x % 65536 := mask_i64 x 16 65535 rfl (by decide)
theorem mask32 (x : Int) : bits .and .i64 x 4294967295 = x % 4294967296 := mask_i64 x 32 4294967295 rfl (by decide)
theorem mask48 (x : Int) : bits .and .i64 x 281474976710655 = x % 281474976710656 := mask_i64 x 48 281474976710655 rfl (by decide)
/-- What is left of a number by a mask. -/
def low (m : Nat) (x : Int) : Nat := (x % (m : Int)).toNat
theorem low_eq (m : Nat) (hm : 0 < m) (x : Int) : x % (m : Int) = (low m x : Nat) := by
  unfold low
  rw [Int.toNat_of_nonneg (Int.emod_nonneg _ (by omega))]
theorem low_lt (m : Nat) (hm : 0 < m) (x : Int) : low m x < m := by
  have h := Int.emod_lt_of_pos x (show (0 : Int) < (m : Int) by omega)
  rw [low_eq m hm x] at h
  omega
theorem low_id (m x : Nat) (h : x < m) : low m (x : Int) = x := by
  unfold low
  rw [Int.emod_eq_of_lt (by omega) (by omega)]
  simp

theorem four_any (x : Int) (w : World) : Calls Try.prog 34 #[.int .i64 x] w fun e w' => e = .returned (.int .i64 (low 4294967296 x : Nat)) ∧ w' = w := by
  go_enter Try.func34, Try.ntmps34
  go_wp2
  go_ret
  exact ⟨ret_int (by rw [mask32]; exact low_eq 4294967296 (by decide) x), rfl⟩

/-- An account, a transfer as it is handed in: all its cells, and those that count. -/
structure AIn where
  cs : Array Value
  hi : Nat
  lo : Nat
  led : Int
  fl : Int
structure AIn.ok (a : AIn) : Prop where
  size : a.cs.size = 46
  one : a.cs.all (·.oneCell') = true
  c0 : a.cs[0]? = some (.int .u64 (a.hi : Nat))
  c1 : a.cs[1]? = some (.int .u64 (a.lo : Nat))
  c2 : a.cs[2]? = some (.int .i64 a.led)
  c3 : a.cs[3]? = some (.int .i64 a.fl)
  w : Word64 (a.hi, a.lo)
structure TIn where
  cs : Array Value
  h1 : Nat
  l1 : Nat
  h2 : Nat
  l2 : Nat
  h3 : Nat
  l3 : Nat
  h4 : Nat
  l4 : Nat
  h5 : Nat
  l5 : Nat
  tm : Int
  led : Int
  fl : Int
structure TIn.ok (a : TIn) : Prop where
  size : a.cs.size = 16
  one : a.cs.all (·.oneCell') = true
  c0 : a.cs[0]? = some (.int .u64 (a.h1 : Nat))
  c1 : a.cs[1]? = some (.int .u64 (a.l1 : Nat))
  c2 : a.cs[2]? = some (.int .u64 (a.h2 : Nat))
  c3 : a.cs[3]? = some (.int .u64 (a.l2 : Nat))
  c4 : a.cs[4]? = some (.int .u64 (a.h3 : Nat))
  c5 : a.cs[5]? = some (.int .u64 (a.l3 : Nat))
  c6 : a.cs[6]? = some (.int .u64 (a.h4 : Nat))
  c7 : a.cs[7]? = some (.int .u64 (a.l4 : Nat))
  c8 : a.cs[8]? = some (.int .u64 (a.h5 : Nat))
  c9 : a.cs[9]? = some (.int .u64 (a.l5 : Nat))
  c10 : a.cs[10]? = some (.int .i64 a.tm)
  c11 : a.cs[11]? = some (.int .i64 a.led)
  c12 : a.cs[12]? = some (.int .i64 a.fl)
  w1 : Word64 (a.h1, a.l1)
  w2 : Word64 (a.h2, a.l2)
  w3 : Word64 (a.h3, a.l3)
  w4 : Word64 (a.h4, a.l4)
  w5 : Word64 (a.h5, a.l5)
def AIn.tame (a : AIn) : Ac := ⟨a.hi, a.lo, low 4294967296 a.led, low 65536 a.fl⟩
def TIn.tame (a : TIn) : Tr := ⟨a.h1, a.l1, a.h2, a.l2, a.h3, a.l3, a.h4, a.l4, a.h5, a.l5, low 4294967296 a.tm, low 4294967296 a.led, low 65536 a.fl⟩
/-- Rows of z cells in memory. -/
def RowsIn {α : Type} (f : α → Array Value) (z : Nat) (w : World) (v : Value) (L : List α) : Prop :=
  L.length ≤ maxLen ∧ ∃ p c, v = .slice p L.length c ∧ ∀ k a, L[k]? = some a → ∃ b off, p = some ⟨b, off, none⟩ ∧ b < w.heap.size ∧ w.rangeAt b (off + k * z) (f a).toList
theorem RowsIn.later {α : Type} {f : α → Array Value} {z : Nat} {w w' : World} {v : Value} {L : List α} (h : RowsIn f z w v L) (hb : Below w.heap.size w w') : RowsIn f z w' v L := by
  obtain ⟨h1, p, c, e, h⟩ := h
  refine ⟨h1, p, c, e, fun k a hk => ?_⟩
  obtain ⟨b, off, e, hlt, hr⟩ := h k a hk
  exact ⟨b, off, e, Nat.lt_of_lt_of_le hlt hb.size, fun j u hu => (hb.cell (p := ⟨b, off + k * z + j, none⟩) hlt).trans (hr j u hu)⟩
/-- A request as it is handed in. -/
structure RIn where
  kind : Int
  acs : List AIn
  trs : List TIn
  hi : Nat
  lo : Nat
  fr : Int
  to : Int
  lim : Int
def riC (k : Int) (va vt : Value) (hi lo : Nat) (fr to lim : Int) : Array Value := #[.int .i64 k, va, vt, .int .u64 hi, .int .u64 lo, .int .i64 fr, .int .i64 to, .int .i64 lim]
structure RInAt (w : World) (v : Value) (q : RIn) : Prop where
  ex : ∃ va vt, v = .agg (riC q.kind va vt q.hi q.lo q.fr q.to q.lim) ∧ RowsIn AIn.cs 46 w va q.acs ∧ RowsIn TIn.cs 16 w vt q.trs
  aok : ∀ a ∈ q.acs, a.ok
  tok : ∀ a ∈ q.trs, a.ok
  w : Word64 (q.hi, q.lo)
theorem RInAt.later {w w' : World} {v : Value} {q : RIn} (h : RInAt w v q) (hb : Below w.heap.size w w') : RInAt w' v q := by
  obtain ⟨⟨va, vt, e, ha, ht⟩, h1, h2, h3⟩ := h
  exact ⟨⟨va, vt, e, ha.later hb, ht.later hb⟩, h1, h2, h3⟩
/-- Few events? -/
def RIn.light (q : RIn) : Bool := decide (q.acs.length + q.trs.length < 100)

theorem light_any (v : Value) (q : RIn) (w : World) (h : RInAt w v q) (h1 : q.acs.length ≤ 1000000000000000) (h2 : q.trs.length ≤ 1000000000000000) :
    Calls Try.prog 12 #[v] w fun e w' => e = .returned (.bool q.light) ∧ Below w.heap.size w w' := by
  obtain ⟨⟨va, vt, rfl, ⟨a1, pa, ca, rfl, _⟩, ⟨t1, pt, ct, rfl, _⟩⟩, _, _, _⟩ := h
  have g1 : (0 : Int) ≤ (q.acs.length : Int) := by omega
  have g2 : (q.acs.length : Int) ≤ 1000000000000000 := by omega
  have g3 : (0 : Int) ≤ (q.trs.length : Int) := by omega
  have g4 : (q.trs.length : Int) ≤ 1000000000000000 := by omega
  have e : q.light = decide ((q.acs.length : Int) + (q.trs.length : Int) < 100) := by unfold RIn.light; simp only [decide_eq_decide]; omega
  rw [e]
  unfold riC
  generalize q.acs.length = n at *
  generalize q.trs.length = m at *
  go_enter Try.func12, Try.ntmps12
  go_wp2
  go_ret
  exact ⟨rfl, below1 _ _⟩
end Go.Proofs.Ytekpkbmelhgneaa
