
/-
  Walks: math/bits.RotateLeft32 and sha.turn, for every word; rows of numbers in memory.
-/
import Derived.Test.YtepohpniflmblaaDoorRows
import Derived.Test.YtepohpniflmblaaDoorShM
import Derived.WalkKit
import Derived.WalkSpells
import Derived.WalkLawsBesides
import Derived.Laws.BitsAllLaws
import Derived.Laws.Rows
set_option maxRecDepth 100000
namespace Go.Proofs.YtepohpniflmblaaDoor
open Go.RowKit

theorem ret_int {k : IntKind} {a b : Int} (h : a = b) : Ending.returned (.int k a) = .returned (.int k b) := by rw [h]
theorem below1 (w : World) (o : Obj) : Below w.heap.size w (w.alloc o) := (Below.refl _ _).alloc (Nat.le_refl _) _
theorem below2 (w : World) (o p : Obj) : Below w.heap.size w ((w.alloc o).alloc p) := (below1 w o).alloc (by simp) _
theorem below3 (w : World) (o p q : Obj) : Below w.heap.size w (((w.alloc o).alloc p).alloc q) := (below2 w o p).alloc (by simp; omega) _
theorem chain {a b c : World} (h : Below a.heap.size a b) (k : Below b.heap.size b c) : Below a.heap.size a c := h.trans (k.mono h.size)
theorem chainA {a b : World} (h : Below a.heap.size a b) (o : Obj) : Below a.heap.size a (b.alloc o) := h.alloc h.size o

theorem div_lt {x n : Nat} (hx : x < 4294967296) : x / n < 4294967296 := Nat.lt_of_le_of_lt (Nat.div_le_self _ _) hx
theorem or_lt {x y : Nat} (hx : x < 4294967296) (hy : y < 4294967296) : x ||| y < 4294967296 := Nat.or_lt_two_pow (n := 32) hx hy
theorem xor_lt {x y : Nat} (hx : x < 4294967296) (hy : y < 4294967296) : x ^^^ y < 4294967296 := Nat.xor_lt_two_pow (n := 32) hx hy
theorem and_lt {x y : Nat} (hx : x < 4294967296) : x &&& y < 4294967296 := Nat.and_lt_two_pow (n := 32) _ hx |> fun h => by rw [Nat.and_comm]; exact h
theorem rotr_lt {x n : Nat} (hx : x < 4294967296) : rotr x n < 4294967296 := or_lt (div_lt hx) (Nat.mod_lt _ (by decide))

theorem rot_num (x n : Nat) (hx : x < 4294967296) : bits .or .u32 ((x : Int) * 2 ^ (32 - n) % 4294967296) ((x : Int) / 2 ^ n) = (rotr x n : Nat) := by
  have e0 : (x : Int) * 2 ^ (32 - n) = ((x * 2 ^ (32 - n) : Nat) : Int) := by rw [Int.natCast_mul, Int.natCast_pow]; rfl
  have e1 : ((x * 2 ^ (32 - n) : Nat) : Int) % 4294967296 = ((x * 2 ^ (32 - n) % 4294967296 : Nat) : Int) := (Int.natCast_emod _ _).symm
  have e2 : (x : Int) / 2 ^ n = ((x / 2 ^ n : Nat) : Int) := by rw [Int.natCast_ediv, Int.natCast_pow]; rfl
  rw [e0, e1, e2, u32_or_nat _ _ (Nat.mod_lt _ (by decide)) (div_lt hx), Nat.or_comm]
  rfl

theorem rotl_any (x n : Nat) (hx : x < 4294967296) (h1 : 1 ≤ n) (h2 : n ≤ 31) (w : World) :
    Calls Tryd.prog 45 #[.int .u32 x, .int .i64 (-(n : Int))] w fun e w' => e = .returned (.int .u32 (rotr x n : Nat)) ∧ w' = w := by
  have eb : bits BinOp.and IntKind.u64 (IntKind.u64.wrap (-(n : Int))) 31 = ((32 - n : Nat) : Int) := by
    have h := u64_and_nat (18446744073709551616 - n) 31 (by omega) (by decide)
    rw [nat_mask5] at h
    rw [IntKind.wrap_u64, show (-(n : Int)) % 18446744073709551616 = ((18446744073709551616 - n : Nat) : Int) from by omega]
    refine Eq.trans h ?_
    omega
  go_enter Tryd.func45, Tryd.ntmps45
  go_wp2
  go_ret
  exact ⟨ret_int (by rw [show 32 - (32 - n) = n from by omega]; exact rot_num x n hx), rfl⟩

theorem turn_any (x n : Nat) (m : Int) (hm : m = n) (hx : x < 4294967296) (h1 : 1 ≤ n) (h2 : n ≤ 31) (w : World) :
    Calls Tryd.prog 44 #[.int .u32 x, .int .i64 m] w fun e w' => e = .returned (.int .u32 (rotr x n : Nat)) ∧ w' = w := by
  subst hm
  go_enter Tryd.func44, Tryd.ntmps44
  go_wp2_with (go_at_call 45; refine (rotl_any _ _ hx h1 h2 _).mono ?_; rintro e w' ⟨rfl, rfl⟩)
  go_ret
  exact ⟨rfl, rfl⟩

theorem turn_i (x : Nat) (m : Int) (h1 : 1 ≤ m) (h2 : m ≤ 31) (hx : x < 4294967296) (w : World) :
    Calls Tryd.prog 44 #[.int .u32 x, .int .i64 m] w fun e w' => e = .returned (.int .u32 (rotr x m.toNat : Nat)) ∧ w' = w :=
  turn_any x m.toNat m (by omega) hx (by omega) (by omega) w

theorem sg0_num (x : Nat) (hx : x < 4294967296) : bits .xor .u32 (bits .xor .u32 (rotr x 7 : Nat) (rotr x 18 : Nat)) ((x : Int) / 8) = (sg0 x : Nat) := by
  rw [u32_xor_nat _ _ (rotr_lt hx) (rotr_lt hx), show (x : Int) / 8 = ((x / 8 : Nat) : Int) from by omega, u32_xor_nat _ _ (xor_lt (rotr_lt hx) (rotr_lt hx)) (div_lt hx)]
  rfl
theorem sg1_num (x : Nat) (hx : x < 4294967296) : bits .xor .u32 (bits .xor .u32 (rotr x 17 : Nat) (rotr x 19 : Nat)) ((x : Int) / 1024) = (sg1 x : Nat) := by
  rw [u32_xor_nat _ _ (rotr_lt hx) (rotr_lt hx), show (x : Int) / 1024 = ((x / 1024 : Nat) : Int) from by omega, u32_xor_nat _ _ (xor_lt (rotr_lt hx) (rotr_lt hx)) (div_lt hx)]
  rfl
theorem bs0_num (x : Nat) (hx : x < 4294967296) : bits .xor .u32 (bits .xor .u32 (rotr x 2 : Nat) (rotr x 13 : Nat)) (rotr x 22 : Nat) = (bs0 x : Nat) := by
  rw [u32_xor_nat _ _ (rotr_lt hx) (rotr_lt hx), u32_xor_nat _ _ (xor_lt (rotr_lt hx) (rotr_lt hx)) (rotr_lt hx)]
  rfl
theorem bs1_num (x : Nat) (hx : x < 4294967296) : bits .xor .u32 (bits .xor .u32 (rotr x 6 : Nat) (rotr x 11 : Nat)) (rotr x 25 : Nat) = (bs1 x : Nat) := by
  rw [u32_xor_nat _ _ (rotr_lt hx) (rotr_lt hx), u32_xor_nat _ _ (xor_lt (rotr_lt hx) (rotr_lt hx)) (rotr_lt hx)]
  rfl
theorem sg0_lt {x : Nat} (hx : x < 4294967296) : sg0 x < 4294967296 := xor_lt (xor_lt (rotr_lt hx) (rotr_lt hx)) (div_lt hx)
theorem sg1_lt {x : Nat} (hx : x < 4294967296) : sg1 x < 4294967296 := xor_lt (xor_lt (rotr_lt hx) (rotr_lt hx)) (div_lt hx)
theorem bs0_lt {x : Nat} (hx : x < 4294967296) : bs0 x < 4294967296 := xor_lt (xor_lt (rotr_lt hx) (rotr_lt hx)) (rotr_lt hx)
theorem bs1_lt {x : Nat} (hx : x < 4294967296) : bs1 x < 4294967296 := xor_lt (xor_lt (rotr_lt hx) (rotr_lt hx)) (rotr_lt hx)

/-- A row of words, of bytes. -/
def wordsL (l : List Nat) : Array Value := (l.map fun x : Nat => Value.int .u32 (x : Int)).toArray
def bytesL (l : List Nat) : Array Value := (l.map fun x : Nat => Value.int .u8 (x : Int)).toArray
theorem wordsL_size (l : List Nat) : (wordsL l).size = l.length := by simp [wordsL]
theorem bytesL_size (l : List Nat) : (bytesL l).size = l.length := by simp [bytesL]
theorem wordsL_at (l : List Nat) (i : Nat) (h : i < l.length) : (wordsL l)[i]? = some (.int .u32 (l.getD i 0 : Nat)) := by simp [wordsL, h]
theorem bytesL_at (l : List Nat) (i : Nat) (h : i < l.length) : (bytesL l)[i]? = some (.int .u8 (l.getD i 0 : Nat)) := by simp [bytesL, h]
theorem wordsL_set (l : List Nat) (i x : Nat) : (wordsL l).setIfInBounds i (.int .u32 (x : Nat)) = wordsL (l.set i x) := by
  simp [wordsL, List.map_set]
theorem bytesL_set (l : List Nat) (i x : Nat) : (bytesL l).setIfInBounds i (.int .u8 (x : Nat)) = bytesL (l.set i x) := by
  simp [bytesL, List.map_set]
theorem wordsL_one (l : List Nat) : (wordsL l).all (·.oneCell') = true := by
  rw [Array.all_eq_true_iff_forall_mem]
  intro v hv
  simp [wordsL] at hv
  obtain ⟨x, _, rfl⟩ := hv
  rfl
theorem bytesL_one (l : List Nat) : (bytesL l).all (·.oneCell') = true := by
  rw [Array.all_eq_true_iff_forall_mem]
  intro v hv
  simp [bytesL] at hv
  obtain ⟨x, _, rfl⟩ := hv
  rfl
/-- All of them words, bytes. -/
def W32 (l : List Nat) : Prop := ∀ x ∈ l, x < 4294967296
def W8 (l : List Nat) : Prop := ∀ x ∈ l, x < 256
theorem getD_mem_or (l : List Nat) (i : Nat) : l.getD i 0 ∈ l ∨ l.getD i 0 = 0 := by
  rcases Nat.lt_or_ge i l.length with h | h
  · left; simp [List.getD, h]
  · right; simp [List.getD, List.getElem?_eq_none h]
theorem W32.at {l : List Nat} (h : W32 l) (i : Nat) : l.getD i 0 < 4294967296 := by
  rcases getD_mem_or l i with e | e
  · exact h _ e
  · rw [e]; decide
theorem W8.at {l : List Nat} (h : W8 l) (i : Nat) : l.getD i 0 < 256 := by
  rcases getD_mem_or l i with e | e
  · exact h _ e
  · rw [e]; decide
theorem W32.set {l : List Nat} (h : W32 l) (i : Nat) {x : Nat} (hx : x < 4294967296) : W32 (l.set i x) := by
  intro y hy
  rcases List.mem_or_eq_of_mem_set hy with e | e
  · exact h _ e
  · rw [e]; exact hx
theorem W8.set {l : List Nat} (h : W8 l) (i : Nat) {x : Nat} (hx : x < 256) : W8 (l.set i x) := by
  intro y hy
  rcases List.mem_or_eq_of_mem_set hy with e | e
  · exact h _ e
  · rw [e]; exact hx

/-- A block that is a row of cells. -/
def Row (w : World) (b : Nat) (cs : Array Value) (t : TypeId) : Prop := w.heap[b]? = some (.cells cs t (0, 0))
theorem Row.lt {w : World} {b : Nat} {cs : Array Value} {t : TypeId} (h : Row w b cs t) : b < w.heap.size := (Array.getElem?_eq_some_iff.1 h).1
theorem Row.cell {w : World} {b : Nat} {cs : Array Value} {t : TypeId} (h : Row w b cs t) (i : Nat) : w.cell? ⟨b, i, none⟩ = cs[i]? := cell_of_row w b i cs t _ h
theorem Row.frozen {w : World} {b : Nat} {cs : Array Value} {t : TypeId} (h : Row w b cs t) (i : Nat) : w.frozen? ⟨b, i, none⟩ = false := frozen_of_row w b i cs t h
theorem Row.later {w w1 : World} {b : Nat} {cs : Array Value} {t : TypeId} (h : Row w b cs t) (hb : Below w.heap.size w w1) : Row w1 b cs t :=
  (hb.block b h.lt).trans h
theorem Row.set {w : World} {b : Nat} {cs : Array Value} {t : TypeId} (h : Row w b cs t) (i : Nat) (v : Value) : Row (w.setCell ⟨b, i, none⟩ v) b (cs.setIfInBounds i v) t := heap_setCell_same w b i cs t v h
theorem Row.setOther {w : World} {b : Nat} {cs : Array Value} {t : TypeId} (h : Row w b cs t) {a : Addr} (v : Value) (hne : b ≠ a.block) : Row (w.setCell a v) b cs t := (heap_setCell_other w a b v hne).trans h
theorem Row.new (w : World) (cs : Array Value) (t : TypeId) {b : Nat} (hb : b = w.heap.size) : Row (w.alloc (.cells cs t)) b cs t := by subst hb; exact heap_alloc_new w _
theorem Row.alloc {w : World} {b : Nat} {cs : Array Value} {t : TypeId} (h : Row w b cs t) (o : Obj) : Row (w.alloc o) b cs t := (heap_alloc_old w o h.lt).trans h
theorem Row.drew {w : World} {b : Nat} {cs : Array Value} {t : TypeId} (h : Row w b cs t) : Row w.drew b cs t := h
theorem Row.setRow {w : World} {b : Nat} {cs : Array Value} {t : TypeId} (h : Row w b cs t) (ds : Array Value) : Row (w.setRow b ds) b ds t := setRow_heap w b cs ds t _ h
theorem Row.setRowOther {w : World} {b : Nat} {cs : Array Value} {t : TypeId} (h : Row w b cs t) {g : Nat} (ds : Array Value) (hne : b ≠ g) : Row (w.setRow g ds) b cs t := (setRow_other w g b ds hne).trans h
theorem Below.row {B : Nat} {w w1 : World} (h : Below B w w1) {g : Nat} (ds : Array Value) (hg : B ≤ g) : Below B w (w1.setRow g ds) :=
  h.trans ⟨rfl, rfl, rfl, by simp [World.setRow], fun k hk => setRow_other w1 g k ds (by omega)⟩
theorem below_drewN {B : Nat} {w w1 : World} (h : Below B w w1) (n : Nat) : Below B w (w1.drewN n) := ⟨h.os, h.tape, h.output, h.size, h.block⟩
end Go.Proofs.YtepohpniflmblaaDoor
