
/-
  Hashes held against one another; bytes as a string; append of bytes to a new slice.
-/
import Derived.Test.YtepohpniflmblaaDoorShO
import Derived.ChangeKeysEq
import Derived.Laws.StructEq
import Derived.Laws.BytesArg
set_option maxRecDepth 100000
namespace Go.Proofs.YtepohpniflmblaaDoor
open Go.RowKit

theorem run_part_u8 (l : List Nat) (i : Nat) (hi : i < l.length) (w : World) : (part 5 (bytesL l) i).run Tryd.prog w = .ok (.int .u8 (l.getD i 0 : Nat)) w := by
  unfold part isAgg
  simp [run_underlying under_byte, bytesL_at l i hi]
theorem run_eqItems_u8 (d : Nat) (l m : List Nat) (w : World) : ∀ is : List Nat, (∀ i ∈ is, i < l.length ∧ i < m.length) →
    (Op.eqItems (d + 1) 5 1 (bytesL l) (bytesL m) is).run Tryd.prog w = .ok (is.all fun i => l.getD i 0 == m.getD i 0) w
  | [], _ => by simp [Op.eqItems]
  | i :: is, h => by
    have h0 := h i (by simp)
    have ih := run_eqItems_u8 d l m w is fun j hj => h j (by simp [hj])
    simp only [Op.eqItems, Sem.run_bind, Nat.mul_one, run_part_u8 l i h0.1, run_part_u8 m i h0.2, Result.andThen_ok, run_equalIn_int w d 5 .u8 .u8 _ _ under_byte]
    by_cases e : l.getD i 0 = m.getD i 0
    · rw [show (((l.getD i 0 : Nat) : Int) == ((m.getD i 0 : Nat) : Int)) = true from by rw [e]; simp]
      simp only [Bool.not_true, Bool.false_eq_true, if_false, List.all_cons]
      rw [ih, e]
      simp
    · rw [show (((l.getD i 0 : Nat) : Int) == ((m.getD i 0 : Nat) : Int)) = false from by simp only [beq_eq_false_iff_ne, ne_eq]; omega]
      simp only [Bool.not_false, if_true, List.all_cons, Sem.run_pure]
      rw [show (l.getD i 0 == m.getD i 0) = false from by simpa using e]
      simp
theorem all_range_eq (l m : List Nat) (h : l.length = m.length) : ((List.range l.length).all fun i => l.getD i 0 == m.getD i 0) = decide (l = m) := by
  by_cases e : l = m
  · subst e; simp
  · rw [decide_eq_false e, Bool.eq_false_iff]
    intro hall
    apply e
    rw [List.all_eq_true] at hall
    apply List.ext_getElem h
    intro i h1 h2
    have := hall i (List.mem_range.2 h1)
    simpa [List.getD, h1, h2] using this
theorem cells_u8 : Tryd.prog.cellsOf 5 = 1 := by kernel_rfl
theorem hash_eql (l m : List Nat) (hl : l.length = 32) (hm : m.length = 32) (w : World) : (binOp .eql 28 (.agg (bytesL l)) (.agg (bytesL m))).run Tryd.prog w = .ok (.bool (decide (l = m))) w := by
  obtain ⟨i, hi, _⟩ := info_u8'
  rw [run_eql_struct, run_equalIn_array w 9999 (bytesL l) (bytesL m) Tryd.underlying28 hi, cells_u8]
  have h := run_eqItems_u8 9998 l m w (List.range 32) (fun j hj => by rw [hl, hm]; simpa using hj)
  rw [h, ← hl, all_range_eq l m (by omega)]
  rfl
theorem hash_neq (l m : List Nat) (hl : l.length = 32) (hm : m.length = 32) (w : World) : (binOp .neq 28 (.agg (bytesL l)) (.agg (bytesL m))).run Tryd.prog w = .ok (.bool (!decide (l = m))) w := by
  obtain ⟨i, hi, _⟩ := info_u8'
  rw [run_neq_struct, run_equalIn_array w 9999 (bytesL l) (bytesL m) Tryd.underlying28 hi, cells_u8]
  have h := run_eqItems_u8 9998 l m w (List.range 32) (fun j hj => by rw [hl, hm]; simpa using hj)
  rw [h, ← hl, all_range_eq l m (by omega)]
  rfl

theorem hash_same (l : List Nat) (hl : l.length = 32) (w : World) : (Op.equalIn 10000 28 (.agg (bytesL l)) (.agg (bytesL l))).run Tryd.prog w = .ok true w := by
  obtain ⟨i, hi, _⟩ := info_u8'
  rw [run_equalIn_array w 9999 (bytesL l) (bytesL l) Tryd.underlying28 hi, cells_u8]
  have h := run_eqItems_u8 9998 l l w (List.range 32) (fun j hj => by rw [hl]; simpa using hj)
  rw [h, ← hl, all_range_eq l l rfl]
  simp

/-- The bytes as a string. -/
def strL (l : List Nat) : ByteArray := strOfNums (l.map fun x : Nat => (x : Int))
theorem conv_str {w : World} {v : Value} {l : List Nat} (h : BytesAt w v l) : (convert 37 9 v).run Tryd.prog w = .ok (.string (strL l)) w := by
  obtain ⟨hw, hm, p, c, rfl, hc⟩ := h
  have hs : Tryd.prog.underlying 9 = some .string := by kernel_rfl
  by_cases hl : l = []
  · subst hl
    cases p with
    | none => exact run_convert_bytes_nil w _ _ under_bytes under_byte _ _ _ hs
    | some a =>
      rw [run_convert_bytes_string w _ _ _ _ _ _ under_bytes under_byte hs, run_bytesToString w _ _ c [] (by simp [loadCells, loadCellsFrom])]
      rfl
  · obtain ⟨b, off, rfl, _, _⟩ := hc 0 (List.length_pos_iff.2 hl)
    refine run_convert_bytes_arg w _ _ under_bytes under_byte b off _ c (l.map fun x : Nat => (x : Int)) (by simp) (fun i hi => ?_) _ hs
    obtain ⟨b', off', e', _, hcell⟩ := hc i hi
    cases e'
    rw [hcell]
    simp [List.getD, hi]
theorem strL_inj {l m : List Nat} (hl : W8 l) (hm : W8 m) (h : strL l = strL m) : l = m := by
  have h1 := congrArg (fun s : ByteArray => s.data.toList) h
  simp only [strL, strOfNums_data, List.map_map] at h1
  have h2 := congrArg (List.map UInt8.toNat) h1
  simp only [List.map_map] at h2
  have k : ∀ n : List Nat, W8 n → n.map (UInt8.toNat ∘ ((fun n : Int => UInt8.ofNat n.toNat) ∘ fun x : Nat => (x : Int))) = n := by
    intro n hn
    conv => rhs; rw [← List.map_id n]
    apply List.map_congr_left
    intro x hx
    have := hn x hx
    simp only [Function.comp, Int.toNat_natCast, id]
    rw [UInt8.toNat_ofNat']
    omega
  rw [k l hl, k m hm] at h2
  exact h2

theorem strL_ne {l m : List Nat} (hl : W8 l) (hm : W8 m) (h : l ≠ m) : ¬ (strL l).toList = (strL m).toList := by
  intro e
  apply h
  apply strL_inj hl hm
  rw [Go.ByteArray.toList_eq, Go.ByteArray.toList_eq] at e
  generalize strL l = a at e
  generalize strL m = b at e
  obtain ⟨⟨x⟩⟩ := a
  obtain ⟨⟨y⟩⟩ := b
  exact congrArg (fun z : List UInt8 => (⟨⟨z⟩⟩ : ByteArray)) e

theorem Own.form {w : World} {base : Nat} {v : Value} {l : List Nat} (h : Own w base v l) : ∃ p n c, v = .slice p n c ∧ n = l.length := by
  obtain ⟨_, ⟨rfl, h0⟩ | ⟨g, cap, cur, rfl, _⟩⟩ := h
  · exact ⟨_, _, _, rfl, h0.symm⟩
  · exact ⟨_, _, _, rfl, rfl⟩
theorem of_eq (pv : Value) (L : List (List Nat)) (M H : List Nat) (w : World) (hp : PartsAt w pv L) (hfl : L.flatten = M) (hl : M.length ≤ 1000000) (ht : Tab w) (hH : hashF KW M = H) :
    Calls Tryd.prog 25 #[.pointer none, pv] w fun e w' => e = .returned (.agg (bytesL H)) ∧ Below w.heap.size w w' := by
  subst hfl hH
  exact of_nil pv L w hp hl ht
/-- An append under a guard that says yes. -/
theorem wpList_append_w {P : Program} (w : World) {ops : Array Oper} {rest : List Oper} {o : Oper} {a : Act} {Q : Exit → Act → World → Prop} (hw : Region.wanted o (yielded ops a.tmps) = true) (s x : Operand) (t tn : TypeId)
    (ho : o.op = .call { callee := .builtin .append, args := #[s, x], argTypes := #[t, tn] }) (vs vx : Value) (hs : a.eval s = vs) (hx : a.eval x = vx)
    (v' : Value) (w' : World) (hr : (Builtin.append_ #[t, tn] o.type #[vs, vx]).run P w = .ok v' w') (h : wpList P ops Q rest (a.put o.dst v') w') : wpList P ops Q (o :: rest) a w :=
  wpList_step fun _ hK => by rw [if_pos hw]; exact Lib.wp_append_run w s x t tn ho vs vx hs hx v' w' hr (hK _ _ h)

/-- A goal at which the walk stands still. -/
def Stop (p : Prop) : Prop := p
theorem stop {p : Prop} (h : Stop p) : p := h
end Go.Proofs.YtepohpniflmblaaDoor
