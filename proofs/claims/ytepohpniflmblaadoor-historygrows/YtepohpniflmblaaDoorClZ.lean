
/-
  Small laws that the walks on trees share.
-/
import Derived.Test.YtepohpniflmblaaDoorClO
import Derived.Test.YtepohpniflmblaaDoorClC
import Derived.Test.YtepohpniflmblaaDoorHiG
import Derived.Test.YtepohpniflmblaaDoorHeld
import Derived.Test.YtepohpniflmblaaDoorHiL
import Derived.Deep.CutBlock
import Derived.Deep.DeepCutAuto
namespace Go.Proofs.YtepohpniflmblaaDoor
open Go.RowKit
set_option maxRecDepth 100000
set_option linter.unusedVariables false
set_option linter.unusedSimpArgs false
theorem rootN_short : ∀ {A : List (List Nat)}, (∀ x ∈ A, H32 x) → ∀ l ∈ rootN A, l.length ≤ 1000 := by
  intro A
  induction hn : A.length using Nat.strongRecOn generalizing A with
  | _ n ih =>
    intro hA l hl
    rcases Nat.lt_or_ge n 2 with h2 | h2
    · match A, hn with
      | [], _ => rw [rootN_nil] at hl; simp at hl; subst hl; simp
      | [a], _ => rw [rootN_one] at hl; cases hl
      | _ :: _ :: _, h => simp at h; omega
    · have hs := split_lt h2
      rw [rootN_two (by omega), hn] at hl
      have tA : ∀ x ∈ A.take (split n), H32 x := fun x hx => hA x (List.mem_of_mem_take hx)
      have dA : ∀ x ∈ A.drop (split n), H32 x := fun x hx => hA x (List.mem_of_mem_drop hx)
      rcases List.mem_append.1 hl with hl | hl
      · rcases List.mem_append.1 hl with hl | hl
        · exact ih (split n) hs.2 (by rw [List.length_take]; omega) tA l hl
        · exact ih (n - split n) (by omega) (by rw [List.length_drop]; omega) dA l hl
      · rw [List.mem_singleton] at hl
        subst hl
        rw [msgN_len (rootL_32 tA) (rootL_32 dA)]
        omega
theorem yields_conv {ops : Array Oper} {S : World → Prop} {op : Oper} {a : Act} (hw : Region.wanted op (yielded ops a.tmps) = true) (x : Operand) (ho : op.op = .convert 37 9 x) (v : Value) (hx : a.eval x = v) (l : List Nat) (hS : ∀ w, S w → BytesAt w v l) : YieldsIf Tryd.prog ops S op (.string (strL l)) a :=
  .inl ⟨hw, fun w hw' => by
    unfold execOp
    simp only [ho, hx, Sem.run_bind, Sem.run_pure, conv_str (hS w hw'), Result.andThen_ok]⟩
theorem hash_in (l m : List Nat) (hl : l.length = 32) (hm : m.length = 32) (w : World) : (Op.equalIn 10000 28 (.agg (bytesL l)) (.agg (bytesL m))).run Tryd.prog w = .ok (decide (l = m)) w := by
  obtain ⟨i, hi, _⟩ := info_u8'
  rw [run_equalIn_array w 9999 (bytesL l) (bytesL m) Tryd.underlying28 hi, cells_u8]
  have h := run_eqItems_u8 9998 l m w (List.range 32) (fun j hj => by rw [hl, hm]; simpa using hj)
  rw [h, ← hl, all_range_eq l m (by omega)]
theorem TpAt.w8 {w : World} {base T : Nat} {N : List (List Nat)} (h : TpAt w base (.pointer (some ⟨T, 0, none⟩)) N) : ∀ l ∈ N, W8 l := by
  rcases h with h | ⟨_, _, _, _, _, _, _, h8⟩
  · cases h
  · exact h8
theorem HsAt.row {w : World} {g n c : Nat} {L : List (List Nat)} (h : HsAt w (.slice (some ⟨g, 0, none⟩) n c) L) (h0 : 0 < L.length) : ∃ cs, Row w g cs 28 := by
  obtain ⟨_, p, c', e, _, _, hat⟩ := h
  cases e
  obtain ⟨g', off, cs, e, hr, _⟩ := hat 0 h0
  cases e
  exact ⟨cs, hr⟩
theorem hs_range {w : World} {g n c : Nat} {L : List (List Nat)} (h : HsAt w (.slice (some ⟨g, 0, none⟩) n c) L) {i : Nat} (hi : i < L.length) : w.rangeAt g (i * 32) (bytesL (L.getD i [])).toList := by
  obtain ⟨g', off, e, _, hr, _⟩ := h.at hi
  cases e
  rw [Nat.zero_add] at hr
  exact hr
/-- An operation whose guard says yes. -/
theorem wpList_w {ops : Array Oper} {rest : List Oper} {o : Oper} {a : Act} {w : World} {Q : Exit → Act → World → Prop} (hw : Region.wanted o (yielded ops a.tmps) = true) (h : o.wp Tryd.prog a w (wpList Tryd.prog ops Q rest) Q) : wpList Tryd.prog ops Q (o :: rest) a w := by
  unfold wpList
  rw [if_pos hw]
  exact Or.inl h
theorem path_none (i : Int) (v : Value) (L : List (List Nat)) (w : World) (hi : i < 0 ∨ (L.length : Int) ≤ i) (hv : HsAt w v L) :
    Calls Tryd.prog 17 #[.pointer none, .int .i64 i, v] w fun e w' => e = .returned (.tuple #[.slice none 0 0, .bool false]) ∧ w' = w := by
  obtain ⟨p, c, rfl, hc1, hc2⟩ := hv.form
  clear hv
  have l0 : (0 : Int) ≤ (L.length : Int) := by omega
  by_cases h0 : i < 0
  · go_enter Tryd.func17, Tryd.ntmps17
    go_wp2
    go_ret2
    exact ⟨rfl, rfl⟩
  · have h1 : (L.length : Int) ≤ i := by omega
    have h2 : 0 ≤ i := by omega
    go_enter Tryd.func17, Tryd.ntmps17
    go_wp2
    go_ret2
    exact ⟨rfl, rfl⟩
end Go.Proofs.YtepohpniflmblaaDoor
