
/-
  bytes.Clone; a tape's All, on any tape, for any yield; on a nil tape.
-/
import Derived.Test.YtepohpniflmblaaDoorShAl
import Derived.Lib.LazyBuf
namespace Go.Proofs.YtepohpniflmblaaDoor
open Go.RowKit
set_option maxRecDepth 100000
set_option linter.unusedVariables false
set_option linter.unusedSimpArgs false
attribute [local go_sem] Oper.semAt_some

theorem own_made (w : World) (base : Nat) (hb : base ≤ w.heap.size) : Own (w.alloc (.cells #[] 5)) base (.slice (some ⟨w.heap.size, 0, none⟩) 0 0) [] :=
  ⟨rfl, Or.inr ⟨w.heap.size, 0, #[], rfl, hb, heap_alloc_new w _, Nat.le_refl _, Nat.zero_le _, rfl, rfl⟩⟩

theorem clone_any (v : Value) (l : List Nat) (w : World) (h : BytesAt w v l) (hl : l.length ≤ 1048576) :
    Calls Tryd.prog 34 #[v] w fun e w' => ∃ v', e = .returned v' ∧ Own w' w.heap.size v' l ∧ Below w.heap.size w w' := by
  obtain ⟨h8, hm, p, c, rfl, hc⟩ := id h
  have hq := fun w => Go.run_eql_slice_nil (P := Tryd.prog) w 37 5 p l.length c under_bytes
  cases p with
  | none =>
    obtain rfl : l = [] := by
      cases l with
      | nil => rfl
      | cons x l => obtain ⟨_, _, e, _⟩ := hc 0 (by simp); cases e
    simp only [List.length_nil, Option.isNone_none] at hq ⊢
    go_enter Tryd.func34, Tryd.ntmps34
    go_wp2
    go_ret
    exact ⟨_, rfl, World.ownsRow_nil _ _ _ _, Below.refl _ _⟩
  | some a =>
    obtain ⟨v1, w1, run1, own1, gr1, _⟩ := append_bytes (w.alloc (.cells #[] 5)) w.heap.size 37 (.slice (some ⟨w.heap.size, 0, none⟩) 0 0) [] (own_made w _ (Nat.le_refl _)) _ l (h.later (below1 _ _)) (by simpa using hl) (by simp)
    have hb1 : Below w.heap.size w w1 := below_grown (below1 w _) (by simp) gr1 (fun k hk => by simp [Value.ownBlock] at hk; omega)
    clear hc gr1
    generalize l.length = n at *
    go_enter Tryd.func34, Tryd.ntmps34
    go_wp2_with (at_builtin; refine Lib.wpList_append_run _ rfl _ _ _ _ rfl _ _ rfl rfl _ _ run1 ?_)
    go_ret
    exact ⟨_, rfl, by simpa using own1, hb1⟩

set_option maxHeartbeats 1000000 in
theorem all_nil (w : World) (l : Nat) :
    Calls Tryd.prog 26 #[.pointer none, .func (.yield l) #[] #[]] w fun e w' => (∃ v, e = .returned v) ∧ w' = w := by
  go_enter Tryd.func26, Tryd.ntmps26
  go_wp2
  first | go_end0 | go_ret | refine bodyPost_ret (results_none rfl _ _ _) rfl ?_
  exact ⟨⟨_, rfl⟩, rfl⟩

set_option maxHeartbeats 1000000 in
/-- All, for any yield that keeps the notes: J k holds where k have come. -/
theorem all_full (l T : Nat) (vN : Value) (L : List (List Nat)) (J : Nat → World → Prop) (Jx : World → Prop)
    (hJ : ∀ k W, J k W → PartsAt W vN L) (hJb : ∀ k W W', J k W → Below W.heap.size W W' → J k W') (hlen : ∀ k, k < L.length → (L.getD k []).length ≤ 1000)
    (hY : ∀ k W u, k < L.length → J k W → BytesAt W u (L.getD k []) → YieldAt Fence.wide 1 Tryd.prog l #[u] W fun e W' => (e = .returned (.bool true) ∧ J (k + 1) W') ∨ (e = .returned (.bool false) ∧ Jx W'))
    (W : World) (hT : W.cell? ⟨T, 0, none⟩ = some vN) (h0 : J 0 W) :
    CallsIn Fence.wide 2 Tryd.prog 26 #[.pointer (some ⟨T, 0, none⟩), .func (.yield l) #[] #[]] W fun e W' => (∃ v, e = .returned v) ∧ (J L.length W' ∨ Jx W') := by
  have e1 := yield_eq1 l
  have e2 := yield_eq2 l
  obtain ⟨hlm, p0, c0, rfl, _⟩ := id (hJ 0 W h0)
  unfold maxLen at hlm
  have l0 : (0 : Int) ≤ (L.length : Int) := by omega
  have l1 : (L.length : Int) ≤ 9223372036854775807 := by omega
  refine callsIn_of_wp Tryd.func26 rfl trivial ?_ rfl
  simp only [Tryd.ntmps26, List.size_toArray, List.length_cons, List.length_nil, Nat.reduceAdd, Nat.reduceSub, Array.replicate_succ, Array.replicate_zero, List.push_toArray, List.append_toArray, List.nil_append, List.cons_append]
  gi_wp2
  gi_loopw [17] (fun i wr => ∃ k : Nat, k ≤ L.length ∧ i = .int .i64 k ∧ J k wr) (fun i _ => L.length - (intOf i).toNat)
  case atStart => exact ⟨0, Nat.zero_le _, rfl, h0⟩
  case round =>
    obtain ⟨k, hk, rfl, hJs⟩ := hrel
    by_cases hlt : k < L.length
    · have hlt' : (k : Int) < (L.length : Int) := by omega
      have k0 : (0 : Int) ≤ (k : Int) := by omega
      obtain ⟨_, _, _, e, hc⟩ := hJ k wr hJs
      cases e
      obtain ⟨b, off, ub, rfl, hb, hcell, hub⟩ := hc k hlt
      clear hc
      gi_wp2_with (refine ⟨trivial, ?_⟩; gi_at_call 34; refine stop ?_)
      refine CallsIn.mono (callsIn_wide.2 (clone_any _ _ wr hub (by have := hlen k hlt; omega))) ?_
      rintro e w1 ⟨u, rfl, hown, hb1⟩
      have hJ1 := hJb k _ _ hJs hb1
      have hu := hown.bytes hub.1 hub.2.1
      obtain ⟨pu, nu, cu, rfl, hnu⟩ := hown.form
      clear hnu hown
      obtain ⟨fn, tmps, assign, body, hy, hR⟩ := hY k w1 _ hlt hJ1 hu
      gi_wp2
      refine hR.mono ?_
      rintro e W3 (⟨rfl, hJ3⟩ | ⟨rfl, hJx3⟩)
      · gi_wp2
        go_roundw
        case rel => exact ⟨k + 1, by omega, by simp, hJ3⟩
        case measure => simp [intOf]; omega
      · gi_wp2
        refine bodyPost_ret (results_none rfl _ _ _) rfl ?_
        exact ⟨⟨_, rfl⟩, .inr hJx3⟩
    · have hlt' : ¬ (k : Int) < (L.length : Int) := by omega
      obtain rfl : k = L.length := by omega
      gi_wp2
      first | go_end0 | go_ret
      exact ⟨⟨_, rfl⟩, .inl hJs⟩
end Go.Proofs.YtepohpniflmblaaDoor
