
/-
  paciolilaw03.Same: it tells whether two requests are the same.
-/
import Derived.Test.YtiiaceeaffdmpaaWiS
namespace Go.Proofs.Ytiiaceeaffdmpaa
open Go.RowKit
set_option maxRecDepth 100000
set_option linter.unusedSimpArgs false

theorem rows_range' {α : Type} (f : α → List Value) (z : Nat) (hf : ∀ a, (f a).length = z) {w : World} {base : Nat} {t : TypeId} {p : Option Addr} {n c : Nat} {L : List α} (h : w.ownsRow base t z (.slice p n c) L.length (L.flatMap f)) (k : Nat) (a : α) (hk : L[k]? = some a) :
    ∃ g, p = some ⟨g, 0, none⟩ ∧ g < w.heap.size ∧ w.rangeAt g (k * z) (f a) := by
  obtain ⟨g, c', cur, e, hg, hr⟩ := rows_range f z hf h k a hk
  cases e
  exact ⟨g, rfl, (Array.getElem?_eq_some_iff.1 hg).1, hr⟩
/-- Both boxed requests as they lie while Same goes on. -/
structure SmR (w wr : World) (c1 c2 : Array Value) : Prop where
  a : Row wr w.heap.size c1 28
  b : Row wr (w.heap.size + 1) c2 28
  bel : Below w.heap.size w wr
theorem range_later {w wr : World} {g o : Nat} {cs : List Value} (h : w.rangeAt g o cs) (hb : Below w.heap.size w wr) (hg : g < w.heap.size) : wr.rangeAt g o cs := fun j u hu => (hb.cell (p := ⟨g, o + j, none⟩) hg).trans (h j u hu)

/-- The same so far. -/
def EqTo {α : Type} (L M : List α) (k : Nat) : Prop := ∀ j, j < k → L[j]? = M[j]?
theorem EqTo.all {α : Type} {L M : List α} {k : Nat} (h : EqTo L M k) (h1 : L.length ≤ k) (h2 : L.length = M.length) : L = M := by
  apply List.ext_getElem?
  intro j
  rcases Nat.lt_or_ge j k with hj | hj
  · exact h j hj
  · rw [List.getElem?_eq_none (by omega), List.getElem?_eq_none (by omega)]

theorem ac_eqIn (a b : Ac) : ∃ r : Bool, (∀ w : World, (Op.equalIn 10000 42 (.agg a.cells) (.agg b.cells)).run Try.prog w = .ok r w) ∧ (r = true ↔ a = b) := by
  obtain ⟨r, h1, h2⟩ := ac_neq a b
  refine ⟨!r, fun w => ?_, by cases r <;> simp_all⟩
  have h := h1 w
  rw [run_neq_struct] at h
  cases hx : (Op.equalIn 10000 42 (.agg a.cells) (.agg b.cells)).run Try.prog w with
  | ok x w' => rw [hx] at h; simp only [Result.andThen_ok, Result.ok.injEq, Value.bool.injEq] at h; obtain ⟨rfl, rfl⟩ := h; simp
  | halt x w' => rw [hx] at h; simp [Result.andThen] at h
theorem tr_eqIn (a b : Tr) : ∃ r : Bool, (∀ w : World, (Op.equalIn 10000 71 (.agg a.cells) (.agg b.cells)).run Try.prog w = .ok r w) ∧ (r = true ↔ a = b) := by
  obtain ⟨r, h1, h2⟩ := tr_neq a b
  refine ⟨!r, fun w => ?_, by cases r <;> simp_all⟩
  have h := h1 w
  rw [run_neq_struct] at h
  cases hx : (Op.equalIn 10000 71 (.agg a.cells) (.agg b.cells)).run Try.prog w with
  | ok x w' => rw [hx] at h; simp only [Result.andThen_ok, Result.ok.injEq, Value.bool.injEq] at h; obtain ⟨rfl, rfl⟩ := h; simp
  | halt x w' => rw [hx] at h; simp [Result.andThen] at h
theorem yields_neq {ops : Array Oper} {S : World → Prop} {op : Oper} {a : Act} (hw : Region.wanted op (yielded ops a.tmps) = true) (t u : TypeId) (x y : Operand) (ho : op.op = .binOp .neq t x y u) (xs ys : Array Value) (hx : a.eval x = .agg xs) (hy : a.eval y = .agg ys) (r : Bool)
    (hr : ∀ w : World, (Op.equalIn 10000 t (.agg xs) (.agg ys)).run Try.prog w = .ok r w) (hm : Try.prog.eqGuardType Try.prog.depth t = false) : YieldsIf Try.prog ops S op (.bool (!r)) a :=
  .inl ⟨hw, fun w _ => by
    unfold execOp
    simp only [ho, hx, hy, Sem.run_bind, run_eqGuard_agg w .neq t x y xs ys hm, Result.andThen_ok, run_neq_struct, hr w, Sem.run_pure]⟩

set_option maxHeartbeats 8000000 in
theorem same_any (q1 q2 : Rq) (u1 u2 : Value) (b1 b2 : Nat) (w : World) (h1 : RqAt w b1 u1 q1) (h2 : RqAt w b2 u2 q2) (l1 : q1.acs.length ≤ 1000) (l2 : q1.trs.length ≤ 1000) (l3 : q2.acs.length ≤ 1000) (l4 : q2.trs.length ≤ 1000) :
    Calls Try.prog 16 #[u1, u2] w fun e w' => ∃ r : Bool, e = .returned (.bool r) ∧ (r = true ↔ q1 = q2) ∧ Below w.heap.size w w' := by
  obtain ⟨va, vt, rfl, ha, ht⟩ := h1
  obtain ⟨va', vt', rfl, ha', ht'⟩ := h2
  obtain ⟨pa, na, ca, rfl, hna⟩ := ownsRow_form ha
  obtain ⟨pt, nt, ct, rfl, hnt⟩ := ownsRow_form ht
  obtain ⟨pa', na', ca', rfl, hna'⟩ := ownsRow_form ha'
  obtain ⟨pt', nt', ct', rfl, hnt'⟩ := ownsRow_form ht'
  obtain ⟨k1, A1, T1, hi1, lo1, fr1, to1, lim1⟩ := q1
  obtain ⟨k2, A2, T2, hi2, lo2, fr2, to2, lim2⟩ := q2
  dsimp only at *
  have m0 : (0 : Int) ≤ (na : Int) := by omega
  have m1 : (na : Int) ≤ 1000 := by omega
  have m2 : (0 : Int) ≤ (nt : Int) := by omega
  have m3 : (nt : Int) ≤ 1000 := by omega
  have m4 : (0 : Int) ≤ (na' : Int) := by omega
  have m5 : (na' : Int) ≤ 1000 := by omega
  have m6 : (0 : Int) ≤ (nt' : Int) := by omega
  have m7 : (nt' : Int) ≤ 1000 := by omega
  unfold rqC
  have HA : Hid (na = A1.length) := hna
  have HT : Hid (nt = T1.length) := hnt
  have HA' : Hid (na' = A2.length) := hna'
  have HT' : Hid (nt' = T2.length) := hnt'
  clear hna hnt hna' hnt'
  by_cases e_k1 : ((k1 : Nat) : Int) = ((k2 : Nat) : Int)
  case neg =>
    clear ha ht ha' ht'
    go_enter Try.func16, Try.ntmps16
    go_wp2
    go_ret
    refine ⟨false, rfl, ⟨fun h => (by cases h), fun e => ?_⟩, below2 _ _ _⟩
    obtain ⟨x1, x2, x3, x4, x5, x6, x7, x8⟩ := Rq.mk.inj e
    exfalso
    omega
  obtain rfl : k1 = k2 := nat_of_int e_k1
  clear e_k1
  by_cases e_hi1 : ((hi1 : Nat) : Int) = ((hi2 : Nat) : Int)
  case neg =>
    clear ha ht ha' ht'
    go_enter Try.func16, Try.ntmps16
    go_wp2
    go_ret
    refine ⟨false, rfl, ⟨fun h => (by cases h), fun e => ?_⟩, below2 _ _ _⟩
    obtain ⟨x1, x2, x3, x4, x5, x6, x7, x8⟩ := Rq.mk.inj e
    exfalso
    omega
  obtain rfl : hi1 = hi2 := nat_of_int e_hi1
  clear e_hi1
  by_cases e_lo1 : ((lo1 : Nat) : Int) = ((lo2 : Nat) : Int)
  case neg =>
    clear ha ht ha' ht'
    go_enter Try.func16, Try.ntmps16
    go_wp2
    go_ret
    refine ⟨false, rfl, ⟨fun h => (by cases h), fun e => ?_⟩, below2 _ _ _⟩
    obtain ⟨x1, x2, x3, x4, x5, x6, x7, x8⟩ := Rq.mk.inj e
    exfalso
    omega
  obtain rfl : lo1 = lo2 := nat_of_int e_lo1
  clear e_lo1
  by_cases e_fr1 : ((fr1 : Nat) : Int) = ((fr2 : Nat) : Int)
  case neg =>
    clear ha ht ha' ht'
    go_enter Try.func16, Try.ntmps16
    go_wp2
    go_ret
    refine ⟨false, rfl, ⟨fun h => (by cases h), fun e => ?_⟩, below2 _ _ _⟩
    obtain ⟨x1, x2, x3, x4, x5, x6, x7, x8⟩ := Rq.mk.inj e
    exfalso
    omega
  obtain rfl : fr1 = fr2 := nat_of_int e_fr1
  clear e_fr1
  by_cases e_to1 : ((to1 : Nat) : Int) = ((to2 : Nat) : Int)
  case neg =>
    clear ha ht ha' ht'
    go_enter Try.func16, Try.ntmps16
    go_wp2
    go_ret
    refine ⟨false, rfl, ⟨fun h => (by cases h), fun e => ?_⟩, below2 _ _ _⟩
    obtain ⟨x1, x2, x3, x4, x5, x6, x7, x8⟩ := Rq.mk.inj e
    exfalso
    omega
  obtain rfl : to1 = to2 := nat_of_int e_to1
  clear e_to1
  by_cases e_lim1 : ((lim1 : Nat) : Int) = ((lim2 : Nat) : Int)
  case neg =>
    clear ha ht ha' ht'
    go_enter Try.func16, Try.ntmps16
    go_wp2
    go_ret
    refine ⟨false, rfl, ⟨fun h => (by cases h), fun e => ?_⟩, below2 _ _ _⟩
    obtain ⟨x1, x2, x3, x4, x5, x6, x7, x8⟩ := Rq.mk.inj e
    exfalso
    omega
  obtain rfl : lim1 = lim2 := nat_of_int e_lim1
  clear e_lim1
  by_cases e_na : ((na : Nat) : Int) = ((na' : Nat) : Int)
  case neg =>
    clear ha ht ha' ht'
    go_enter Try.func16, Try.ntmps16
    go_wp2
    go_ret
    refine ⟨false, rfl, ⟨fun h => (by cases h), fun e => ?_⟩, below2 _ _ _⟩
    obtain ⟨x1, x2, x3, x4, x5, x6, x7, x8⟩ := Rq.mk.inj e
    exfalso
    (subst x2; exact e_na (by rw [HA.out, HA'.out]))
  obtain rfl : na = na' := nat_of_int e_na
  clear e_na
  by_cases e_nt : ((nt : Nat) : Int) = ((nt' : Nat) : Int)
  case neg =>
    clear ha ht ha' ht'
    go_enter Try.func16, Try.ntmps16
    go_wp2
    go_ret
    refine ⟨false, rfl, ⟨fun h => (by cases h), fun e => ?_⟩, below2 _ _ _⟩
    obtain ⟨x1, x2, x3, x4, x5, x6, x7, x8⟩ := Rq.mk.inj e
    exfalso
    (subst x3; exact e_nt (by rw [HT.out, HT'.out]))
  obtain rfl : nt = nt' := nat_of_int e_nt
  clear e_nt
  go_enter Try.func16, Try.ntmps16
  go_wp2
  go_loopw [61] (fun i wr => ∃ k : Nat, k ≤ na ∧ i = .int .i64 k ∧ EqTo A1 A2 k ∧ SmR w wr #[.int .i64 (k1 : Nat), .slice pa na ca, .slice pt nt ct, .int .u64 (hi1 : Nat), .int .u64 (lo1 : Nat), .int .i64 (fr1 : Nat), .int .i64 (to1 : Nat), .int .i64 (lim1 : Nat)] #[.int .i64 (k1 : Nat), .slice pa' na ca', .slice pt' nt ct', .int .u64 (hi1 : Nat), .int .u64 (lo1 : Nat), .int .i64 (fr1 : Nat), .int .i64 (to1 : Nat), .int .i64 (lim1 : Nat)]) (fun i _ => na - (intOf i).toNat)
  case atStart => exact ⟨0, Nat.zero_le _, rfl, fun j hj => absurd hj (by omega), (Row.new _ _ _ rfl).alloc _, Row.new _ _ _ (by simp), below2 _ _ _⟩
  case round =>
    obtain ⟨k, hk, rfl, hE, hR⟩ := hrel
    by_cases hlt : k < na
    · have hl1 : k < A1.length := by have := HA.out; omega
      have hl2 : k < A2.length := by have := HA'.out; omega
      obtain ⟨a, hka⟩ : ∃ a, A1[k]? = some a := ⟨A1[k], List.getElem?_eq_getElem hl1⟩
      obtain ⟨a', hka'⟩ : ∃ a, A2[k]? = some a := ⟨A2[k], List.getElem?_eq_getElem hl2⟩
      obtain ⟨g, rfl, hgl, hr0⟩ := rows_range' (fun a : Ac => a.cells.toList) 46 (fun _ => rfl) ha k a hka
      obtain ⟨g', rfl, hgl', hr0'⟩ := rows_range' (fun a : Ac => a.cells.toList) 46 (fun _ => rfl) ha' k a' hka'
      have hr := range_later hr0 hR.bel hgl
      have hr' := range_later hr0' hR.bel hgl'
      have cA : wr.cell? ⟨w.heap.size, 1, none⟩ = some (.slice (some ⟨g, 0, none⟩) na ca) := hR.a.cell 1
      have cB : wr.cell? ⟨w.heap.size + 1, 1, none⟩ = some (.slice (some ⟨g', 0, none⟩) na ca') := hR.b.cell 1
      obtain ⟨r, hrr, hri⟩ := ac_eqIn a a'
      have k0 : (0 : Int) ≤ (k : Int) := by omega
      have k1 : (k : Int) < (na : Int) := by omega
      clear ha ha' hr0 hr0'
      go_wp2_with fail
      refine wp_region_D (fun _ => true) (fun w' : World => w'.cell? ⟨w.heap.size, 1, none⟩ = some (.slice (some ⟨g, 0, none⟩) na ca) ∧ w'.cell? ⟨w.heap.size + 1, 1, none⟩ = some (.slice (some ⟨g', 0, none⟩) na ca') ∧ w'.rangeAt g (k * 46) a.cells.toList ∧ w'.rangeAt g' (k * 46) a'.cells.toList) (by kernel_rfl) ?_
      have hS : (fun w' : World => w'.cell? ⟨w.heap.size, 1, none⟩ = some (.slice (some ⟨g, 0, none⟩) na ca) ∧ w'.cell? ⟨w.heap.size + 1, 1, none⟩ = some (.slice (some ⟨g', 0, none⟩) na ca') ∧ w'.rangeAt g (k * 46) a.cells.toList ∧ w'.rangeAt g' (k * 46) a'.cells.toList) wr.drew := ⟨cA, cB, hr, hr'⟩
      refine' wpAnyD_take (i := 0) (v := _) rfl (by kernel_rfl) (by kernel_rfl) (by kernel_rfl) (by kernel_rfl) (fun _ _ _ h => h) (Or.inl ⟨by rfl, ?hy1⟩) hS ?re1
      case hy1 => (intro w hSw; (try dsimp only at hSw); go_simp; (try with_reducible rfl))
      simp only [Act.put, List.setIfInBounds_toArray, List.set_cons_zero, List.set_cons_succ]
      refine' wpAnyD_take (i := 1) (v := _) rfl (by kernel_rfl) (by kernel_rfl) (by kernel_rfl) (by kernel_rfl) (fun _ _ _ h => h) (Or.inl ⟨by rfl, ?hy2⟩) hS ?re2
      case hy2 => (intro w hSw; (try dsimp only at hSw); go_simp; (try with_reducible rfl))
      simp only [Act.put, List.setIfInBounds_toArray, List.set_cons_zero, List.set_cons_succ]
      refine' wpAnyD_take (i := 2) (v := _) rfl (by kernel_rfl) (by kernel_rfl) (by kernel_rfl) (by kernel_rfl) (fun _ _ _ h => h) (Or.inl ⟨by rfl, ?hy3⟩) hS ?re3
      case hy3 => (intro w hSw; (try dsimp only at hSw); go_simp; (try with_reducible rfl))
      simp only [Act.put, List.setIfInBounds_toArray, List.set_cons_zero, List.set_cons_succ]
      refine' wpAnyD_take (i := 3) (v := _) rfl (by kernel_rfl) (by kernel_rfl) (by kernel_rfl) (by kernel_rfl) (fun _ _ _ h => h) (Or.inl ⟨by rfl, ?hy4⟩) hS ?re4
      case hy4 => (intro w hSw; (try dsimp only at hSw); go_simp; (try with_reducible rfl))
      simp only [Act.put, List.setIfInBounds_toArray, List.set_cons_zero, List.set_cons_succ]
      refine wpAnyD_take (i := 4) rfl (by kernel_rfl) (by kernel_rfl) (by kernel_rfl) (by kernel_rfl) (fun _ _ _ h => h) (yieldsIf_load_mid (by rfl) 42 _ rfl g (k * 46) rfl a.cells.toList _ (fun _ h => h.2.2.1) Try.underlying42 rfl info_acc) hS ?_
      simp only [Act.put, List.setIfInBounds_toArray, List.set_cons_zero, List.set_cons_succ]
      refine' wpAnyD_take (i := 5) (v := _) rfl (by kernel_rfl) (by kernel_rfl) (by kernel_rfl) (by kernel_rfl) (fun _ _ _ h => h) (Or.inl ⟨by rfl, ?hy5⟩) hS ?re5
      case hy5 => (intro w hSw; (try dsimp only at hSw); go_simp; (try with_reducible rfl))
      simp only [Act.put, List.setIfInBounds_toArray, List.set_cons_zero, List.set_cons_succ]
      refine' wpAnyD_take (i := 6) (v := _) rfl (by kernel_rfl) (by kernel_rfl) (by kernel_rfl) (by kernel_rfl) (fun _ _ _ h => h) (Or.inl ⟨by rfl, ?hy6⟩) hS ?re6
      case hy6 => (intro w hSw; (try dsimp only at hSw); go_simp; (try with_reducible rfl))
      simp only [Act.put, List.setIfInBounds_toArray, List.set_cons_zero, List.set_cons_succ]
      refine' wpAnyD_take (i := 7) (v := _) rfl (by kernel_rfl) (by kernel_rfl) (by kernel_rfl) (by kernel_rfl) (fun _ _ _ h => h) (Or.inl ⟨by rfl, ?hy7⟩) hS ?re7
      case hy7 => (intro w hSw; (try dsimp only at hSw); go_simp; (try with_reducible rfl))
      simp only [Act.put, List.setIfInBounds_toArray, List.set_cons_zero, List.set_cons_succ]
      refine' wpAnyD_take (i := 8) (v := _) rfl (by kernel_rfl) (by kernel_rfl) (by kernel_rfl) (by kernel_rfl) (fun _ _ _ h => h) (Or.inl ⟨by rfl, ?hy8⟩) hS ?re8
      case hy8 => (intro w hSw; (try dsimp only at hSw); go_simp; (try with_reducible rfl))
      simp only [Act.put, List.setIfInBounds_toArray, List.set_cons_zero, List.set_cons_succ]
      refine wpAnyD_take (i := 9) rfl (by kernel_rfl) (by kernel_rfl) (by kernel_rfl) (by kernel_rfl) (fun _ _ _ h => h) (yieldsIf_load_mid (by rfl) 42 _ rfl g' (k * 46) rfl a'.cells.toList _ (fun _ h => h.2.2.2) Try.underlying42 rfl info_acc) hS ?_
      simp only [Act.put, List.setIfInBounds_toArray, List.set_cons_zero, List.set_cons_succ]
      refine wpAnyD_take (i := 10) rfl (by kernel_rfl) (by kernel_rfl) (by kernel_rfl) (by kernel_rfl) (fun _ _ _ h => h) (yields_neq (by rfl) 42 42 _ _ rfl a.cells a'.cells rfl rfl r hrr (by kernel_rfl)) hS ?_
      simp only [Act.put, List.setIfInBounds_toArray, List.set_cons_zero, List.set_cons_succ]
      refine wpAnyD_done (by kernel_rfl) ?_ _
      have hR2 : SmR w wr.drew _ _ := ⟨hR.a, hR.b, hR.bel.drew⟩
      clear hS cA cB hr hr' hR hrr
      cases r with
      | true =>
        have haa : a = a' := hri.1 rfl
        clear hri
        go_wp2
        go_roundw
        case rel =>
          exact ⟨k + 1, by omega, by go_num, fun j hj => (by
        rcases Nat.lt_succ_iff_lt_or_eq.1 hj with hj | rfl
        · exact hE j hj
        · rw [hka, hka', haa]), hR2⟩
        case measure => simp [intOf]; omega
      | false =>
        have haa : a ≠ a' := fun e => by have := hri.2 e; cases this
        clear hri
        go_wp2
        go_ret
        refine ⟨false, rfl, ⟨fun h => (by cases h), fun e => ?_⟩, hR2.bel⟩
        obtain ⟨x1, x2, x3, x4, x5, x6, x7, x8⟩ := Rq.mk.inj e
        have e2 : some a = some a' := by rw [← hka, ← hka', x2]
        exact absurd (Option.some.inj e2) haa
    · have hEA : A1 = A2 := hE.all (by have := HA.out; omega) (by rw [← HA.out, ← HA'.out])
      have cT : wr.cell? ⟨w.heap.size, 2, none⟩ = some (.slice pt nt ct) := hR.a.cell 2
      clear hE ha ha'
      go_wp2
      clear cT
      go_loopw [79] (fun i wr => ∃ k : Nat, k ≤ nt ∧ i = .int .i64 k ∧ EqTo T1 T2 k ∧ SmR w wr #[.int .i64 (k1 : Nat), .slice pa na ca, .slice pt nt ct, .int .u64 (hi1 : Nat), .int .u64 (lo1 : Nat), .int .i64 (fr1 : Nat), .int .i64 (to1 : Nat), .int .i64 (lim1 : Nat)] #[.int .i64 (k1 : Nat), .slice pa' na ca', .slice pt' nt ct', .int .u64 (hi1 : Nat), .int .u64 (lo1 : Nat), .int .i64 (fr1 : Nat), .int .i64 (to1 : Nat), .int .i64 (lim1 : Nat)]) (fun i _ => nt - (intOf i).toNat)
      case atStart => exact ⟨0, Nat.zero_le _, rfl, fun j hj => absurd hj (by omega), hR⟩
      case round =>
        clear hR
        obtain ⟨k, hk, rfl, hE, hR⟩ := hrel
        by_cases hlt : k < nt
        · have hl1 : k < T1.length := by have := HT.out; omega
          have hl2 : k < T2.length := by have := HT'.out; omega
          obtain ⟨a, hka⟩ : ∃ a, T1[k]? = some a := ⟨T1[k], List.getElem?_eq_getElem hl1⟩
          obtain ⟨a', hka'⟩ : ∃ a, T2[k]? = some a := ⟨T2[k], List.getElem?_eq_getElem hl2⟩
          obtain ⟨g, rfl, hgl, hr0⟩ := rows_range' (fun a : Tr => a.cells.toList) 16 (fun _ => rfl) ht k a hka
          obtain ⟨g', rfl, hgl', hr0'⟩ := rows_range' (fun a : Tr => a.cells.toList) 16 (fun _ => rfl) ht' k a' hka'
          have hr := range_later hr0 hR.bel hgl
          have hr' := range_later hr0' hR.bel hgl'
          have cA : wr.cell? ⟨w.heap.size, 2, none⟩ = some (.slice (some ⟨g, 0, none⟩) nt ct) := hR.a.cell 2
          have cB : wr.cell? ⟨w.heap.size + 1, 2, none⟩ = some (.slice (some ⟨g', 0, none⟩) nt ct') := hR.b.cell 2
          obtain ⟨r, hrr, hri⟩ := tr_eqIn a a'
          have k0 : (0 : Int) ≤ (k : Int) := by omega
          have k1 : (k : Int) < (nt : Int) := by omega
          clear ht ht' hr0 hr0'
          go_wp2_with fail
          refine wp_region_D (fun _ => true) (fun w' : World => w'.cell? ⟨w.heap.size, 2, none⟩ = some (.slice (some ⟨g, 0, none⟩) nt ct) ∧ w'.cell? ⟨w.heap.size + 1, 2, none⟩ = some (.slice (some ⟨g', 0, none⟩) nt ct') ∧ w'.rangeAt g (k * 16) a.cells.toList ∧ w'.rangeAt g' (k * 16) a'.cells.toList) (by kernel_rfl) ?_
          have hS : (fun w' : World => w'.cell? ⟨w.heap.size, 2, none⟩ = some (.slice (some ⟨g, 0, none⟩) nt ct) ∧ w'.cell? ⟨w.heap.size + 1, 2, none⟩ = some (.slice (some ⟨g', 0, none⟩) nt ct') ∧ w'.rangeAt g (k * 16) a.cells.toList ∧ w'.rangeAt g' (k * 16) a'.cells.toList) wr.drew := ⟨cA, cB, hr, hr'⟩
          refine' wpAnyD_take (i := 0) (v := _) rfl (by kernel_rfl) (by kernel_rfl) (by kernel_rfl) (by kernel_rfl) (fun _ _ _ h => h) (Or.inl ⟨by rfl, ?hy9⟩) hS ?re9
          case hy9 => (intro w hSw; (try dsimp only at hSw); go_simp; (try with_reducible rfl))
          simp only [Act.put, List.setIfInBounds_toArray, List.set_cons_zero, List.set_cons_succ]
          refine' wpAnyD_take (i := 1) (v := _) rfl (by kernel_rfl) (by kernel_rfl) (by kernel_rfl) (by kernel_rfl) (fun _ _ _ h => h) (Or.inl ⟨by rfl, ?hy10⟩) hS ?re10
          case hy10 => (intro w hSw; (try dsimp only at hSw); go_simp; (try with_reducible rfl))
          simp only [Act.put, List.setIfInBounds_toArray, List.set_cons_zero, List.set_cons_succ]
          refine' wpAnyD_take (i := 2) (v := _) rfl (by kernel_rfl) (by kernel_rfl) (by kernel_rfl) (by kernel_rfl) (fun _ _ _ h => h) (Or.inl ⟨by rfl, ?hy11⟩) hS ?re11
          case hy11 => (intro w hSw; (try dsimp only at hSw); go_simp; (try with_reducible rfl))
          simp only [Act.put, List.setIfInBounds_toArray, List.set_cons_zero, List.set_cons_succ]
          refine' wpAnyD_take (i := 3) (v := _) rfl (by kernel_rfl) (by kernel_rfl) (by kernel_rfl) (by kernel_rfl) (fun _ _ _ h => h) (Or.inl ⟨by rfl, ?hy12⟩) hS ?re12
          case hy12 => (intro w hSw; (try dsimp only at hSw); go_simp; (try with_reducible rfl))
          simp only [Act.put, List.setIfInBounds_toArray, List.set_cons_zero, List.set_cons_succ]
          refine wpAnyD_take (i := 4) rfl (by kernel_rfl) (by kernel_rfl) (by kernel_rfl) (by kernel_rfl) (fun _ _ _ h => h) (yieldsIf_load_mid (by rfl) 71 _ rfl g (k * 16) rfl a.cells.toList _ (fun _ h => h.2.2.1) Try.underlying71 rfl info_tr) hS ?_
          simp only [Act.put, List.setIfInBounds_toArray, List.set_cons_zero, List.set_cons_succ]
          refine' wpAnyD_take (i := 5) (v := _) rfl (by kernel_rfl) (by kernel_rfl) (by kernel_rfl) (by kernel_rfl) (fun _ _ _ h => h) (Or.inl ⟨by rfl, ?hy13⟩) hS ?re13
          case hy13 => (intro w hSw; (try dsimp only at hSw); go_simp; (try with_reducible rfl))
          simp only [Act.put, List.setIfInBounds_toArray, List.set_cons_zero, List.set_cons_succ]
          refine' wpAnyD_take (i := 6) (v := _) rfl (by kernel_rfl) (by kernel_rfl) (by kernel_rfl) (by kernel_rfl) (fun _ _ _ h => h) (Or.inl ⟨by rfl, ?hy14⟩) hS ?re14
          case hy14 => (intro w hSw; (try dsimp only at hSw); go_simp; (try with_reducible rfl))
          simp only [Act.put, List.setIfInBounds_toArray, List.set_cons_zero, List.set_cons_succ]
          refine' wpAnyD_take (i := 7) (v := _) rfl (by kernel_rfl) (by kernel_rfl) (by kernel_rfl) (by kernel_rfl) (fun _ _ _ h => h) (Or.inl ⟨by rfl, ?hy15⟩) hS ?re15
          case hy15 => (intro w hSw; (try dsimp only at hSw); go_simp; (try with_reducible rfl))
          simp only [Act.put, List.setIfInBounds_toArray, List.set_cons_zero, List.set_cons_succ]
          refine' wpAnyD_take (i := 8) (v := _) rfl (by kernel_rfl) (by kernel_rfl) (by kernel_rfl) (by kernel_rfl) (fun _ _ _ h => h) (Or.inl ⟨by rfl, ?hy16⟩) hS ?re16
          case hy16 => (intro w hSw; (try dsimp only at hSw); go_simp; (try with_reducible rfl))
          simp only [Act.put, List.setIfInBounds_toArray, List.set_cons_zero, List.set_cons_succ]
          refine wpAnyD_take (i := 9) rfl (by kernel_rfl) (by kernel_rfl) (by kernel_rfl) (by kernel_rfl) (fun _ _ _ h => h) (yieldsIf_load_mid (by rfl) 71 _ rfl g' (k * 16) rfl a'.cells.toList _ (fun _ h => h.2.2.2) Try.underlying71 rfl info_tr) hS ?_
          simp only [Act.put, List.setIfInBounds_toArray, List.set_cons_zero, List.set_cons_succ]
          refine wpAnyD_take (i := 10) rfl (by kernel_rfl) (by kernel_rfl) (by kernel_rfl) (by kernel_rfl) (fun _ _ _ h => h) (yields_neq (by rfl) 71 71 _ _ rfl a.cells a'.cells rfl rfl r hrr (by kernel_rfl)) hS ?_
          simp only [Act.put, List.setIfInBounds_toArray, List.set_cons_zero, List.set_cons_succ]
          refine wpAnyD_done (by kernel_rfl) ?_ _
          have hR2 : SmR w wr.drew _ _ := ⟨hR.a, hR.b, hR.bel.drew⟩
          clear hS cA cB hr hr' hR hrr
          cases r with
          | true =>
            have haa : a = a' := hri.1 rfl
            clear hri
            go_wp2
            go_roundw
            case rel =>
              exact ⟨k + 1, by omega, by go_num, fun j hj => (by
        rcases Nat.lt_succ_iff_lt_or_eq.1 hj with hj | rfl
        · exact hE j hj
        · rw [hka, hka', haa]), hR2⟩
            case measure => simp [intOf]; omega
          | false =>
            have haa : a ≠ a' := fun e => by have := hri.2 e; cases this
            clear hri
            go_wp2
            go_ret
            refine ⟨false, rfl, ⟨fun h => (by cases h), fun e => ?_⟩, hR2.bel⟩
            obtain ⟨x1, x2, x3, x4, x5, x6, x7, x8⟩ := Rq.mk.inj e
            have e2 : some a = some a' := by rw [← hka, ← hka', x3]
            exact absurd (Option.some.inj e2) haa
        · have hET : T1 = T2 := hE.all (by have := HT.out; omega) (by rw [← HT.out, ← HT'.out])
          go_wp2
          go_ret
          exact ⟨true, rfl, ⟨fun _ => by rw [hEA, hET], fun _ => rfl⟩, hR.bel⟩
end Go.Proofs.Ytiiaceeaffdmpaa
