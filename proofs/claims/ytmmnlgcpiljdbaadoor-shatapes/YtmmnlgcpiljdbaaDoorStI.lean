
/-
  In a round: a region that draws its order, gone through by states.
-/
import Derived.Test.YtmmnlgcpiljdbaaDoorStJ
import Derived.OrdersIn
namespace Go.Proofs.YtmmnlgcpiljdbaaDoor
set_option linter.unusedVariables false
set_option linter.unusedSimpArgs false
open Go.RowKit
section
variable {F : Fence} {n : Nat} {P : Program} {md : Region.Mode} {ops : Array Oper} {Q : Exit → Act → World → Prop}
theorem wpAnyIn_states (J : Array Bool → Act → World → Prop) 
    (hdone : ∀ listed a w, J listed a w → Region.ready md ops listed = [] → Q .normal a w)
    (hstep : ∀ listed a w i, J listed a w → i ∈ Region.ready md ops listed → wpOpIn F n P ops Q i (fun a' w' => J (listed.setIfInBounds i true) a' w') a w) :
    ∀ (fuel : Nat) (listed : Array Bool) (a : Act) (w : World), listed.toList.count false ≤ fuel → J listed a w → wpAnyIn F n P md ops Q fuel listed a w := by
  have hmem : ∀ (listed : Array Bool) i, i ∈ Region.ready md ops listed → ∃ h : i < listed.toList.length, listed.toList[i] = false := by
    intro listed i hi
    have h0 := (mem_ready.1 hi).1
    rcases Nat.lt_or_ge i listed.size with h' | h'
    · exact ⟨by simpa using h', by simpa [h'] using h0⟩
    · simp [Array.getElem?_eq_none h'] at h0
  intro fuel
  induction fuel with
  | zero =>
    intro listed a w hc hJ
    have hr : Region.ready md ops listed = [] := by
      cases hr : Region.ready md ops listed with
      | nil => rfl
      | cons i is =>
        obtain ⟨h1, h2⟩ := hmem listed i (by rw [hr]; simp)
        have : 0 < listed.toList.count false := List.count_pos_iff.2 (h2 ▸ List.getElem_mem h1)
        omega
    exact ⟨hr, hdone _ _ _ hJ hr⟩
  | succ fuel ih =>
    intro listed a w hc hJ
    refine ⟨fun hr => hdone _ _ _ hJ hr, fun i hi => ?_⟩
    obtain ⟨h1, h2⟩ := hmem listed i hi
    have hcnt : (listed.setIfInBounds i true).toList.count false ≤ fuel := by
      have hp : 0 < listed.toList.count false := List.count_pos_iff.2 (h2 ▸ List.getElem_mem h1)
      rw [Array.toList_setIfInBounds, List.count_set h1, h2]
      generalize listed.toList.count false = n at *
      have e1 : (if (false == false) = true then 1 else 0) = 1 := rfl
      have e2 : (if (true == false) = true then 1 else 0) = 0 := rfl
      rw [e1, e2]
      omega
    exact wpOpIn_mono (fun a' w' h' => ih _ a' w' hcnt h') (hstep _ _ _ i hJ hi)
theorem wpIn_region_st {id : Nat} {a : Act} {w : World} (hm : P.follows .mixedOrders = true) (hb : backB ops = true) (J : (Nat → Bool) → Act → World → Prop)
    (h0 : J (fun _ => false) a w.drew) (hdone : ∀ b a w, (∀ k, k < ops.size → b k = true) → J b a w → Q .normal a w)
    (hstep : ∀ b a w i oi, i < ops.size → ops[i]? = some oi → b i = false → (∀ e ∈ oi.after, Region.binds .any e = true → b e.on = true) → J b a w → wpOpIn F n P ops Q i (fun a' w' => J (onb b i) a' w') a w) :
    (Code.region id ops true).wpIn F n P Q a w := by
  refine wpIn_region_any hm ?_
  refine wpAnyIn_states (fun listed a w => ∃ b : Nat → Bool, (listed.size = ops.size ∧ ∀ k, k < ops.size → listed[k]? = some (b k)) ∧ J b a w) ?_ ?_ _ _ _ _ (by simp) ⟨fun _ => false, ⟨by simp, fun k hk => by simp [hk]⟩, h0⟩
  · rintro listed a w ⟨b, ⟨hs, hl⟩, hJ⟩ hr
    refine hdone b a w ?_ hJ
    have : ∀ nn k, k ≤ nn → k < ops.size → b k = true := by
      intro nn
      induction nn with
      | zero =>
        intro k hk hlt
        obtain rfl : k = 0 := by omega
        cases hbk : b 0 with
        | true => rfl
        | false =>
          have hl0 := hl 0 hlt
          rw [hbk] at hl0
          have : 0 ∈ Region.ready .any ops listed := mem_ready.2 ⟨by simp [Array.getD_eq_getD_getElem?, hl0], ops[0], by simp, fun e he _ => by have := backB_spec hb (i := 0) (o := ops[0]) (by simp) he; omega⟩
          rw [hr] at this
          cases this
      | succ nn ih =>
        intro k hk hlt
        rcases Nat.lt_or_ge k (nn + 1) with h | h
        · exact ih k (by omega) hlt
        · obtain rfl : k = nn + 1 := by omega
          cases hbk : b (nn + 1) with
          | true => rfl
          | false =>
            have hl0 := hl (nn + 1) hlt
            rw [hbk] at hl0
            have : nn + 1 ∈ Region.ready .any ops listed := mem_ready.2 ⟨by simp [Array.getD_eq_getD_getElem?, hl0], ops[nn + 1], by simp, fun e he _ => by
              have h1 := backB_spec hb (i := nn + 1) (o := ops[nn + 1]) (by simp) he
              have h2 := hl e.on (by omega)
              rw [ih e.on (by omega) (by omega)] at h2
              simp [Array.getD_eq_getD_getElem?, h2]⟩
            rw [hr] at this
            cases this
    exact fun k hk => this k k (Nat.le_refl _) hk
  · rintro listed a w i ⟨b, ⟨hs, hl⟩, hJ⟩ hi
    obtain ⟨h1, oi, hoi, h2⟩ := mem_ready.1 hi
    have hlt := (Array.getElem?_eq_some_iff.1 hoi).1
    have hbi : b i = false := by
      have := hl i hlt
      simpa [Array.getD_eq_getD_getElem?, this] using h1
    refine wpOpIn_mono (fun a' w' h' => ?_) (hstep b a w i oi hlt hoi hbi (fun e he hbd => by
      have h3 := h2 e he hbd
      have h4 := hl e.on (by have := backB_spec hb hoi he; omega)
      simpa [Array.getD_eq_getD_getElem?, h4] using h3) hJ)
    refine ⟨onb b i, ⟨by simpa using hs, fun k hk => ?_⟩, h'⟩
    by_cases e : i = k
    · subst e
      rw [onb_self]
      simp [hs, hlt]
    · rw [onb_ne b (fun h => e h.symm), Array.getElem?_setIfInBounds, if_neg e, hl k hk]
theorem wpOpIn_val {i : Nat} {oi : Oper} {v : Value} {K : Act → World → Prop} {a : Act} {w : World} (hi : ops[i]? = some oi) (hw : Region.wanted oi (yielded ops a.tmps) = true) (hF : ∀ f, F.fn f) (hd : ∀ c, oi.op ≠ .defer c)
    (hrun : (execOp a.eval oi).run P w = .ok (.value v) w) (h : K (a.put oi.dst v) w) : wpOpIn F n P ops Q i K a w := by
  unfold wpOpIn
  rw [hi]
  simp only [hw, if_true]
  refine ⟨fun f _ => hF f, ?_⟩
  rw [Oper.semAt_eq _ _ _ hd, hrun]
  exact h
theorem wpOpIn_no {i : Nat} {oi : Oper} {K : Act → World → Prop} {a : Act} {w : World} (hi : ops[i]? = some oi) (hw : Region.wanted oi (yielded ops a.tmps) = false) (hF : ∀ f, F.fn f) (h : K (a.put oi.dst undef) w) : wpOpIn F n P ops Q i K a w := by
  unfold wpOpIn
  rw [hi]
  simp only [hw]
  exact ⟨fun f _ => hF f, h⟩
end
end Go.Proofs.YtmmnlgcpiljdbaaDoor
