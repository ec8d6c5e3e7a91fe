
/-
  A region that draws its order, gone through by what holds at each state of it (which operations have come up), not order by order.
-/
import Derived.Test.YtmmnlgcpiljdbaaDoorHeld
import Derived.Orders
namespace Go.Proofs.YtmmnlgcpiljdbaaDoor
section
variable {P : Program} {md : Region.Mode} {ops : Array Oper} {Q : Exit → Act → World → Prop}
theorem wpAny_states (J : Array Bool → Act → World → Prop) 
    (hdone : ∀ listed a w, J listed a w → Region.ready md ops listed = [] → Q .normal a w)
    (hstep : ∀ listed a w i, J listed a w → i ∈ Region.ready md ops listed → wpOp P ops Q i (fun a' w' => J (listed.setIfInBounds i true) a' w') a w) :
    ∀ (fuel : Nat) (listed : Array Bool) (a : Act) (w : World), listed.toList.count false ≤ fuel → J listed a w → wpAny P md ops Q fuel listed a w := by
  have hmem : ∀ (listed : Array Bool) i, i ∈ Region.ready md ops listed → ∃ h : i < listed.toList.length, listed.toList[i] = false := by
    intro listed i hi
    have h0 := (mem_ready.1 hi).1
    rcases Nat.lt_or_ge i listed.size with h' | h'
    · exact ⟨by simpa using h', by simpa [h'] using h0⟩
    · simp [Array.getElem?_eq_none h'] at h0
  intro fuel
  induction fuel with
  | zero =>
    intro listed a w hc hJ
    have hr : Region.ready md ops listed = [] := by
      cases hr : Region.ready md ops listed with
      | nil => rfl
      | cons i is =>
        obtain ⟨h1, h2⟩ := hmem listed i (by rw [hr]; simp)
        have : 0 < listed.toList.count false := List.count_pos_iff.2 (h2 ▸ List.getElem_mem h1)
        omega
    exact ⟨hr, hdone _ _ _ hJ hr⟩
  | succ fuel ih =>
    intro listed a w hc hJ
    refine ⟨fun hr => hdone _ _ _ hJ hr, fun i hi => ?_⟩
    obtain ⟨h1, h2⟩ := hmem listed i hi
    have hcnt : (listed.setIfInBounds i true).toList.count false ≤ fuel := by
      have hp : 0 < listed.toList.count false := List.count_pos_iff.2 (h2 ▸ List.getElem_mem h1)
      rw [Array.toList_setIfInBounds, List.count_set h1, h2]
      generalize listed.toList.count false = n at *
      have e1 : (if (false == false) = true then 1 else 0) = 1 := rfl
      have e2 : (if (true == false) = true then 1 else 0) = 0 := rfl
      rw [e1, e2]
      omega
    exact wpOp_mono (fun a' w' h' => ih _ a' w' hcnt h') (hstep _ _ _ i hJ hi)
end
end Go.Proofs.YtmmnlgcpiljdbaaDoor
