
/-
  Package rows: Path; Root and Leaf with no tape.
-/
import Derived.Test.YtcahmldgkkcheaaDoorRoK
import Derived.Test.YtcahmldgkkcheaaDoorHiO
import Derived.Test.YtcahmldgkkcheaaDoorHiL
set_option maxRecDepth 100000
namespace Go.Proofs.YtcahmldgkkcheaaDoor
open Go.RowKit
set_option linter.unusedVariables false
set_option linter.unusedSimpArgs false

theorem rleaf_nil (r : Rc) (hr : Tame r) (w : World) (ht : Tab w) : Calls Tryd.prog 15 #[.pointer none, .agg r.cs] w fun e w' => e = .returned (.agg (bytesL (hsh (msgL (rowBy r))))) ∧ Below w.heap.size w w' :=
  (rleaf_any r hr w.heap.size (.pointer none) [] w ht ht.pos (Nat.le_refl _) (TpAt.nil _ _ _) (by simp)).mono fun e w' ⟨h1, _, h3⟩ => ⟨h1, TStep.below (Below.refl _ _) h3⟩
theorem rroot_nil (bx b : Nat) (L : List Rc) (w : World) (h : LsAt w bx b L) (hl : L.length ≤ 40) (hT : ∀ a ∈ L, Tame a) (ht : Tab w) : Calls Tryd.prog 14 #[.pointer (some ⟨b, 0, none⟩), .pointer none] w fun e w' => e = .returned (.agg (bytesL (rootL (leafs (L.map rowBy))))) ∧ Below w.heap.size w w' :=
  (rroot_any bx b L w.heap.size (.pointer none) [] w h hl hT ht ht.pos (Nat.le_refl _) (TpAt.nil _ _ _) (by simp)).mono fun e w' ⟨h1, _, h3⟩ => ⟨h1, TStep.below (Below.refl _ _) h3⟩
set_option maxHeartbeats 2000000 in
theorem rpath_any (bx b : Nat) (L : List Rc) (i : Nat) (w : World) (hi : i < L.length) (h : LsAt w bx b L) (hl : L.length ≤ 40) (hT : ∀ a ∈ L, Tame a) (ht : Tab w) :
    Calls Tryd.prog 19 #[.pointer (some ⟨b, 0, none⟩), .int .i64 (i : Nat)] w fun e w' => ∃ u, e = .returned u ∧ OwnH w' w.heap.size u (pathL i false (leafs (L.map rowBy)).length (leafs (L.map rowBy))) ∧ Below w.heap.size w w' := by
  have HLS : Hid (LsAt w bx b L) := h
  have HL4 : Hid (L.length ≤ 40) := hl
  have HTT : Hid (∀ a ∈ L, Tame a) := hT
  have HTB : Hid (Tab w) := ht
  have HI : Hid (i < (leafs (L.map rowBy)).length) := by rw [leafs_len, List.length_map]; exact hi
  have HL6 : Hid ((leafs (L.map rowBy)).length ≤ 64) := by rw [leafs_len, List.length_map]; show _ ≤ _; omega
  clear h hl hT ht hi
  go_enter Tryd.func19, Tryd.ntmps19
  go_wp2_with (go_at_call 25; refine stop ?_)
  refine (rleaves_any bx b L w.heap.size (.pointer none) [] w HLS.out HL4.out HTT.out HTB.out HTB.out.pos (Nat.le_refl _) (TpAt.nil _ _ _) (by simp)).mono ?_
  rintro e w2 ⟨u, rfl, hu, _, hs2⟩
  have HHS : Hid (HsAt w2 u (leafs (L.map rowBy))) := hu.hs (leafs_ok _)
  obtain ⟨pu, nu, cu, rfl, hnu⟩ := ownsRowN_form hu
  have B2 : Hid (Below w.heap.size w w2) := TStep.below (Below.refl _ _) hs2
  clear hu hs2 hnu
  go_wp2_with (go_at_call 32; refine stop ?_)
  refine (path_any i _ (leafs (L.map rowBy)) w2 HI.out HL6.out HHS.out (HTB.out.later B2.out)).mono ?_
  rintro e w3 ⟨q, rfl, hq, hb3⟩
  have hq2 := hq.base B2.out.size
  have B3 := B2.out.trans (hb3.mono B2.out.size)
  obtain ⟨pq, nq, cq, rfl, hnq⟩ := ownsRowN_form hq2
  clear hq hb3 hnq
  go_wp2
  go_ret
  exact ⟨_, rfl, hq2, B3⟩
end Go.Proofs.YtcahmldgkkcheaaDoor
