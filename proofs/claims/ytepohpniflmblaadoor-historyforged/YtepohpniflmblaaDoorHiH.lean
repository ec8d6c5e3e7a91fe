
/-
  Leaves: of bytes, with no tape.
-/
import Derived.Test.YtepohpniflmblaaDoorHiG
namespace Go.Proofs.YtepohpniflmblaaDoor
open Go.RowKit
set_option maxRecDepth 100000
set_option linter.unusedVariables false
set_option linter.unusedSimpArgs false

noncomputable def leafs (L : List (List Nat)) : List (List Nat) := L.map fun b => hsh (msgL b)
theorem leafs_len (L : List (List Nat)) : (leafs L).length = L.length := by simp [leafs]
theorem leafs_ok (L : List (List Nat)) : ∀ l ∈ leafs L, H32 l := by
  intro l hl
  obtain ⟨b, _, rfl⟩ := List.mem_map.1 hl
  exact hsh_32 _
theorem leafs_succ {L : List (List Nat)} {k : Nat} (h : k < L.length) : leafs (L.take (k + 1)) = leafs (L.take k) ++ [hsh (msgL (L.getD k []))] := by
  unfold leafs
  rw [List.take_succ_eq_append_getElem h, List.map_append]
  simp [List.getD, h]
set_option maxHeartbeats 4000000 in
theorem leaves_any (v : Value) (L : List (List Nat)) (w : World) (hL : PartsAt w v L) (hli : Light L) (ht : Tab w) :
    Calls Tryd.prog 14 #[v] w fun e w' => ∃ u, e = .returned u ∧ OwnH w' w.heap.size u (leafs L) ∧ Below w.heap.size w w' := by
  obtain ⟨hlm, p, c, rfl, hc⟩ := id hL
  have HC := (show Hid _ from hc)
  have l0 : (0 : Int) ≤ (L.length : Int) := by omega
  have l1 : (L.length : Int) ≤ 40 := by have := hli.1; omega
  have HLI : Hid (Light L) := hli
  have HT : Hid (Tab w) := ht
  clear hL hc hlm hli ht
  have hR0 : OwnH w w.heap.size (.slice none 0 0) (leafs (L.take 0)) ∧ Below w.heap.size w w := ⟨OwnH.nil _ _, Below.refl _ _⟩
  go_enter Tryd.func14, Tryd.ntmps14
  go_wp2
  go_loopw [8, 3] (fun a b wr => ∃ (k : Nat) (u : Value), k ≤ L.length ∧ a = .int .i64 k ∧ b = u ∧ OwnH wr w.heap.size u (leafs (L.take k)) ∧ Below w.heap.size w wr) (fun a _ _ => L.length - (intOf a).toNat)
  case atStart => exact ⟨0, _, Nat.zero_le _, rfl, rfl, hR0⟩
  case round =>
    clear hR0
    obtain ⟨k, u, hk, rfl, rfl, hu, hbr⟩ := hrel
    obtain ⟨pu, nu, cu, rfl, hnu⟩ := ownsRowN_form hu
    have HNU := (show Hid _ from hnu)
    clear hnu
    have k0 : (0 : Int) ≤ (k : Int) := by omega
    by_cases hlt : k < L.length
    · have k1 : (k : Int) < (L.length : Int) := by omega
      obtain ⟨g, off, x, rfl, hbl, hcell, hx⟩ := HC.out k hlt
      have hcell2 := (hbr.cell (p := ⟨g, off + k, none⟩) hbl).trans hcell
      have hx2 := hx.later hbr
      have HSU := (show Hid _ from leafs_succ hlt)
      have HK : Hid (k < L.length) := hlt
      have hm : L.getD k [] ∈ L := by simp only [List.getD]; rw [List.getElem?_eq_getElem hlt]; exact List.getElem_mem _
      have HX : Hid ((L.getD k []).length ≤ 100) := HLI.out.2 _ hm
      clear hcell hx hlt hm hbl
      generalize L.getD k [] = l at *
      obtain ⟨_, _, px, cx, rfl, _⟩ := id hx2
      have HX2 : Hid (BytesAt wr (.slice px l.length cx) l) := hx2
      clear hx2
      go_wp2_with (go_at_call 20; refine stop ?_)
      refine (leaf_nil _ l wr HX2.out (by have := HX.out; omega) (HT.out.later hbr)).mono ?_
      rintro e w5 ⟨rfl, hb5⟩
      have h32 := hsh_32 (msgL l)
      have hcs : (bytesL (hsh (msgL l))).size = 32 := by rw [bytesL_size, h32.1]
      have hb5' := hbr.trans (hb5.mono hbr.size)
      have hu5 := hu.later hb5
      obtain ⟨v', w6, run6, own6, gr6⟩ := hu5.put h32 (by rw [leafs_len, List.length_take]; have := HLI.out.1; omega) hb5'.size _ rfl
      have hb6 : Below w.heap.size w w6 := below_grown (chainA hb5' _) (by have := hb5'.size; simp; omega) gr6 (fun j hj => (hu5.lt j hj).1)
      have hR : OwnH w6 w.heap.size v' (leafs (L.take (k + 1))) ∧ Below w.heap.size w w6 := ⟨by rw [HSU.out]; exact own6, hb6⟩
      obtain ⟨pv, nv, cv, rfl, hnv⟩ := ownsRowN_form own6
      clear own6 gr6 hb6 hu5 hb5' hb5 hnv h32 hu hcell2
      generalize bytesL (hsh (msgL l)) = ra at *
      go_wp2_with (at_builtin; refine stop ?_)
      unfold Stop
      rw [lay_all _ ra 32 hcs rfl]
      go_wp2_with (at_builtin; refine Lib.wpList_append_run _ rfl _ _ _ _ rfl _ _ rfl rfl _ _ run6 ?_)
      go_roundw
      case rel => exact ⟨k + 1, _, HK.out, by go_num, rfl, hR⟩
      case measure => simp [intOf]; have := HK.out; omega
    · obtain rfl : k = L.length := by omega
      rw [List.take_length] at hu
      go_wp2
      go_ret
      exact ⟨_, rfl, hu, hbr⟩
end Go.Proofs.YtepohpniflmblaaDoor
