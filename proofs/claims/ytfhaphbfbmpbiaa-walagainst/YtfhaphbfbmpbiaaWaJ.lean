
/-
  The anchor of layer 5's statements.
-/
import Derived.Test.YtfhaphbfbmpbiaaWaG
import Derived.Lib.SlBytesConst
namespace Go.Proofs.Ytfhaphbfbmpbiaa
open Go.RowKit
set_option maxRecDepth 100000
set_option linter.unusedVariables false
set_option linter.unusedSimpArgs false

theorem LogAt.at {w : World} {base : Nat} {u : Value} {L : List (List Nat)} (h : LogAt w base u L) {i : Nat} (hi : i < L.length) :
    ∃ g cap x, u = .slice (some ⟨g, 0, none⟩) L.length cap ∧ w.cell? ⟨g, i, none⟩ = some x ∧ BytesAt w x (L.getD i []) := by
  obtain ⟨⟨vs, h1, h2, h3⟩, h4⟩ := h
  obtain ⟨_, ⟨rfl, h0⟩ | ⟨g, cap, cur, rfl, hb, hg, h5, h6, h7, h8⟩⟩ := id h1
  · omega
  · have hm : L.getD i [] ∈ L := by simp only [List.getD]; rw [List.getElem?_eq_getElem hi]; exact List.getElem_mem _
    have hok := h4 _ hm
    refine ⟨g, cap, vs.getD i undef, rfl, ?_, (h3 i hi).bytes hok.1 (by have := hok.2; unfold maxLen; omega)⟩
    have hc := h1.cells (g := g) rfl i (vs.getD i undef) (by simp [List.getD, show i < vs.length by omega])
    rwa [Addr.add_lit, Nat.zero_add] at hc
theorem LogW.later {w0 w w' : World} {W R S : Nat} {v : Value} {d : Dk} {L : List (List Nat)} {e st : Nat} (h : LogW w0 w W R S v d L e st) (hb : Below w.heap.size w w') : LogW w0 w' W R S v d L e st :=
  ⟨h.mine.later hb, h.row.later hb, h.hW, h.st, h.lg⟩
theorem abc_at (w : World) : BytesAt (w.alloc (.cells #[Value.int IntKind.u8 97, Value.int IntKind.u8 98, Value.int IntKind.u8 99] 5 (3, 4))) (.slice (some ⟨w.heap.size, 0, none⟩) 3 3) [97, 98, 99] := by
  refine ⟨W8.of rfl, by simp [maxLen], _, _, rfl, fun i hi => ⟨w.heap.size, 0, rfl, ?_, ?_⟩⟩
  · have := heap_alloc_new w (.cells #[Value.int IntKind.u8 97, Value.int IntKind.u8 98, Value.int IntKind.u8 99] 5 (3, 4))
    exact (Array.getElem?_eq_some_iff.1 this).1
  · have hi3 : i < 3 := hi
    rw [Nat.zero_add, cell_of_row _ w.heap.size i _ _ _ (heap_alloc_new w _)]
    rcases i with _ | _ | _ | i
    · rfl
    · rfl
    · rfl
    · omega
set_option maxHeartbeats 2000000 in
theorem fit5_any (w : World) : Calls Try.prog 10 #[] w fun e w' => e = .returned (.bool true) ∧ Below w.heap.size w w' := by
  have kc := fun (w : World) (C : Array Value) (n c : Nat) => Lib.run_convert_bytes_const (P := Try.prog) w 31 5 C n c Try.underlying31 Try.underlying5
  go_enter Try.func10, Try.ntmps10
  go_wp2_with (go_at_call 11; refine stop ?_)
  refine (new_any 8 (by decide) (by decide) w).mono ?_
  rintro e w1 ⟨R, S, rfl, hd, hb, hR, hS⟩
  have m1 := Mine.new (Below.refl _ w) hd hb hR hS
  clear hd hb hR hS
  go_wp2_with (go_at_call 12; refine stop ?_)
  refine (open_lg w w1 R S _ _ [] 0 m1 (Lg.new 8) rfl (by decide)).mono ?_
  rintro e w2 ⟨W, u2, v2, st2, rfl, lw2, hW2, hL2, _⟩
  obtain ⟨pu, nu, cu, rfl, hnu⟩ := hL2.form
  have hnu0 : nu = 0 := hnu
  subst hnu0
  clear m1 hL2 hnu
  have hst := lw2.st
  have HW2 := (show Hid _ from lw2)
  clear lw2 hst
  go_wp2_with (go_at_call 13; refine stop ?_)
  have hbA := below1 w2 (.cells #[Value.int IntKind.u8 97, Value.int IntKind.u8 98, Value.int IntKind.u8 99] 5 (3, 4))
  refine (append_lg w _ W R S v2 _ _ [] 0 st2 [97, 98, 99] (HW2.out.later hbA) (abc_at w2) (by decide) (by decide) rfl (by decide)).mono ?_
  rintro e w3 ⟨v3, d3, st3, rfl, lw3, _, hn3, hc3, ha3⟩
  have hc3' : d3.cnt < 1000000 := by rw [hc3]; decide
  have m3 := lw3.mine
  have lg3 := lw3.lg
  clear HW2 hbA lw3 hn3 hc3
  go_wp2_with (go_at_call 16; refine stop ?_)
  refine (crash_any 0 (by decide) (-1) 0 w3 R S v3 d3 m3.dk).mono ?_
  rintro e w4 ⟨rfl, hD4, hs4⟩
  have m4 := m3.step hD4 hs4
  have lg4 := lg3.calm (kept 0 (-1) 0)
  clear m3 hD4 hs4 lg3
  go_wp2_with (go_at_call 12; refine stop ?_)
  refine (open_lg w w4 R S _ _ _ _ m4 lg4 rfl hc3').mono ?_
  rintro e w5 ⟨W5, u5, v5, st5, rfl, lw5, _, hL5, _⟩
  have hB5 := lw5.mine.below
  obtain ⟨g, cap, x, hu5, hcx, hbx⟩ := hL5.at (i := 0) (by decide)
  subst hu5
  replace hbx : BytesAt w5 x [97, 98, 99] := hbx
  have hcs := conv_str hbx
  have hx8 := hbx.1
  obtain ⟨_, _, px, cx, rfl, _⟩ := hbx
  replace hcs : (convert 31 9 (.slice px 3 cx)).run Try.prog w5 = .ok (.string (strL [97, 98, 99])) w5 := hcs
  have hse : strL [97, 98, 99] = ⟨#[97, 98, 99]⟩ := by decide +kernel
  rw [hse] at hcs
  clear hse
  clear lw5 hL5 m4 lg4 hc3' ha3
  go_wp2_with (go_at_call 27; refine stop ?_)
  refine (rdnew_any _ [] w5 (BytesAt.nil _) (by decide)).mono ?_
  rintro e w6 ⟨R6, D6, rfl, _, _, rd6, hb6⟩
  have hB6 := hB5.trans (hb6.mono hB5.size)
  clear hcs hcx hB5
  go_wp2_with (go_at_call 28; refine stop ?_)
  refine (done_any w6 R6 D6 _ rd6).mono ?_
  rintro e w7 ⟨rfl, hw7⟩
  obtain rfl := hw7.symm
  clear hw7 rd6
  go_wp2
  go_ret
  exact ⟨rfl, hB6⟩
end Go.Proofs.Ytfhaphbfbmpbiaa
