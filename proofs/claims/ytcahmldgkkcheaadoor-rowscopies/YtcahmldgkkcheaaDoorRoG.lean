
/-
  Package rows: a row's bytes; Leaf, with a tape or none; the leaves of a list, its Root.
-/
import Derived.Test.YtcahmldgkkcheaaDoorRoF
import Derived.Test.YtcahmldgkkcheaaDoorWyAll
import Derived.Test.YtcahmldgkkcheaaDoorHiH
set_option maxRecDepth 100000
namespace Go.Proofs.YtcahmldgkkcheaaDoor
open Go.RowKit
set_option linter.unusedVariables false
set_option linter.unusedSimpArgs false

/-- A row's bytes. -/
def rowBy (r : Rc) : List Nat := W.rowB r.h0 r.l0 r.tm r.ev r.h1 r.l1 r.h2 r.l2 r.h3 r.l3 r.h4 r.l4 r.h5 r.l5
theorem rowBy_len (r : Rc) : (rowBy r).length = 104 := W.rowB_len ..
theorem rowBy_w8 (r : Rc) : W8 (rowBy r) :=
  (show W.W8 (rowBy r) from (W.numB_w8 _).append ((W.intB_w8 _ _).append ((W.intB_w8 _ _).append ((W.numB_w8 _).append ((W.numB_w8 _).append ((W.numB_w8 _).append ((W.numB_w8 _).append (W.numB_w8 _))))))))
/-- What is written whole. -/
structure Tame (r : Rc) : Prop where
  w0 : P64 r.h0 r.l0
  w1 : P64 r.h1 r.l1
  w2 : P64 r.h2 r.l2
  w3 : P64 r.h3 r.l3
  w4 : P64 r.h4 r.l4
  w5 : P64 r.h5 r.l5
  t0 : 0 ≤ r.tm
  t1 : r.tm ≤ 1000000
  e0 : 0 ≤ r.ev
  e1 : r.ev ≤ 255
theorem app_inj {α : Type} {a b c d : List α} {n : Nat} (h : a ++ b = c ++ d) (ha : a.length = n) (hc : c.length = n) : a = c ∧ b = d := List.append_inj h (by rw [ha, hc])
theorem enc_inj {n x y : Nat} (hx : x < 256 ^ n) (hy : y < 256 ^ n) (h : W.enc n x = W.enc n y) : x = y := by
  have := congrArg W.be h
  rwa [W.be_enc_lt hx, W.be_enc_lt hy] at this
theorem numB_inj {a b c d : Nat} (h1 : P64 a b) (h2 : P64 c d) (h : W.numB (a, b) = W.numB (c, d)) : a = c ∧ b = d := by
  obtain ⟨e1, e2⟩ := app_inj (n := 8) h (W.enc_len _ _) (W.enc_len _ _)
  exact ⟨enc_inj (n := 8) h1.1 h2.1 e1, enc_inj (n := 8) h1.2 h2.2 e2⟩
theorem intB_inj {n : Nat} {x y : Int} (hx0 : 0 ≤ x) (hx : x < 65536) (hy0 : 0 ≤ y) (hy : y < 65536) (hn : 65536 ≤ 256 ^ n) (h : W.intB n x = W.intB n y) : x = y := by
  have := enc_inj (n := n) (x := (x % 18446744073709551616).toNat) (y := (y % 18446744073709551616).toNat) (by omega) (by omega) h
  omega
theorem rowBy_inj {a b : Rc} (ha : Tame a) (hb : Tame b) (ta : a.tm < 65536) (tb : b.tm < 65536) (h : rowBy a = rowBy b) : a = b := by
  unfold rowBy W.rowB at h
  obtain ⟨e0, h⟩ := app_inj (n := 16) h (W.numB_len _) (W.numB_len _)
  obtain ⟨e1, h⟩ := app_inj (n := 6) h (W.intB_len _ _) (W.intB_len _ _)
  obtain ⟨e2, h⟩ := app_inj (n := 2) h (W.intB_len _ _) (W.intB_len _ _)
  obtain ⟨e3, h⟩ := app_inj (n := 16) h (W.numB_len _) (W.numB_len _)
  obtain ⟨e4, h⟩ := app_inj (n := 16) h (W.numB_len _) (W.numB_len _)
  obtain ⟨e5, h⟩ := app_inj (n := 16) h (W.numB_len _) (W.numB_len _)
  obtain ⟨e6, e7⟩ := app_inj (n := 16) h (W.numB_len _) (W.numB_len _)
  obtain ⟨f0, f1⟩ := numB_inj ha.w0 hb.w0 e0
  have f2 := intB_inj ha.t0 ta hb.t0 tb (by decide) e1
  have f3 := intB_inj (x := a.ev + 1) (y := b.ev + 1) (by have := ha.e0; omega) (by have := ha.e1; omega) (by have := hb.e0; omega) (by have := hb.e1; omega) (by decide) e2
  obtain ⟨f4, f5⟩ := numB_inj ha.w1 hb.w1 e3
  obtain ⟨f6, f7⟩ := numB_inj ha.w2 hb.w2 e4
  obtain ⟨f8, f9⟩ := numB_inj ha.w3 hb.w3 e5
  obtain ⟨g0, g1⟩ := numB_inj ha.w4 hb.w4 e6
  obtain ⟨g2, g3⟩ := numB_inj ha.w5 hb.w5 e7
  obtain ⟨a0, a1, a2, a3, a4, a5, a6, a7, a8, a9, b0, b1, b2, b3⟩ := a
  obtain ⟨c0, c1, c2, c3, c4, c5, c6, c7, c8, c9, d0, d1, d2, d3⟩ := b
  simp only at f0 f1 f2 f3 f4 f5 f6 f7 f8 f9 g0 g1 g2 g3
  have f3' : a3 = c3 := by omega
  subst f0 f1 f2 f3' f4 f5 f6 f7 f8 f9 g0 g1 g2 g3
  rfl
theorem rc_eq (a b : Rc) (w : World) : ∃ t : Bool, (Op.equalIn 10000 34 (.agg a.cs) (.agg b.cs)).run Tryd.prog w = .ok t w ∧ (t = true ↔ a = b) := by
  obtain ⟨a0, a1, a2, a3, a4, a5, a6, a7, a8, a9, b0, b1, b2, b3⟩ := a
  obtain ⟨c0, c1, c2, c3, c4, c5, c6, c7, c8, c9, d0, d1, d2, d3⟩ := b
  by_cases hab : (⟨a0, a1, a2, a3, a4, a5, a6, a7, a8, a9, b0, b1, b2, b3⟩ : Rc) = ⟨c0, c1, c2, c3, c4, c5, c6, c7, c8, c9, d0, d1, d2, d3⟩
  · refine ⟨true, ?_, by simp [hab]⟩
    obtain ⟨rfl, rfl, rfl, rfl, rfl, rfl, rfl, rfl, rfl, rfl, rfl, rfl, rfl, rfl⟩ := (Rc.mk.injEq ..).mp hab
    simp [go_sem, Rc.cs]
  · refine ⟨false, ?_, by simp only [Bool.false_eq_true, false_iff]; exact hab⟩
    simp [go_sem, Rc.cs]
    intro e0 e1 e2 e3 e4 e5 e6 e7 e8 e9 f0 f1 f2 f3
    apply hab
    simp only [Rc.mk.injEq]
    exact ⟨by omega, by omega, e2, e3, by omega, by omega, by omega, by omega, by omega, by omega, by omega, by omega, by omega, by omega⟩
set_option maxHeartbeats 2000000 in
theorem rleaf_any (r : Rc) (hr : Tame r) (base : Nat) (tv : Value) (N : List (List Nat)) (w : World) (ht : Tab w) (h0 : 0 < base) (hbw : base ≤ w.heap.size) (htp : TpAt w base tv N) (hN : N.length ≤ 1000) :
    Calls Tryd.prog 15 #[tv, .agg r.cs] w fun e w' => e = .returned (.agg (bytesL (hsh (msgL (rowBy r))))) ∧ TpAt w' base tv (N ++ [msgL (rowBy r)]) ∧ TStep base w w' := by
  obtain ⟨pt, rfl⟩ := htp.form
  have h32 := hsh_32 (msgL (rowBy r))
  have hwr := fun w => W.wrow_any r.cs r.h0 r.l0 r.tm r.ev r.h1 r.l1 r.h2 r.l2 r.h3 r.l3 r.h4 r.l4 r.h5 r.l5 hr.w0 hr.w1 hr.w2 hr.w3 hr.w4 hr.w5 rfl rfl rfl rfl rfl rfl rfl rfl rfl rfl rfl rfl rfl rfl (by have := hr.e0; omega) (by have := hr.e1; omega) w
  have HW : Hid (∀ w, Calls Tryd.prog 27 #[.agg r.cs] w fun e w' => ∃ v', e = .returned v' ∧ W.Own w' w.heap.size v' (rowBy r) ∧ Below w.heap.size w w') := hwr
  have H8 := (show Hid _ from rowBy_w8 r)
  have HLN := (show Hid _ from rowBy_len r)
  have ir := info_rc r
  generalize r.cs = cs at *
  generalize rowBy r = B at *
  generalize hH : hsh (msgL B) = H at *
  have HH : Hid (hsh (msgL B) = H) := hH
  have hsz : (Tryd.prog.info? 42).map (·.size) = some (bytesL H).size := by rw [bytesL_size, h32.1]; exact info_hash
  clear hr hwr hH
  have b2 := below2 w (.cells cs 34) (.cells (bytesL (List.replicate 32 0)) 42)
  have r3 : Row ((w.alloc (.cells cs 34)).alloc (.cells (bytesL (List.replicate 32 0)) 42)) w.heap.size cs 34 := (Row.new w cs 34 rfl).alloc _
  have r4 : Row ((w.alloc (.cells cs 34)).alloc (.cells (bytesL (List.replicate 32 0)) 42)) (w.heap.size + 1) (bytesL (List.replicate 32 0)) 42 := Row.new _ _ _ (by simp)
  go_enter Tryd.func15, Tryd.ntmps15
  go_wp2_with (first | (refine wpList_load_row rfl 34 _ rfl w.heap.size rfl 34 cs (0, 0) _ r3 Tryd.underlying34 rfl ir ?_) | (go_at_call 27; refine stop ?_))
  rw [zeros32b]
  generalize (w.alloc (.cells cs 34)).alloc (.cells (bytesL (List.replicate 32 0)) 42) = w1 at *
  refine (HW.out w1).mono ?_
  rintro e w2 ⟨v', rfl, ho, hb⟩
  have hby : BytesAt w2 v' B := by
    have := W.Own.bytes ho H8.out (by rw [HLN.out]; decide)
    exact this
  have b3 := chain b2 hb
  have r42 := r4.later hb
  obtain ⟨_, _, pv, cv, rfl, _⟩ := id hby
  have HBY : Hid (BytesAt w2 (.slice pv B.length cv) B) := hby
  clear ho hb hby r3 r4 b2
  go_wp2_with (go_at_call 26; refine stop ?_)
  refine (leaf_any _ B base _ N w2 HBY.out (by rw [HLN.out]; decide) (ht.later b3) h0 (by have := b3.size; omega) (htp.later b3) hN).mono ?_
  rintro e w4 ⟨rfl, ht4, hs4⟩
  rw [HH.out]
  have r44 : Row w4 (w.heap.size + 1) (bytesL (List.replicate 32 0)) 42 := r42.tstep hs4 (by decide) (by decide)
  have hs5 := (TStep.of b3).trans hs4
  clear b3 r42 hs4 htp
  go_wp2_with (refine wpList_store_row rfl 42 _ _ rfl (w.heap.size + 1) (bytesL H) rfl rfl 42 _ r44 hsz (by simp [bytesL_size, h32.1]) (bytesL_one _) ?_)
  refine bodyPost_ret (v := .agg (bytesL H)) (results_cell_row Tryd.results15 _ _ (w.heap.size + 1) 42 (bytesL H) (0, 0) _ ?hp ?hg Tryd.underlying42 rfl hsz) rfl ⟨rfl, ?_, ?_⟩
  case hp => rfl
  case hg => exact r44.setRow _
  · exact ht4.setNew r44 (by decide) (by decide) (by decide) _
  · exact hs5.setNew (Nat.le_succ _) _
end Go.Proofs.YtcahmldgkkcheaaDoor
