/-
  The walk of paciolilaw01.U128Less: it returns true, for every two numbers, and turns nothing that was there.
-/
import Derived.Test.YtcmjinkhfgmgaaaLSmall
import Derived.Test.YtcmjinkhfgmgaaaLSums
import Derived.Test.YtcmjinkhfgmgaaaDigits
import Derived.Test.YtcmjinkhfgmgaaaHeld
import Derived.Deep.DeepCutAuto
import Derived.Deep.QuietTactic
import Derived.BigQuiet
namespace Go.Proofs.Ytcmjinkhfgmgaaa
open Go.RowKit
set_option linter.unusedSimpArgs false

/-- Sub, in one form. -/
theorem sub_gen (ah al bh bl : Int) (h1 : Word ah) (h2 : Word al) (h3 : Word bh) (h4 : Word bl) (w : World) :
    Calls Try.prog 16 #[.agg #[.int .u64 ah, .int .u64 al], .agg #[.int .u64 bh, .int .u64 bl]] w fun e w' => ∃ dh dl ok, e = .returned (.tuple #[.agg #[.int .u64 dh, .int .u64 dl], .bool ok]) ∧ Word dh ∧ Word dl ∧
      ((ok = true ∧ ah * 18446744073709551616 + al = bh * 18446744073709551616 + bl + (dh * 18446744073709551616 + dl)) ∨ (ok = false ∧ ah * 18446744073709551616 + al < bh * 18446744073709551616 + bl ∧ dh = 0 ∧ dl = 0)) ∧ Below w.heap.size w w' := by
  by_cases h : ah * 18446744073709551616 + al < bh * 18446744073709551616 + bl
  · have hl : ltB ah al bh bl = true := by
      obtain ⟨_, _⟩ := h1; obtain ⟨_, _⟩ := h2; obtain ⟨_, _⟩ := h3; obtain ⟨_, _⟩ := h4
      apply decide_eq_true; unfold bor; split <;> omega
    refine (sub_no ah al bh bl h1 h2 h3 h4 hl w).mono ?_
    rintro e w' ⟨rfl, hb⟩
    exact ⟨0, 0, false, rfl, word_zero, word_zero, .inr ⟨rfl, h, rfl, rfl⟩, hb⟩
  · obtain ⟨dh, dl, k1, k2, hd⟩ : ∃ dh dl, Word dh ∧ Word dl ∧ ah * 18446744073709551616 + al = bh * 18446744073709551616 + bl + (dh * 18446744073709551616 + dl) := by
      obtain ⟨_, _⟩ := h1; obtain ⟨_, _⟩ := h2; obtain ⟨_, _⟩ := h3; obtain ⟨_, _⟩ := h4
      exact ⟨(ah * 18446744073709551616 + al - (bh * 18446744073709551616 + bl)) / 18446744073709551616, (ah * 18446744073709551616 + al - (bh * 18446744073709551616 + bl)) % 18446744073709551616, ⟨by omega, by omega⟩, ⟨by omega, by omega⟩, by omega⟩
    refine (sub_val ah al bh bl dh dl h1 h2 h3 h4 k1 k2 hd w).mono ?_
    rintro e w' ⟨rfl, hb⟩
    exact ⟨dh, dl, true, rfl, k1, k2, .inl ⟨rfl, hd⟩, hb⟩

/-- The two numbers and the difference, as they lie. -/
structure LesW (w : World) (B E F : Nat) (ah al bh bl dh dl : Int) (w' : World) : Prop where
  a : NumAt w' B ah al
  b : NumAt w' E bh bl
  d : NumAt w' F dh dl
  bel : Below w.heap.size w w'
theorem LesW.later {w w1 w2 : World} {B E F : Nat} {ah al bh bl dh dl : Int} (h : LesW w B E F ah al bh bl dh dl w1) (hb : Below w1.heap.size w1 w2) : LesW w B E F ah al bh bl dh dl w2 := ⟨h.a.later hb, h.b.later hb, h.d.later hb, chain h.bel hb⟩

theorem les_later {w w1 w2 : World} {B E F : Nat} {ah al bh bl dh dl : Int} (h : w1.cell? ⟨B, 0, none⟩ = some (.int .u64 ah) ∧ w1.cell? ⟨B, 1, none⟩ = some (.int .u64 al) ∧ w1.cell? ⟨E, 0, none⟩ = some (.int .u64 bh) ∧ w1.cell? ⟨E, 1, none⟩ = some (.int .u64 bl) ∧ LesW w B E F ah al bh bl dh dl w1) (hb : Below w1.heap.size w1 w2) :
    w2.cell? ⟨B, 0, none⟩ = some (.int .u64 ah) ∧ w2.cell? ⟨B, 1, none⟩ = some (.int .u64 al) ∧ w2.cell? ⟨E, 0, none⟩ = some (.int .u64 bh) ∧ w2.cell? ⟨E, 1, none⟩ = some (.int .u64 bl) ∧ LesW w B E F ah al bh bl dh dl w2 := by
  have h2 := h.2.2.2.2.later hb
  exact ⟨h2.a.2.1, h2.a.2.2, h2.b.2.1, h2.b.2.2, h2⟩

/-- Seventeen cells that may be written. -/
def Row (w : World) (X : Nat) : Prop := X < w.heap.size ∧ w.there X 0 17
theorem row_later {w1 w2 : World} {X : Nat} (h : Row w1 X) (hb : Below w1.heap.size w1 w2) : Row w2 X :=
  ⟨Nat.lt_of_lt_of_le h.1 hb.size, fun j hj => ⟨by rw [hb.cell (p := ⟨X, 0 + j, none⟩) h.1]; exact (h.2 j hj).1, by rw [hb.frozen (p := ⟨X, 0 + j, none⟩) h.1]; exact (h.2 j hj).2⟩⟩
theorem row_new (w : World) (t : TypeId) : Row (w.alloc (.cells #[.int .i64 0, .int .i64 0, .int .i64 0, .int .i64 0, .int .i64 0, .int .i64 0, .int .i64 0, .int .i64 0, .int .i64 0, .int .i64 0, .int .i64 0, .int .i64 0, .int .i64 0, .int .i64 0, .int .i64 0, .int .i64 0, .int .i64 0] t)) w.heap.size :=
  ⟨by simp, fun j hj => ⟨by rw [Nat.zero_add, World.cell?_alloc_new, zeros17 j hj]; rfl, by simp⟩⟩

theorem digs_size (ah al : Int) (k : Nat) : (digs ah al k).toArray.size = 17 := by simp [digs_len]
theorem digs_info (ah al : Int) : (Try.prog.info? 24).map (·.size) = some (digs ah al 8).toArray.size := by rw [digs_size]; kernel_rfl

theorem numAt_setCells {w : World} {B X : Nat} {hi lo : Int} (h : NumAt w B hi lo) (hne : B ≠ X) (vs : List Value) : NumAt (w.setCells X 0 vs) B hi lo := by
  obtain ⟨z, c0, c1⟩ := h
  have r : w.rangeAt B 0 [.int .u64 hi, .int .u64 lo] := fun j v hv => by
    match j, hv with
    | 0, hv => cases hv; exact c0
    | 1, hv => cases hv; exact c1
  have r2 := World.rangeAt_setCells_apart r X 0 vs (.inl hne)
  exact ⟨Nat.lt_of_lt_of_le z (below_setCells vs 0 w X (Below.refl 0 w) (Nat.zero_le _)).size, r2 0 _ rfl, r2 1 _ rfl⟩

theorem les_end {w W : World} {B E F X Y : Nat} {ah al bh bl dh dl : Int} (h : LesW w B E F ah al bh bl dh dl W) (rx : Row W X) (ry : Row W Y) (hxy : X ≠ Y) (b1 : B < X) (b2 : B < Y) (e1 : E < X) (e2 : E < Y) (f1 : F < X) (f2 : F < Y) (hw : w.heap.size ≤ B) :
    ((W.setCells X 0 (digs ah al 8)).setCells Y 0 (digs bh bl 8)).rangeAt X 0 (digs ah al 8) ∧ ((W.setCells X 0 (digs ah al 8)).setCells Y 0 (digs bh bl 8)).rangeAt Y 0 (digs bh bl 8) ∧ LesW w B E F ah al bh bl dh dl ((W.setCells X 0 (digs ah al 8)).setCells Y 0 (digs bh bl 8)) := by
  refine ⟨?_, ?_, ?_⟩
  · exact World.rangeAt_setCells_apart (World.rangeAt_setCells_same W X 0 _ (by rw [digs_len]; exact rx.2)) Y 0 _ (.inl hxy)
  · exact World.rangeAt_setCells_same _ Y 0 _ (by rw [digs_len]; exact World.there_setCells ry.2 X 0 _)
  · exact ⟨numAt_setCells (numAt_setCells h.a (by omega) _) (by omega) _, numAt_setCells (numAt_setCells h.b (by omega) _) (by omega) _, numAt_setCells (numAt_setCells h.d (by omega) _) (by omega) _, below_setCells _ _ _ _ (below_setCells _ _ _ _ h.bel (by omega)) (by omega)⟩

/-- One alone may come up, and it is a store of some cells. -/
theorem wpAnyD_store {P : Program} {ops : Array Oper} {Q : Exit → Act → World → Prop} {md : Region.Mode} {S : World → Prop} {D : Nat → Bool} {i : Nat} {oi : Oper} {fuel : Nat} {listed : Array Bool} {a : Act} {w : World} (ty : TypeId) (x y : Operand) (hi' : ops.toList[i]? = some oi)
    (hr : Region.ready md ops listed = [i]) (hw : Region.wanted oi (yielded ops a.tmps) = true) (hD : D i = false) (ho : oi.op = .store ty x y)
    (b o : Nat) (cells : Array Value) (hx : a.eval x = .pointer (some ⟨b, o, none⟩)) (hy : a.eval y = .agg cells) (ht : w.there b o cells.size) (hi : (P.info? ty).map (·.size) = some cells.size) (h1 : cells.all (·.oneCell') = true)
    (h : wpAnyD P md ops Q S D fuel (listed.setIfInBounds i true) (a.put oi.dst undef) (w.setCells b o cells.toList)) : wpAnyD P md ops Q S D (fuel + 1) listed a w :=
  wpAnyD_only hi' hr hw fun _ hK => wp_store_mid ty x y ho b o cells hx hy ht hi h1 (hK.out _ _ (fun h => by rw [hD] at h; cases h) h)

/-- The lower k bytes, compared. -/
def cmpK (x y k : Nat) : Int := cmpI ((x % 256 ^ k : Nat) : Int) ((y % 256 ^ k : Nat) : Int)
theorem cmpK_zero (x y : Nat) : cmpK x y 0 = 0 := by simp [cmpK, cmpI, Nat.mod_one]
theorem cmpK_eq {x y k : Nat} (h : by8 x k = by8 y k) : cmpK x y (k + 1) = cmpK x y k := by
  unfold by8 at h
  unfold cmpK cmpI
  rw [Nat.mod_pow_succ, Nat.mod_pow_succ, h]
  generalize 256 ^ k * (y / 256 ^ k % 256) = t
  repeat' split
  all_goals omega
theorem cmpK_lt {x y k : Nat} (h : by8 x k < by8 y k) : cmpK x y (k + 1) = -1 := by
  unfold by8 at h
  unfold cmpK cmpI
  rw [Nat.mod_pow_succ, Nat.mod_pow_succ]
  have p : 0 < 256 ^ k := Nat.pow_pos (by decide)
  have u1 := Nat.mod_lt x p
  have u2 := Nat.mod_lt y p
  generalize x / 256 ^ k % 256 = s at *
  generalize y / 256 ^ k % 256 = t at *
  have e : 256 ^ k * (s + 1) ≤ 256 ^ k * t := Nat.mul_le_mul_left _ h
  rw [Nat.mul_add, Nat.mul_one] at e
  rw [if_pos (by omega)]
theorem cmpK_gt {x y k : Nat} (h : by8 y k < by8 x k) : cmpK x y (k + 1) = 1 := by
  have e := cmpK_lt h
  unfold cmpK at *
  unfold cmpI at *
  revert e
  repeat' split
  all_goals omega
theorem cmpK_end {x y : Nat} (hx : x < 340282366920938463463374607431768211456) (hy : y < 340282366920938463463374607431768211456) : cmpK x y 16 = cmpI x y := by
  unfold cmpK
  have e : (256 : Nat) ^ 16 = 340282366920938463463374607431768211456 := by decide
  rw [e, Nat.mod_eq_of_lt hx, Nat.mod_eq_of_lt hy]
theorem cmpK_small (x y k : Nat) : -1 ≤ cmpK x y k ∧ cmpK x y k ≤ 1 := by
  unfold cmpK cmpI
  repeat' split
  all_goals omega

/-- The two rows of bytes, and the numbers. -/
structure LesX (w : World) (B E F X Y : Nat) (ah al bh bl dh dl : Int) (x y : Nat) (w' : World) : Prop where
  x : ∀ j, j < 16 → w'.cell? ⟨X, j, none⟩ = some (.int .i64 ((by8 x j : Nat) : Int))
  y : ∀ j, j < 16 → w'.cell? ⟨Y, j, none⟩ = some (.int .i64 ((by8 y j : Nat) : Int))
  l : LesW w B E F ah al bh bl dh dl w'
theorem LesX.drew {w : World} {B E F X Y : Nat} {ah al bh bl dh dl : Int} {x y : Nat} {w' : World} (h : LesX w B E F X Y ah al bh bl dh dl x y w') : LesX w B E F X Y ah al bh bl dh dl x y w'.drew :=
  ⟨fun j hj => h.x j hj, fun j hj => h.y j hj, ⟨h.l.a, h.l.b, h.l.d, h.l.bel.drew⟩⟩
theorem digs_cells {w' : World} {X : Nat} {ah al : Int} (h : w'.rangeAt X 0 (digs ah al 8)) (h1 : Word ah) (h2 : Word al) : ∀ j, j < 16 → w'.cell? ⟨X, j, none⟩ = some (.int .i64 ((by8 (ah * 18446744073709551616 + al).toNat j : Nat) : Int)) := fun j hj => by
  have e := h j _ (digs_at ah al 8 j (by omega))
  rw [dK_by8 _ _ _ h1 h2 (by omega)] at e
  simpa using e

set_option maxRecDepth 100000 in
set_option maxHeartbeats 1500000 in
theorem law_less (ah al bh bl : Int) (w : World) (h1 : Word ah) (h2 : Word al) (h3 : Word bh) (h4 : Word bl) :
    Calls Try.prog 4 #[.agg #[.int .u64 ah, .int .u64 al], .agg #[.int .u64 bh, .int .u64 bl]] w fun e w' => e = .returned (.bool true) ∧ Below w.heap.size w w' := by
  go_enter Try.func4, Try.ntmps4
  go_wp2_with fail
  refine (fit_any _).mono ?_
  rintro e w1 ⟨rfl, hb1⟩
  have NA := (NumAt.new w ah al 27).later ((below1 _ _).trans (hb1.mono (by simp)))
  have NB := (NumAt.new (w.alloc (.cells #[.int .u64 ah, .int .u64 al] 27)) bh bl 27).later hb1
  simp only [World.size_alloc] at NA NB
  have bel1 := chain (below2 w _ _) hb1
  obtain ⟨zA, A0, A1⟩ := NA
  obtain ⟨zB, B0, B1⟩ := NB
  clear hb1
  go_wp2_with fail
  refine (sub_gen ah al bh bl h1 h2 h3 h4 _).mono ?_
  rintro e w2 ⟨dh, dl, ok, rfl, kd1, kd2, hd, hb2⟩
  have HD : Hid ((ok = true ∧ ah * 18446744073709551616 + al = bh * 18446744073709551616 + bl + (dh * 18446744073709551616 + dl)) ∨ (ok = false ∧ ah * 18446744073709551616 + al < bh * 18446744073709551616 + bl ∧ dh = 0 ∧ dl = 0)) := hd
  have bel2 := chain bel1 hb2
  have NA := (show NumAt w1 w.heap.size ah al from ⟨zA, A0, A1⟩).later hb2
  have NB := (show NumAt w1 (w.heap.size + 1) bh bl from ⟨zB, B0, B1⟩).later hb2
  clear zA A0 A1 zB B0 B1
  obtain ⟨zA, A0, A1⟩ := NA
  obtain ⟨zB, B0, B1⟩ := NB
  clear hd hb2 bel1
  go_wp2_with fail
  refine (compare_any ah al bh bl _).mono ?_
  rintro e w3 ⟨rfl, hb3⟩
  have LW : LesW w w.heap.size (w.heap.size + 1) w2.heap.size ah al bh bl dh dl w3 := ⟨(show NumAt w2 w.heap.size ah al from ⟨zA, A0, A1⟩).later (chain (below1 _ _) hb3), (show NumAt w2 (w.heap.size + 1) bh bl from ⟨zB, B0, B1⟩).later (chain (below1 _ _) hb3), (NumAt.new w2 dh dl 27).later hb3, chain (chainA bel2 _) hb3⟩
  clear zA A0 A1 zB B0 B1 hb3 bel2
  have HC : Hid (cmp2 ah al bh bl = cmpI (ah * 18446744073709551616 + al) (bh * 18446744073709551616 + bl)) := cmp2_num _ _ _ _ h1 h2 h3 h4
  have HC2 : Hid (cmp2 bh bl ah al = -cmpI (ah * 18446744073709551616 + al) (bh * 18446744073709551616 + bl)) := by
    show _ = _; rw [cmp2_num _ _ _ _ h3 h4 h1 h2]; exact cmpI_neg _ _
  generalize hcc : cmp2 ah al bh bl = cc at *
  clear hcc
  go_upto_region 5 with fail
  go_cut [53] (fun b wc => b = .bool false ∧ LesW w w.heap.size (w.heap.size + 1) w2.heap.size ah al bh bl dh dl wc)
  case first =>
    have hcc := HC.out
    have hc2 := HC2.out
    have hd := HD.out
    clear HC HC2 HD
    obtain ⟨p1, p2⟩ := id h1
    obtain ⟨p3, p4⟩ := id h2
    obtain ⟨p5, p6⟩ := id h3
    obtain ⟨p7, p8⟩ := id h4
    obtain ⟨p9, p10⟩ := id kd1
    obtain ⟨p11, p12⟩ := id kd2
    by_cases q1 : ah * 18446744073709551616 + al < bh * 18446744073709551616 + bl
    · have e1 : cmpI (ah * 18446744073709551616 + al) (bh * 18446744073709551616 + bl) = -1 := by rw [cmpI, if_pos q1]
      rw [e1] at hcc hc2
      obtain ⟨rfl, rfl, rfl⟩ : ok = false ∧ dh = 0 ∧ dl = 0 := by
        rcases hd with ⟨_, hd⟩ | ⟨hd1, _, hd2, hd3⟩
        · omega
        · exact ⟨hd1, hd2, hd3⟩
      subst hcc
      clear hd e1 p1 p2 p3 p4 p5 p6 p7 p8 p9 p10 p11 p12
      by_cases q2 : ah = bh
      · subst q2
        have q3 : (al == bl) = false := by simp; omega
        clear q1
        obtain ⟨⟨zA, A0, A1⟩, ⟨zB, B0, B1⟩, ⟨zD, D0, D1⟩, bel⟩ := id LW
        go_wp2_with fail
        refine (compare_any _ _ _ _ _).mono ?_
        rintro e w4 ⟨rfl, hb4⟩
        have LW4 := LW.later hb4
        clear zA A0 A1 zB B0 B1 zD D0 D1 bel hb4 LW
        obtain ⟨⟨zA, A0, A1⟩, ⟨zB, B0, B1⟩, ⟨zD, D0, D1⟩, bel⟩ := id LW4
        rw [hc2]
        go_wp2
        go_meet
        case rel => exact ⟨rfl, LW4⟩
      · have q3 : (ah == bh) = false := by simp [q2]
        clear q1 q2
        obtain ⟨⟨zA, A0, A1⟩, ⟨zB, B0, B1⟩, ⟨zD, D0, D1⟩, bel⟩ := id LW
        go_wp2_with fail
        refine (compare_any _ _ _ _ _).mono ?_
        rintro e w4 ⟨rfl, hb4⟩
        have LW4 := LW.later hb4
        clear zA A0 A1 zB B0 B1 zD D0 D1 bel hb4 LW
        obtain ⟨⟨zA, A0, A1⟩, ⟨zB, B0, B1⟩, ⟨zD, D0, D1⟩, bel⟩ := id LW4
        rw [hc2]
        go_wp2
        go_meet
        case rel => exact ⟨rfl, LW4⟩
    · have hd' : ok = true := by
        rcases hd with ⟨hd, _⟩ | ⟨_, hd, _⟩
        · exact hd
        · exact absurd hd q1
      subst hd'
      clear hd
      by_cases q2 : bh * 18446744073709551616 + bl < ah * 18446744073709551616 + al
      · have e1 : cmpI (ah * 18446744073709551616 + al) (bh * 18446744073709551616 + bl) = 1 := by rw [cmpI, if_neg q1, if_pos q2]
        rw [e1] at hcc hc2
        subst hcc
        clear e1 p1 p2 p3 p4 p5 p6 p7 p8 p9 p10 p11 p12
        by_cases q4 : ah = bh
        · subst q4
          have q3 : (al == bl) = false := by simp; omega
          clear q1 q2
          obtain ⟨⟨zA, A0, A1⟩, ⟨zB, B0, B1⟩, ⟨zD, D0, D1⟩, bel⟩ := id LW
          go_wp2_with fail
          refine (compare_any _ _ _ _ _).mono ?_
          rintro e w4 ⟨rfl, hb4⟩
          have LW4 := LW.later hb4
          clear zA A0 A1 zB B0 B1 zD D0 D1 bel hb4 LW
          obtain ⟨⟨zA, A0, A1⟩, ⟨zB, B0, B1⟩, ⟨zD, D0, D1⟩, bel⟩ := id LW4
          rw [hc2]
          go_wp2
          go_meet
          case rel => exact ⟨rfl, LW4⟩
        · have q3 : (ah == bh) = false := by simp [q4]
          clear q1 q2 q4
          obtain ⟨⟨zA, A0, A1⟩, ⟨zB, B0, B1⟩, ⟨zD, D0, D1⟩, bel⟩ := id LW
          go_wp2_with fail
          refine (compare_any _ _ _ _ _).mono ?_
          rintro e w4 ⟨rfl, hb4⟩
          have LW4 := LW.later hb4
          clear zA A0 A1 zB B0 B1 zD D0 D1 bel hb4 LW
          obtain ⟨⟨zA, A0, A1⟩, ⟨zB, B0, B1⟩, ⟨zD, D0, D1⟩, bel⟩ := id LW4
          rw [hc2]
          go_wp2
          go_meet
          case rel => exact ⟨rfl, LW4⟩
      · have e1 : cmpI (ah * 18446744073709551616 + al) (bh * 18446744073709551616 + bl) = 0 := by rw [cmpI, if_neg q1, if_neg q2]
        rw [e1] at hcc hc2
        obtain ⟨rfl, rfl⟩ : ah = bh ∧ al = bl := by omega
        subst hcc
        clear e1 p1 p2 p3 p4 p5 p6 p7 p8 p9 p10 p11 p12 q1 q2
        obtain ⟨⟨zA, A0, A1⟩, ⟨zB, B0, B1⟩, ⟨zD, D0, D1⟩, bel⟩ := id LW
        go_wp2_with fail
        refine (compare_any _ _ _ _ _).mono ?_
        rintro e w4 ⟨rfl, hb4⟩
        have LW4 := LW.later hb4
        clear zA A0 A1 zB B0 B1 zD D0 D1 bel hb4 LW
        obtain ⟨⟨zA, A0, A1⟩, ⟨zB, B0, B1⟩, ⟨zD, D0, D1⟩, bel⟩ := id LW4
        rw [hc2]
        go_wp2
        go_meet
        case rel => exact ⟨rfl, LW4⟩
  case rest =>
    obtain ⟨rfl, LW5⟩ := hcut
    clear LW
    obtain ⟨w8, rfl⟩ : ∃ w8 : World, w8 = wc := ⟨_, rfl⟩
    go_wp2_with fail
    go_cut [8, 9] (fun x y wd => ∃ X Y, x = .pointer (some ⟨X, 0, none⟩) ∧ y = .pointer (some ⟨Y, 0, none⟩) ∧ wd.rangeAt X 0 (digs ah al 8) ∧ wd.rangeAt Y 0 (digs bh bl 8) ∧ LesW w w.heap.size (w.heap.size + 1) w2.heap.size ah al bh bl dh dl wd)
    case first =>
      have hS : w8.drew.cell? ⟨w.heap.size, 0, none⟩ = some (.int .u64 ah) ∧ w8.drew.cell? ⟨w.heap.size, 1, none⟩ = some (.int .u64 al) ∧ w8.drew.cell? ⟨w.heap.size + 1, 0, none⟩ = some (.int .u64 bh) ∧ w8.drew.cell? ⟨w.heap.size + 1, 1, none⟩ = some (.int .u64 bl) ∧ LesW w w.heap.size (w.heap.size + 1) w2.heap.size ah al bh bl dh dl w8.drew := ⟨LW5.a.2.1, LW5.a.2.2, LW5.b.2.1, LW5.b.2.2, ⟨LW5.a, LW5.b, LW5.d, LW5.bel.drew⟩⟩
      clear LW5 HC HC2 HD
      refine wp_region_D (fun i => decide (i < 6)) (fun w' => w'.cell? ⟨w.heap.size, 0, none⟩ = some (.int .u64 ah) ∧ w'.cell? ⟨w.heap.size, 1, none⟩ = some (.int .u64 al) ∧ w'.cell? ⟨w.heap.size + 1, 0, none⟩ = some (.int .u64 bh) ∧ w'.cell? ⟨w.heap.size + 1, 1, none⟩ = some (.int .u64 bl) ∧ LesW w w.heap.size (w.heap.size + 1) w2.heap.size ah al bh bl dh dl w') (by kernel_rfl) ?_
      generalize w8.drew = v0 at *
      have kB := hS.2.2.2.2.a.1
      have kE := hS.2.2.2.2.b.1
      have kF := hS.2.2.2.2.d.1
      refine' wpAnyD_take (i := 0) (v := _) rfl (by kernel_rfl) (by kernel_rfl) (by kernel_rfl) (by kernel_rfl) (fun _ _ _ h => h) (Or.inl ⟨by rfl, ?hy1⟩) hS ?re1
      case hy1 => (intro w hSw; (try dsimp only at hSw); go_simp; (try with_reducible rfl))
      simp only [Act.put, List.setIfInBounds_toArray, List.set_cons_zero, List.set_cons_succ]
      refine' wpAnyD_take (i := 2) (v := _) rfl (by kernel_rfl) (by kernel_rfl) (by kernel_rfl) (by kernel_rfl) (fun _ _ _ h => h) (Or.inl ⟨by rfl, ?hy2⟩) hS ?re2
      case hy2 => (intro w hSw; (try dsimp only at hSw); go_simp; (try with_reducible rfl))
      simp only [Act.put, List.setIfInBounds_toArray, List.set_cons_zero, List.set_cons_succ]
      refine wpAnyD_all (rs := [1, 4, 5]) (by kernel_rfl) (by simp) ?_
      refine AllD.cons (i := 1) rfl (by rfl) (fun K hK => ?_) ?_
      · go_simp
        refine (digits_any ah al _ h1 h2).mono ?_
        rintro e v1 ⟨rfl, hb⟩
        have zv1 := hb.size
        try dsimp only
        have hSn := les_later hS hb
        refine hK.out _ _ (fun _ => hSn) ?_
        try simp only [Act.put, List.setIfInBounds_toArray, List.set_cons_zero, List.set_cons_succ]
        clear hK K hS hb
        have hS := hSn
        clear hSn
        refine wpAnyD_all (rs := [3, 4, 5]) (by kernel_rfl) (by simp) ?_
        refine AllD.cons (i := 3) rfl (by rfl) (fun K hK => ?_) ?_
        · go_simp
          refine (digits_any bh bl _ h3 h4).mono ?_
          rintro e v2 ⟨rfl, hb⟩
          have zv2 := hb.size
          try dsimp only
          have hSn := les_later hS hb
          refine hK.out _ _ (fun _ => hSn) ?_
          try simp only [Act.put, List.setIfInBounds_toArray, List.set_cons_zero, List.set_cons_succ]
          clear hK K hS hb
          have hS := hSn
          clear hSn
          refine wpAnyD_all (rs := [4, 5]) (by kernel_rfl) (by simp) ?_
          refine AllD.cons (i := 4) rfl (by rfl) (fun K hK => ?_) ?_
          · go_simp
            have hb := below1 v2 (.cells #[.int .i64 0, .int .i64 0, .int .i64 0, .int .i64 0, .int .i64 0, .int .i64 0, .int .i64 0, .int .i64 0, .int .i64 0, .int .i64 0, .int .i64 0, .int .i64 0, .int .i64 0, .int .i64 0, .int .i64 0, .int .i64 0, .int .i64 0] 24)
            have r4 := row_new v2 24
            have hSn := les_later hS hb
            refine hK.out _ _ (fun _ => hSn) ?_
            try simp only [Act.put, List.setIfInBounds_toArray, List.set_cons_zero, List.set_cons_succ]
            have zv3 : v2.heap.size < (v2.alloc (.cells #[.int .i64 0, .int .i64 0, .int .i64 0, .int .i64 0, .int .i64 0, .int .i64 0, .int .i64 0, .int .i64 0, .int .i64 0, .int .i64 0, .int .i64 0, .int .i64 0, .int .i64 0, .int .i64 0, .int .i64 0, .int .i64 0, .int .i64 0] 24)).heap.size := by simp
            generalize v2.alloc (.cells #[.int .i64 0, .int .i64 0, .int .i64 0, .int .i64 0, .int .i64 0, .int .i64 0, .int .i64 0, .int .i64 0, .int .i64 0, .int .i64 0, .int .i64 0, .int .i64 0, .int .i64 0, .int .i64 0, .int .i64 0, .int .i64 0, .int .i64 0] 24) = v3 at *
            clear hK K hS hb
            have hS := hSn
            clear hSn
            refine wpAnyD_all (rs := [5]) (by kernel_rfl) (by simp) ?_
            refine AllD.cons (i := 5) rfl (by rfl) (fun K hK => ?_) ?_
            · go_simp
              have hb := below1 v3 (.cells #[.int .i64 0, .int .i64 0, .int .i64 0, .int .i64 0, .int .i64 0, .int .i64 0, .int .i64 0, .int .i64 0, .int .i64 0, .int .i64 0, .int .i64 0, .int .i64 0, .int .i64 0, .int .i64 0, .int .i64 0, .int .i64 0, .int .i64 0] 24)
              have r5 := row_new v3 24
              have hSn := les_later hS hb
              refine hK.out _ _ (fun _ => hSn) ?_
              try simp only [Act.put, List.setIfInBounds_toArray, List.set_cons_zero, List.set_cons_succ]
              have r4 := row_later r4 hb
              have zv4 : v3.heap.size < (v3.alloc (.cells #[.int .i64 0, .int .i64 0, .int .i64 0, .int .i64 0, .int .i64 0, .int .i64 0, .int .i64 0, .int .i64 0, .int .i64 0, .int .i64 0, .int .i64 0, .int .i64 0, .int .i64 0, .int .i64 0, .int .i64 0, .int .i64 0, .int .i64 0] 24)).heap.size := by simp
              generalize v3.alloc (.cells #[.int .i64 0, .int .i64 0, .int .i64 0, .int .i64 0, .int .i64 0, .int .i64 0, .int .i64 0, .int .i64 0, .int .i64 0, .int .i64 0, .int .i64 0, .int .i64 0, .int .i64 0, .int .i64 0, .int .i64 0, .int .i64 0, .int .i64 0] 24) = v4 at *
              clear hK K hS hb
              have hS := hSn
              clear hSn
              refine wpAnyD_store (i := 6) 24 _ _ rfl (by kernel_rfl) (by rfl) rfl rfl (v2.heap.size) 0 (digs ah al 8).toArray rfl rfl (by rw [digs_size]; exact r4.2) (digs_info ah al) (all_oneCell_toArray (digs_one _ _ _)) ?_
              try simp only [Act.put]
              refine wpAnyD_store (i := 7) 24 _ _ rfl (by kernel_rfl) (by rfl) rfl rfl (v3.heap.size) 0 (digs bh bl 8).toArray rfl rfl (by rw [digs_size]; exact World.there_setCells r5.2 _ _ _) (digs_info bh bl) (all_oneCell_toArray (digs_one _ _ _)) ?_
              try simp only [Act.put]
              refine wpAnyD_done (by kernel_rfl) ?_ _
              go_wp2_with fail
              go_meet
              case rel => exact ⟨v2.heap.size, v3.heap.size, rfl, rfl, les_end hS.2.2.2.2 r4 r5 (by omega) (by omega) (by omega) (by omega) (by omega) (by omega) (by omega) (Nat.le_refl _)⟩
            exact AllD.nil
          refine AllD.cons (i := 5) rfl (by rfl) (fun K hK => ?_) ?_
          · go_simp
            have hb := below1 v2 (.cells #[.int .i64 0, .int .i64 0, .int .i64 0, .int .i64 0, .int .i64 0, .int .i64 0, .int .i64 0, .int .i64 0, .int .i64 0, .int .i64 0, .int .i64 0, .int .i64 0, .int .i64 0, .int .i64 0, .int .i64 0, .int .i64 0, .int .i64 0] 24)
            have r5 := row_new v2 24
            have hSn := les_later hS hb
            refine hK.out _ _ (fun _ => hSn) ?_
            try simp only [Act.put, List.setIfInBounds_toArray, List.set_cons_zero, List.set_cons_succ]
            have zv5 : v2.heap.size < (v2.alloc (.cells #[.int .i64 0, .int .i64 0, .int .i64 0, .int .i64 0, .int .i64 0, .int .i64 0, .int .i64 0, .int .i64 0, .int .i64 0, .int .i64 0, .int .i64 0, .int .i64 0, .int .i64 0, .int .i64 0, .int .i64 0, .int .i64 0, .int .i64 0] 24)).heap.size := by simp
            generalize v2.alloc (.cells #[.int .i64 0, .int .i64 0, .int .i64 0, .int .i64 0, .int .i64 0, .int .i64 0, .int .i64 0, .int .i64 0, .int .i64 0, .int .i64 0, .int .i64 0, .int .i64 0, .int .i64 0, .int .i64 0, .int .i64 0, .int .i64 0, .int .i64 0] 24) = v5 at *
            clear hK K hS hb
            have hS := hSn
            clear hSn
            refine wpAnyD_all (rs := [4]) (by kernel_rfl) (by simp) ?_
            refine AllD.cons (i := 4) rfl (by rfl) (fun K hK => ?_) ?_
            · go_simp
              have hb := below1 v5 (.cells #[.int .i64 0, .int .i64 0, .int .i64 0, .int .i64 0, .int .i64 0, .int .i64 0, .int .i64 0, .int .i64 0, .int .i64 0, .int .i64 0, .int .i64 0, .int .i64 0, .int .i64 0, .int .i64 0, .int .i64 0, .int .i64 0, .int .i64 0] 24)
              have r4 := row_new v5 24
              have hSn := les_later hS hb
              refine hK.out _ _ (fun _ => hSn) ?_
              try simp only [Act.put, List.setIfInBounds_toArray, List.set_cons_zero, List.set_cons_succ]
              have r5 := row_later r5 hb
              have zv6 : v5.heap.size < (v5.alloc (.cells #[.int .i64 0, .int .i64 0, .int .i64 0, .int .i64 0, .int .i64 0, .int .i64 0, .int .i64 0, .int .i64 0, .int .i64 0, .int .i64 0, .int .i64 0, .int .i64 0, .int .i64 0, .int .i64 0, .int .i64 0, .int .i64 0, .int .i64 0] 24)).heap.size := by simp
              generalize v5.alloc (.cells #[.int .i64 0, .int .i64 0, .int .i64 0, .int .i64 0, .int .i64 0, .int .i64 0, .int .i64 0, .int .i64 0, .int .i64 0, .int .i64 0, .int .i64 0, .int .i64 0, .int .i64 0, .int .i64 0, .int .i64 0, .int .i64 0, .int .i64 0] 24) = v6 at *
              clear hK K hS hb
              have hS := hSn
              clear hSn
              refine wpAnyD_store (i := 6) 24 _ _ rfl (by kernel_rfl) (by rfl) rfl rfl (v5.heap.size) 0 (digs ah al 8).toArray rfl rfl (by rw [digs_size]; exact r4.2) (digs_info ah al) (all_oneCell_toArray (digs_one _ _ _)) ?_
              try simp only [Act.put]
              refine wpAnyD_store (i := 7) 24 _ _ rfl (by kernel_rfl) (by rfl) rfl rfl (v2.heap.size) 0 (digs bh bl 8).toArray rfl rfl (by rw [digs_size]; exact World.there_setCells r5.2 _ _ _) (digs_info bh bl) (all_oneCell_toArray (digs_one _ _ _)) ?_
              try simp only [Act.put]
              refine wpAnyD_done (by kernel_rfl) ?_ _
              go_wp2_with fail
              go_meet
              case rel => exact ⟨v5.heap.size, v2.heap.size, rfl, rfl, les_end hS.2.2.2.2 r4 r5 (by omega) (by omega) (by omega) (by omega) (by omega) (by omega) (by omega) (Nat.le_refl _)⟩
            exact AllD.nil
          exact AllD.nil
        refine AllD.cons (i := 4) rfl (by rfl) (fun K hK => ?_) ?_
        · go_simp
          have hb := below1 v1 (.cells #[.int .i64 0, .int .i64 0, .int .i64 0, .int .i64 0, .int .i64 0, .int .i64 0, .int .i64 0, .int .i64 0, .int .i64 0, .int .i64 0, .int .i64 0, .int .i64 0, .int .i64 0, .int .i64 0, .int .i64 0, .int .i64 0, .int .i64 0] 24)
          have r4 := row_new v1 24
          have hSn := les_later hS hb
          refine hK.out _ _ (fun _ => hSn) ?_
          try simp only [Act.put, List.setIfInBounds_toArray, List.set_cons_zero, List.set_cons_succ]
          have zv7 : v1.heap.size < (v1.alloc (.cells #[.int .i64 0, .int .i64 0, .int .i64 0, .int .i64 0, .int .i64 0, .int .i64 0, .int .i64 0, .int .i64 0, .int .i64 0, .int .i64 0, .int .i64 0, .int .i64 0, .int .i64 0, .int .i64 0, .int .i64 0, .int .i64 0, .int .i64 0] 24)).heap.size := by simp
          generalize v1.alloc (.cells #[.int .i64 0, .int .i64 0, .int .i64 0, .int .i64 0, .int .i64 0, .int .i64 0, .int .i64 0, .int .i64 0, .int .i64 0, .int .i64 0, .int .i64 0, .int .i64 0, .int .i64 0, .int .i64 0, .int .i64 0, .int .i64 0, .int .i64 0] 24) = v7 at *
          clear hK K hS hb
          have hS := hSn
          clear hSn
          refine wpAnyD_all (rs := [3, 5]) (by kernel_rfl) (by simp) ?_
          refine AllD.cons (i := 3) rfl (by rfl) (fun K hK => ?_) ?_
          · go_simp
            refine (digits_any bh bl _ h3 h4).mono ?_
            rintro e v8 ⟨rfl, hb⟩
            have zv8 := hb.size
            try dsimp only
            have hSn := les_later hS hb
            refine hK.out _ _ (fun _ => hSn) ?_
            try simp only [Act.put, List.setIfInBounds_toArray, List.set_cons_zero, List.set_cons_succ]
            have r4 := row_later r4 hb
            clear hK K hS hb
            have hS := hSn
            clear hSn
            refine wpAnyD_all (rs := [5]) (by kernel_rfl) (by simp) ?_
            refine AllD.cons (i := 5) rfl (by rfl) (fun K hK => ?_) ?_
            · go_simp
              have hb := below1 v8 (.cells #[.int .i64 0, .int .i64 0, .int .i64 0, .int .i64 0, .int .i64 0, .int .i64 0, .int .i64 0, .int .i64 0, .int .i64 0, .int .i64 0, .int .i64 0, .int .i64 0, .int .i64 0, .int .i64 0, .int .i64 0, .int .i64 0, .int .i64 0] 24)
              have r5 := row_new v8 24
              have hSn := les_later hS hb
              refine hK.out _ _ (fun _ => hSn) ?_
              try simp only [Act.put, List.setIfInBounds_toArray, List.set_cons_zero, List.set_cons_succ]
              have r4 := row_later r4 hb
              have zv9 : v8.heap.size < (v8.alloc (.cells #[.int .i64 0, .int .i64 0, .int .i64 0, .int .i64 0, .int .i64 0, .int .i64 0, .int .i64 0, .int .i64 0, .int .i64 0, .int .i64 0, .int .i64 0, .int .i64 0, .int .i64 0, .int .i64 0, .int .i64 0, .int .i64 0, .int .i64 0] 24)).heap.size := by simp
              generalize v8.alloc (.cells #[.int .i64 0, .int .i64 0, .int .i64 0, .int .i64 0, .int .i64 0, .int .i64 0, .int .i64 0, .int .i64 0, .int .i64 0, .int .i64 0, .int .i64 0, .int .i64 0, .int .i64 0, .int .i64 0, .int .i64 0, .int .i64 0, .int .i64 0] 24) = v9 at *
              clear hK K hS hb
              have hS := hSn
              clear hSn
              refine wpAnyD_store (i := 6) 24 _ _ rfl (by kernel_rfl) (by rfl) rfl rfl (v1.heap.size) 0 (digs ah al 8).toArray rfl rfl (by rw [digs_size]; exact r4.2) (digs_info ah al) (all_oneCell_toArray (digs_one _ _ _)) ?_
              try simp only [Act.put]
              refine wpAnyD_store (i := 7) 24 _ _ rfl (by kernel_rfl) (by rfl) rfl rfl (v8.heap.size) 0 (digs bh bl 8).toArray rfl rfl (by rw [digs_size]; exact World.there_setCells r5.2 _ _ _) (digs_info bh bl) (all_oneCell_toArray (digs_one _ _ _)) ?_
              try simp only [Act.put]
              refine wpAnyD_done (by kernel_rfl) ?_ _
              go_wp2_with fail
              go_meet
              case rel => exact ⟨v1.heap.size, v8.heap.size, rfl, rfl, les_end hS.2.2.2.2 r4 r5 (by omega) (by omega) (by omega) (by omega) (by omega) (by omega) (by omega) (Nat.le_refl _)⟩
            exact AllD.nil
          refine AllD.cons (i := 5) rfl (by rfl) (fun K hK => ?_) ?_
          · go_simp
            have hb := below1 v7 (.cells #[.int .i64 0, .int .i64 0, .int .i64 0, .int .i64 0, .int .i64 0, .int .i64 0, .int .i64 0, .int .i64 0, .int .i64 0, .int .i64 0, .int .i64 0, .int .i64 0, .int .i64 0, .int .i64 0, .int .i64 0, .int .i64 0, .int .i64 0] 24)
            have r5 := row_new v7 24
            have hSn := les_later hS hb
            refine hK.out _ _ (fun _ => hSn) ?_
            try simp only [Act.put, List.setIfInBounds_toArray, List.set_cons_zero, List.set_cons_succ]
            have r4 := row_later r4 hb
            have zv10 : v7.heap.size < (v7.alloc (.cells #[.int .i64 0, .int .i64 0, .int .i64 0, .int .i64 0, .int .i64 0, .int .i64 0, .int .i64 0, .int .i64 0, .int .i64 0, .int .i64 0, .int .i64 0, .int .i64 0, .int .i64 0, .int .i64 0, .int .i64 0, .int .i64 0, .int .i64 0] 24)).heap.size := by simp
            generalize v7.alloc (.cells #[.int .i64 0, .int .i64 0, .int .i64 0, .int .i64 0, .int .i64 0, .int .i64 0, .int .i64 0, .int .i64 0, .int .i64 0, .int .i64 0, .int .i64 0, .int .i64 0, .int .i64 0, .int .i64 0, .int .i64 0, .int .i64 0, .int .i64 0] 24) = v10 at *
            clear hK K hS hb
            have hS := hSn
            clear hSn
            refine wpAnyD_all (rs := [3]) (by kernel_rfl) (by simp) ?_
            refine AllD.cons (i := 3) rfl (by rfl) (fun K hK => ?_) ?_
            · go_simp
              refine (digits_any bh bl _ h3 h4).mono ?_
              rintro e v11 ⟨rfl, hb⟩
              have zv11 := hb.size
              try dsimp only
              have hSn := les_later hS hb
              refine hK.out _ _ (fun _ => hSn) ?_
              try simp only [Act.put, List.setIfInBounds_toArray, List.set_cons_zero, List.set_cons_succ]
              have r4 := row_later r4 hb
              have r5 := row_later r5 hb
              clear hK K hS hb
              have hS := hSn
              clear hSn
              refine wpAnyD_store (i := 6) 24 _ _ rfl (by kernel_rfl) (by rfl) rfl rfl (v1.heap.size) 0 (digs ah al 8).toArray rfl rfl (by rw [digs_size]; exact r4.2) (digs_info ah al) (all_oneCell_toArray (digs_one _ _ _)) ?_
              try simp only [Act.put]
              refine wpAnyD_store (i := 7) 24 _ _ rfl (by kernel_rfl) (by rfl) rfl rfl (v7.heap.size) 0 (digs bh bl 8).toArray rfl rfl (by rw [digs_size]; exact World.there_setCells r5.2 _ _ _) (digs_info bh bl) (all_oneCell_toArray (digs_one _ _ _)) ?_
              try simp only [Act.put]
              refine wpAnyD_done (by kernel_rfl) ?_ _
              go_wp2_with fail
              go_meet
              case rel => exact ⟨v1.heap.size, v7.heap.size, rfl, rfl, les_end hS.2.2.2.2 r4 r5 (by omega) (by omega) (by omega) (by omega) (by omega) (by omega) (by omega) (Nat.le_refl _)⟩
            exact AllD.nil
          exact AllD.nil
        refine AllD.cons (i := 5) rfl (by rfl) (fun K hK => ?_) ?_
        · go_simp
          have hb := below1 v1 (.cells #[.int .i64 0, .int .i64 0, .int .i64 0, .int .i64 0, .int .i64 0, .int .i64 0, .int .i64 0, .int .i64 0, .int .i64 0, .int .i64 0, .int .i64 0, .int .i64 0, .int .i64 0, .int .i64 0, .int .i64 0, .int .i64 0, .int .i64 0] 24)
          have r5 := row_new v1 24
          have hSn := les_later hS hb
          refine hK.out _ _ (fun _ => hSn) ?_
          try simp only [Act.put, List.setIfInBounds_toArray, List.set_cons_zero, List.set_cons_succ]
          have zv12 : v1.heap.size < (v1.alloc (.cells #[.int .i64 0, .int .i64 0, .int .i64 0, .int .i64 0, .int .i64 0, .int .i64 0, .int .i64 0, .int .i64 0, .int .i64 0, .int .i64 0, .int .i64 0, .int .i64 0, .int .i64 0, .int .i64 0, .int .i64 0, .int .i64 0, .int .i64 0] 24)).heap.size := by simp
          generalize v1.alloc (.cells #[.int .i64 0, .int .i64 0, .int .i64 0, .int .i64 0, .int .i64 0, .int .i64 0, .int .i64 0, .int .i64 0, .int .i64 0, .int .i64 0, .int .i64 0, .int .i64 0, .int .i64 0, .int .i64 0, .int .i64 0, .int .i64 0, .int .i64 0] 24) = v12 at *
          clear hK K hS hb
          have hS := hSn
          clear hSn
          refine wpAnyD_all (rs := [3, 4]) (by kernel_rfl) (by simp) ?_
          refine AllD.cons (i := 3) rfl (by rfl) (fun K hK => ?_) ?_
          · go_simp
            refine (digits_any bh bl _ h3 h4).mono ?_
            rintro e v13 ⟨rfl, hb⟩
            have zv13 := hb.size
            try dsimp only
            have hSn := les_later hS hb
            refine hK.out _ _ (fun _ => hSn) ?_
            try simp only [Act.put, List.setIfInBounds_toArray, List.set_cons_zero, List.set_cons_succ]
            have r5 := row_later r5 hb
            clear hK K hS hb
            have hS := hSn
            clear hSn
            refine wpAnyD_all (rs := [4]) (by kernel_rfl) (by simp) ?_
            refine AllD.cons (i := 4) rfl (by rfl) (fun K hK => ?_) ?_
            · go_simp
              have hb := below1 v13 (.cells #[.int .i64 0, .int .i64 0, .int .i64 0, .int .i64 0, .int .i64 0, .int .i64 0, .int .i64 0, .int .i64 0, .int .i64 0, .int .i64 0, .int .i64 0, .int .i64 0, .int .i64 0, .int .i64 0, .int .i64 0, .int .i64 0, .int .i64 0] 24)
              have r4 := row_new v13 24
              have hSn := les_later hS hb
              refine hK.out _ _ (fun _ => hSn) ?_
              try simp only [Act.put, List.setIfInBounds_toArray, List.set_cons_zero, List.set_cons_succ]
              have r5 := row_later r5 hb
              have zv14 : v13.heap.size < (v13.alloc (.cells #[.int .i64 0, .int .i64 0, .int .i64 0, .int .i64 0, .int .i64 0, .int .i64 0, .int .i64 0, .int .i64 0, .int .i64 0, .int .i64 0, .int .i64 0, .int .i64 0, .int .i64 0, .int .i64 0, .int .i64 0, .int .i64 0, .int .i64 0] 24)).heap.size := by simp
              generalize v13.alloc (.cells #[.int .i64 0, .int .i64 0, .int .i64 0, .int .i64 0, .int .i64 0, .int .i64 0, .int .i64 0, .int .i64 0, .int .i64 0, .int .i64 0, .int .i64 0, .int .i64 0, .int .i64 0, .int .i64 0, .int .i64 0, .int .i64 0, .int .i64 0] 24) = v14 at *
              clear hK K hS hb
              have hS := hSn
              clear hSn
              refine wpAnyD_store (i := 6) 24 _ _ rfl (by kernel_rfl) (by rfl) rfl rfl (v13.heap.size) 0 (digs ah al 8).toArray rfl rfl (by rw [digs_size]; exact r4.2) (digs_info ah al) (all_oneCell_toArray (digs_one _ _ _)) ?_
              try simp only [Act.put]
              refine wpAnyD_store (i := 7) 24 _ _ rfl (by kernel_rfl) (by rfl) rfl rfl (v1.heap.size) 0 (digs bh bl 8).toArray rfl rfl (by rw [digs_size]; exact World.there_setCells r5.2 _ _ _) (digs_info bh bl) (all_oneCell_toArray (digs_one _ _ _)) ?_
              try simp only [Act.put]
              refine wpAnyD_done (by kernel_rfl) ?_ _
              go_wp2_with fail
              go_meet
              case rel => exact ⟨v13.heap.size, v1.heap.size, rfl, rfl, les_end hS.2.2.2.2 r4 r5 (by omega) (by omega) (by omega) (by omega) (by omega) (by omega) (by omega) (Nat.le_refl _)⟩
            exact AllD.nil
          refine AllD.cons (i := 4) rfl (by rfl) (fun K hK => ?_) ?_
          · go_simp
            have hb := below1 v12 (.cells #[.int .i64 0, .int .i64 0, .int .i64 0, .int .i64 0, .int .i64 0, .int .i64 0, .int .i64 0, .int .i64 0, .int .i64 0, .int .i64 0, .int .i64 0, .int .i64 0, .int .i64 0, .int .i64 0, .int .i64 0, .int .i64 0, .int .i64 0] 24)
            have r4 := row_new v12 24
            have hSn := les_later hS hb
            refine hK.out _ _ (fun _ => hSn) ?_
            try simp only [Act.put, List.setIfInBounds_toArray, List.set_cons_zero, List.set_cons_succ]
            have r5 := row_later r5 hb
            have zv15 : v12.heap.size < (v12.alloc (.cells #[.int .i64 0, .int .i64 0, .int .i64 0, .int .i64 0, .int .i64 0, .int .i64 0, .int .i64 0, .int .i64 0, .int .i64 0, .int .i64 0, .int .i64 0, .int .i64 0, .int .i64 0, .int .i64 0, .int .i64 0, .int .i64 0, .int .i64 0] 24)).heap.size := by simp
            generalize v12.alloc (.cells #[.int .i64 0, .int .i64 0, .int .i64 0, .int .i64 0, .int .i64 0, .int .i64 0, .int .i64 0, .int .i64 0, .int .i64 0, .int .i64 0, .int .i64 0, .int .i64 0, .int .i64 0, .int .i64 0, .int .i64 0, .int .i64 0, .int .i64 0] 24) = v15 at *
            clear hK K hS hb
            have hS := hSn
            clear hSn
            refine wpAnyD_all (rs := [3]) (by kernel_rfl) (by simp) ?_
            refine AllD.cons (i := 3) rfl (by rfl) (fun K hK => ?_) ?_
            · go_simp
              refine (digits_any bh bl _ h3 h4).mono ?_
              rintro e v16 ⟨rfl, hb⟩
              have zv16 := hb.size
              try dsimp only
              have hSn := les_later hS hb
              refine hK.out _ _ (fun _ => hSn) ?_
              try simp only [Act.put, List.setIfInBounds_toArray, List.set_cons_zero, List.set_cons_succ]
              have r4 := row_later r4 hb
              have r5 := row_later r5 hb
              clear hK K hS hb
              have hS := hSn
              clear hSn
              refine wpAnyD_store (i := 6) 24 _ _ rfl (by kernel_rfl) (by rfl) rfl rfl (v12.heap.size) 0 (digs ah al 8).toArray rfl rfl (by rw [digs_size]; exact r4.2) (digs_info ah al) (all_oneCell_toArray (digs_one _ _ _)) ?_
              try simp only [Act.put]
              refine wpAnyD_store (i := 7) 24 _ _ rfl (by kernel_rfl) (by rfl) rfl rfl (v1.heap.size) 0 (digs bh bl 8).toArray rfl rfl (by rw [digs_size]; exact World.there_setCells r5.2 _ _ _) (digs_info bh bl) (all_oneCell_toArray (digs_one _ _ _)) ?_
              try simp only [Act.put]
              refine wpAnyD_done (by kernel_rfl) ?_ _
              go_wp2_with fail
              go_meet
              case rel => exact ⟨v12.heap.size, v1.heap.size, rfl, rfl, les_end hS.2.2.2.2 r4 r5 (by omega) (by omega) (by omega) (by omega) (by omega) (by omega) (by omega) (Nat.le_refl _)⟩
            exact AllD.nil
          exact AllD.nil
        exact AllD.nil
      refine AllD.cons (i := 4) rfl (by rfl) (fun K hK => ?_) ?_
      · go_simp
        have hb := below1 v0 (.cells #[.int .i64 0, .int .i64 0, .int .i64 0, .int .i64 0, .int .i64 0, .int .i64 0, .int .i64 0, .int .i64 0, .int .i64 0, .int .i64 0, .int .i64 0, .int .i64 0, .int .i64 0, .int .i64 0, .int .i64 0, .int .i64 0, .int .i64 0] 24)
        have r4 := row_new v0 24
        have hSn := les_later hS hb
        refine hK.out _ _ (fun _ => hSn) ?_
        try simp only [Act.put, List.setIfInBounds_toArray, List.set_cons_zero, List.set_cons_succ]
        have zv17 : v0.heap.size < (v0.alloc (.cells #[.int .i64 0, .int .i64 0, .int .i64 0, .int .i64 0, .int .i64 0, .int .i64 0, .int .i64 0, .int .i64 0, .int .i64 0, .int .i64 0, .int .i64 0, .int .i64 0, .int .i64 0, .int .i64 0, .int .i64 0, .int .i64 0, .int .i64 0] 24)).heap.size := by simp
        generalize v0.alloc (.cells #[.int .i64 0, .int .i64 0, .int .i64 0, .int .i64 0, .int .i64 0, .int .i64 0, .int .i64 0, .int .i64 0, .int .i64 0, .int .i64 0, .int .i64 0, .int .i64 0, .int .i64 0, .int .i64 0, .int .i64 0, .int .i64 0, .int .i64 0] 24) = v17 at *
        clear hK K hS hb
        have hS := hSn
        clear hSn
        refine wpAnyD_all (rs := [1, 5]) (by kernel_rfl) (by simp) ?_
        refine AllD.cons (i := 1) rfl (by rfl) (fun K hK => ?_) ?_
        · go_simp
          refine (digits_any ah al _ h1 h2).mono ?_
          rintro e v18 ⟨rfl, hb⟩
          have zv18 := hb.size
          try dsimp only
          have hSn := les_later hS hb
          refine hK.out _ _ (fun _ => hSn) ?_
          try simp only [Act.put, List.setIfInBounds_toArray, List.set_cons_zero, List.set_cons_succ]
          have r4 := row_later r4 hb
          clear hK K hS hb
          have hS := hSn
          clear hSn
          refine wpAnyD_all (rs := [3, 5]) (by kernel_rfl) (by simp) ?_
          refine AllD.cons (i := 3) rfl (by rfl) (fun K hK => ?_) ?_
          · go_simp
            refine (digits_any bh bl _ h3 h4).mono ?_
            rintro e v19 ⟨rfl, hb⟩
            have zv19 := hb.size
            try dsimp only
            have hSn := les_later hS hb
            refine hK.out _ _ (fun _ => hSn) ?_
            try simp only [Act.put, List.setIfInBounds_toArray, List.set_cons_zero, List.set_cons_succ]
            have r4 := row_later r4 hb
            clear hK K hS hb
            have hS := hSn
            clear hSn
            refine wpAnyD_all (rs := [5]) (by kernel_rfl) (by simp) ?_
            refine AllD.cons (i := 5) rfl (by rfl) (fun K hK => ?_) ?_
            · go_simp
              have hb := below1 v19 (.cells #[.int .i64 0, .int .i64 0, .int .i64 0, .int .i64 0, .int .i64 0, .int .i64 0, .int .i64 0, .int .i64 0, .int .i64 0, .int .i64 0, .int .i64 0, .int .i64 0, .int .i64 0, .int .i64 0, .int .i64 0, .int .i64 0, .int .i64 0] 24)
              have r5 := row_new v19 24
              have hSn := les_later hS hb
              refine hK.out _ _ (fun _ => hSn) ?_
              try simp only [Act.put, List.setIfInBounds_toArray, List.set_cons_zero, List.set_cons_succ]
              have r4 := row_later r4 hb
              have zv20 : v19.heap.size < (v19.alloc (.cells #[.int .i64 0, .int .i64 0, .int .i64 0, .int .i64 0, .int .i64 0, .int .i64 0, .int .i64 0, .int .i64 0, .int .i64 0, .int .i64 0, .int .i64 0, .int .i64 0, .int .i64 0, .int .i64 0, .int .i64 0, .int .i64 0, .int .i64 0] 24)).heap.size := by simp
              generalize v19.alloc (.cells #[.int .i64 0, .int .i64 0, .int .i64 0, .int .i64 0, .int .i64 0, .int .i64 0, .int .i64 0, .int .i64 0, .int .i64 0, .int .i64 0, .int .i64 0, .int .i64 0, .int .i64 0, .int .i64 0, .int .i64 0, .int .i64 0, .int .i64 0] 24) = v20 at *
              clear hK K hS hb
              have hS := hSn
              clear hSn
              refine wpAnyD_store (i := 6) 24 _ _ rfl (by kernel_rfl) (by rfl) rfl rfl (v0.heap.size) 0 (digs ah al 8).toArray rfl rfl (by rw [digs_size]; exact r4.2) (digs_info ah al) (all_oneCell_toArray (digs_one _ _ _)) ?_
              try simp only [Act.put]
              refine wpAnyD_store (i := 7) 24 _ _ rfl (by kernel_rfl) (by rfl) rfl rfl (v19.heap.size) 0 (digs bh bl 8).toArray rfl rfl (by rw [digs_size]; exact World.there_setCells r5.2 _ _ _) (digs_info bh bl) (all_oneCell_toArray (digs_one _ _ _)) ?_
              try simp only [Act.put]
              refine wpAnyD_done (by kernel_rfl) ?_ _
              go_wp2_with fail
              go_meet
              case rel => exact ⟨v0.heap.size, v19.heap.size, rfl, rfl, les_end hS.2.2.2.2 r4 r5 (by omega) (by omega) (by omega) (by omega) (by omega) (by omega) (by omega) (Nat.le_refl _)⟩
            exact AllD.nil
          refine AllD.cons (i := 5) rfl (by rfl) (fun K hK => ?_) ?_
          · go_simp
            have hb := below1 v18 (.cells #[.int .i64 0, .int .i64 0, .int .i64 0, .int .i64 0, .int .i64 0, .int .i64 0, .int .i64 0, .int .i64 0, .int .i64 0, .int .i64 0, .int .i64 0, .int .i64 0, .int .i64 0, .int .i64 0, .int .i64 0, .int .i64 0, .int .i64 0] 24)
            have r5 := row_new v18 24
            have hSn := les_later hS hb
            refine hK.out _ _ (fun _ => hSn) ?_
            try simp only [Act.put, List.setIfInBounds_toArray, List.set_cons_zero, List.set_cons_succ]
            have r4 := row_later r4 hb
            have zv21 : v18.heap.size < (v18.alloc (.cells #[.int .i64 0, .int .i64 0, .int .i64 0, .int .i64 0, .int .i64 0, .int .i64 0, .int .i64 0, .int .i64 0, .int .i64 0, .int .i64 0, .int .i64 0, .int .i64 0, .int .i64 0, .int .i64 0, .int .i64 0, .int .i64 0, .int .i64 0] 24)).heap.size := by simp
            generalize v18.alloc (.cells #[.int .i64 0, .int .i64 0, .int .i64 0, .int .i64 0, .int .i64 0, .int .i64 0, .int .i64 0, .int .i64 0, .int .i64 0, .int .i64 0, .int .i64 0, .int .i64 0, .int .i64 0, .int .i64 0, .int .i64 0, .int .i64 0, .int .i64 0] 24) = v21 at *
            clear hK K hS hb
            have hS := hSn
            clear hSn
            refine wpAnyD_all (rs := [3]) (by kernel_rfl) (by simp) ?_
            refine AllD.cons (i := 3) rfl (by rfl) (fun K hK => ?_) ?_
            · go_simp
              refine (digits_any bh bl _ h3 h4).mono ?_
              rintro e v22 ⟨rfl, hb⟩
              have zv22 := hb.size
              try dsimp only
              have hSn := les_later hS hb
              refine hK.out _ _ (fun _ => hSn) ?_
              try simp only [Act.put, List.setIfInBounds_toArray, List.set_cons_zero, List.set_cons_succ]
              have r4 := row_later r4 hb
              have r5 := row_later r5 hb
              clear hK K hS hb
              have hS := hSn
              clear hSn
              refine wpAnyD_store (i := 6) 24 _ _ rfl (by kernel_rfl) (by rfl) rfl rfl (v0.heap.size) 0 (digs ah al 8).toArray rfl rfl (by rw [digs_size]; exact r4.2) (digs_info ah al) (all_oneCell_toArray (digs_one _ _ _)) ?_
              try simp only [Act.put]
              refine wpAnyD_store (i := 7) 24 _ _ rfl (by kernel_rfl) (by rfl) rfl rfl (v18.heap.size) 0 (digs bh bl 8).toArray rfl rfl (by rw [digs_size]; exact World.there_setCells r5.2 _ _ _) (digs_info bh bl) (all_oneCell_toArray (digs_one _ _ _)) ?_
              try simp only [Act.put]
              refine wpAnyD_done (by kernel_rfl) ?_ _
              go_wp2_with fail
              go_meet
              case rel => exact ⟨v0.heap.size, v18.heap.size, rfl, rfl, les_end hS.2.2.2.2 r4 r5 (by omega) (by omega) (by omega) (by omega) (by omega) (by omega) (by omega) (Nat.le_refl _)⟩
            exact AllD.nil
          exact AllD.nil
        refine AllD.cons (i := 5) rfl (by rfl) (fun K hK => ?_) ?_
        · go_simp
          have hb := below1 v17 (.cells #[.int .i64 0, .int .i64 0, .int .i64 0, .int .i64 0, .int .i64 0, .int .i64 0, .int .i64 0, .int .i64 0, .int .i64 0, .int .i64 0, .int .i64 0, .int .i64 0, .int .i64 0, .int .i64 0, .int .i64 0, .int .i64 0, .int .i64 0] 24)
          have r5 := row_new v17 24
          have hSn := les_later hS hb
          refine hK.out _ _ (fun _ => hSn) ?_
          try simp only [Act.put, List.setIfInBounds_toArray, List.set_cons_zero, List.set_cons_succ]
          have r4 := row_later r4 hb
          have zv23 : v17.heap.size < (v17.alloc (.cells #[.int .i64 0, .int .i64 0, .int .i64 0, .int .i64 0, .int .i64 0, .int .i64 0, .int .i64 0, .int .i64 0, .int .i64 0, .int .i64 0, .int .i64 0, .int .i64 0, .int .i64 0, .int .i64 0, .int .i64 0, .int .i64 0, .int .i64 0] 24)).heap.size := by simp
          generalize v17.alloc (.cells #[.int .i64 0, .int .i64 0, .int .i64 0, .int .i64 0, .int .i64 0, .int .i64 0, .int .i64 0, .int .i64 0, .int .i64 0, .int .i64 0, .int .i64 0, .int .i64 0, .int .i64 0, .int .i64 0, .int .i64 0, .int .i64 0, .int .i64 0] 24) = v23 at *
          clear hK K hS hb
          have hS := hSn
          clear hSn
          refine wpAnyD_all (rs := [1]) (by kernel_rfl) (by simp) ?_
          refine AllD.cons (i := 1) rfl (by rfl) (fun K hK => ?_) ?_
          · go_simp
            refine (digits_any ah al _ h1 h2).mono ?_
            rintro e v24 ⟨rfl, hb⟩
            have zv24 := hb.size
            try dsimp only
            have hSn := les_later hS hb
            refine hK.out _ _ (fun _ => hSn) ?_
            try simp only [Act.put, List.setIfInBounds_toArray, List.set_cons_zero, List.set_cons_succ]
            have r4 := row_later r4 hb
            have r5 := row_later r5 hb
            clear hK K hS hb
            have hS := hSn
            clear hSn
            refine wpAnyD_all (rs := [3]) (by kernel_rfl) (by simp) ?_
            refine AllD.cons (i := 3) rfl (by rfl) (fun K hK => ?_) ?_
            · go_simp
              refine (digits_any bh bl _ h3 h4).mono ?_
              rintro e v25 ⟨rfl, hb⟩
              have zv25 := hb.size
              try dsimp only
              have hSn := les_later hS hb
              refine hK.out _ _ (fun _ => hSn) ?_
              try simp only [Act.put, List.setIfInBounds_toArray, List.set_cons_zero, List.set_cons_succ]
              have r4 := row_later r4 hb
              have r5 := row_later r5 hb
              clear hK K hS hb
              have hS := hSn
              clear hSn
              refine wpAnyD_store (i := 6) 24 _ _ rfl (by kernel_rfl) (by rfl) rfl rfl (v0.heap.size) 0 (digs ah al 8).toArray rfl rfl (by rw [digs_size]; exact r4.2) (digs_info ah al) (all_oneCell_toArray (digs_one _ _ _)) ?_
              try simp only [Act.put]
              refine wpAnyD_store (i := 7) 24 _ _ rfl (by kernel_rfl) (by rfl) rfl rfl (v17.heap.size) 0 (digs bh bl 8).toArray rfl rfl (by rw [digs_size]; exact World.there_setCells r5.2 _ _ _) (digs_info bh bl) (all_oneCell_toArray (digs_one _ _ _)) ?_
              try simp only [Act.put]
              refine wpAnyD_done (by kernel_rfl) ?_ _
              go_wp2_with fail
              go_meet
              case rel => exact ⟨v0.heap.size, v17.heap.size, rfl, rfl, les_end hS.2.2.2.2 r4 r5 (by omega) (by omega) (by omega) (by omega) (by omega) (by omega) (by omega) (Nat.le_refl _)⟩
            exact AllD.nil
          exact AllD.nil
        exact AllD.nil
      refine AllD.cons (i := 5) rfl (by rfl) (fun K hK => ?_) ?_
      · go_simp
        have hb := below1 v0 (.cells #[.int .i64 0, .int .i64 0, .int .i64 0, .int .i64 0, .int .i64 0, .int .i64 0, .int .i64 0, .int .i64 0, .int .i64 0, .int .i64 0, .int .i64 0, .int .i64 0, .int .i64 0, .int .i64 0, .int .i64 0, .int .i64 0, .int .i64 0] 24)
        have r5 := row_new v0 24
        have hSn := les_later hS hb
        refine hK.out _ _ (fun _ => hSn) ?_
        try simp only [Act.put, List.setIfInBounds_toArray, List.set_cons_zero, List.set_cons_succ]
        have zv26 : v0.heap.size < (v0.alloc (.cells #[.int .i64 0, .int .i64 0, .int .i64 0, .int .i64 0, .int .i64 0, .int .i64 0, .int .i64 0, .int .i64 0, .int .i64 0, .int .i64 0, .int .i64 0, .int .i64 0, .int .i64 0, .int .i64 0, .int .i64 0, .int .i64 0, .int .i64 0] 24)).heap.size := by simp
        generalize v0.alloc (.cells #[.int .i64 0, .int .i64 0, .int .i64 0, .int .i64 0, .int .i64 0, .int .i64 0, .int .i64 0, .int .i64 0, .int .i64 0, .int .i64 0, .int .i64 0, .int .i64 0, .int .i64 0, .int .i64 0, .int .i64 0, .int .i64 0, .int .i64 0] 24) = v26 at *
        clear hK K hS hb
        have hS := hSn
        clear hSn
        refine wpAnyD_all (rs := [1, 4]) (by kernel_rfl) (by simp) ?_
        refine AllD.cons (i := 1) rfl (by rfl) (fun K hK => ?_) ?_
        · go_simp
          refine (digits_any ah al _ h1 h2).mono ?_
          rintro e v27 ⟨rfl, hb⟩
          have zv27 := hb.size
          try dsimp only
          have hSn := les_later hS hb
          refine hK.out _ _ (fun _ => hSn) ?_
          try simp only [Act.put, List.setIfInBounds_toArray, List.set_cons_zero, List.set_cons_succ]
          have r5 := row_later r5 hb
          clear hK K hS hb
          have hS := hSn
          clear hSn
          refine wpAnyD_all (rs := [3, 4]) (by kernel_rfl) (by simp) ?_
          refine AllD.cons (i := 3) rfl (by rfl) (fun K hK => ?_) ?_
          · go_simp
            refine (digits_any bh bl _ h3 h4).mono ?_
            rintro e v28 ⟨rfl, hb⟩
            have zv28 := hb.size
            try dsimp only
            have hSn := les_later hS hb
            refine hK.out _ _ (fun _ => hSn) ?_
            try simp only [Act.put, List.setIfInBounds_toArray, List.set_cons_zero, List.set_cons_succ]
            have r5 := row_later r5 hb
            clear hK K hS hb
            have hS := hSn
            clear hSn
            refine wpAnyD_all (rs := [4]) (by kernel_rfl) (by simp) ?_
            refine AllD.cons (i := 4) rfl (by rfl) (fun K hK => ?_) ?_
            · go_simp
              have hb := below1 v28 (.cells #[.int .i64 0, .int .i64 0, .int .i64 0, .int .i64 0, .int .i64 0, .int .i64 0, .int .i64 0, .int .i64 0, .int .i64 0, .int .i64 0, .int .i64 0, .int .i64 0, .int .i64 0, .int .i64 0, .int .i64 0, .int .i64 0, .int .i64 0] 24)
              have r4 := row_new v28 24
              have hSn := les_later hS hb
              refine hK.out _ _ (fun _ => hSn) ?_
              try simp only [Act.put, List.setIfInBounds_toArray, List.set_cons_zero, List.set_cons_succ]
              have r5 := row_later r5 hb
              have zv29 : v28.heap.size < (v28.alloc (.cells #[.int .i64 0, .int .i64 0, .int .i64 0, .int .i64 0, .int .i64 0, .int .i64 0, .int .i64 0, .int .i64 0, .int .i64 0, .int .i64 0, .int .i64 0, .int .i64 0, .int .i64 0, .int .i64 0, .int .i64 0, .int .i64 0, .int .i64 0] 24)).heap.size := by simp
              generalize v28.alloc (.cells #[.int .i64 0, .int .i64 0, .int .i64 0, .int .i64 0, .int .i64 0, .int .i64 0, .int .i64 0, .int .i64 0, .int .i64 0, .int .i64 0, .int .i64 0, .int .i64 0, .int .i64 0, .int .i64 0, .int .i64 0, .int .i64 0, .int .i64 0] 24) = v29 at *
              clear hK K hS hb
              have hS := hSn
              clear hSn
              refine wpAnyD_store (i := 6) 24 _ _ rfl (by kernel_rfl) (by rfl) rfl rfl (v28.heap.size) 0 (digs ah al 8).toArray rfl rfl (by rw [digs_size]; exact r4.2) (digs_info ah al) (all_oneCell_toArray (digs_one _ _ _)) ?_
              try simp only [Act.put]
              refine wpAnyD_store (i := 7) 24 _ _ rfl (by kernel_rfl) (by rfl) rfl rfl (v0.heap.size) 0 (digs bh bl 8).toArray rfl rfl (by rw [digs_size]; exact World.there_setCells r5.2 _ _ _) (digs_info bh bl) (all_oneCell_toArray (digs_one _ _ _)) ?_
              try simp only [Act.put]
              refine wpAnyD_done (by kernel_rfl) ?_ _
              go_wp2_with fail
              go_meet
              case rel => exact ⟨v28.heap.size, v0.heap.size, rfl, rfl, les_end hS.2.2.2.2 r4 r5 (by omega) (by omega) (by omega) (by omega) (by omega) (by omega) (by omega) (Nat.le_refl _)⟩
            exact AllD.nil
          refine AllD.cons (i := 4) rfl (by rfl) (fun K hK => ?_) ?_
          · go_simp
            have hb := below1 v27 (.cells #[.int .i64 0, .int .i64 0, .int .i64 0, .int .i64 0, .int .i64 0, .int .i64 0, .int .i64 0, .int .i64 0, .int .i64 0, .int .i64 0, .int .i64 0, .int .i64 0, .int .i64 0, .int .i64 0, .int .i64 0, .int .i64 0, .int .i64 0] 24)
            have r4 := row_new v27 24
            have hSn := les_later hS hb
            refine hK.out _ _ (fun _ => hSn) ?_
            try simp only [Act.put, List.setIfInBounds_toArray, List.set_cons_zero, List.set_cons_succ]
            have r5 := row_later r5 hb
            have zv30 : v27.heap.size < (v27.alloc (.cells #[.int .i64 0, .int .i64 0, .int .i64 0, .int .i64 0, .int .i64 0, .int .i64 0, .int .i64 0, .int .i64 0, .int .i64 0, .int .i64 0, .int .i64 0, .int .i64 0, .int .i64 0, .int .i64 0, .int .i64 0, .int .i64 0, .int .i64 0] 24)).heap.size := by simp
            generalize v27.alloc (.cells #[.int .i64 0, .int .i64 0, .int .i64 0, .int .i64 0, .int .i64 0, .int .i64 0, .int .i64 0, .int .i64 0, .int .i64 0, .int .i64 0, .int .i64 0, .int .i64 0, .int .i64 0, .int .i64 0, .int .i64 0, .int .i64 0, .int .i64 0] 24) = v30 at *
            clear hK K hS hb
            have hS := hSn
            clear hSn
            refine wpAnyD_all (rs := [3]) (by kernel_rfl) (by simp) ?_
            refine AllD.cons (i := 3) rfl (by rfl) (fun K hK => ?_) ?_
            · go_simp
              refine (digits_any bh bl _ h3 h4).mono ?_
              rintro e v31 ⟨rfl, hb⟩
              have zv31 := hb.size
              try dsimp only
              have hSn := les_later hS hb
              refine hK.out _ _ (fun _ => hSn) ?_
              try simp only [Act.put, List.setIfInBounds_toArray, List.set_cons_zero, List.set_cons_succ]
              have r4 := row_later r4 hb
              have r5 := row_later r5 hb
              clear hK K hS hb
              have hS := hSn
              clear hSn
              refine wpAnyD_store (i := 6) 24 _ _ rfl (by kernel_rfl) (by rfl) rfl rfl (v27.heap.size) 0 (digs ah al 8).toArray rfl rfl (by rw [digs_size]; exact r4.2) (digs_info ah al) (all_oneCell_toArray (digs_one _ _ _)) ?_
              try simp only [Act.put]
              refine wpAnyD_store (i := 7) 24 _ _ rfl (by kernel_rfl) (by rfl) rfl rfl (v0.heap.size) 0 (digs bh bl 8).toArray rfl rfl (by rw [digs_size]; exact World.there_setCells r5.2 _ _ _) (digs_info bh bl) (all_oneCell_toArray (digs_one _ _ _)) ?_
              try simp only [Act.put]
              refine wpAnyD_done (by kernel_rfl) ?_ _
              go_wp2_with fail
              go_meet
              case rel => exact ⟨v27.heap.size, v0.heap.size, rfl, rfl, les_end hS.2.2.2.2 r4 r5 (by omega) (by omega) (by omega) (by omega) (by omega) (by omega) (by omega) (Nat.le_refl _)⟩
            exact AllD.nil
          exact AllD.nil
        refine AllD.cons (i := 4) rfl (by rfl) (fun K hK => ?_) ?_
        · go_simp
          have hb := below1 v26 (.cells #[.int .i64 0, .int .i64 0, .int .i64 0, .int .i64 0, .int .i64 0, .int .i64 0, .int .i64 0, .int .i64 0, .int .i64 0, .int .i64 0, .int .i64 0, .int .i64 0, .int .i64 0, .int .i64 0, .int .i64 0, .int .i64 0, .int .i64 0] 24)
          have r4 := row_new v26 24
          have hSn := les_later hS hb
          refine hK.out _ _ (fun _ => hSn) ?_
          try simp only [Act.put, List.setIfInBounds_toArray, List.set_cons_zero, List.set_cons_succ]
          have r5 := row_later r5 hb
          have zv32 : v26.heap.size < (v26.alloc (.cells #[.int .i64 0, .int .i64 0, .int .i64 0, .int .i64 0, .int .i64 0, .int .i64 0, .int .i64 0, .int .i64 0, .int .i64 0, .int .i64 0, .int .i64 0, .int .i64 0, .int .i64 0, .int .i64 0, .int .i64 0, .int .i64 0, .int .i64 0] 24)).heap.size := by simp
          generalize v26.alloc (.cells #[.int .i64 0, .int .i64 0, .int .i64 0, .int .i64 0, .int .i64 0, .int .i64 0, .int .i64 0, .int .i64 0, .int .i64 0, .int .i64 0, .int .i64 0, .int .i64 0, .int .i64 0, .int .i64 0, .int .i64 0, .int .i64 0, .int .i64 0] 24) = v32 at *
          clear hK K hS hb
          have hS := hSn
          clear hSn
          refine wpAnyD_all (rs := [1]) (by kernel_rfl) (by simp) ?_
          refine AllD.cons (i := 1) rfl (by rfl) (fun K hK => ?_) ?_
          · go_simp
            refine (digits_any ah al _ h1 h2).mono ?_
            rintro e v33 ⟨rfl, hb⟩
            have zv33 := hb.size
            try dsimp only
            have hSn := les_later hS hb
            refine hK.out _ _ (fun _ => hSn) ?_
            try simp only [Act.put, List.setIfInBounds_toArray, List.set_cons_zero, List.set_cons_succ]
            have r4 := row_later r4 hb
            have r5 := row_later r5 hb
            clear hK K hS hb
            have hS := hSn
            clear hSn
            refine wpAnyD_all (rs := [3]) (by kernel_rfl) (by simp) ?_
            refine AllD.cons (i := 3) rfl (by rfl) (fun K hK => ?_) ?_
            · go_simp
              refine (digits_any bh bl _ h3 h4).mono ?_
              rintro e v34 ⟨rfl, hb⟩
              have zv34 := hb.size
              try dsimp only
              have hSn := les_later hS hb
              refine hK.out _ _ (fun _ => hSn) ?_
              try simp only [Act.put, List.setIfInBounds_toArray, List.set_cons_zero, List.set_cons_succ]
              have r4 := row_later r4 hb
              have r5 := row_later r5 hb
              clear hK K hS hb
              have hS := hSn
              clear hSn
              refine wpAnyD_store (i := 6) 24 _ _ rfl (by kernel_rfl) (by rfl) rfl rfl (v26.heap.size) 0 (digs ah al 8).toArray rfl rfl (by rw [digs_size]; exact r4.2) (digs_info ah al) (all_oneCell_toArray (digs_one _ _ _)) ?_
              try simp only [Act.put]
              refine wpAnyD_store (i := 7) 24 _ _ rfl (by kernel_rfl) (by rfl) rfl rfl (v0.heap.size) 0 (digs bh bl 8).toArray rfl rfl (by rw [digs_size]; exact World.there_setCells r5.2 _ _ _) (digs_info bh bl) (all_oneCell_toArray (digs_one _ _ _)) ?_
              try simp only [Act.put]
              refine wpAnyD_done (by kernel_rfl) ?_ _
              go_wp2_with fail
              go_meet
              case rel => exact ⟨v26.heap.size, v0.heap.size, rfl, rfl, les_end hS.2.2.2.2 r4 r5 (by omega) (by omega) (by omega) (by omega) (by omega) (by omega) (by omega) (Nat.le_refl _)⟩
            exact AllD.nil
          exact AllD.nil
        exact AllD.nil
      exact AllD.nil
    case rest =>
      obtain ⟨X, Y, rfl, rfl, RX, RY, LW9⟩ := hcut
      clear LW5
      obtain ⟨w9, rfl⟩ : ∃ w9 : World, w9 = wc := ⟨_, rfl⟩
      have LX : LesX w w.heap.size (w.heap.size + 1) w2.heap.size X Y ah al bh bl dh dl (ah * 18446744073709551616 + al).toNat (bh * 18446744073709551616 + bl).toNat w9 := ⟨digs_cells RX h1 h2, digs_cells RY h3 h4, LW9⟩
      clear RX RY LW9
      have HE : Hid (cmpK (ah * 18446744073709551616 + al).toNat (bh * 18446744073709551616 + bl).toNat 16 = cc) := by
        obtain ⟨_, _⟩ := h1; obtain ⟨_, _⟩ := h2; obtain ⟨_, _⟩ := h3; obtain ⟨_, _⟩ := h4
        show _ = _
        rw [cmpK_end (by omega) (by omega), HC.out, Int.toNat_of_nonneg (by omega), Int.toNat_of_nonneg (by omega)]
      generalize hx : (ah * 18446744073709551616 + al).toNat = x at *
      generalize hy : (bh * 18446744073709551616 + bl).toNat = y at *
      clear hx hy HC HC2
      go_wp2_with fail
      go_loopw [10, 58] (fun want i wr => ∃ k : Nat, k ≤ 16 ∧ i = .int .i64 k ∧ want = .int .i64 (cmpK x y k) ∧ LesX w w.heap.size (w.heap.size + 1) w2.heap.size X Y ah al bh bl dh dl x y wr)
        (fun _ i _ => 16 - (intOf i).toNat)
      case atStart => exact ⟨0, by omega, rfl, by rw [cmpK_zero], LX⟩
      case round =>
        clear LX
        obtain ⟨k, hk, rfl, rfl, hr⟩ := hrel
        by_cases hlt : k < 16
        · have cx := hr.x k hlt
          have cy := hr.y k hlt
          have g0 : (0 : Int) ≤ (k : Int) := by omega
          have g1 : (k : Int) < 17 := by omega
          have g2 : (k : Int) < 16 := by omega
          have t1 := by8_lt x k
          have t2 := by8_lt y k
          have HR : Hid (LesX w w.heap.size (w.heap.size + 1) w2.heap.size X Y ah al bh bl dh dl x y wr) := hr
          clear hr
          rcases Nat.lt_trichotomy (by8 x k) (by8 y k) with hc | hc | hc
          · have e1 := cmpK_lt hc
            generalize by8 x k = bx at *
            generalize by8 y k = byy at *
            generalize cmpK x y k = ck at *
            go_wp2
            go_region
            go_wp2
            go_region
            go_wp2
            go_roundw
            case rel => exact ⟨k + 1, by omega, by go_num, by rw [e1], HR.out.drew.drew⟩
            case measure => simp [intOf]; omega
          · have e1 := cmpK_eq hc
            rw [← hc] at cy
            generalize by8 x k = bx at *
            generalize cmpK x y k = ck at *
            go_wp2
            go_region
            go_wp2
            go_roundw
            case rel => exact ⟨k + 1, by omega, by go_num, by rw [e1], HR.out.drew⟩
            case measure => simp [intOf]; omega
          · have e1 := cmpK_gt hc
            generalize by8 x k = bx at *
            generalize by8 y k = byy at *
            generalize cmpK x y k = ck at *
            go_wp2
            go_region
            go_wp2
            go_region
            go_wp2
            go_roundw
            case rel => exact ⟨k + 1, by omega, by go_num, by rw [e1], HR.out.drew.drew⟩
            case measure => simp [intOf]; omega
        · obtain rfl : k = 16 := by omega
          rw [HE.out]
          obtain ⟨⟨zA, A0, A1⟩, ⟨zB, B0, B1⟩, ⟨zD, D0, D1⟩, bel⟩ := id hr.l
          clear hr
          cases ok with
          | false =>
            obtain ⟨rfl, rfl⟩ : dh = 0 ∧ dl = 0 := by
              rcases HD.out with ⟨h, _⟩ | ⟨_, _, h, h'⟩
              · cases h
              · exact ⟨h, h'⟩
            clear HD
            go_wp2_with fail
            refine (add2_val _ _ rfl 0 0 bh bl bh bl _ _ word_zero word_zero h3 h4 h3 h4 (by omega)).mono ?_
            rintro e w10 ⟨rfl, hb⟩
            have bel' := chain bel hb
            clear hb bel
            go_wp2
            go_ret
            exact ⟨rfl, chainA bel' _⟩
          | true =>
            have he : ah * 18446744073709551616 + al = (dh * 18446744073709551616 + dl) + (bh * 18446744073709551616 + bl) := by
              rcases HD.out with ⟨_, h⟩ | ⟨h, _⟩
              · omega
              · cases h
            clear HD
            go_wp2_with fail
            refine (add2_val _ _ rfl dh dl bh bl ah al _ _ kd1 kd2 h3 h4 h1 h2 he).mono ?_
            rintro e w10 ⟨rfl, hb⟩
            have bel' := chain bel hb
            obtain ⟨zA', A0', A1'⟩ := (show NumAt wr w.heap.size ah al from ⟨zA, A0, A1⟩).later hb
            clear hb bel he zA A0 A1 zB B0 B1 zD D0 D1
            go_wp2
            go_ret
            exact ⟨rfl, chainA bel' _⟩
end Go.Proofs.Ytcmjinkhfgmgaaa
