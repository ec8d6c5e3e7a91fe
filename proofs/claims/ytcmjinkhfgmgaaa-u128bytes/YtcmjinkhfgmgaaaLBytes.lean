/-
  The walk of paciolilaw01.U128Bytes: it returns true, for every number and every row of bytes, and turns nothing that was there.
-/
import Derived.Test.YtcmjinkhfgmgaaaByt
import Derived.Test.YtcmjinkhfgmgaaaFit
import Derived.Test.YtcmjinkhfgmgaaaBit
import Derived.Test.YtcmjinkhfgmgaaaHeld
import Derived.Deep.DeepCutAuto
import Derived.Deep.QuietTactic
import Derived.BigQuiet
import Derived.Laws.BytesArg
namespace Go.Proofs.Ytcmjinkhfgmgaaa
open Go.RowKit
set_option linter.unusedSimpArgs false

theorem rd_hi (ah al : Int) (h : Word ah) : rd (bH ah al) 8 = ah := by
  obtain ⟨_, _⟩ := h
  simp [rd, bH]
  omega
theorem rd_lo (ah al : Int) (h : Word al) : rd (fun j => bH ah al (8 + j)) 8 = al := by
  obtain ⟨_, _⟩ := h
  simp [rd, bH]
  omega
theorem rd_word {z : Nat → Int} (h : ∀ i, i < 8 → 0 ≤ z i ∧ z i < 256) : Word (rd z 8) := by
  obtain ⟨a, b⟩ := rd_lt 8 h
  exact ⟨a, b⟩
theorem bH_rd {z : Nat → Int} (h : ∀ i, i < 16 → 0 ≤ z i ∧ z i < 256) : ∀ j, j < 16 → bH (rd z 8) (rd (fun j => z (8 + j)) 8) j = z j := by
  have q0 := h 0 (by omega)
  have q1 := h 1 (by omega)
  have q2 := h 2 (by omega)
  have q3 := h 3 (by omega)
  have q4 := h 4 (by omega)
  have q5 := h 5 (by omega)
  have q6 := h 6 (by omega)
  have q7 := h 7 (by omega)
  have q8 := h 8 (by omega)
  have q9 := h 9 (by omega)
  have q10 := h 10 (by omega)
  have q11 := h 11 (by omega)
  have q12 := h 12 (by omega)
  have q13 := h 13 (by omega)
  have q14 := h 14 (by omega)
  have q15 := h 15 (by omega)
  clear h
  intro j hj
  match j, hj with
  | 0, _ => simp [rd, bH]; omega
  | 1, _ => simp [rd, bH]; omega
  | 2, _ => simp [rd, bH]; omega
  | 3, _ => simp [rd, bH]; omega
  | 4, _ => simp [rd, bH]; omega
  | 5, _ => simp [rd, bH]; omega
  | 6, _ => simp [rd, bH]; omega
  | 7, _ => simp [rd, bH]; omega
  | 8, _ => simp [rd, bH]; omega
  | 9, _ => simp [rd, bH]; omega
  | 10, _ => simp [rd, bH]; omega
  | 11, _ => simp [rd, bH]; omega
  | 12, _ => simp [rd, bH]; omega
  | 13, _ => simp [rd, bH]; omega
  | 14, _ => simp [rd, bH]; omega
  | 15, _ => simp [rd, bH]; omega
  | j + 16, h => exact absurd h (by omega)

theorem bH_byte (ah al : Int) (j : Nat) : 0 ≤ bH ah al j ∧ bH ah al j < 256 := by
  unfold bH; split <;> omega

/-- What lies there, while the law runs. -/
structure BytW (w : World) (A X Y Z : Nat) (ah al : Int) (p : Option Addr) (n : Nat) (z : Nat → Int) (yh yl : Int) (w' : World) : Prop where
  a : NumAt w' A ah al
  y : NumAt w' Y ah al
  v : NumAt w' Z yh yl
  xs : X < w'.heap.size
  x : ∀ j, j < 16 → w'.cell? ⟨X, j, none⟩ = some (.int .u8 (bH ah al j))
  b : BytesIn w' p n z
  bel : Below w.heap.size w w'
theorem BytW.later {w : World} {A X Y Z : Nat} {ah al : Int} {p : Option Addr} {n : Nat} {z : Nat → Int} {yh yl : Int} {w1 w2 : World} (h : BytW w A X Y Z ah al p n z yh yl w1) (hb : Below w1.heap.size w1 w2) : BytW w A X Y Z ah al p n z yh yl w2 :=
  ⟨h.a.later hb, h.y.later hb, h.v.later hb, Nat.lt_of_lt_of_le h.xs hb.size, fun j hj => (hb.cell (p := ⟨X, j, none⟩) h.xs).trans (h.x j hj), h.b.later hb, chain h.bel hb⟩

/-- The same, with the cells in sight. -/
def BytS (w : World) (A X Y Z : Nat) (ah al : Int) (p : Option Addr) (n : Nat) (z : Nat → Int) (yh yl : Int) (w' : World) : Prop :=
  w'.cell? ⟨A, 0, none⟩ = some (.int .u64 ah) ∧ w'.cell? ⟨A, 1, none⟩ = some (.int .u64 al) ∧ w'.cell? ⟨Y, 0, none⟩ = some (.int .u64 ah) ∧ w'.cell? ⟨Y, 1, none⟩ = some (.int .u64 al) ∧ w'.cell? ⟨Z, 0, none⟩ = some (.int .u64 yh) ∧ w'.cell? ⟨Z, 1, none⟩ = some (.int .u64 yl) ∧ BytW w A X Y Z ah al p n z yh yl w'
theorem BytW.s {w : World} {A X Y Z : Nat} {ah al : Int} {p : Option Addr} {n : Nat} {z : Nat → Int} {yh yl : Int} {w1 : World} (h : BytW w A X Y Z ah al p n z yh yl w1) : BytS w A X Y Z ah al p n z yh yl w1 :=
  ⟨h.a.2.1, h.a.2.2, h.y.2.1, h.y.2.2, h.v.2.1, h.v.2.2, h⟩
theorem BytW.drew {w : World} {A X Y Z : Nat} {ah al : Int} {p : Option Addr} {n : Nat} {z : Nat → Int} {yh yl : Int} {w1 : World} (h : BytW w A X Y Z ah al p n z yh yl w1) : BytW w A X Y Z ah al p n z yh yl w1.drew :=
  ⟨h.a, h.y, h.v, h.xs, h.x, h.b, h.bel.drew⟩

theorem BytW.drewN {w : World} {A X Y Z : Nat} {ah al : Int} {p : Option Addr} {n : Nat} {z : Nat → Int} {yh yl : Int} {w1 : World} (h : BytW w A X Y Z ah al p n z yh yl w1) (m : Nat) : BytW w A X Y Z ah al p n z yh yl (w1.drewN m) :=
  ⟨h.a, h.y, h.v, h.xs, h.x, h.b, below_drewN h.bel m⟩

theorem mask1 {x : Int} (h₀ : 0 ≤ x) (h₁ : x < 256) : bits .and .u8 x 1 = x % 2 := bits_mask .u8 8 (by decide) wraps_u8 1 (by decide) x h₀ h₁
theorem low_bit (y : Int) (m : Nat) (h : m < 8) : y % 256 / 2 ^ m % 2 = y / 2 ^ m % 2 := by
  match m, h with
  | 0, _ => simp
  | 1, _ => simp; omega
  | 2, _ => simp; omega
  | 3, _ => simp; omega
  | 4, _ => simp; omega
  | 5, _ => simp; omega
  | 6, _ => simp; omega
  | 7, _ => simp; omega
  | m + 8, h => exact absurd h (by omega)
theorem byte_bit (ah al : Int) (k q r m : Nat) (h2 : Word al) (hk : k = 8 * q + r) (hr : r < 8) (hq : q < 16) (hm : m = 7 - r) :
    bits .and .u8 (bH ah al q / 2 ^ m) 1 = (ah * 18446744073709551616 + al) / 2 ^ (127 - (k : Int)).toNat % 2 := by
  obtain ⟨b0, b1⟩ := bH_byte ah al q
  have p0 : (0 : Int) < 2 ^ m := Int.pow_pos (by decide)
  have e0 : 0 ≤ bH ah al q / 2 ^ m := Int.ediv_nonneg b0 (Int.le_of_lt p0)
  have e1 : bH ah al q / 2 ^ m ≤ bH ah al q := Int.ediv_le_self _ b0
  rw [mask1 e0 (by omega)]
  unfold bH
  split
  · rw [low_bit _ _ (by omega), Int.ediv_ediv_of_nonneg (Int.le_of_lt (Int.pow_pos (by decide))), ← Int.pow_add, show (127 - (k : Int)).toNat = 64 + (8 * (7 - q) + m) from by omega, bit_hi_num _ _ _ h2.1 h2.2]
  · rw [low_bit _ _ (by omega), Int.ediv_ediv_of_nonneg (Int.le_of_lt (Int.pow_pos (by decide))), ← Int.pow_add, show (127 - (k : Int)).toNat = 8 * (15 - q) + m from by omega, bit_lo_num _ _ _ (by omega)]

theorem end_later {w : World} {A X Y Z : Nat} {ah al : Int} {p : Option Addr} {n : Nat} {z : Nat → Int} {yh yl u v : Int} {w1 w2 : World} (h : w1.cell? ⟨A, 0, none⟩ = some (.int .u64 ah) ∧ w1.cell? ⟨A, 1, none⟩ = some (.int .u64 al) ∧ w1.cell? ⟨X, 15, none⟩ = some (.int .u8 u) ∧ w1.cell? ⟨X, 0, none⟩ = some (.int .u8 v) ∧ BytW w A X Y Z ah al p n z yh yl w1) (hb : Below w1.heap.size w1 w2) :
    w2.cell? ⟨A, 0, none⟩ = some (.int .u64 ah) ∧ w2.cell? ⟨A, 1, none⟩ = some (.int .u64 al) ∧ w2.cell? ⟨X, 15, none⟩ = some (.int .u8 u) ∧ w2.cell? ⟨X, 0, none⟩ = some (.int .u8 v) ∧ BytW w A X Y Z ah al p n z yh yl w2 :=
  ⟨(h.2.2.2.2.later hb).a.2.1, (h.2.2.2.2.later hb).a.2.2, (hb.cell (p := ⟨X, 15, none⟩) h.2.2.2.2.xs).trans h.2.2.1, (hb.cell (p := ⟨X, 0, none⟩) h.2.2.2.2.xs).trans h.2.2.2.1, h.2.2.2.2.later hb⟩

/-- Read, in one form. -/
theorem read_gen (p : Option Addr) (n c : Nat) (z : Nat → Int) (w : World) (h : BytesIn w p n z) :
    Calls Try.prog 19 #[.slice p n c] w fun e w' => ∃ yh yl is, e = .returned (.tuple #[.agg #[.int .u64 yh, .int .u64 yl], .bool is]) ∧ Word yh ∧ Word yl ∧
      ((is = true ∧ n = 16 ∧ ∀ j, j < 16 → bH yh yl j = z j) ∨ (is = false ∧ n ≠ 16 ∧ yh = 0 ∧ yl = 0)) ∧ Below w.heap.size w w' := by
  by_cases hn : n = 16
  · subst hn
    have hzz : ∀ i, i < 16 → 0 ≤ z i ∧ z i < 256 := fun i hi => by obtain ⟨_, _, _, _, _, r⟩ := h.2 i hi; exact r
    refine (read_yes p c z w h).mono ?_
    rintro e w' ⟨rfl, hb⟩
    exact ⟨_, _, true, rfl, rd_word fun i hi => hzz i (by omega), rd_word fun i hi => hzz (8 + i) (by omega), .inl ⟨rfl, rfl, bH_rd hzz⟩, hb⟩
  · refine (read_no p n c w hn).mono ?_
    rintro e w' ⟨rfl, hb⟩
    exact ⟨0, 0, false, rfl, word_zero, word_zero, .inr ⟨rfl, hn, rfl, rfl⟩, hb⟩

theorem conv16 {w : World} {p : Option Addr} {c : Nat} {z : Nat → Int} (h : BytesIn w p 16 z) :
    (convert 36 9 (.slice p 16 c)).run Try.prog w = .ok (.string (strOfNums ((List.range 16).map z))) w := by
  obtain ⟨bb, off, rfl, _⟩ := h.2 0 (by omega)
  refine run_convert_bytes_arg w 36 5 Try.underlying36 Try.underlying5 bb off 16 c _ (by simp) (fun i hi => ?_) 9 Try.underlying9
  obtain ⟨_, _, e, _, c1, _⟩ := h.2 i hi
  cases e
  rw [c1]
  simp [hi]

set_option maxRecDepth 100000 in
set_option maxHeartbeats 1500000 in
theorem law_bytes (ah al : Int) (p : Option Addr) (n c : Nat) (z : Nat → Int) (w : World) (h1 : Word ah) (h2 : Word al) (hz : BytesIn w p n z) :
    Calls Try.prog 5 #[.agg #[.int .u64 ah, .int .u64 al], .slice p n c] w fun e w' => e = .returned (.bool true) ∧ Below w.heap.size w w' := by
  go_enter Try.func5, Try.ntmps5
  go_wp2_with fail
  refine (fit_any _).mono ?_
  rintro e w1 ⟨rfl, hb1⟩
  have NA := (NumAt.new w ah al 27).later hb1
  have bel1 := chain (below1 w _) hb1
  obtain ⟨zA, A0, A1⟩ := id NA
  go_wp2_with fail
  refine (bytes_any ah al w1 h1 h2).mono ?_
  rintro e w2 ⟨X, x1, x2, rfl, cx, hb2⟩
  have NA2 := NA.later hb2
  have bel2 := chain bel1 hb2
  clear zA A0 A1 NA bel1 hb1 hb2
  go_wp2_with fail
  refine (read_yes (some ⟨X, 0, none⟩) 16 (bH ah al) w2 ⟨by decide, fun i hi => ⟨X, 0, rfl, x2, by simpa using cx i hi, bH_byte ah al i⟩⟩).mono ?_
  rintro e w3 ⟨rfl, hb3⟩
  rw [rd_hi ah al h1, rd_lo ah al h2]
  go_wp2_with fail
  refine (read_gen p n c z _ (hz.later (chainA (chain bel2 hb3) _))).mono ?_
  rintro e w4 ⟨yh, yl, is, rfl, wy1, wy2, hy, hb4⟩
  have HY : Hid ((is = true ∧ n = 16 ∧ ∀ j, j < 16 → bH yh yl j = z j) ∨ (is = false ∧ n ≠ 16 ∧ yh = 0 ∧ yl = 0)) := hy
  have W4 : BytW w w.heap.size X w3.heap.size w4.heap.size ah al p n z yh yl (w4.alloc (.cells #[.int .u64 yh, .int .u64 yl] 27)) := by
    have b34 := chain (below1 w3 _) hb4
    have b24 := chain hb3 b34
    have b24' := chainA b24 (.cells #[.int .u64 yh, .int .u64 yl] 27)
    exact ⟨NA2.later b24', NumAt.later (NumAt.later (NumAt.new w3 ah al 27) hb4) (below1 _ _), NumAt.new w4 _ _ _, Nat.lt_of_lt_of_le x2 b24'.size, fun j hj => (b24'.cell (p := ⟨X, j, none⟩) x2).trans (cx j hj), hz.later (chain bel2 b24'), chain bel2 b24'⟩
  clear hb3 hb4 NA2 bel2 cx x1 x2 hy hz
  go_upto_region 6 with fail
  generalize w4.alloc (.cells #[.int .u64 yh, .int .u64 yl] 27) = w5 at *
  go_cut [63] (fun b wc => b = .bool false ∧ BytW w w.heap.size X w3.heap.size w4.heap.size ah al p n z yh yl wc)
  case first =>
    rcases HY.out with ⟨rfl, rfl, hq⟩ | ⟨rfl, hn, rfl, rfl⟩
    · have hcz : ∀ j, j < 16 → bH yh yl j = z j := hq
      clear HY hq
      have hS := W4.drew.s
      clear W4
      refine wp_region_D (fun _ => true) (fun w' => w'.cell? ⟨w.heap.size, 0, none⟩ = some (.int .u64 ah) ∧ w'.cell? ⟨w.heap.size, 1, none⟩ = some (.int .u64 al) ∧ w'.cell? ⟨w3.heap.size, 0, none⟩ = some (.int .u64 ah) ∧ w'.cell? ⟨w3.heap.size, 1, none⟩ = some (.int .u64 al) ∧ w'.cell? ⟨w4.heap.size, 0, none⟩ = some (.int .u64 yh) ∧ w'.cell? ⟨w4.heap.size, 1, none⟩ = some (.int .u64 yl) ∧ BytW w w.heap.size X w3.heap.size w4.heap.size ah al p 16 z yh yl w') (by kernel_rfl) ?_
      generalize w5.drew = v0 at *
      generalize hstr : strOfNums ((List.range 16).map z) = str
      refine' wpAnyD_take (i := 0) (v := _) rfl (by kernel_rfl) (by kernel_rfl) (by kernel_rfl) (by kernel_rfl) (fun _ _ _ h => h) (Or.inl ⟨by rfl, ?hy1⟩) hS ?re1
      case hy1 => (intro w hSw; (try dsimp only at hSw); go_simp; (try with_reducible rfl))
      simp only [Act.put, List.setIfInBounds_toArray, List.set_cons_zero, List.set_cons_succ]
      refine' wpAnyD_take (i := 1) (v := _) rfl (by kernel_rfl) (by kernel_rfl) (by kernel_rfl) (by kernel_rfl) (fun _ _ _ h => h) (Or.inl ⟨by rfl, ?hy2⟩) hS ?re2
      case hy2 => (intro w hSw; (try dsimp only at hSw); go_simp; (try with_reducible rfl))
      simp only [Act.put, List.setIfInBounds_toArray, List.set_cons_zero, List.set_cons_succ]
      refine' wpAnyD_take (i := 2) (v := _) rfl (by kernel_rfl) (by kernel_rfl) (by kernel_rfl) (by kernel_rfl) (fun _ _ _ h => h) (Or.inl ⟨by rfl, ?hy3⟩) hS ?re3
      case hy3 => (intro w hSw; (try dsimp only at hSw); go_simp; (try with_reducible rfl))
      simp only [Act.put, List.setIfInBounds_toArray, List.set_cons_zero, List.set_cons_succ]
      refine' wpAnyD_take (i := 3) (v := _) rfl (by kernel_rfl) (by kernel_rfl) (by kernel_rfl) (by kernel_rfl) (fun _ _ _ h => h) (Or.inl ⟨by rfl, ?hy4⟩) hS ?re4
      case hy4 => (intro w hSw; (try dsimp only at hSw); go_simp; (try with_reducible rfl))
      simp only [Act.put, List.setIfInBounds_toArray, List.set_cons_zero, List.set_cons_succ]
      refine' wpAnyD_take (i := 4) (v := _) rfl (by kernel_rfl) (by kernel_rfl) (by kernel_rfl) (by kernel_rfl) (fun _ _ _ h => h) (Or.inl ⟨by rfl, ?hy5⟩) hS ?re5
      case hy5 => (intro w hSw; (try dsimp only at hSw); go_simp; (try with_reducible rfl))
      simp only [Act.put, List.setIfInBounds_toArray, List.set_cons_zero, List.set_cons_succ]
      refine' wpAnyD_take (i := 5) (v := _) rfl (by kernel_rfl) (by kernel_rfl) (by kernel_rfl) (by kernel_rfl) (fun _ _ _ h => h) (Or.inl ⟨by rfl, ?hy6⟩) hS ?re6
      case hy6 => (intro w hSw; (try dsimp only at hSw); go_simp; (try with_reducible rfl))
      simp only [Act.put, List.setIfInBounds_toArray, List.set_cons_zero, List.set_cons_succ]
      refine' wpAnyD_take (i := 6) (v := _) rfl (by kernel_rfl) (by kernel_rfl) (by kernel_rfl) (by kernel_rfl) (fun _ _ _ h => h) (Or.inl ⟨by rfl, ?hy7⟩) hS ?re7
      case hy7 => (intro w hSw; (try dsimp only at hSw); go_simp; (try with_reducible rfl))
      simp only [Act.put, List.setIfInBounds_toArray, List.set_cons_zero, List.set_cons_succ]
      refine' wpAnyD_take (i := 7) (v := _) rfl (by kernel_rfl) (by kernel_rfl) (by kernel_rfl) (by kernel_rfl) (fun _ _ _ h => h) (Or.inl ⟨by rfl, ?hy8⟩) hS ?re8
      case hy8 => (intro w hSw; (try dsimp only at hSw); go_simp; (try with_reducible rfl))
      simp only [Act.put, List.setIfInBounds_toArray, List.set_cons_zero, List.set_cons_succ]
      refine' wpAnyD_take (i := 8) (v := _) rfl (by kernel_rfl) (by kernel_rfl) (by kernel_rfl) (by kernel_rfl) (fun _ _ _ h => h) (Or.inl ⟨by rfl, ?hy9⟩) hS ?re9
      case hy9 => (intro w hSw; (try dsimp only at hSw); go_simp; (try with_reducible rfl))
      simp only [Act.put, List.setIfInBounds_toArray, List.set_cons_zero, List.set_cons_succ]
      refine' wpAnyD_take (i := 9) (v := _) rfl (by kernel_rfl) (by kernel_rfl) (by kernel_rfl) (by kernel_rfl) (fun _ _ _ h => h) (Or.inl ⟨by rfl, ?hy10⟩) hS ?re10
      case hy10 => (intro w hSw; (try dsimp only at hSw); go_simp; (try with_reducible rfl))
      simp only [Act.put, List.setIfInBounds_toArray, List.set_cons_zero, List.set_cons_succ]
      refine' wpAnyD_take (i := 10) (v := _) rfl (by kernel_rfl) (by kernel_rfl) (by kernel_rfl) (by kernel_rfl) (fun _ _ _ h => h) (Or.inl ⟨by rfl, ?hy11⟩) hS ?re11
      case hy11 => (intro w hSw; (try dsimp only at hSw); go_simp; (try with_reducible rfl))
      simp only [Act.put, List.setIfInBounds_toArray, List.set_cons_zero, List.set_cons_succ]
      refine' wpAnyD_take (i := 11) (v := _) rfl (by kernel_rfl) (by kernel_rfl) (by kernel_rfl) (by kernel_rfl) (fun _ _ _ h => h) (Or.inl ⟨by rfl, ?hy12⟩) hS ?re12
      case hy12 => (intro w hSw; (try dsimp only at hSw); go_simp; (try with_reducible rfl))
      simp only [Act.put, List.setIfInBounds_toArray, List.set_cons_zero, List.set_cons_succ]
      refine' wpAnyD_take (i := 12) (v := _) rfl (by kernel_rfl) (by kernel_rfl) (by kernel_rfl) (by kernel_rfl) (fun _ _ _ h => h) (Or.inl ⟨by rfl, ?hy13⟩) hS ?re13
      case hy13 => (intro w hSw; (try dsimp only at hSw); go_simp; (try with_reducible rfl))
      simp only [Act.put, List.setIfInBounds_toArray, List.set_cons_zero, List.set_cons_succ]
      refine' wpAnyD_take (i := 13) (v := _) rfl (by kernel_rfl) (by kernel_rfl) (by kernel_rfl) (by kernel_rfl) (fun _ _ _ h => h) (Or.inl ⟨by rfl, ?hy14⟩) hS ?re14
      case hy14 => (intro w hSw; (try dsimp only at hSw); go_simp; (try with_reducible rfl))
      simp only [Act.put, List.setIfInBounds_toArray, List.set_cons_zero, List.set_cons_succ]
      refine' wpAnyD_take (i := 14) (v := _) rfl (by kernel_rfl) (by kernel_rfl) (by kernel_rfl) (by kernel_rfl) (fun _ _ _ h => h) (Or.inl ⟨by rfl, ?hy15⟩) hS ?re15
      case hy15 => (intro w hSw; (try dsimp only at hSw); go_simp; (try with_reducible rfl))
      simp only [Act.put, List.setIfInBounds_toArray, List.set_cons_zero, List.set_cons_succ]
      refine' wpAnyD_take (i := 15) (v := _) rfl (by kernel_rfl) (by kernel_rfl) (by kernel_rfl) (by kernel_rfl) (fun _ _ _ h => h) (Or.inl ⟨by rfl, ?hy16⟩) hS ?re16
      case hy16 => (intro w hSw; (try dsimp only at hSw); go_simp; (try with_reducible rfl))
      simp only [Act.put, List.setIfInBounds_toArray, List.set_cons_zero, List.set_cons_succ]
      refine' wpAnyD_take (i := 16) (v := _) rfl (by kernel_rfl) (by kernel_rfl) (by kernel_rfl) (by kernel_rfl) (fun _ _ _ h => h) (Or.inl ⟨by rfl, ?hy17⟩) hS ?re17
      case hy17 => (intro w hSw; (try dsimp only at hSw); go_simp; (try with_reducible rfl))
      simp only [Act.put, List.setIfInBounds_toArray, List.set_cons_zero, List.set_cons_succ]
      refine' wpAnyD_take (i := 17) (v := _) rfl (by kernel_rfl) (by kernel_rfl) (by kernel_rfl) (by kernel_rfl) (fun _ _ _ h => h) (Or.inl ⟨by rfl, ?hy18⟩) hS ?re18
      case hy18 => (intro w hSw; (try dsimp only at hSw); go_simp; (try with_reducible rfl))
      simp only [Act.put, List.setIfInBounds_toArray, List.set_cons_zero, List.set_cons_succ]
      refine' wpAnyD_take (i := 18) (v := _) rfl (by kernel_rfl) (by kernel_rfl) (by kernel_rfl) (by kernel_rfl) (fun _ _ _ h => h) (Or.inl ⟨by rfl, ?hy19⟩) hS ?re19
      case hy19 => (intro w hSw; (try dsimp only at hSw); go_simp; (try with_reducible rfl))
      simp only [Act.put, List.setIfInBounds_toArray, List.set_cons_zero, List.set_cons_succ]
      refine' wpAnyD_take (i := 19) (v := _) rfl (by kernel_rfl) (by kernel_rfl) (by kernel_rfl) (by kernel_rfl) (fun _ _ _ h => h) (Or.inl ⟨by rfl, ?hy20⟩) hS ?re20
      case hy20 => (intro w hSw; (try dsimp only at hSw); go_simp; (try with_reducible rfl))
      simp only [Act.put, List.setIfInBounds_toArray, List.set_cons_zero, List.set_cons_succ]
      refine' wpAnyD_take (i := 20) (v := _) rfl (by kernel_rfl) (by kernel_rfl) (by kernel_rfl) (by kernel_rfl) (fun _ _ _ h => h) (Or.inl ⟨by rfl, ?hy21⟩) hS ?re21
      case hy21 => (intro w hSw; (try dsimp only at hSw); go_simp; (try with_reducible rfl))
      simp only [Act.put, List.setIfInBounds_toArray, List.set_cons_zero, List.set_cons_succ]
      refine' wpAnyD_take (i := 21) (v := _) rfl (by kernel_rfl) (by kernel_rfl) (by kernel_rfl) (by kernel_rfl) (fun _ _ _ h => h) (Or.inl ⟨by rfl, ?hy22⟩) hS ?re22
      case hy22 => (intro w hSw; (try dsimp only at hSw); go_simp; (try with_reducible rfl))
      simp only [Act.put, List.setIfInBounds_toArray, List.set_cons_zero, List.set_cons_succ]
      refine' wpAnyD_take (i := 22) (v := _) rfl (by kernel_rfl) (by kernel_rfl) (by kernel_rfl) (by kernel_rfl) (fun _ _ _ h => h) (Or.inl ⟨by rfl, ?hy23⟩) hS ?re23
      case hy23 => (intro w hSw; (try dsimp only at hSw); go_simp; (try with_reducible rfl))
      simp only [Act.put, List.setIfInBounds_toArray, List.set_cons_zero, List.set_cons_succ]
      refine' wpAnyD_take (i := 25) (v := _) rfl (by kernel_rfl) (by kernel_rfl) (by kernel_rfl) (by kernel_rfl) (fun _ _ _ h => h) (Or.inl ⟨by rfl, ?hy24⟩) hS ?re24
      case hy24 => (intro w hSw; (try dsimp only at hSw); go_simp; (try with_reducible rfl))
      simp only [Act.put, List.setIfInBounds_toArray, List.set_cons_zero, List.set_cons_succ]
      refine' wpAnyD_take (i := 26) (v := _) rfl (by kernel_rfl) (by kernel_rfl) (by kernel_rfl) (by kernel_rfl) (fun _ _ _ h => h) (Or.inl ⟨by rfl, ?hyX⟩) hS ?reX
      case hyX => (intro w hSw; have hc := conv16 (c := c) hSw.2.2.2.2.2.2.b; rw [hstr] at hc; clear hSw; go_simp; (try with_reducible rfl))
      simp only [Act.put, List.setIfInBounds_toArray, List.set_cons_zero, List.set_cons_succ]
      refine wpAnyD_only (i := 23) rfl (by kernel_rfl) (by rfl) (fun K hK => ?_)
      go_simp
      refine (bytes_any yh yl _ wy1 wy2).mono ?_
      rintro e w6 ⟨B, b1, b2, rfl, cb, hb6⟩
      try dsimp only
      have hSn := (BytW.later hS.2.2.2.2.2.2 hb6).s
      refine hK.out _ _ (fun _ => hSn) ?_
      clear hK K hS
      have hS := hSn
      clear hSn
      try simp only [Act.put, List.setIfInBounds_toArray, List.set_cons_zero, List.set_cons_succ]
      have hc2 := conv16 (w := w6) (p := some ⟨B, 0, none⟩) (c := 16) (z := z) ⟨by decide, fun i hi => ⟨B, 0, rfl, b2, by rw [Nat.zero_add, cb i hi, hcz i hi], by obtain ⟨_, _, _, _, _, r⟩ := hS.2.2.2.2.2.2.b.2 i hi; exact r⟩⟩
      rw [hstr] at hc2
      refine wpAnyD_only (i := 24) rfl (by kernel_rfl) (by rfl) (fun K hK => ?_)
      go_simp
      try dsimp only
      have hSn := hS
      refine hK.out _ _ (fun _ => hSn) ?_
      clear hK K hS
      have hS := hSn
      clear hSn
      try simp only [Act.put, List.setIfInBounds_toArray, List.set_cons_zero, List.set_cons_succ]
      clear hc2 cb
      refine' wpAnyD_take (i := 27) (v := _) rfl (by kernel_rfl) (by kernel_rfl) (by kernel_rfl) (by kernel_rfl) (fun _ _ _ h => h) (Or.inl ⟨by rfl, ?hy25⟩) hS ?re25
      case hy25 => (intro w hSw; (try dsimp only at hSw); go_simp; (try with_reducible rfl))
      simp only [Act.put, List.setIfInBounds_toArray, List.set_cons_zero, List.set_cons_succ]
      refine' wpAnyD_take (i := 28) (v := _) rfl (by kernel_rfl) (by kernel_rfl) (by kernel_rfl) (by kernel_rfl) (fun _ _ _ h => h) (Or.inl ⟨by rfl, ?hy26⟩) hS ?re26
      case hy26 => (intro w hSw; (try dsimp only at hSw); go_simp; (try with_reducible rfl))
      simp only [Act.put, List.setIfInBounds_toArray, List.set_cons_zero, List.set_cons_succ]
      refine' wpAnyD_take (i := 29) (v := _) rfl (by kernel_rfl) (by kernel_rfl) (by kernel_rfl) (by kernel_rfl) (fun _ _ _ h => h) (Or.inl ⟨by rfl, ?hy27⟩) hS ?re27
      case hy27 => (intro w hSw; (try dsimp only at hSw); go_simp; (try with_reducible rfl))
      simp only [Act.put, List.setIfInBounds_toArray, List.set_cons_zero, List.set_cons_succ]
      refine' wpAnyD_take (i := 30) (v := _) rfl (by kernel_rfl) (by kernel_rfl) (by kernel_rfl) (by kernel_rfl) (fun _ _ _ h => h) (Or.inl ⟨by rfl, ?hy28⟩) hS ?re28
      case hy28 => (intro w hSw; (try dsimp only at hSw); go_simp; (try with_reducible rfl))
      simp only [Act.put, List.setIfInBounds_toArray, List.set_cons_zero, List.set_cons_succ]
      refine' wpAnyD_take (i := 31) (v := _) rfl (by kernel_rfl) (by kernel_rfl) (by kernel_rfl) (by kernel_rfl) (fun _ _ _ h => h) (Or.inl ⟨by rfl, ?hy29⟩) hS ?re29
      case hy29 => (intro w hSw; (try dsimp only at hSw); go_simp; (try with_reducible rfl))
      simp only [Act.put, List.setIfInBounds_toArray, List.set_cons_zero, List.set_cons_succ]
      refine' wpAnyD_take (i := 32) (v := _) rfl (by kernel_rfl) (by kernel_rfl) (by kernel_rfl) (by kernel_rfl) (fun _ _ _ h => h) (Or.inl ⟨by rfl, ?hy30⟩) hS ?re30
      case hy30 => (intro w hSw; (try dsimp only at hSw); go_simp; (try with_reducible rfl))
      simp only [Act.put, List.setIfInBounds_toArray, List.set_cons_zero, List.set_cons_succ]
      refine' wpAnyD_take (i := 33) (v := _) rfl (by kernel_rfl) (by kernel_rfl) (by kernel_rfl) (by kernel_rfl) (fun _ _ _ h => h) (Or.inl ⟨by rfl, ?hy31⟩) hS ?re31
      case hy31 => (intro w hSw; (try dsimp only at hSw); go_simp; (try with_reducible rfl))
      simp only [Act.put, List.setIfInBounds_toArray, List.set_cons_zero, List.set_cons_succ]
      refine wpAnyD_take (i := 34) rfl (by kernel_rfl) (by kernel_rfl) (by kernel_rfl) (by kernel_rfl) (fun _ _ _ h => h) (Or.inr ⟨by rfl, rfl⟩) hS ?_
      simp only [Act.put, List.setIfInBounds_toArray, List.set_cons_zero, List.set_cons_succ]
      refine wpAnyD_take (i := 35) rfl (by kernel_rfl) (by kernel_rfl) (by kernel_rfl) (by kernel_rfl) (fun _ _ _ h => h) (Or.inr ⟨by rfl, rfl⟩) hS ?_
      simp only [Act.put, List.setIfInBounds_toArray, List.set_cons_zero, List.set_cons_succ]
      refine wpAnyD_take (i := 36) rfl (by kernel_rfl) (by kernel_rfl) (by kernel_rfl) (by kernel_rfl) (fun _ _ _ h => h) (Or.inr ⟨by rfl, rfl⟩) hS ?_
      simp only [Act.put, List.setIfInBounds_toArray, List.set_cons_zero, List.set_cons_succ]
      refine' wpAnyD_take (i := 37) (v := _) rfl (by kernel_rfl) (by kernel_rfl) (by kernel_rfl) (by kernel_rfl) (fun _ _ _ h => h) (Or.inl ⟨by rfl, ?hy32⟩) hS ?re32
      case hy32 => (intro w hSw; (try dsimp only at hSw); go_simp; (try with_reducible rfl))
      simp only [Act.put, List.setIfInBounds_toArray, List.set_cons_zero, List.set_cons_succ]
      refine' wpAnyD_take (i := 38) (v := _) rfl (by kernel_rfl) (by kernel_rfl) (by kernel_rfl) (by kernel_rfl) (fun _ _ _ h => h) (Or.inl ⟨by rfl, ?hy33⟩) hS ?re33
      case hy33 => (intro w hSw; (try dsimp only at hSw); go_simp; (try with_reducible rfl))
      simp only [Act.put, List.setIfInBounds_toArray, List.set_cons_zero, List.set_cons_succ]
      refine wpAnyD_done (by kernel_rfl) ?_ _
      go_wp2_with fail
      go_meet
      case rel => exact ⟨rfl, hS.2.2.2.2.2.2⟩
    · clear HY
      have hn1 : ((n : Int) == 16) = false := by simp; omega
      have hn2 : decide ((n : Int) = 16) = false := by simp; omega
      have hn3 : ¬ (n : Int) = 16 := by omega
      obtain ⟨A0, A1, Y0, Y1, Z0, Z1, _⟩ := W4.s
      go_quiet (fail)
      go_wp2_with fail
      go_meet
      case rel => exact ⟨rfl, W4.drewN _⟩
  case rest =>
    obtain ⟨rfl, W6⟩ := hcut
    clear W4
    obtain ⟨w6, rfl⟩ : ∃ w6 : World, w6 = wc := ⟨_, rfl⟩
    clear HY
    go_wp2_with fail
    go_loopw [64] (fun i wr => ∃ k : Nat, k ≤ 128 ∧ i = .int .i64 k ∧ BytW w w.heap.size X w3.heap.size w4.heap.size ah al p n z yh yl wr)
      (fun i _ => 128 - (intOf i).toNat)
    case atStart => exact ⟨0, by omega, rfl, W6⟩
    case round =>
      clear W6
      obtain ⟨k, hk, rfl, hr⟩ := hrel
      by_cases hlt : k < 128
      · have g0 : (0 : Int) ≤ (k : Int) := by omega
        have g1 : (k : Int) < 128 := by omega
        obtain ⟨q, r, hkq, hr8, hq16⟩ : ∃ q r : Nat, k = 8 * q + r ∧ r < 8 ∧ q < 16 := ⟨k / 8, k % 8, by omega, by omega, by omega⟩
        have cx := hr.x q hq16
        go_wp2_with fail
        have hS : wr.drew.cell? ⟨w.heap.size, 0, none⟩ = some (.int .u64 ah) ∧ wr.drew.cell? ⟨w.heap.size, 1, none⟩ = some (.int .u64 al) ∧ wr.drew.cell? ⟨X, q, none⟩ = some (.int .u8 (bH ah al q)) ∧ BytW w w.heap.size X w3.heap.size w4.heap.size ah al p n z yh yl wr.drew := ⟨hr.a.2.1, hr.a.2.2, cx, hr.drew⟩
        clear cx hr
        refine wp_region_D (fun _ => true) (fun w' => w'.cell? ⟨w.heap.size, 0, none⟩ = some (.int .u64 ah) ∧ w'.cell? ⟨w.heap.size, 1, none⟩ = some (.int .u64 al) ∧ w'.cell? ⟨X, q, none⟩ = some (.int .u8 (bH ah al q)) ∧ BytW w w.heap.size X w3.heap.size w4.heap.size ah al p n z yh yl w') (by kernel_rfl) ?_
        generalize wr.drew = v0 at *
        generalize hb8 : bH ah al q = b8 at *
        have hbb := bH_byte ah al q
        rw [hb8] at hbb
        obtain ⟨hbb0, hbb1⟩ := hbb
        have k0 : (0 : Int) ≤ (q : Int) := by omega
        have k1 : (q : Int) < 16 := by omega
        have k2 : (k : Int) / 8 = (q : Int) := by omega
        have k3 : (k : Int) % 8 = (r : Int) := by omega
        have k4 : IntKind.i64.wrap (q : Int) = (q : Int) := by rw [IntKind.wrap_i64]; omega
        obtain ⟨m, hm⟩ : ∃ m : Nat, m = 7 - r := ⟨_, rfl⟩
        have hbit := byte_bit ah al k q r m h2 hkq hr8 hq16 hm
        rw [hb8] at hbit
        have k5 : (k : Int).tmod 8 = (r : Int) := by rw [Int.tmod_eq_emod_of_nonneg g0]; exact k3
        have k6 : 7 - (r : Int) = (m : Int) := by omega
        have k7 : IntKind.i64.wrap (m : Int) = (m : Int) := by rw [IntKind.wrap_i64]; omega
        have HI := bit_in ah al k
        have k9 : 0 ≤ (ah * 18446744073709551616 + al) / 2 ^ (127 - (k : Int)).toNat % 2 := by omega
        have k10 : (ah * 18446744073709551616 + al) / 2 ^ (127 - (k : Int)).toNat % 2 < 2 := by omega
        generalize hbt : (ah * 18446744073709551616 + al) / 2 ^ (127 - (k : Int)).toNat % 2 = bt at *
        have k11 : IntKind.i64.wrap bt = bt := by rw [IntKind.wrap_i64]; omega
        clear hkq hb8 hbt hm
        refine' wpAnyD_take (i := 0) (v := _) rfl (by kernel_rfl) (by kernel_rfl) (by kernel_rfl) (by kernel_rfl) (fun _ _ _ h => h) (Or.inl ⟨by rfl, ?hy34⟩) hS ?re34
        case hy34 => (intro w hSw; (try dsimp only at hSw); go_simp; (try with_reducible rfl))
        simp only [Act.put, List.setIfInBounds_toArray, List.set_cons_zero, List.set_cons_succ]
        refine' wpAnyD_take (i := 1) (v := _) rfl (by kernel_rfl) (by kernel_rfl) (by kernel_rfl) (by kernel_rfl) (fun _ _ _ h => h) (Or.inl ⟨by rfl, ?hy35⟩) hS ?re35
        case hy35 => (intro w hSw; (try dsimp only at hSw); go_simp; (try with_reducible rfl))
        simp only [Act.put, List.setIfInBounds_toArray, List.set_cons_zero, List.set_cons_succ]
        refine' wpAnyD_take (i := 3) (v := _) rfl (by kernel_rfl) (by kernel_rfl) (by kernel_rfl) (by kernel_rfl) (fun _ _ _ h => h) (Or.inl ⟨by rfl, ?hy36⟩) hS ?re36
        case hy36 => (intro w hSw; (try dsimp only at hSw); go_simp; (try with_reducible rfl))
        simp only [Act.put, List.setIfInBounds_toArray, List.set_cons_zero, List.set_cons_succ]
        refine' wpAnyD_take (i := 4) (v := _) rfl (by kernel_rfl) (by kernel_rfl) (by kernel_rfl) (by kernel_rfl) (fun _ _ _ h => h) (Or.inl ⟨by rfl, ?hy37⟩) hS ?re37
        case hy37 => (intro w hSw; (try dsimp only at hSw); go_simp; (try with_reducible rfl))
        simp only [Act.put, List.setIfInBounds_toArray, List.set_cons_zero, List.set_cons_succ]
        refine' wpAnyD_take (i := 5) (v := _) rfl (by kernel_rfl) (by kernel_rfl) (by kernel_rfl) (by kernel_rfl) (fun _ _ _ h => h) (Or.inl ⟨by rfl, ?hy38⟩) hS ?re38
        case hy38 => (intro w hSw; (try dsimp only at hSw); go_simp; (try with_reducible rfl))
        simp only [Act.put, List.setIfInBounds_toArray, List.set_cons_zero, List.set_cons_succ]
        refine' wpAnyD_take (i := 6) (v := _) rfl (by kernel_rfl) (by kernel_rfl) (by kernel_rfl) (by kernel_rfl) (fun _ _ _ h => h) (Or.inl ⟨by rfl, ?hy39⟩) hS ?re39
        case hy39 => (intro w hSw; (try dsimp only at hSw); go_simp; (try with_reducible rfl))
        simp only [Act.put, List.setIfInBounds_toArray, List.set_cons_zero, List.set_cons_succ]
        refine' wpAnyD_take (i := 7) (v := _) rfl (by kernel_rfl) (by kernel_rfl) (by kernel_rfl) (by kernel_rfl) (fun _ _ _ h => h) (Or.inl ⟨by rfl, ?hy40⟩) hS ?re40
        case hy40 => (intro w hSw; (try dsimp only at hSw); go_simp; (try with_reducible rfl))
        simp only [Act.put, List.setIfInBounds_toArray, List.set_cons_zero, List.set_cons_succ]
        refine' wpAnyD_take (i := 8) (v := _) rfl (by kernel_rfl) (by kernel_rfl) (by kernel_rfl) (by kernel_rfl) (fun _ _ _ h => h) (Or.inl ⟨by rfl, ?hy41⟩) hS ?re41
        case hy41 => (intro w hSw; (try dsimp only at hSw); go_simp; (try with_reducible rfl))
        simp only [Act.put, List.setIfInBounds_toArray, List.set_cons_zero, List.set_cons_succ]
        refine' wpAnyD_take (i := 9) (v := _) rfl (by kernel_rfl) (by kernel_rfl) (by kernel_rfl) (by kernel_rfl) (fun _ _ _ h => h) (Or.inl ⟨by rfl, ?hy42⟩) hS ?re42
        case hy42 => (intro w hSw; (try dsimp only at hSw); go_simp; (try with_reducible rfl))
        simp only [Act.put, List.setIfInBounds_toArray, List.set_cons_zero, List.set_cons_succ]
        refine' wpAnyD_take (i := 10) (v := _) rfl (by kernel_rfl) (by kernel_rfl) (by kernel_rfl) (by kernel_rfl) (fun _ _ _ h => h) (Or.inl ⟨by rfl, ?hy43⟩) hS ?re43
        case hy43 => (intro w hSw; (try dsimp only at hSw); go_simp; (try with_reducible rfl))
        simp only [Act.put, List.setIfInBounds_toArray, List.set_cons_zero, List.set_cons_succ]
        refine' wpAnyD_take (i := 11) (v := _) rfl (by kernel_rfl) (by kernel_rfl) (by kernel_rfl) (by kernel_rfl) (fun _ _ _ h => h) (Or.inl ⟨by rfl, ?hy44⟩) hS ?re44
        case hy44 => (intro w hSw; (try dsimp only at hSw); go_simp; (try with_reducible rfl))
        simp only [Act.put, List.setIfInBounds_toArray, List.set_cons_zero, List.set_cons_succ]
        refine' wpAnyD_take (i := 12) (v := _) rfl (by kernel_rfl) (by kernel_rfl) (by kernel_rfl) (by kernel_rfl) (fun _ _ _ h => h) (Or.inl ⟨by rfl, ?hy45⟩) hS ?re45
        case hy45 => (intro w hSw; (try dsimp only at hSw); go_simp; (try with_reducible rfl))
        simp only [Act.put, List.setIfInBounds_toArray, List.set_cons_zero, List.set_cons_succ]
        refine' wpAnyD_take (i := 13) (v := _) rfl (by kernel_rfl) (by kernel_rfl) (by kernel_rfl) (by kernel_rfl) (fun _ _ _ h => h) (Or.inl ⟨by rfl, ?hy46⟩) hS ?re46
        case hy46 => (intro w hSw; (try dsimp only at hSw); go_simp; (try with_reducible rfl))
        simp only [Act.put, List.setIfInBounds_toArray, List.set_cons_zero, List.set_cons_succ]
        refine wpAnyD_only (i := 2) rfl (by kernel_rfl) (by rfl) (fun K hK => ?_)
        go_simp
        refine (HI _ h1 h2 g0 g1).mono ?_
        rintro e w7 ⟨rfl, hb7⟩
        try dsimp only
        have hSn := (⟨(hS.2.2.2.later hb7).a.2.1, (hS.2.2.2.later hb7).a.2.2, (hb7.cell (p := ⟨X, q, none⟩) hS.2.2.2.xs).trans hS.2.2.1, hS.2.2.2.later hb7⟩ : _ ∧ _ ∧ _ ∧ _)
        refine hK.out _ _ (fun _ => hSn) ?_
        clear hK K hS
        have hS := hSn
        clear hSn
        try simp only [Act.put, List.setIfInBounds_toArray, List.set_cons_zero, List.set_cons_succ]
        refine' wpAnyD_take (i := 14) (v := _) rfl (by kernel_rfl) (by kernel_rfl) (by kernel_rfl) (by kernel_rfl) (fun _ _ _ h => h) (Or.inl ⟨by rfl, ?hy47⟩) hS ?re47
        case hy47 => (intro w hSw; (try dsimp only at hSw); go_simp; (try with_reducible rfl))
        simp only [Act.put, List.setIfInBounds_toArray, List.set_cons_zero, List.set_cons_succ]
        refine wpAnyD_done (by kernel_rfl) ?_ _
        go_wp2
        go_roundw
        case rel => exact ⟨k + 1, by omega, by go_num, hS.2.2.2⟩
        case measure => simp [intOf]; omega
      · obtain rfl : k = 128 := by omega
        have x15 := hr.x 15 (by omega)
        have x0 := hr.x 0 (by omega)
        rw [show bH ah al 15 = al % 256 from by simp [bH]] at x15
        rw [show bH ah al 0 = ah / 72057594037927936 % 256 from by simp [bH]] at x0
        have hS : wr.drew.cell? ⟨w.heap.size, 0, none⟩ = some (.int .u64 ah) ∧ wr.drew.cell? ⟨w.heap.size, 1, none⟩ = some (.int .u64 al) ∧ wr.drew.cell? ⟨X, 15, none⟩ = some (.int .u8 (al % 256)) ∧ wr.drew.cell? ⟨X, 0, none⟩ = some (.int .u8 (ah / 72057594037927936 % 256)) ∧ BytW w w.heap.size X w3.heap.size w4.heap.size ah al p n z yh yl wr.drew := ⟨hr.a.2.1, hr.a.2.2, x15, x0, hr.drew⟩
        clear hr x15 x0
        have e1 : IntKind.u8.wrap al = al % 256 := IntKind.wrap_u8 al
        have e2 : IntKind.u8.wrap (ah / 72057594037927936) = ah / 72057594037927936 % 256 := IntKind.wrap_u8 _
        go_wp2_with fail
        refine wp_region_D (fun _ => true) (fun w' => w'.cell? ⟨w.heap.size, 0, none⟩ = some (.int .u64 ah) ∧ w'.cell? ⟨w.heap.size, 1, none⟩ = some (.int .u64 al) ∧ w'.cell? ⟨X, 15, none⟩ = some (.int .u8 (al % 256)) ∧ w'.cell? ⟨X, 0, none⟩ = some (.int .u8 (ah / 72057594037927936 % 256)) ∧ BytW w w.heap.size X w3.heap.size w4.heap.size ah al p n z yh yl w') (by kernel_rfl) ?_
        generalize wr.drew = v0 at *
        refine' wpAnyD_take (i := 0) (v := _) rfl (by kernel_rfl) (by kernel_rfl) (by kernel_rfl) (by kernel_rfl) (fun _ _ _ h => h) (Or.inl ⟨by rfl, ?hy48⟩) hS ?re48
        case hy48 => (intro w hSw; (try dsimp only at hSw); go_simp; (try with_reducible rfl))
        simp only [Act.put, List.setIfInBounds_toArray, List.set_cons_zero, List.set_cons_succ]
        refine wpAnyD_only (i := 1) rfl (by kernel_rfl) (by rfl) (fun K hK => ?_)
        go_simp
        refine (bit_out ah al (-1) _ (by omega)).mono ?_
        rintro e w7 ⟨rfl, hb7⟩
        try dsimp only
        have hSn := end_later hS hb7
        refine hK.out _ _ (fun _ => hSn) ?_
        clear hK K hS
        have hS := hSn
        clear hSn
        try simp only [Act.put, List.setIfInBounds_toArray, List.set_cons_zero, List.set_cons_succ]
        clear hb7
        refine' wpAnyD_take (i := 2) (v := _) rfl (by kernel_rfl) (by kernel_rfl) (by kernel_rfl) (by kernel_rfl) (fun _ _ _ h => h) (Or.inl ⟨by rfl, ?hy49⟩) hS ?re49
        case hy49 => (intro w hSw; (try dsimp only at hSw); go_simp; (try with_reducible rfl))
        simp only [Act.put, List.setIfInBounds_toArray, List.set_cons_zero, List.set_cons_succ]
        refine' wpAnyD_take (i := 3) (v := _) rfl (by kernel_rfl) (by kernel_rfl) (by kernel_rfl) (by kernel_rfl) (fun _ _ _ h => h) (Or.inl ⟨by rfl, ?hy50⟩) hS ?re50
        case hy50 => (intro w hSw; (try dsimp only at hSw); go_simp; (try with_reducible rfl))
        simp only [Act.put, List.setIfInBounds_toArray, List.set_cons_zero, List.set_cons_succ]
        refine' wpAnyD_take (i := 4) (v := _) rfl (by kernel_rfl) (by kernel_rfl) (by kernel_rfl) (by kernel_rfl) (fun _ _ _ h => h) (Or.inl ⟨by rfl, ?hy51⟩) hS ?re51
        case hy51 => (intro w hSw; (try dsimp only at hSw); go_simp; (try with_reducible rfl))
        simp only [Act.put, List.setIfInBounds_toArray, List.set_cons_zero, List.set_cons_succ]
        refine wpAnyD_only (i := 5) rfl (by kernel_rfl) (by rfl) (fun K hK => ?_)
        go_simp
        refine (bit_out ah al 128 _ (by omega)).mono ?_
        rintro e w8 ⟨rfl, hb8⟩
        try dsimp only
        have hSn := end_later hS hb8
        refine hK.out _ _ (fun _ => hSn) ?_
        clear hK K hS
        have hS := hSn
        clear hSn
        try simp only [Act.put, List.setIfInBounds_toArray, List.set_cons_zero, List.set_cons_succ]
        clear hb8
        refine' wpAnyD_take (i := 6) (v := _) rfl (by kernel_rfl) (by kernel_rfl) (by kernel_rfl) (by kernel_rfl) (fun _ _ _ h => h) (Or.inl ⟨by rfl, ?hy52⟩) hS ?re52
        case hy52 => (intro w hSw; (try dsimp only at hSw); go_simp; (try with_reducible rfl))
        simp only [Act.put, List.setIfInBounds_toArray, List.set_cons_zero, List.set_cons_succ]
        refine' wpAnyD_take (i := 7) (v := _) rfl (by kernel_rfl) (by kernel_rfl) (by kernel_rfl) (by kernel_rfl) (fun _ _ _ h => h) (Or.inl ⟨by rfl, ?hy53⟩) hS ?re53
        case hy53 => (intro w hSw; (try dsimp only at hSw); go_simp; (try with_reducible rfl))
        simp only [Act.put, List.setIfInBounds_toArray, List.set_cons_zero, List.set_cons_succ]
        refine' wpAnyD_take (i := 8) (v := _) rfl (by kernel_rfl) (by kernel_rfl) (by kernel_rfl) (by kernel_rfl) (fun _ _ _ h => h) (Or.inl ⟨by rfl, ?hy54⟩) hS ?re54
        case hy54 => (intro w hSw; (try dsimp only at hSw); go_simp; (try with_reducible rfl))
        simp only [Act.put, List.setIfInBounds_toArray, List.set_cons_zero, List.set_cons_succ]
        refine' wpAnyD_take (i := 9) (v := _) rfl (by kernel_rfl) (by kernel_rfl) (by kernel_rfl) (by kernel_rfl) (fun _ _ _ h => h) (Or.inl ⟨by rfl, ?hy55⟩) hS ?re55
        case hy55 => (intro w hSw; (try dsimp only at hSw); go_simp; (try with_reducible rfl))
        simp only [Act.put, List.setIfInBounds_toArray, List.set_cons_zero, List.set_cons_succ]
        refine' wpAnyD_take (i := 10) (v := _) rfl (by kernel_rfl) (by kernel_rfl) (by kernel_rfl) (by kernel_rfl) (fun _ _ _ h => h) (Or.inl ⟨by rfl, ?hy56⟩) hS ?re56
        case hy56 => (intro w hSw; (try dsimp only at hSw); go_simp; (try with_reducible rfl))
        simp only [Act.put, List.setIfInBounds_toArray, List.set_cons_zero, List.set_cons_succ]
        refine' wpAnyD_take (i := 11) (v := _) rfl (by kernel_rfl) (by kernel_rfl) (by kernel_rfl) (by kernel_rfl) (fun _ _ _ h => h) (Or.inl ⟨by rfl, ?hy57⟩) hS ?re57
        case hy57 => (intro w hSw; (try dsimp only at hSw); go_simp; (try with_reducible rfl))
        simp only [Act.put, List.setIfInBounds_toArray, List.set_cons_zero, List.set_cons_succ]
        refine' wpAnyD_take (i := 12) (v := _) rfl (by kernel_rfl) (by kernel_rfl) (by kernel_rfl) (by kernel_rfl) (fun _ _ _ h => h) (Or.inl ⟨by rfl, ?hy58⟩) hS ?re58
        case hy58 => (intro w hSw; (try dsimp only at hSw); go_simp; (try with_reducible rfl))
        simp only [Act.put, List.setIfInBounds_toArray, List.set_cons_zero, List.set_cons_succ]
        refine' wpAnyD_take (i := 13) (v := _) rfl (by kernel_rfl) (by kernel_rfl) (by kernel_rfl) (by kernel_rfl) (fun _ _ _ h => h) (Or.inl ⟨by rfl, ?hy59⟩) hS ?re59
        case hy59 => (intro w hSw; (try dsimp only at hSw); go_simp; (try with_reducible rfl))
        simp only [Act.put, List.setIfInBounds_toArray, List.set_cons_zero, List.set_cons_succ]
        refine' wpAnyD_take (i := 14) (v := _) rfl (by kernel_rfl) (by kernel_rfl) (by kernel_rfl) (by kernel_rfl) (fun _ _ _ h => h) (Or.inl ⟨by rfl, ?hy60⟩) hS ?re60
        case hy60 => (intro w hSw; (try dsimp only at hSw); go_simp; (try with_reducible rfl))
        simp only [Act.put, List.setIfInBounds_toArray, List.set_cons_zero, List.set_cons_succ]
        refine' wpAnyD_take (i := 15) (v := _) rfl (by kernel_rfl) (by kernel_rfl) (by kernel_rfl) (by kernel_rfl) (fun _ _ _ h => h) (Or.inl ⟨by rfl, ?hy61⟩) hS ?re61
        case hy61 => (intro w hSw; (try dsimp only at hSw); go_simp; (try with_reducible rfl))
        simp only [Act.put, List.setIfInBounds_toArray, List.set_cons_zero, List.set_cons_succ]
        refine' wpAnyD_take (i := 16) (v := _) rfl (by kernel_rfl) (by kernel_rfl) (by kernel_rfl) (by kernel_rfl) (fun _ _ _ h => h) (Or.inl ⟨by rfl, ?hy62⟩) hS ?re62
        case hy62 => (intro w hSw; (try dsimp only at hSw); go_simp; (try with_reducible rfl))
        simp only [Act.put, List.setIfInBounds_toArray, List.set_cons_zero, List.set_cons_succ]
        refine' wpAnyD_take (i := 17) (v := _) rfl (by kernel_rfl) (by kernel_rfl) (by kernel_rfl) (by kernel_rfl) (fun _ _ _ h => h) (Or.inl ⟨by rfl, ?hy63⟩) hS ?re63
        case hy63 => (intro w hSw; (try dsimp only at hSw); go_simp; (try with_reducible rfl))
        simp only [Act.put, List.setIfInBounds_toArray, List.set_cons_zero, List.set_cons_succ]
        refine' wpAnyD_take (i := 18) (v := _) rfl (by kernel_rfl) (by kernel_rfl) (by kernel_rfl) (by kernel_rfl) (fun _ _ _ h => h) (Or.inl ⟨by rfl, ?hy64⟩) hS ?re64
        case hy64 => (intro w hSw; (try dsimp only at hSw); go_simp; (try with_reducible rfl))
        simp only [Act.put, List.setIfInBounds_toArray, List.set_cons_zero, List.set_cons_succ]
        refine' wpAnyD_take (i := 19) (v := _) rfl (by kernel_rfl) (by kernel_rfl) (by kernel_rfl) (by kernel_rfl) (fun _ _ _ h => h) (Or.inl ⟨by rfl, ?hy65⟩) hS ?re65
        case hy65 => (intro w hSw; (try dsimp only at hSw); go_simp; (try with_reducible rfl))
        simp only [Act.put, List.setIfInBounds_toArray, List.set_cons_zero, List.set_cons_succ]
        refine' wpAnyD_take (i := 20) (v := _) rfl (by kernel_rfl) (by kernel_rfl) (by kernel_rfl) (by kernel_rfl) (fun _ _ _ h => h) (Or.inl ⟨by rfl, ?hy66⟩) hS ?re66
        case hy66 => (intro w hSw; (try dsimp only at hSw); go_simp; (try with_reducible rfl))
        simp only [Act.put, List.setIfInBounds_toArray, List.set_cons_zero, List.set_cons_succ]
        refine' wpAnyD_take (i := 21) (v := _) rfl (by kernel_rfl) (by kernel_rfl) (by kernel_rfl) (by kernel_rfl) (fun _ _ _ h => h) (Or.inl ⟨by rfl, ?hy67⟩) hS ?re67
        case hy67 => (intro w hSw; (try dsimp only at hSw); go_simp; (try with_reducible rfl))
        simp only [Act.put, List.setIfInBounds_toArray, List.set_cons_zero, List.set_cons_succ]
        refine' wpAnyD_take (i := 22) (v := _) rfl (by kernel_rfl) (by kernel_rfl) (by kernel_rfl) (by kernel_rfl) (fun _ _ _ h => h) (Or.inl ⟨by rfl, ?hy68⟩) hS ?re68
        case hy68 => (intro w hSw; (try dsimp only at hSw); go_simp; (try with_reducible rfl))
        simp only [Act.put, List.setIfInBounds_toArray, List.set_cons_zero, List.set_cons_succ]
        refine' wpAnyD_take (i := 23) (v := _) rfl (by kernel_rfl) (by kernel_rfl) (by kernel_rfl) (by kernel_rfl) (fun _ _ _ h => h) (Or.inl ⟨by rfl, ?hy69⟩) hS ?re69
        case hy69 => (intro w hSw; (try dsimp only at hSw); go_simp; (try with_reducible rfl))
        simp only [Act.put, List.setIfInBounds_toArray, List.set_cons_zero, List.set_cons_succ]
        refine' wpAnyD_take (i := 24) (v := _) rfl (by kernel_rfl) (by kernel_rfl) (by kernel_rfl) (by kernel_rfl) (fun _ _ _ h => h) (Or.inl ⟨by rfl, ?hy70⟩) hS ?re70
        case hy70 => (intro w hSw; (try dsimp only at hSw); go_simp; (try with_reducible rfl))
        simp only [Act.put, List.setIfInBounds_toArray, List.set_cons_zero, List.set_cons_succ]
        refine' wpAnyD_take (i := 25) (v := _) rfl (by kernel_rfl) (by kernel_rfl) (by kernel_rfl) (by kernel_rfl) (fun _ _ _ h => h) (Or.inl ⟨by rfl, ?hy71⟩) hS ?re71
        case hy71 => (intro w hSw; (try dsimp only at hSw); go_simp; (try with_reducible rfl))
        simp only [Act.put, List.setIfInBounds_toArray, List.set_cons_zero, List.set_cons_succ]
        refine' wpAnyD_take (i := 26) (v := _) rfl (by kernel_rfl) (by kernel_rfl) (by kernel_rfl) (by kernel_rfl) (fun _ _ _ h => h) (Or.inl ⟨by rfl, ?hy72⟩) hS ?re72
        case hy72 => (intro w hSw; (try dsimp only at hSw); go_simp; (try with_reducible rfl))
        simp only [Act.put, List.setIfInBounds_toArray, List.set_cons_zero, List.set_cons_succ]
        refine' wpAnyD_take (i := 27) (v := _) rfl (by kernel_rfl) (by kernel_rfl) (by kernel_rfl) (by kernel_rfl) (fun _ _ _ h => h) (Or.inl ⟨by rfl, ?hy73⟩) hS ?re73
        case hy73 => (intro w hSw; (try dsimp only at hSw); go_simp; (try with_reducible rfl))
        simp only [Act.put, List.setIfInBounds_toArray, List.set_cons_zero, List.set_cons_succ]
        refine wpAnyD_done (by kernel_rfl) ?_ _
        go_wp2
        go_ret
        exact ⟨rfl, hS.2.2.2.2.bel⟩
end Go.Proofs.Ytcmjinkhfgmgaaa
