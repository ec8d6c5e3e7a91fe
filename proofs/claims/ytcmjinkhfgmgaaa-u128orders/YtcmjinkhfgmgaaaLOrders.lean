/-
  The walk of paciolilaw01.U128Orders: it returns true, for every three numbers, and turns nothing that was there.
-/
import Derived.Test.YtcmjinkhfgmgaaaFit
import Derived.Deep.RegionHeld3
namespace Go.Proofs.Ytcmjinkhfgmgaaa
open Go.RowKit

theorem cmp2_num (ah al bh bl : Int) (h1 : Word ah) (h2 : Word al) (h3 : Word bh) (h4 : Word bl) : cmp2 ah al bh bl = cmpI (ah * 18446744073709551616 + al) (bh * 18446744073709551616 + bl) := by
  obtain ⟨_, _⟩ := h1; obtain ⟨_, _⟩ := h2; obtain ⟨_, _⟩ := h3; obtain ⟨_, _⟩ := h4
  unfold cmp2 cmpI
  by_cases p1 : ah < bh
  · simp only [if_pos p1]; rw [if_pos (by decide), if_pos (by omega)]
  · by_cases p2 : bh < ah
    · simp only [if_neg p1, if_pos p2]; rw [if_pos (by decide), if_neg (by omega), if_pos (by omega)]
    · simp only [if_neg p1, if_neg p2]
      obtain rfl : ah = bh := by omega
      rw [if_neg (by decide)]
      by_cases q1 : al < bl
      · rw [if_pos q1, if_pos (by omega)]
      · by_cases q2 : bl < al
        · rw [if_neg q1, if_pos q2, if_neg (by omega), if_pos (by omega)]
        · rw [if_neg q1, if_neg q2, if_neg (by omega), if_neg (by omega)]

theorem cmpI_le (x y : Int) : cmpI x y ≤ 0 ↔ x ≤ y := by
  unfold cmpI; split
  · constructor <;> intro <;> omega
  · split <;> constructor <;> intro <;> omega
theorem cmpI_eq (x y : Int) : cmpI x y = 0 ↔ x = y := by
  unfold cmpI; split
  · constructor <;> intro <;> omega
  · split <;> constructor <;> intro <;> omega
theorem cmpI_ge (x y : Int) : 0 ≤ cmpI x y ↔ y ≤ x := by
  unfold cmpI; split
  · constructor <;> intro <;> omega
  · split <;> constructor <;> intro <;> omega

/-- Add of none. -/
theorem add0_any (w : World) (cap : Nat) :
    Calls Try.prog 15 #[.slice none 0 cap] w fun e w' => e = .returned (.tuple #[.agg #[.int .u64 0, .int .u64 0], .bool true]) ∧ Below w.heap.size w w' := by
  refine (add_any none 0 cap (fun _ => 0) (fun _ => 0) w ⟨by decide, fun i hi => absurd hi (by omega)⟩).mono ?_
  rintro e w' ⟨rfl, hb⟩
  exact ⟨by rw [sumTo, addV_yes (by decide)]; rfl, hb⟩

theorem addV_form (s : Int) : ∃ h l ok, addV s = .tuple #[.agg #[.int .u64 h, .int .u64 l], .bool ok] := by
  by_cases h : s < 340282366920938463463374607431768211456
  · exact ⟨_, _, _, addV_yes h⟩
  · exact ⟨_, _, _, addV_no h⟩

/-- A number that lies in a block. -/
def NumAt (w : World) (b : Nat) (hi lo : Int) : Prop := b < w.heap.size ∧ w.cell? ⟨b, 0, none⟩ = some (.int .u64 hi) ∧ w.cell? ⟨b, 1, none⟩ = some (.int .u64 lo)
theorem NumAt.later {w w' : World} {b : Nat} {hi lo : Int} (h : NumAt w b hi lo) (hb : Below w.heap.size w w') : NumAt w' b hi lo :=
  ⟨Nat.lt_of_lt_of_le h.1 hb.size, (hb.cell (p := ⟨b, 0, none⟩) h.1).trans h.2.1, (hb.cell (p := ⟨b, 1, none⟩) h.1).trans h.2.2⟩
theorem NumAt.new (w : World) (hi lo : Int) (t : TypeId) : NumAt (w.alloc (.cells #[.int .u64 hi, .int .u64 lo] t)) w.heap.size hi lo := ⟨by simp, by simp, by simp⟩

/-- Three numbers, as they lie, behind a draw. -/
theorem three_start (w w8 : World) (x y : Nat) (ah al bh bl sh sl : Int) (t : TypeId) (A : NumAt w8 x ah al) (B : NumAt w8 y bh bl) (bel : Below w.heap.size w w8) :
    (w8.alloc (.cells #[.int .u64 sh, .int .u64 sl] t)).drew.cell? ⟨w8.heap.size, 0, none⟩ = some (.int .u64 sh) ∧ (w8.alloc (.cells #[.int .u64 sh, .int .u64 sl] t)).drew.cell? ⟨w8.heap.size, 1, none⟩ = some (.int .u64 sl) ∧ (w8.alloc (.cells #[.int .u64 sh, .int .u64 sl] t)).drew.cell? ⟨x, 0, none⟩ = some (.int .u64 ah) ∧ (w8.alloc (.cells #[.int .u64 sh, .int .u64 sl] t)).drew.cell? ⟨x, 1, none⟩ = some (.int .u64 al) ∧ (w8.alloc (.cells #[.int .u64 sh, .int .u64 sl] t)).drew.cell? ⟨y, 0, none⟩ = some (.int .u64 bh) ∧ (w8.alloc (.cells #[.int .u64 sh, .int .u64 sl] t)).drew.cell? ⟨y, 1, none⟩ = some (.int .u64 bl) ∧ Below w.heap.size w (w8.alloc (.cells #[.int .u64 sh, .int .u64 sl] t)).drew ∧ w8.heap.size < (w8.alloc (.cells #[.int .u64 sh, .int .u64 sl] t)).drew.heap.size ∧ x < (w8.alloc (.cells #[.int .u64 sh, .int .u64 sl] t)).drew.heap.size ∧ y < (w8.alloc (.cells #[.int .u64 sh, .int .u64 sl] t)).drew.heap.size := by
  obtain ⟨a1, a2, a3⟩ := A.later (below1 w8 (.cells #[.int .u64 sh, .int .u64 sl] t))
  obtain ⟨b1, b2, b3⟩ := B.later (below1 w8 (.cells #[.int .u64 sh, .int .u64 sl] t))
  exact ⟨World.cell?_alloc_new .., World.cell?_alloc_new .., a2, a3, b2, b3, (chainA bel _).drew, by simp, a1, b1⟩

theorem three_later {w w1 w2 : World} {s x y : Nat} {ah al bh bl sh sl : Int} (h : w1.cell? ⟨s, 0, none⟩ = some (.int .u64 sh) ∧ w1.cell? ⟨s, 1, none⟩ = some (.int .u64 sl) ∧ w1.cell? ⟨x, 0, none⟩ = some (.int .u64 ah) ∧ w1.cell? ⟨x, 1, none⟩ = some (.int .u64 al) ∧ w1.cell? ⟨y, 0, none⟩ = some (.int .u64 bh) ∧ w1.cell? ⟨y, 1, none⟩ = some (.int .u64 bl) ∧ Below w.heap.size w w1 ∧ s < w1.heap.size ∧ x < w1.heap.size ∧ y < w1.heap.size)
    (hb : Below w1.heap.size w1 w2) : w2.cell? ⟨s, 0, none⟩ = some (.int .u64 sh) ∧ w2.cell? ⟨s, 1, none⟩ = some (.int .u64 sl) ∧ w2.cell? ⟨x, 0, none⟩ = some (.int .u64 ah) ∧ w2.cell? ⟨x, 1, none⟩ = some (.int .u64 al) ∧ w2.cell? ⟨y, 0, none⟩ = some (.int .u64 bh) ∧ w2.cell? ⟨y, 1, none⟩ = some (.int .u64 bl) ∧ Below w.heap.size w w2 ∧ s < w2.heap.size ∧ x < w2.heap.size ∧ y < w2.heap.size := by
  obtain ⟨s0, s1, a0, a1, b0, b1, bel, zs, zx, zy⟩ := h
  have z := hb.size
  exact ⟨(hb.cell (p := ⟨s, 0, none⟩) zs).trans s0, (hb.cell (p := ⟨s, 1, none⟩) zs).trans s1, (hb.cell (p := ⟨x, 0, none⟩) zx).trans a0, (hb.cell (p := ⟨x, 1, none⟩) zx).trans a1, (hb.cell (p := ⟨y, 0, none⟩) zy).trans b0, (hb.cell (p := ⟨y, 1, none⟩) zy).trans b1, chain bel hb, by omega, by omega, by omega⟩

theorem fin_facts (ah al bh bl sh sl : Int) (h1 : Word ah) (h2 : Word al) (h3 : Word bh) (h4 : Word bl) (hf : ah * 18446744073709551616 + al + (bh * 18446744073709551616 + bl) < 340282366920938463463374607431768211456)
    (g1 : sh = (ah * 18446744073709551616 + al + (bh * 18446744073709551616 + bl)) / 18446744073709551616) (g2 : sl = (ah * 18446744073709551616 + al + (bh * 18446744073709551616 + bl)) % 18446744073709551616) :
    Word sh ∧ Word sl ∧ 0 ≤ cmp2 sh sl ah al ∧ (cmp2 sh sl ah al == 0) = (bh == 0 && bl == 0) := by
  have w1 : Word sh := by obtain ⟨_, _⟩ := h1; obtain ⟨_, _⟩ := h2; obtain ⟨_, _⟩ := h3; obtain ⟨_, _⟩ := h4; exact ⟨by omega, by omega⟩
  have w2 : Word sl := ⟨by omega, by omega⟩
  refine ⟨w1, w2, ?_, ?_⟩
  · rw [cmp2_num _ _ _ _ w1 w2 h1 h2, cmpI_ge]
    obtain ⟨_, _⟩ := h3; obtain ⟨_, _⟩ := h4
    omega
  · rw [cmp2_num _ _ _ _ w1 w2 h1 h2, Bool.eq_iff_iff]
    simp only [beq_iff_eq, Bool.and_eq_true]
    rw [cmpI_eq]
    obtain ⟨_, _⟩ := h3; obtain ⟨_, _⟩ := h4
    omega

set_option maxRecDepth 100000 in
set_option maxHeartbeats 4000000 in
theorem law_orders (ah al bh bl ch cl : Int) (w : World) (h1 : Word ah) (h2 : Word al) (h3 : Word bh) (h4 : Word bl) (h5 : Word ch) (h6 : Word cl) :
    Calls Try.prog 9 #[.agg #[.int .u64 ah, .int .u64 al], .agg #[.int .u64 bh, .int .u64 bl], .agg #[.int .u64 ch, .int .u64 cl]] w fun e w' => e = .returned (.bool true) ∧ Below w.heap.size w w' := by
  go_enter Try.func9, Try.ntmps9
  go_wp2_with fail
  refine (fit_any _).mono ?_
  rintro e w1 ⟨rfl, hb1⟩
  have NA := (NumAt.new w ah al 27).later ((below2 _ _ _).trans (hb1.mono (by simp)))
  have NB := (NumAt.new (w.alloc (.cells #[.int .u64 ah, .int .u64 al] 27)) bh bl 27).later ((below1 _ _).trans (hb1.mono (by simp)))
  have NC := (NumAt.new ((w.alloc (.cells #[.int .u64 ah, .int .u64 al] 27)).alloc (.cells #[.int .u64 bh, .int .u64 bl] 27)) ch cl 27).later hb1
  simp only [World.size_alloc] at NA NB NC
  have bel1 := chain (below3 w _ _ _) hb1
  obtain ⟨zA, A0, A1⟩ := NA
  obtain ⟨zB, B0, B1⟩ := NB
  obtain ⟨zC, C0, C1⟩ := NC
  obtain ⟨xh, xl, ok, hV⟩ := addV_form (ah * 18446744073709551616 + al + (bh * 18446744073709551616 + bl) + (ch * 18446744073709551616 + cl))
  have HV : Hid (addV (ah * 18446744073709551616 + al + (bh * 18446744073709551616 + bl) + (ch * 18446744073709551616 + cl)) = .tuple #[.agg #[.int .u64 xh, .int .u64 xl], .bool ok]) := hV
  clear hV hb1
  go_wp2_with fail
  refine (add3_new w1 _ rfl _ _ _ _ _ _ _ _ h1 h2 h3 h4 h5 h6).mono ?_
  rintro e w2 ⟨rfl, hb2⟩
  rw [HV.out]
  have bel2 := chain bel1 hb2
  have NA := (show NumAt w1 w.heap.size ah al from ⟨zA, A0, A1⟩).later hb2
  have NB := (show NumAt w1 (w.heap.size + 1) bh bl from ⟨zB, B0, B1⟩).later hb2
  have NC := (show NumAt w1 (w.heap.size + 1 + 1) ch cl from ⟨zC, C0, C1⟩).later hb2
  clear zA A0 A1 zB B0 B1 zC C0 C1
  obtain ⟨zA, A0, A1⟩ := NA
  obtain ⟨zB, B0, B1⟩ := NB
  obtain ⟨zC, C0, C1⟩ := NC
  clear hb2 bel1
  go_wp2_with fail
  refine (add3_new _ _ (by simp) _ _ _ _ _ _ _ _ h5 h6 h1 h2 h3 h4).mono ?_
  rintro e w3 ⟨rfl, hb3⟩
  rw [show ch * 18446744073709551616 + cl + (ah * 18446744073709551616 + al) + (bh * 18446744073709551616 + bl) = ah * 18446744073709551616 + al + (bh * 18446744073709551616 + bl) + (ch * 18446744073709551616 + cl) from by omega, HV.out]
  have bel3 := chain (chainA bel2 _) hb3
  have NX := (NumAt.new w2 xh xl 27).later hb3
  have NA := (show NumAt w2 w.heap.size ah al from ⟨zA, A0, A1⟩).later (chain (below1 _ _) hb3)
  have NB := (show NumAt w2 (w.heap.size + 1) bh bl from ⟨zB, B0, B1⟩).later (chain (below1 _ _) hb3)
  have NC := (show NumAt w2 (w.heap.size + 1 + 1) ch cl from ⟨zC, C0, C1⟩).later (chain (below1 _ _) hb3)
  clear zA A0 A1 zB B0 B1 zC C0 C1
  obtain ⟨zA, A0, A1⟩ := NA
  obtain ⟨zB, B0, B1⟩ := NB
  obtain ⟨zC, C0, C1⟩ := NC
  obtain ⟨zX, X0, X1⟩ := NX
  clear hb3 bel2
  go_wp2_with fail
  refine (add0_any _ _).mono ?_
  rintro e w4 ⟨rfl, hb4⟩
  have bel4 := chain (chainA bel3 _) hb4
  have NY := (NumAt.new w3 xh xl 27).later hb4
  have NA := (show NumAt w3 w.heap.size ah al from ⟨zA, A0, A1⟩).later (chain (below1 _ _) hb4)
  have NB := (show NumAt w3 (w.heap.size + 1) bh bl from ⟨zB, B0, B1⟩).later (chain (below1 _ _) hb4)
  have NC := (show NumAt w3 (w.heap.size + 1 + 1) ch cl from ⟨zC, C0, C1⟩).later (chain (below1 _ _) hb4)
  have NX := (show NumAt w3 w2.heap.size xh xl from ⟨zX, X0, X1⟩).later (chain (below1 _ _) hb4)
  clear zA A0 A1 zB B0 B1 zC C0 C1 zX X0 X1
  obtain ⟨zA, A0, A1⟩ := NA
  obtain ⟨zB, B0, B1⟩ := NB
  obtain ⟨zC, C0, C1⟩ := NC
  obtain ⟨zX, X0, X1⟩ := NX
  obtain ⟨zY, Y0, Y1⟩ := NY
  clear hb4 bel3
  go_wp2_with fail
  refine (compare_any ah al bh bl _).mono ?_
  rintro e w5 ⟨rfl, hb5⟩
  have bel5 := chain (chainA bel4 _) hb5
  have NA := (show NumAt w4 w.heap.size ah al from ⟨zA, A0, A1⟩).later (chain (below1 _ _) hb5)
  have NB := (show NumAt w4 (w.heap.size + 1) bh bl from ⟨zB, B0, B1⟩).later (chain (below1 _ _) hb5)
  have NC := (show NumAt w4 (w.heap.size + 1 + 1) ch cl from ⟨zC, C0, C1⟩).later (chain (below1 _ _) hb5)
  have NX := (show NumAt w4 w2.heap.size xh xl from ⟨zX, X0, X1⟩).later (chain (below1 _ _) hb5)
  have NY := (show NumAt w4 w3.heap.size xh xl from ⟨zY, Y0, Y1⟩).later (chain (below1 _ _) hb5)
  clear zA A0 A1 zB B0 B1 zC C0 C1 zX X0 X1 zY Y0 Y1
  obtain ⟨zA, A0, A1⟩ := NA
  obtain ⟨zB, B0, B1⟩ := NB
  obtain ⟨zC, C0, C1⟩ := NC
  obtain ⟨zX, X0, X1⟩ := NX
  obtain ⟨zY, Y0, Y1⟩ := NY
  clear hb5 bel4
  have e1 := cmp2_num ah al bh bl h1 h2 h3 h4
  have e2 := cmp2_num bh bl ch cl h3 h4 h5 h6
  have e3 := cmp2_num ah al ch cl h1 h2 h5 h6
  have K1 : Hid (cmp2 ah al bh bl ≤ 0 ↔ ah * 18446744073709551616 + al ≤ bh * 18446744073709551616 + bl) := by show _ ↔ _; rw [e1]; exact cmpI_le _ _
  have K2 : Hid (cmp2 bh bl ch cl ≤ 0 ↔ bh * 18446744073709551616 + bl ≤ ch * 18446744073709551616 + cl) := by show _ ↔ _; rw [e2]; exact cmpI_le _ _
  have K3 : Hid (cmp2 ah al ch cl ≤ 0 ↔ ah * 18446744073709551616 + al ≤ ch * 18446744073709551616 + cl) := by show _ ↔ _; rw [e3]; exact cmpI_le _ _
  clear e1 e2 e3
  by_cases p1 : cmp2 ah al bh bl ≤ 0
  · go_wp2_with fail
    refine (compare_any bh bl ch cl _).mono ?_
    rintro e w6 ⟨rfl, hb6⟩
    have bel6 := chain bel5 hb6
    have NA := (show NumAt w5 w.heap.size ah al from ⟨zA, A0, A1⟩).later hb6
    have NB := (show NumAt w5 (w.heap.size + 1) bh bl from ⟨zB, B0, B1⟩).later hb6
    have NC := (show NumAt w5 (w.heap.size + 1 + 1) ch cl from ⟨zC, C0, C1⟩).later hb6
    have NX := (show NumAt w5 w2.heap.size xh xl from ⟨zX, X0, X1⟩).later hb6
    have NY := (show NumAt w5 w3.heap.size xh xl from ⟨zY, Y0, Y1⟩).later hb6
    clear zA A0 A1 zB B0 B1 zC C0 C1 zX X0 X1 zY Y0 Y1
    obtain ⟨zA, A0, A1⟩ := NA
    obtain ⟨zB, B0, B1⟩ := NB
    obtain ⟨zC, C0, C1⟩ := NC
    obtain ⟨zX, X0, X1⟩ := NX
    obtain ⟨zY, Y0, Y1⟩ := NY
    clear hb6 bel5
    by_cases p2 : cmp2 bh bl ch cl ≤ 0
    · have p3 : ¬ 0 < cmp2 ah al ch cl := by have := K1.out.1 p1; have := K2.out.1 p2; have := K3.out.2 (by omega); omega
      go_wp2_with fail
      refine (compare_any ah al ch cl _).mono ?_
      rintro e w7 ⟨rfl, hb7⟩
      have bel7 := chain bel6 hb7
      have NA := (show NumAt w6 w.heap.size ah al from ⟨zA, A0, A1⟩).later hb7
      have NB := (show NumAt w6 (w.heap.size + 1) bh bl from ⟨zB, B0, B1⟩).later hb7
      have NC := (show NumAt w6 (w.heap.size + 1 + 1) ch cl from ⟨zC, C0, C1⟩).later hb7
      have NX := (show NumAt w6 w2.heap.size xh xl from ⟨zX, X0, X1⟩).later hb7
      have NY := (show NumAt w6 w3.heap.size xh xl from ⟨zY, Y0, Y1⟩).later hb7
      clear zA A0 A1 zB B0 B1 zC C0 C1 zX X0 X1 zY Y0 Y1
      obtain ⟨zA, A0, A1⟩ := NA
      obtain ⟨zB, B0, B1⟩ := NB
      obtain ⟨zC, C0, C1⟩ := NC
      obtain ⟨zX, X0, X1⟩ := NX
      obtain ⟨zY, Y0, Y1⟩ := NY
      clear hb7 bel6
      go_wp2_with fail
      obtain ⟨wz, rfl⟩ : ∃ wz : World, wz = w7 := ⟨_, rfl⟩
      have belz := bel7
      clear bel7 p1 p2 p3
      refine (add2_new wz _ rfl ah al bh bl _ _ h1 h2 h3 h4).mono ?_
      rintro e w8 ⟨rfl, hb8⟩
      have bel8 := chain belz hb8
      have NA := (show NumAt wz w.heap.size ah al from ⟨zA, A0, A1⟩).later hb8
      have NB := (show NumAt wz (w.heap.size + 1) bh bl from ⟨zB, B0, B1⟩).later hb8
      have NC := (show NumAt wz (w.heap.size + 1 + 1) ch cl from ⟨zC, C0, C1⟩).later hb8
      have NX := (show NumAt wz w2.heap.size xh xl from ⟨zX, X0, X1⟩).later hb8
      have NY := (show NumAt wz w3.heap.size xh xl from ⟨zY, Y0, Y1⟩).later hb8
      clear zA A0 A1 zB B0 B1 zC C0 C1 zX X0 X1 zY Y0 Y1
      obtain ⟨zA, A0, A1⟩ := NA
      obtain ⟨zB, B0, B1⟩ := NB
      obtain ⟨zC, C0, C1⟩ := NC
      obtain ⟨zX, X0, X1⟩ := NX
      obtain ⟨zY, Y0, Y1⟩ := NY
      clear hb8 belz
      by_cases hf : ah * 18446744073709551616 + al + (bh * 18446744073709551616 + bl) < 340282366920938463463374607431768211456
      · rw [addV_yes hf]
        generalize g1 : (ah * 18446744073709551616 + al + (bh * 18446744073709551616 + bl)) / 18446744073709551616 = sh
        generalize g2 : (ah * 18446744073709551616 + al + (bh * 18446744073709551616 + bl)) % 18446744073709551616 = sl
        have fs := fin_facts ah al bh bl sh sl h1 h2 h3 h4 hf g1.symm g2.symm
        obtain ⟨ws, wt, f1, f2⟩ := fs
        clear g1 g2 hf
        have S0 := three_start w w8 (w.heap.size) (w.heap.size + 1) ah al bh bl sh sl 27 ⟨zA, A0, A1⟩ ⟨zB, B0, B1⟩ bel8
        clear zA A0 A1 zB B0 B1 zC C0 C1 bel8
        obtain ⟨c1, c2, d1, d2, d3⟩ : ∃ c1 c2, (bh == 0) = c1 ∧ (bl == 0) = c2 ∧ (cmp2 sh sl ah al == 0) = (c1 && c2) := ⟨_, _, rfl, rfl, f2⟩
        clear f2
        go_wp2_with fail
        cases c1 <;> cases c2 <;> simp only [Bool.and_true, Bool.and_false] at d3
        all_goals go_region_held3 (fun w' => w'.cell? ⟨w8.heap.size, 0, none⟩ = some (.int .u64 sh) ∧ w'.cell? ⟨w8.heap.size, 1, none⟩ = some (.int .u64 sl) ∧ w'.cell? ⟨w.heap.size, 0, none⟩ = some (.int .u64 ah) ∧ w'.cell? ⟨w.heap.size, 1, none⟩ = some (.int .u64 al) ∧ w'.cell? ⟨w.heap.size + 1, 0, none⟩ = some (.int .u64 bh) ∧ w'.cell? ⟨w.heap.size + 1, 1, none⟩ = some (.int .u64 bl) ∧ Below w.heap.size w w' ∧ w8.heap.size < w'.heap.size ∧ w.heap.size < w'.heap.size ∧ w.heap.size + 1 < w'.heap.size)
          (first | exact S0 | exact three_later (by assumption) (by assumption))
          (first | (go_at_call 17; refine (compare_any sh sl ah al _).mono ?_; rintro e w' ⟨rfl, hb⟩))
        all_goals
          go_wp2
          go_ret
          exact ⟨rfl, by have h := ‹_ ∧ _›; exact h.2.2.2.2.2.2.1⟩
      · rw [addV_no hf]
        clear hf
        go_wp2_with fail
        go_region
        go_wp2
        go_ret
        exact ⟨rfl, (chainA bel8 _).drew⟩
    · go_wp2_with fail
      obtain ⟨wz, rfl⟩ : ∃ wz : World, wz = w6 := ⟨_, rfl⟩
      have belz := bel6
      clear bel6 p1 p2
      refine (add2_new wz _ rfl ah al bh bl _ _ h1 h2 h3 h4).mono ?_
      rintro e w8 ⟨rfl, hb8⟩
      have bel8 := chain belz hb8
      have NA := (show NumAt wz w.heap.size ah al from ⟨zA, A0, A1⟩).later hb8
      have NB := (show NumAt wz (w.heap.size + 1) bh bl from ⟨zB, B0, B1⟩).later hb8
      have NC := (show NumAt wz (w.heap.size + 1 + 1) ch cl from ⟨zC, C0, C1⟩).later hb8
      have NX := (show NumAt wz w2.heap.size xh xl from ⟨zX, X0, X1⟩).later hb8
      have NY := (show NumAt wz w3.heap.size xh xl from ⟨zY, Y0, Y1⟩).later hb8
      clear zA A0 A1 zB B0 B1 zC C0 C1 zX X0 X1 zY Y0 Y1
      obtain ⟨zA, A0, A1⟩ := NA
      obtain ⟨zB, B0, B1⟩ := NB
      obtain ⟨zC, C0, C1⟩ := NC
      obtain ⟨zX, X0, X1⟩ := NX
      obtain ⟨zY, Y0, Y1⟩ := NY
      clear hb8 belz
      by_cases hf : ah * 18446744073709551616 + al + (bh * 18446744073709551616 + bl) < 340282366920938463463374607431768211456
      · rw [addV_yes hf]
        generalize g1 : (ah * 18446744073709551616 + al + (bh * 18446744073709551616 + bl)) / 18446744073709551616 = sh
        generalize g2 : (ah * 18446744073709551616 + al + (bh * 18446744073709551616 + bl)) % 18446744073709551616 = sl
        have fs := fin_facts ah al bh bl sh sl h1 h2 h3 h4 hf g1.symm g2.symm
        obtain ⟨ws, wt, f1, f2⟩ := fs
        clear g1 g2 hf
        have S0 := three_start w w8 (w.heap.size) (w.heap.size + 1) ah al bh bl sh sl 27 ⟨zA, A0, A1⟩ ⟨zB, B0, B1⟩ bel8
        clear zA A0 A1 zB B0 B1 zC C0 C1 bel8
        obtain ⟨c1, c2, d1, d2, d3⟩ : ∃ c1 c2, (bh == 0) = c1 ∧ (bl == 0) = c2 ∧ (cmp2 sh sl ah al == 0) = (c1 && c2) := ⟨_, _, rfl, rfl, f2⟩
        clear f2
        go_wp2_with fail
        cases c1 <;> cases c2 <;> simp only [Bool.and_true, Bool.and_false] at d3
        all_goals go_region_held3 (fun w' => w'.cell? ⟨w8.heap.size, 0, none⟩ = some (.int .u64 sh) ∧ w'.cell? ⟨w8.heap.size, 1, none⟩ = some (.int .u64 sl) ∧ w'.cell? ⟨w.heap.size, 0, none⟩ = some (.int .u64 ah) ∧ w'.cell? ⟨w.heap.size, 1, none⟩ = some (.int .u64 al) ∧ w'.cell? ⟨w.heap.size + 1, 0, none⟩ = some (.int .u64 bh) ∧ w'.cell? ⟨w.heap.size + 1, 1, none⟩ = some (.int .u64 bl) ∧ Below w.heap.size w w' ∧ w8.heap.size < w'.heap.size ∧ w.heap.size < w'.heap.size ∧ w.heap.size + 1 < w'.heap.size)
          (first | exact S0 | exact three_later (by assumption) (by assumption))
          (first | (go_at_call 17; refine (compare_any sh sl ah al _).mono ?_; rintro e w' ⟨rfl, hb⟩))
        all_goals
          go_wp2
          go_ret
          exact ⟨rfl, by have h := ‹_ ∧ _›; exact h.2.2.2.2.2.2.1⟩
      · rw [addV_no hf]
        clear hf
        go_wp2_with fail
        go_region
        go_wp2
        go_ret
        exact ⟨rfl, (chainA bel8 _).drew⟩
  · go_wp2_with fail
    obtain ⟨wz, rfl⟩ : ∃ wz : World, wz = w5 := ⟨_, rfl⟩
    have belz := bel5
    clear bel5 p1
    refine (add2_new wz _ rfl ah al bh bl _ _ h1 h2 h3 h4).mono ?_
    rintro e w8 ⟨rfl, hb8⟩
    have bel8 := chain belz hb8
    have NA := (show NumAt wz w.heap.size ah al from ⟨zA, A0, A1⟩).later hb8
    have NB := (show NumAt wz (w.heap.size + 1) bh bl from ⟨zB, B0, B1⟩).later hb8
    have NC := (show NumAt wz (w.heap.size + 1 + 1) ch cl from ⟨zC, C0, C1⟩).later hb8
    have NX := (show NumAt wz w2.heap.size xh xl from ⟨zX, X0, X1⟩).later hb8
    have NY := (show NumAt wz w3.heap.size xh xl from ⟨zY, Y0, Y1⟩).later hb8
    clear zA A0 A1 zB B0 B1 zC C0 C1 zX X0 X1 zY Y0 Y1
    obtain ⟨zA, A0, A1⟩ := NA
    obtain ⟨zB, B0, B1⟩ := NB
    obtain ⟨zC, C0, C1⟩ := NC
    obtain ⟨zX, X0, X1⟩ := NX
    obtain ⟨zY, Y0, Y1⟩ := NY
    clear hb8 belz
    by_cases hf : ah * 18446744073709551616 + al + (bh * 18446744073709551616 + bl) < 340282366920938463463374607431768211456
    · rw [addV_yes hf]
      generalize g1 : (ah * 18446744073709551616 + al + (bh * 18446744073709551616 + bl)) / 18446744073709551616 = sh
      generalize g2 : (ah * 18446744073709551616 + al + (bh * 18446744073709551616 + bl)) % 18446744073709551616 = sl
      have fs := fin_facts ah al bh bl sh sl h1 h2 h3 h4 hf g1.symm g2.symm
      obtain ⟨ws, wt, f1, f2⟩ := fs
      clear g1 g2 hf
      have S0 := three_start w w8 (w.heap.size) (w.heap.size + 1) ah al bh bl sh sl 27 ⟨zA, A0, A1⟩ ⟨zB, B0, B1⟩ bel8
      clear zA A0 A1 zB B0 B1 zC C0 C1 bel8
      obtain ⟨c1, c2, d1, d2, d3⟩ : ∃ c1 c2, (bh == 0) = c1 ∧ (bl == 0) = c2 ∧ (cmp2 sh sl ah al == 0) = (c1 && c2) := ⟨_, _, rfl, rfl, f2⟩
      clear f2
      go_wp2_with fail
      cases c1 <;> cases c2 <;> simp only [Bool.and_true, Bool.and_false] at d3
      all_goals go_region_held3 (fun w' => w'.cell? ⟨w8.heap.size, 0, none⟩ = some (.int .u64 sh) ∧ w'.cell? ⟨w8.heap.size, 1, none⟩ = some (.int .u64 sl) ∧ w'.cell? ⟨w.heap.size, 0, none⟩ = some (.int .u64 ah) ∧ w'.cell? ⟨w.heap.size, 1, none⟩ = some (.int .u64 al) ∧ w'.cell? ⟨w.heap.size + 1, 0, none⟩ = some (.int .u64 bh) ∧ w'.cell? ⟨w.heap.size + 1, 1, none⟩ = some (.int .u64 bl) ∧ Below w.heap.size w w' ∧ w8.heap.size < w'.heap.size ∧ w.heap.size < w'.heap.size ∧ w.heap.size + 1 < w'.heap.size)
        (first | exact S0 | exact three_later (by assumption) (by assumption))
        (first | (go_at_call 17; refine (compare_any sh sl ah al _).mono ?_; rintro e w' ⟨rfl, hb⟩))
      all_goals
        go_wp2
        go_ret
        exact ⟨rfl, by have h := ‹_ ∧ _›; exact h.2.2.2.2.2.2.1⟩
    · rw [addV_no hf]
      clear hf
      go_wp2_with fail
      go_region
      go_wp2
      go_ret
      exact ⟨rfl, (chainA bel8 _).drew⟩
end Go.Proofs.Ytcmjinkhfgmgaaa
