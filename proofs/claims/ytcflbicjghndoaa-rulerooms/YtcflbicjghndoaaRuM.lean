
/-
  Package rule: what is left of a number; an account's room; whether it is within its limits.
-/
import Derived.Test.YtcflbicjghndoaaRuR
namespace Go.Proofs.Ytcflbicjghndoaa
open Go.RowKit
set_option maxRecDepth 100000
set_option linter.unusedVariables false
set_option linter.unusedSimpArgs false

def StopM (p : Prop) : Prop := p
theorem stopM {p : Prop} (h : StopM p) : p := h

/-- Add of two numbers that were laid in a new block. -/
theorem radd2 (w : World) (g : Nat) (hg : g = w.heap.size) (a b c d : Int) (t : TypeId) (cap : Nat) (k0 : Word a) (k1 : Word b) (k2 : Word c) (k3 : Word d) :
    Calls Try.prog 13 #[.slice (some ⟨g, 0, none⟩) 2 cap] (w.alloc (.cells #[.int .u64 a, .int .u64 b, .int .u64 c, .int .u64 d] t)) fun e w' => e = .returned (addV ((a * 18446744073709551616 + b) + (c * 18446744073709551616 + d))) ∧ Below w.heap.size w w' := by
  subst hg
  have hcell : ∀ i, (w.alloc (.cells #[.int .u64 a, .int .u64 b, .int .u64 c, .int .u64 d] t)).cell? ⟨w.heap.size, i, none⟩ = #[Value.int .u64 a, .int .u64 b, .int .u64 c, .int .u64 d][i]? := fun i => World.cell?_alloc_new w _ t i
  have h := add_any (some ⟨w.heap.size, 0, none⟩) 2 cap (fun i => if i = 0 then a else c) (fun i => if i = 0 then b else d) (w.alloc (.cells #[.int .u64 a, .int .u64 b, .int .u64 c, .int .u64 d] t)) ⟨by decide, fun i hi => ⟨w.heap.size, 0, rfl, by simp, by
    match i, hi with
    | 0, _ => exact ⟨by rw [Nat.zero_add, hcell]; rfl, by rw [Nat.zero_add, hcell]; rfl, k0, k1⟩
    | 1, _ => exact ⟨by rw [Nat.zero_add, hcell]; rfl, by rw [Nat.zero_add, hcell]; rfl, k2, k3⟩⟩⟩
  refine h.mono ?_
  rintro e w' ⟨rfl, hb⟩
  exact ⟨by simp [sumTo], (below1 w _).trans (hb.mono (by simp))⟩

/-- What two numbers leave of one. -/
def leftB (o p q : Int) : Bool := decide (p + q ≤ o)
def leftN (o p q : Int) : Int := if p + q ≤ o then o - (p + q) else 0
def leftR (o p q : Int) : Value := .tuple #[.agg #[.int .u64 (leftN o p q / 18446744073709551616), .int .u64 (leftN o p q % 18446744073709551616)], .bool (leftB o p q)]

theorem rsub (ah al bh bl A C : Int) (h1 : Word ah) (h2 : Word al) (h3 : Word bh) (h4 : Word bl) (hA : ah * 18446744073709551616 + al = A) (hC : bh * 18446744073709551616 + bl = C) (w : World) :
    Calls Try.prog 14 #[.agg #[.int .u64 ah, .int .u64 al], .agg #[.int .u64 bh, .int .u64 bl]] w fun e w' =>
      e = .returned (.tuple #[.agg #[.int .u64 ((if C ≤ A then A - C else 0) / 18446744073709551616), .int .u64 ((if C ≤ A then A - C else 0) % 18446744073709551616)], .bool (decide (C ≤ A))]) ∧ Below w.heap.size w w' := by
  obtain ⟨a1, a2⟩ := id h1; obtain ⟨b1, b2⟩ := id h2; obtain ⟨c1, c2⟩ := id h3; obtain ⟨d1, d2⟩ := id h4
  by_cases hle : C ≤ A
  · have hlt : ltB ah al bh bl = false := by
      apply decide_eq_false
      unfold bor
      split <;> omega
    refine (sub_yes ah al bh bl h1 h2 h3 h4 hlt w).mono ?_
    rintro e w' ⟨rfl, hb⟩
    refine ⟨?_, hb⟩
    rw [if_pos hle, decide_eq_true hle]
    refine cells_eq ?_ ?_
    · unfold bor; split <;> omega
    · omega
  · have hlt : ltB ah al bh bl = true := by
      apply decide_eq_true
      unfold bor
      split <;> omega
    refine (sub_no ah al bh bl h1 h2 h3 h4 hlt w).mono ?_
    rintro e w' ⟨rfl, hb⟩
    refine ⟨?_, hb⟩
    rw [if_neg hle, decide_eq_false hle]
    rfl
set_option maxHeartbeats 1000000 in
theorem left_any (oh ol ph pl qh ql : Int) (w : World) (h1 : Word oh) (h2 : Word ol) (h3 : Word ph) (h4 : Word pl) (h5 : Word qh) (h6 : Word ql) :
    Calls Try.prog 31 #[.agg #[.int .u64 oh, .int .u64 ol], .agg #[.int .u64 ph, .int .u64 pl], .agg #[.int .u64 qh, .int .u64 ql]] w fun e w' =>
      e = .returned (leftR (oh * 18446744073709551616 + ol) (ph * 18446744073709551616 + pl) (qh * 18446744073709551616 + ql)) ∧ Below w.heap.size w w' := by
  obtain ⟨a1, a2⟩ := id h1; obtain ⟨b1, b2⟩ := id h2; obtain ⟨c1, c2⟩ := id h3; obtain ⟨d1, d2⟩ := id h4; obtain ⟨e1, e2⟩ := id h5; obtain ⟨f1, f2⟩ := id h6
  obtain ⟨S, hS⟩ : ∃ S, (ph * 18446744073709551616 + pl) + (qh * 18446744073709551616 + ql) = S := ⟨_, rfl⟩
  obtain ⟨O, hO⟩ : ∃ O, oh * 18446744073709551616 + ol = O := ⟨_, rfl⟩
  have s0 : 0 ≤ S := by omega
  have hR : leftR (oh * 18446744073709551616 + ol) (ph * 18446744073709551616 + pl) (qh * 18446744073709551616 + ql) = .tuple #[.agg #[.int .u64 ((if S ≤ O then O - S else 0) / 18446744073709551616), .int .u64 ((if S ≤ O then O - S else 0) % 18446744073709551616)], .bool (decide (S ≤ O))] := by
    unfold leftR leftN leftB
    rw [hS, hO]
  rw [hR]
  obtain ⟨D, hD⟩ : ∃ D, (if S ≤ O then O - S else 0) = D := ⟨_, rfl⟩
  obtain ⟨q, hq⟩ : ∃ q, decide (S ≤ O) = q := ⟨_, rfl⟩
  rw [hD, hq]
  have HD : Hid ((if S ≤ O then O - S else 0) = D) := hD
  have HQ : Hid (decide (S ≤ O) = q) := hq
  clear hD hq
  have HS : Hid ((ph * 18446744073709551616 + pl) + (qh * 18446744073709551616 + ql) = S) := hS
  have HO : Hid (oh * 18446744073709551616 + ol = O) := hO
  have HW : Hid (Word oh ∧ Word ol ∧ Word ph ∧ Word pl ∧ Word qh ∧ Word ql) := ⟨h1, h2, h3, h4, h5, h6⟩
  clear hS hO hR h1 h2 h3 h4 h5 h6 a1 a2 b1 b2 c1 c2 d1 d2 e1 e2 f1 f2
  go_enter Try.func31, Try.ntmps31
  go_wp2_with fail
  refine (radd2 _ _ (by simp) ph pl qh ql _ _ HW.out.2.2.1 HW.out.2.2.2.1 HW.out.2.2.2.2.1 HW.out.2.2.2.2.2).mono ?_
  rintro e w1 ⟨rfl, hb1⟩
  rw [HS.out]
  have r0 : Blk w1 w.heap.size #[.int .u64 oh, .int .u64 ol] 24 := ((((Blk.new w _ 24 rfl).alloc _).alloc _).alloc _).later hb1
  have r3 : Blk w1 (w.heap.size + 1 + 1 + 1) #[.int .u64 0, .int .u64 0] 24 := (Blk.new (((w.alloc (.cells #[.int .u64 oh, .int .u64 ol] 24)).alloc (.cells #[.int .u64 ph, .int .u64 pl] 24)).alloc (.cells #[.int .u64 qh, .int .u64 ql] 24)) _ 24 (by simp)).later hb1
  have B1 : Hid (Below w.heap.size w w1) := (below4 w _ _ _ _).trans (hb1.mono (by simp; omega))
  have HZ : Hid (w.heap.size + 4 ≤ w1.heap.size) := by have := hb1.size; simp at this; show _ ≤ _; omega
  clear hb1
  have x0 := r0.cell 0
  have x1 := r0.cell 1
  have y0 := r3.cell 0
  have y1 := r3.cell 1
  have f0 := r3.frozen 0
  have f1 := r3.frozen 1
  simp only [List.getElem?_toArray, List.getElem?_cons_zero, List.getElem?_cons_succ] at x0 x1 y0 y1
  have z1 : w.heap.size < w1.heap.size := by have := HZ.out; omega
  have z2 : w.heap.size + 1 + 1 + 1 < w1.heap.size := by have := HZ.out; omega
  have R3 : Hid (Blk w1 (w.heap.size + 1 + 1 + 1) #[.int .u64 0, .int .u64 0] 24) := r3
  clear r0 r3
  by_cases hov : S < 340282366920938463463374607431768211456
  · rw [addV_yes hov]
    go_wp2_with fail
    have hrs := rsub oh ol (S / 18446744073709551616) (S % 18446744073709551616) O S HW.out.1 HW.out.2.1 ⟨by omega, by omega⟩ ⟨by omega, by omega⟩ HO.out (by omega) (w1.alloc (.cells #[.int .u64 (S / 18446744073709551616), .int .u64 (S % 18446744073709551616)] 24))
    rw [HD.out, HQ.out] at hrs
    refine hrs.mono ?_
    clear hrs
    rintro e w2 ⟨rfl, hb2⟩
    have R4 := (R3.out.alloc (.cells #[.int .u64 (S / 18446744073709551616), .int .u64 (S % 18446744073709551616)] 24)).later hb2
    have B2 := (B1.out.alloc B1.out.size (.cells #[.int .u64 (S / 18446744073709551616), .int .u64 (S % 18446744073709551616)] 24)).trans (hb2.mono (by have := B1.out.size; simp; omega))
    clear hb2 x0 x1 y0 y1 f0 f1
    have y0 := R4.cell 0
    have y1 := R4.cell 1
    have f0 := R4.frozen 0
    have f1 := R4.frozen 1
    simp only [List.getElem?_toArray, List.getElem?_cons_zero, List.getElem?_cons_succ] at y0 y1
    go_wp2
    refine bodyPost_ret (v := .tuple #[.agg #[.int .u64 (D / 18446744073709551616), .int .u64 (D % 18446744073709551616)], .bool q]) ?_ rfl ⟨rfl, ?_⟩
    · have RF := (R4.set 0 (.int .u64 (D / 18446744073709551616))).set 1 (.int .u64 (D % 18446744073709551616))
      have v0 := RF.cell 0
      have v1 := RF.cell 1
      simp at v0 v1
      simp [results, Try.results31, go_sem, v0, v1]
    · exact (B2.setCell (p := ⟨w.heap.size + 1 + 1 + 1, 0, none⟩) (show w.heap.size ≤ w.heap.size + 1 + 1 + 1 by omega) _).setCell (p := ⟨w.heap.size + 1 + 1 + 1, 1, none⟩) (show w.heap.size ≤ w.heap.size + 1 + 1 + 1 by omega) _
  · rw [addV_no hov]
    have hO := HO.out
    obtain ⟨⟨a1, a2⟩, ⟨b1, b2⟩, _⟩ := HW.out
    have hle : ¬ S ≤ O := by omega
    have hD0 := HD.out
    rw [if_neg hle] at hD0
    have hq0 := HQ.out
    rw [decide_eq_false hle] at hq0
    subst hD0 hq0
    clear hO a1 a2 b1 b2
    go_wp2
    refine bodyPost_ret (v := .tuple #[.agg #[.int .u64 (0 / 18446744073709551616), .int .u64 (0 % 18446744073709551616)], .bool false]) ?_ rfl ⟨rfl, ?_⟩
    · have RF := ((R3.out.set 0 (.int .u64 0)).set 1 (.int .u64 0)).alloc (.cells #[.int .u64 0, .int .u64 0] 24)
      have v0 := RF.cell 0
      have v1 := RF.cell 1
      simp at v0 v1
      simp [results, Try.results31, go_sem, v0, v1]
    · exact ((B1.out.setCell (p := ⟨w.heap.size + 1 + 1 + 1, 0, none⟩) (show w.heap.size ≤ w.heap.size + 1 + 1 + 1 by omega) _).setCell (p := ⟨w.heap.size + 1 + 1 + 1, 1, none⟩) (show w.heap.size ≤ w.heap.size + 1 + 1 + 1 by omega) _).alloc (by have := HZ.out; simp; omega) _

/-- What is known of an account: its flags, its four sums. -/
structure AcX (X : Array Value) (fl a b c d e f g h : Int) : Prop where
  size : X.size = 46
  one : X.all (·.oneCell') = true
  fl : X[3]? = some (.int .i64 fl)
  x4 : X[4]? = some (.int .u64 a)
  x5 : X[5]? = some (.int .u64 b)
  x6 : X[6]? = some (.int .u64 c)
  x7 : X[7]? = some (.int .u64 d)
  x8 : X[8]? = some (.int .u64 e)
  x9 : X[9]? = some (.int .u64 f)
  x10 : X[10]? = some (.int .u64 g)
  x11 : X[11]? = some (.int .u64 h)
  w4 : Word a
  w5 : Word b
  w6 : Word c
  w7 : Word d
  w8 : Word e
  w9 : Word f
  w10 : Word g
  w11 : Word h
theorem AcX.info {X : Array Value} {fl a b c d e f g h : Int} (k : AcX X fl a b c d e f g h) : (Try.prog.info? 36).map (·.size) = some X.size := by rw [k.size]; exact info_ac
def nn (a b : Int) : Int := a * 18446744073709551616 + b
/-- What is left of the other side's posted sum. -/
def roomN (debit : Bool) (a b c d e f g h : Int) : Int := if debit then leftN (nn g h) (nn a b) (nn c d) else leftN (nn c d) (nn e f) (nn g h)
def roomB (debit : Bool) (a b c d e f g h : Int) : Bool := if debit then leftB (nn g h) (nn a b) (nn c d) else leftB (nn c d) (nn e f) (nn g h)
set_option maxHeartbeats 1000000 in
theorem unused_any (X : Array Value) (fl a b c d e f g h : Int) (k : AcX X fl a b c d e f g h) (debit : Bool) (w : World) :
    Calls Try.prog 26 #[.agg X, .bool debit] w fun e' w' =>
      e' = .returned (.tuple #[.agg #[.int .u64 (roomN debit a b c d e f g h / 18446744073709551616), .int .u64 (roomN debit a b c d e f g h % 18446744073709551616)], .bool (roomB debit a b c d e f g h)]) ∧ Below w.heap.size w w' := by
  have hl1 := fun w => left_any g h a b c d w k.w10 k.w11 k.w4 k.w5 k.w6 k.w7
  have hl2 := fun w => left_any c d e f g h w k.w6 k.w7 k.w8 k.w9 k.w10 k.w11
  have HK : Hid (AcX X fl a b c d e f g h) := k
  obtain ⟨D, hD⟩ : ∃ D, roomN debit a b c d e f g h = D := ⟨_, rfl⟩
  obtain ⟨q, hq⟩ : ∃ q, roomB debit a b c d e f g h = q := ⟨_, rfl⟩
  rw [hD, hq]
  have HD : Hid (roomN debit a b c d e f g h = D) := hD
  have HQ : Hid (roomB debit a b c d e f g h = q) := hq
  have H1 := (show Hid _ from hl1)
  have H2 := (show Hid _ from hl2)
  clear hD hq k hl1 hl2
  have r0 : Blk ((w.alloc (.cells X 36)).alloc (.cells #[.int .u64 0, .int .u64 0] 24)) w.heap.size X 36 := (Blk.new w X 36 rfl).alloc _
  have r1 : Blk ((w.alloc (.cells X 36)).alloc (.cells #[.int .u64 0, .int .u64 0] 24)) (w.heap.size + 1) #[.int .u64 0, .int .u64 0] 24 := Blk.new _ _ _ (by simp)
  have c4 := (r0.cell 4).trans HK.out.x4
  have c5 := (r0.cell 5).trans HK.out.x5
  have c6 := (r0.cell 6).trans HK.out.x6
  have c7 := (r0.cell 7).trans HK.out.x7
  have c8 := (r0.cell 8).trans HK.out.x8
  have c9 := (r0.cell 9).trans HK.out.x9
  have c10 := (r0.cell 10).trans HK.out.x10
  have c11 := (r0.cell 11).trans HK.out.x11
  have b0 := below2 w (.cells X 36) (.cells #[.int .u64 0, .int .u64 0] 24)
  have R1 : Hid (Blk ((w.alloc (.cells X 36)).alloc (.cells #[.int .u64 0, .int .u64 0] 24)) (w.heap.size + 1) #[.int .u64 0, .int .u64 0] 24) := r1
  have B0 : Hid (Below w.heap.size w ((w.alloc (.cells X 36)).alloc (.cells #[.int .u64 0, .int .u64 0] 24))) := b0
  clear r0 r1 b0
  cases debit
  · go_enter Try.func26, Try.ntmps26
    go_wp2_with fail
    refine (H2.out _).mono ?_
    rintro e' w2 ⟨rfl, hb2⟩
    have R4 := R1.out.later hb2
    have B2 := B0.out.trans (hb2.mono B0.out.size)
    have y0 := R4.cell 0
    have y1 := R4.cell 1
    have f0 := R4.frozen 0
    have f1 := R4.frozen 1
    simp only [List.getElem?_toArray, List.getElem?_cons_zero, List.getElem?_cons_succ] at y0 y1
    clear hb2 c4 c5 c6 c7 c8 c9 c10 c11
    unfold leftR
    have hDD := HD.out
    have hQQ := HQ.out
    simp only [roomN, roomB, nn, if_true, if_false, Bool.false_eq_true] at hDD hQQ
    rw [hDD, hQQ]
    clear hDD hQQ
    go_wp2
    refine bodyPost_ret (v := .tuple #[.agg #[.int .u64 (D / 18446744073709551616), .int .u64 (D % 18446744073709551616)], .bool q]) ?_ rfl ⟨rfl, ?_⟩
    · have RF := (R4.set 0 (.int .u64 (D / 18446744073709551616))).set 1 (.int .u64 (D % 18446744073709551616))
      have v0 := RF.cell 0
      have v1 := RF.cell 1
      simp at v0 v1
      simp [results, Try.results26, go_sem, v0, v1]
    · exact (B2.setCell (p := ⟨w.heap.size + 1, 0, none⟩) (show w.heap.size ≤ w.heap.size + 1 by omega) _).setCell (p := ⟨w.heap.size + 1, 1, none⟩) (show w.heap.size ≤ w.heap.size + 1 by omega) _
  · go_enter Try.func26, Try.ntmps26
    go_wp2_with fail
    refine (H1.out _).mono ?_
    rintro e' w2 ⟨rfl, hb2⟩
    have R4 := R1.out.later hb2
    have B2 := B0.out.trans (hb2.mono B0.out.size)
    have y0 := R4.cell 0
    have y1 := R4.cell 1
    have f0 := R4.frozen 0
    have f1 := R4.frozen 1
    simp only [List.getElem?_toArray, List.getElem?_cons_zero, List.getElem?_cons_succ] at y0 y1
    clear hb2 c4 c5 c6 c7 c8 c9 c10 c11
    unfold leftR
    have hDD := HD.out
    have hQQ := HQ.out
    simp only [roomN, roomB, nn, if_true, if_false, Bool.false_eq_true] at hDD hQQ
    rw [hDD, hQQ]
    clear hDD hQQ
    go_wp2
    refine bodyPost_ret (v := .tuple #[.agg #[.int .u64 (D / 18446744073709551616), .int .u64 (D % 18446744073709551616)], .bool q]) ?_ rfl ⟨rfl, ?_⟩
    · have RF := (R4.set 0 (.int .u64 (D / 18446744073709551616))).set 1 (.int .u64 (D % 18446744073709551616))
      have v0 := RF.cell 0
      have v1 := RF.cell 1
      simp at v0 v1
      simp [results, Try.results26, go_sem, v0, v1]
    · exact (B2.setCell (p := ⟨w.heap.size + 1, 0, none⟩) (show w.heap.size ≤ w.heap.size + 1 by omega) _).setCell (p := ⟨w.heap.size + 1, 1, none⟩) (show w.heap.size ≤ w.heap.size + 1 by omega) _
end Go.Proofs.Ytcflbicjghndoaa
