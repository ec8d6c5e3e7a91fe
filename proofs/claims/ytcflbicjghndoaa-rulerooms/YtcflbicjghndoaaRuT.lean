
/-
  The walk of paciolilaw09.RuleRooms: it returns true, for every account and number, and turns nothing that was there.
-/
import Derived.Test.YtcflbicjghndoaaRuL
import Derived.Test.YtcflbicjghndoaaHeld
import Derived.Deep.CutBlock
import Derived.Deep.DeepCutAuto
namespace Go.Proofs.Ytcflbicjghndoaa
open Go.RowKit
set_option maxRecDepth 100000
set_option linter.unusedVariables false
set_option linter.unusedSimpArgs false

theorem yields_blk {ops : Array Oper} {S : World → Prop} {op : Oper} {a : Act} (hw : Region.wanted op (yielded ops a.tmps) = true) (ty : TypeId) (x : Operand) (ho : op.op = .load ty x)
    (g : Nat) (hx : a.eval x = .pointer (some ⟨g, 0, none⟩)) (t : TypeId) (cs : Array Value) (d : TypeDesc) (hS : ∀ w, S w → Blk w g cs t)
    (hu : Try.prog.underlying ty = some d) (hd : (match d with | .struct _ | .array _ _ => true | _ => false) = true) (hi : (Try.prog.info? ty).map (·.size) = some cs.size) : YieldsIf Try.prog ops S op (.agg cs) a :=
  .inl ⟨hw, fun w hw' => by
    unfold execOp
    simp only [ho, hx, Instr.loadAt, Instr.sureAddr, Sem.run_bind, Sem.run_pure, Result.andThen_ok, run_loadVar_row (P := Try.prog) w g t ty cs (0, 0) d (hS w hw') hu (by cases d <;> simp_all) hi]⟩
def StopT (p : Prop) : Prop := p
/-- A sum as a number and whether it is one. -/
def sN (S : Int) : Int := if S < 340282366920938463463374607431768211456 then S else 0
def sB (S : Int) : Bool := decide (S < 340282366920938463463374607431768211456)
theorem addV_sN (S : Int) : addV S = .tuple #[.agg #[.int .u64 (sN S / 18446744073709551616), .int .u64 (sN S % 18446744073709551616)], .bool (sB S)] := by
  unfold sN sB
  by_cases h : S < 340282366920938463463374607431768211456
  · rw [addV_yes h, if_pos h, decide_eq_true h]
  · rw [addV_no h, if_neg h, decide_eq_false h]; rfl

theorem cmp_le (ah al bh bl : Int) (h1 : Word ah) (h2 : Word al) (h3 : Word bh) (h4 : Word bl) : decide (cmp2 ah al bh bl ≤ 0) = decide (ah * 18446744073709551616 + al ≤ bh * 18446744073709551616 + bl) := by
  obtain ⟨_, _⟩ := h1; obtain ⟨_, _⟩ := h2; obtain ⟨_, _⟩ := h3; obtain ⟨_, _⟩ := h4
  apply decide_eq_decide.2
  unfold cmp2 cmpI
  by_cases p1 : ah < bh
  · simp only [if_pos p1]; rw [if_pos (by decide)]; constructor <;> intro <;> omega
  · by_cases p2 : bh < ah
    · simp only [if_neg p1, if_pos p2]; rw [if_pos (by decide)]; constructor <;> intro <;> omega
    · simp only [if_neg p1, if_neg p2]
      rw [if_neg (by decide)]
      split
      · constructor <;> intro <;> omega
      · split <;> constructor <;> intro <;> omega
theorem and62 (x : Int) (h : bits .and .i64 x 6 = 2) : bits .and .i64 x 2 = 2 ∧ bits .and .i64 x 4 = 0 := by
  have e2 : bits .and .i64 x 2 = bits .and .i64 (bits .and .i64 x 6) 2 := by
    rw [and_i x 2, and_i (bits .and .i64 x 6) 2, and_i x 6, B_wrap]
    have : B x &&& B 2 = B x &&& B 6 &&& B 2 := by rw [BitVec.and_assoc]; rfl
    rw [this]
  have e4 : bits .and .i64 x 4 = bits .and .i64 (bits .and .i64 x 6) 4 := by
    rw [and_i x 4, and_i (bits .and .i64 x 6) 4, and_i x 6, B_wrap]
    have : B x &&& B 4 = B x &&& B 6 &&& B 4 := by rw [BitVec.and_assoc]; rfl
    rw [this]
  rw [e2, e4, h]
  exact ⟨by decide +kernel, by decide +kernel⟩
/-- What lies where, behind the sums and differences. -/
structure RmS (w : World) (X : Array Value) (nh nl : Int) (g5 g7 g9 g11 : Nat) (ah al bh bl xh xl yh yl : Int) (wc : World) : Prop where
  r0 : Blk wc w.heap.size X 36
  rn : Blk wc (w.heap.size + 1) #[.int .u64 nh, .int .u64 nl] 24
  r5 : Blk wc g5 #[.int .u64 ah, .int .u64 al] 24
  r7 : Blk wc g7 #[.int .u64 bh, .int .u64 bl] 24
  r9 : Blk wc g9 #[.int .u64 xh, .int .u64 xl] 24
  r11 : Blk wc g11 #[.int .u64 yh, .int .u64 yl] 24
  bel : Below w.heap.size w wc
theorem RmS.later {w : World} {X : Array Value} {nh nl : Int} {g5 g7 g9 g11 : Nat} {ah al bh bl xh xl yh yl : Int} {wc wd : World} (h : RmS w X nh nl g5 g7 g9 g11 ah al bh bl xh xl yh yl wc) (hb : Below wc.heap.size wc wd) : RmS w X nh nl g5 g7 g9 g11 ah al bh bl xh xl yh yl wd :=
  ⟨h.r0.later hb, h.rn.later hb, h.r5.later hb, h.r7.later hb, h.r9.later hb, h.r11.later hb, h.bel.trans (hb.mono h.bel.size)⟩
theorem RmS.drew {w : World} {X : Array Value} {nh nl : Int} {g5 g7 g9 g11 : Nat} {ah al bh bl xh xl yh yl : Int} {wc : World} (h : RmS w X nh nl g5 g7 g9 g11 ah al bh bl xh xl yh yl wc) : RmS w X nh nl g5 g7 g9 g11 ah al bh bl xh xl yh yl wc.drew :=
  ⟨h.r0, h.rn, h.r5, h.r7, h.r9, h.r11, h.bel.drew⟩
theorem halves {D : Int} (h0 : 0 ≤ D) (h1 : D < 340282366920938463463374607431768211456) : Word (D / 18446744073709551616) ∧ Word (D % 18446744073709551616) := ⟨⟨by omega, by omega⟩, by omega, by omega⟩
theorem sN_ok {S : Int} (h : 0 ≤ S) : 0 ≤ sN S ∧ sN S < 340282366920938463463374607431768211456 := by unfold sN; split <;> omega
theorem info_num : (Try.prog.info? 24).map (·.size) = some 2 := by kernel_rfl
theorem AcX.pend {X : Array Value} {fl a b c d e f g h : Int} (k : AcX X fl a b c d e f g h) (a' b' : Int) (h1 : Word a') (h2 : Word b') : AcX ((X.setIfInBounds 4 (.int .u64 a')).setIfInBounds 5 (.int .u64 b')) fl a' b' c d e f g h :=
  ⟨by simp [k.size], one_setX (one_setX k.one _ _ rfl) _ _ rfl, get_set (get_set k.fl (by decide)) (by decide), get_set (by simp [k.size]) (by decide), by simp [k.size], get_set (get_set k.x6 (by decide)) (by decide), get_set (get_set k.x7 (by decide)) (by decide), get_set (get_set k.x8 (by decide)) (by decide), get_set (get_set k.x9 (by decide)) (by decide), get_set (get_set k.x10 (by decide)) (by decide), get_set (get_set k.x11 (by decide)) (by decide), h1, h2, k.w6, k.w7, k.w8, k.w9, k.w10, k.w11⟩
/-- The room, by the sum and whether it is one. -/
theorem room_sum (o u v S : Int) (h : u + v = S) (h0 : 0 ≤ o) (h1 : o < 340282366920938463463374607431768211456) (h2 : 0 ≤ S) : leftB o u v = (sB S && decide (sN S ≤ o)) ∧ leftN o u v = (if sB S then (if sN S ≤ o then o - sN S else 0) else 0) := by
  unfold leftB leftN sB sN
  rw [h]
  by_cases c : S < 340282366920938463463374607431768211456
  · simp [c]
  · have : ¬ S ≤ o := by omega
    simp [c, this]
theorem RmS.put9 {w : World} {X : Array Value} {nh nl : Int} {g5 g7 g9 g11 : Nat} {ah al bh bl xh xl yh yl : Int} {wc : World} (h : RmS w X nh nl g5 g7 g9 g11 ah al bh bl xh xl yh yl wc) (hg : w.heap.size + 1 < g5 ∧ g5 < g7 ∧ g7 < g9 ∧ g9 < g11) (u v : Int) : RmS w X nh nl g5 g7 g9 g11 ah al bh bl u v yh yl ((wc.setCell ⟨g9, 0, none⟩ (.int .u64 u)).setCell ⟨g9, 1, none⟩ (.int .u64 v)) :=
  ⟨(h.r0.setOther _ (by show _ ≠ g9; omega)).setOther _ (by show _ ≠ g9; omega), (h.rn.setOther _ (by show _ ≠ g9; omega)).setOther _ (by show _ ≠ g9; omega), (h.r5.setOther _ (by show _ ≠ g9; omega)).setOther _ (by show _ ≠ g9; omega), (h.r7.setOther _ (by show _ ≠ g9; omega)).setOther _ (by show _ ≠ g9; omega), (h.r9.set 0 _).set 1 _, (h.r11.setOther _ (by show _ ≠ g9; omega)).setOther _ (by show _ ≠ g9; omega), (h.bel.setCell (p := ⟨g9, 0, none⟩) (by show _ ≤ g9; omega) _).setCell (p := ⟨g9, 1, none⟩) (by show _ ≤ g9; omega) _⟩
theorem RmS.put11 {w : World} {X : Array Value} {nh nl : Int} {g5 g7 g9 g11 : Nat} {ah al bh bl xh xl yh yl : Int} {wc : World} (h : RmS w X nh nl g5 g7 g9 g11 ah al bh bl xh xl yh yl wc) (hg : w.heap.size + 1 < g5 ∧ g5 < g7 ∧ g7 < g9 ∧ g9 < g11) (u v : Int) : RmS w X nh nl g5 g7 g9 g11 ah al bh bl xh xl u v ((wc.setCell ⟨g11, 0, none⟩ (.int .u64 u)).setCell ⟨g11, 1, none⟩ (.int .u64 v)) :=
  ⟨(h.r0.setOther _ (by show _ ≠ g11; omega)).setOther _ (by show _ ≠ g11; omega), (h.rn.setOther _ (by show _ ≠ g11; omega)).setOther _ (by show _ ≠ g11; omega), (h.r5.setOther _ (by show _ ≠ g11; omega)).setOther _ (by show _ ≠ g11; omega), (h.r7.setOther _ (by show _ ≠ g11; omega)).setOther _ (by show _ ≠ g11; omega), (h.r9.setOther _ (by show _ ≠ g11; omega)).setOther _ (by show _ ≠ g11; omega), (h.r11.set 0 _).set 1 _, (h.bel.setCell (p := ⟨g11, 0, none⟩) (by show _ ≤ g11; omega) _).setCell (p := ⟨g11, 1, none⟩) (by show _ ≤ g11; omega) _⟩
theorem zero_half : (0 : Int) / 18446744073709551616 = 0 ∧ (0 : Int) % 18446744073709551616 = 0 := by decide
set_option maxHeartbeats 4000000 in
theorem law_rooms (X : Array Value) (fl a b c d e f g h nh nl : Int) (k : AcX X fl a b c d e f g h) (wn : Word nh) (wl : Word nl) (w : World) :
    Calls Try.prog 5 #[.agg X, .agg #[.int .u64 nh, .int .u64 nl]] w fun e' w' => e' = .returned (.bool true) ∧ Below w.heap.size w w' := by
  have HK : Hid (AcX X fl a b c d e f g h) := k
  have IX : Hid ((Try.prog.info? 36).map (·.size) = some X.size) := k.info
  have OX : Hid (X.all (·.oneCell') = true) := k.one
  have SX : Hid (46 = X.size) := k.size.symm
  clear k
  obtain ⟨Sd, hSd⟩ : ∃ S, (a * 18446744073709551616 + b) + (c * 18446744073709551616 + d) = S := ⟨_, rfl⟩
  obtain ⟨Sc, hSc⟩ : ∃ S, (e * 18446744073709551616 + f) + (g * 18446744073709551616 + h) = S := ⟨_, rfl⟩
  have HSd : Hid ((a * 18446744073709551616 + b) + (c * 18446744073709551616 + d) = Sd) := hSd
  have HSc : Hid ((e * 18446744073709551616 + f) + (g * 18446744073709551616 + h) = Sc) := hSc
  have HS0 : Hid (0 ≤ Sd ∧ 0 ≤ Sc ∧ 0 ≤ g * 18446744073709551616 + h ∧ g * 18446744073709551616 + h < 340282366920938463463374607431768211456 ∧ 0 ≤ c * 18446744073709551616 + d ∧ c * 18446744073709551616 + d < 340282366920938463463374607431768211456 ∧ 0 ≤ a * 18446744073709551616 + b ∧ 0 ≤ nh * 18446744073709551616 + nl) := by
    obtain ⟨⟨y1, y2⟩, ⟨y3, y4⟩⟩ := And.intro wn wl
    obtain ⟨⟨x1, x2⟩, ⟨x3, x4⟩, ⟨x5, x6⟩, ⟨x7, x8⟩, ⟨x9, x10⟩, ⟨x11, x12⟩, ⟨x13, x14⟩, ⟨x15, x16⟩⟩ := And.intro HK.out.w4 (And.intro HK.out.w5 (And.intro HK.out.w6 (And.intro HK.out.w7 (And.intro HK.out.w8 (And.intro HK.out.w9 (And.intro HK.out.w10 HK.out.w11))))))
    refine ⟨by omega, by omega, by omega, by omega, by omega, by omega, by omega, by omega⟩
  have HWN : Hid (Word nh ∧ Word nl) := ⟨wn, wl⟩
  clear hSd hSc wn wl
  go_enter Try.func5, Try.ntmps5
  go_wp2_with fail
  refine (fit9_any _).mono ?_
  rintro e' w1 ⟨rfl, hb1⟩
  have R0 : Hid (Blk w1 w.heap.size X 36) := ((Blk.new w X 36 rfl).alloc _).later hb1
  have RN : Hid (Blk w1 (w.heap.size + 1) #[.int .u64 nh, .int .u64 nl] 24) := (Blk.new (w.alloc (.cells X 36)) _ 24 (by simp)).later hb1
  have B1 : Hid (Below w.heap.size w w1) := (below2 w _ _).trans (hb1.mono (by simp; omega))
  have Z1 : Hid (w.heap.size + 1 < w1.heap.size) := RN.out.lt
  clear hb1
  have c4 := (R0.out.cell 4).trans HK.out.x4
  have c5 := (R0.out.cell 5).trans HK.out.x5
  have c6 := (R0.out.cell 6).trans HK.out.x6
  have c7 := (R0.out.cell 7).trans HK.out.x7
  go_wp2_with fail
  refine (radd2 w1 _ rfl a b c d _ _ HK.out.w4 HK.out.w5 HK.out.w6 HK.out.w7).mono ?_
  rintro e' w2 ⟨rfl, hb2⟩
  rw [HSd.out, addV_sN]
  obtain ⟨D1, hD1⟩ : ∃ D, sN Sd = D := ⟨_, rfl⟩
  obtain ⟨p, hp⟩ : ∃ p, sB Sd = p := ⟨_, rfl⟩
  rw [hD1, hp]
  have HD1 : Hid (sN Sd = D1 ∧ sB Sd = p) := ⟨hD1, hp⟩
  have HW1 : Hid (Word (D1 / 18446744073709551616) ∧ Word (D1 % 18446744073709551616) ∧ 0 ≤ D1 ∧ D1 < 340282366920938463463374607431768211456) := by
    have h0 := HS0.out.1
    have := sN_ok h0
    rw [hD1] at this
    exact ⟨(halves this.1 this.2).1, (halves this.1 this.2).2, this.1, this.2⟩
  clear hD1 hp c4 c5 c6 c7
  have R0 : Hid (Blk (w2.alloc (.cells #[.int .u64 (D1 / 18446744073709551616), .int .u64 (D1 % 18446744073709551616)] 24)) w.heap.size X 36) := (R0.out.later hb2).alloc _
  have RN : Hid (Blk (w2.alloc (.cells #[.int .u64 (D1 / 18446744073709551616), .int .u64 (D1 % 18446744073709551616)] 24)) (w.heap.size + 1) #[.int .u64 nh, .int .u64 nl] 24) := (RN.out.later hb2).alloc _
  have R5 : Hid (Blk (w2.alloc (.cells #[.int .u64 (D1 / 18446744073709551616), .int .u64 (D1 % 18446744073709551616)] 24)) w2.heap.size #[.int .u64 (D1 / 18446744073709551616), .int .u64 (D1 % 18446744073709551616)] 24) := Blk.new _ _ _ rfl
  have B1 : Hid (Below w.heap.size w (w2.alloc (.cells #[.int .u64 (D1 / 18446744073709551616), .int .u64 (D1 % 18446744073709551616)] 24))) := (B1.out.trans (hb2.mono B1.out.size)).alloc (B1.out.trans (hb2.mono B1.out.size)).size _
  have G5 : Hid (w.heap.size + 1 < w2.heap.size) := by have := Z1.out; have := hb2.size; show _ < _; omega
  clear hb2 Z1
  go_upto_region 4 with fail
  generalize w2.alloc (.cells #[.int .u64 (D1 / 18446744073709551616), .int .u64 (D1 % 18446744073709551616)] 24) = w3 at *
  generalize w2.heap.size = g5 at *
  have c8 := (R0.out.cell 8).trans HK.out.x8
  have c9 := (R0.out.cell 9).trans HK.out.x9
  have c10 := (R0.out.cell 10).trans HK.out.x10
  have c11 := (R0.out.cell 11).trans HK.out.x11
  go_wp2_with fail
  refine (radd2 w3 _ rfl e f g h _ _ HK.out.w8 HK.out.w9 HK.out.w10 HK.out.w11).mono ?_
  rintro e' w4 ⟨rfl, hb4⟩
  rw [HSc.out, addV_sN]
  obtain ⟨D2, hD2⟩ : ∃ D, sN Sc = D := ⟨_, rfl⟩
  obtain ⟨q, hq⟩ : ∃ q, sB Sc = q := ⟨_, rfl⟩
  rw [hD2, hq]
  have HD2 : Hid (sN Sc = D2 ∧ sB Sc = q) := ⟨hD2, hq⟩
  have HW2 : Hid (Word (D2 / 18446744073709551616) ∧ Word (D2 % 18446744073709551616) ∧ 0 ≤ D2 ∧ D2 < 340282366920938463463374607431768211456) := by
    have h0 := HS0.out.2.1
    have := sN_ok h0
    rw [hD2] at this
    exact ⟨(halves this.1 this.2).1, (halves this.1 this.2).2, this.1, this.2⟩
  clear hD2 hq c8 c9 c10 c11
  have R50 := R5.out.lt
  have R0 : Hid (Blk (w4.alloc (.cells #[.int .u64 (D2 / 18446744073709551616), .int .u64 (D2 % 18446744073709551616)] 24)) w.heap.size X 36) := (R0.out.later hb4).alloc _
  have RN : Hid (Blk (w4.alloc (.cells #[.int .u64 (D2 / 18446744073709551616), .int .u64 (D2 % 18446744073709551616)] 24)) (w.heap.size + 1) #[.int .u64 nh, .int .u64 nl] 24) := (RN.out.later hb4).alloc _
  have R5 : Hid (Blk (w4.alloc (.cells #[.int .u64 (D2 / 18446744073709551616), .int .u64 (D2 % 18446744073709551616)] 24)) g5 #[.int .u64 (D1 / 18446744073709551616), .int .u64 (D1 % 18446744073709551616)] 24) := (R5.out.later hb4).alloc _
  have R7 : Hid (Blk (w4.alloc (.cells #[.int .u64 (D2 / 18446744073709551616), .int .u64 (D2 % 18446744073709551616)] 24)) w4.heap.size #[.int .u64 (D2 / 18446744073709551616), .int .u64 (D2 % 18446744073709551616)] 24) := Blk.new _ _ _ rfl
  have B1 : Hid (Below w.heap.size w (w4.alloc (.cells #[.int .u64 (D2 / 18446744073709551616), .int .u64 (D2 % 18446744073709551616)] 24))) := (B1.out.trans (hb4.mono B1.out.size)).alloc (B1.out.trans (hb4.mono B1.out.size)).size _
  have G7 : Hid (g5 < w4.heap.size) := by have := R50; have := hb4.size; show _ < _; omega
  clear hb4 R50
  go_upto_region 5 with fail
  generalize w4.alloc (.cells #[.int .u64 (D2 / 18446744073709551616), .int .u64 (D2 % 18446744073709551616)] 24) = w5 at *
  generalize w4.heap.size = g7 at *
  have c10 := (R0.out.cell 10).trans HK.out.x10
  have c11 := (R0.out.cell 11).trans HK.out.x11
  have y0 := R5.out.cell 0
  have y1 := R5.out.cell 1
  simp only [List.getElem?_toArray, List.getElem?_cons_zero, List.getElem?_cons_succ] at y0 y1
  go_wp2_with fail
  refine (rsub g h (D1 / 18446744073709551616) (D1 % 18446744073709551616) (g * 18446744073709551616 + h) D1 HK.out.w10 HK.out.w11 HW1.out.1 HW1.out.2.1 rfl (by omega) w5).mono ?_
  rintro e' w6 ⟨rfl, hb6⟩
  obtain ⟨Xd, hXd⟩ : ∃ D, (if D1 ≤ g * 18446744073709551616 + h then g * 18446744073709551616 + h - D1 else 0) = D := ⟨_, rfl⟩
  rw [hXd]
  have HXd : Hid ((if D1 ≤ g * 18446744073709551616 + h then g * 18446744073709551616 + h - D1 else 0) = Xd) := hXd
  generalize decide (D1 ≤ g * 18446744073709551616 + h) = uu1
  clear hXd y0 y1 c10 c11
  have R70 := R7.out.lt
  have R0 : Hid (Blk (w6.alloc (.cells #[.int .u64 (Xd / 18446744073709551616), .int .u64 (Xd % 18446744073709551616)] 24)) w.heap.size X 36) := (R0.out.later hb6).alloc _
  have RN : Hid (Blk (w6.alloc (.cells #[.int .u64 (Xd / 18446744073709551616), .int .u64 (Xd % 18446744073709551616)] 24)) (w.heap.size + 1) #[.int .u64 nh, .int .u64 nl] 24) := (RN.out.later hb6).alloc _
  have R5 : Hid (Blk (w6.alloc (.cells #[.int .u64 (Xd / 18446744073709551616), .int .u64 (Xd % 18446744073709551616)] 24)) g5 #[.int .u64 (D1 / 18446744073709551616), .int .u64 (D1 % 18446744073709551616)] 24) := (R5.out.later hb6).alloc _
  have R7 : Hid (Blk (w6.alloc (.cells #[.int .u64 (Xd / 18446744073709551616), .int .u64 (Xd % 18446744073709551616)] 24)) g7 #[.int .u64 (D2 / 18446744073709551616), .int .u64 (D2 % 18446744073709551616)] 24) := (R7.out.later hb6).alloc _
  have R9 : Hid (Blk (w6.alloc (.cells #[.int .u64 (Xd / 18446744073709551616), .int .u64 (Xd % 18446744073709551616)] 24)) w6.heap.size #[.int .u64 (Xd / 18446744073709551616), .int .u64 (Xd % 18446744073709551616)] 24) := Blk.new _ _ _ rfl
  have B1 : Hid (Below w.heap.size w (w6.alloc (.cells #[.int .u64 (Xd / 18446744073709551616), .int .u64 (Xd % 18446744073709551616)] 24))) := (B1.out.trans (hb6.mono B1.out.size)).alloc (B1.out.trans (hb6.mono B1.out.size)).size _
  have G9 : Hid (g7 < w6.heap.size) := by have := R70; have := hb6.size; show _ < _; omega
  clear hb6 R70
  go_upto_region 6 with fail
  generalize w6.alloc (.cells #[.int .u64 (Xd / 18446744073709551616), .int .u64 (Xd % 18446744073709551616)] 24) = w7 at *
  generalize w6.heap.size = g9 at *
  have c6 := (R0.out.cell 6).trans HK.out.x6
  have c7 := (R0.out.cell 7).trans HK.out.x7
  have y0 := R7.out.cell 0
  have y1 := R7.out.cell 1
  simp only [List.getElem?_toArray, List.getElem?_cons_zero, List.getElem?_cons_succ] at y0 y1
  go_wp2_with fail
  refine (rsub c d (D2 / 18446744073709551616) (D2 % 18446744073709551616) (c * 18446744073709551616 + d) D2 HK.out.w6 HK.out.w7 HW2.out.1 HW2.out.2.1 rfl (by omega) w7).mono ?_
  rintro e' w8 ⟨rfl, hb8⟩
  obtain ⟨Yd, hYd⟩ : ∃ D, (if D2 ≤ c * 18446744073709551616 + d then c * 18446744073709551616 + d - D2 else 0) = D := ⟨_, rfl⟩
  rw [hYd]
  have HYd : Hid ((if D2 ≤ c * 18446744073709551616 + d then c * 18446744073709551616 + d - D2 else 0) = Yd) := hYd
  generalize decide (D2 ≤ c * 18446744073709551616 + d) = uu2
  clear hYd y0 y1 c6 c7
  have R90 := R9.out.lt
  have R0 : Hid (Blk (w8.alloc (.cells #[.int .u64 (Yd / 18446744073709551616), .int .u64 (Yd % 18446744073709551616)] 24)) w.heap.size X 36) := (R0.out.later hb8).alloc _
  have RN : Hid (Blk (w8.alloc (.cells #[.int .u64 (Yd / 18446744073709551616), .int .u64 (Yd % 18446744073709551616)] 24)) (w.heap.size + 1) #[.int .u64 nh, .int .u64 nl] 24) := (RN.out.later hb8).alloc _
  have R5 : Hid (Blk (w8.alloc (.cells #[.int .u64 (Yd / 18446744073709551616), .int .u64 (Yd % 18446744073709551616)] 24)) g5 #[.int .u64 (D1 / 18446744073709551616), .int .u64 (D1 % 18446744073709551616)] 24) := (R5.out.later hb8).alloc _
  have R7 : Hid (Blk (w8.alloc (.cells #[.int .u64 (Yd / 18446744073709551616), .int .u64 (Yd % 18446744073709551616)] 24)) g7 #[.int .u64 (D2 / 18446744073709551616), .int .u64 (D2 % 18446744073709551616)] 24) := (R7.out.later hb8).alloc _
  have R9 : Hid (Blk (w8.alloc (.cells #[.int .u64 (Yd / 18446744073709551616), .int .u64 (Yd % 18446744073709551616)] 24)) g9 #[.int .u64 (Xd / 18446744073709551616), .int .u64 (Xd % 18446744073709551616)] 24) := (R9.out.later hb8).alloc _
  have R11 : Hid (Blk (w8.alloc (.cells #[.int .u64 (Yd / 18446744073709551616), .int .u64 (Yd % 18446744073709551616)] 24)) w8.heap.size #[.int .u64 (Yd / 18446744073709551616), .int .u64 (Yd % 18446744073709551616)] 24) := Blk.new _ _ _ rfl
  have B1 : Hid (Below w.heap.size w (w8.alloc (.cells #[.int .u64 (Yd / 18446744073709551616), .int .u64 (Yd % 18446744073709551616)] 24))) := (B1.out.trans (hb8.mono B1.out.size)).alloc (B1.out.trans (hb8.mono B1.out.size)).size _
  have G11 : Hid (g9 < w8.heap.size) := by have := R90; have := hb8.size; show _ < _; omega
  clear hb8 R90
  go_upto_if 50 with fail
  generalize w8.alloc (.cells #[.int .u64 (Yd / 18446744073709551616), .int .u64 (Yd % 18446744073709551616)] 24) = w9 at *
  generalize w8.heap.size = g11 at *
  have HS : Hid (RmS w X nh nl g5 g7 g9 g11 (D1 / 18446744073709551616) (D1 % 18446744073709551616) (D2 / 18446744073709551616) (D2 % 18446744073709551616) (Xd / 18446744073709551616) (Xd % 18446744073709551616) (Yd / 18446744073709551616) (Yd % 18446744073709551616) w9) := ⟨R0.out, RN.out, R5.out, R7.out, R9.out, R11.out, B1.out⟩
  have HG : Hid (w.heap.size + 1 < g5 ∧ g5 < g7 ∧ g7 < g9 ∧ g9 < g11) := ⟨G5.out, G7.out, G9.out, G11.out⟩
  clear R0 RN R5 R7 R9 R11 B1 G5 G7 G9 G11
  obtain ⟨E1, hE1⟩ : ∃ E, roomN true a b c d e f g h = E := ⟨_, rfl⟩
  obtain ⟨E2, hE2⟩ : ∃ E, roomN false a b c d e f g h = E := ⟨_, rfl⟩
  obtain ⟨r1, hr1⟩ : ∃ r, decide (D1 ≤ g * 18446744073709551616 + h) = r := ⟨_, rfl⟩
  obtain ⟨r2, hr2⟩ : ∃ r, decide (D2 ≤ c * 18446744073709551616 + d) = r := ⟨_, rfl⟩
  have hrs1 := room_sum (g * 18446744073709551616 + h) (a * 18446744073709551616 + b) (c * 18446744073709551616 + d) Sd HSd.out HS0.out.2.2.1 HS0.out.2.2.2.1 HS0.out.1
  have hrs2 := room_sum (c * 18446744073709551616 + d) (e * 18446744073709551616 + f) (g * 18446744073709551616 + h) Sc HSc.out HS0.out.2.2.2.2.1 HS0.out.2.2.2.2.2.1 HS0.out.2.1
  rw [HD1.out.1, HD1.out.2, hr1] at hrs1
  rw [HD2.out.1, HD2.out.2, hr2] at hrs2
  have HE1 : Hid (E1 = (if p then Xd else 0)) := by
    show _ = _
    rw [← hE1]
    have := hrs1.2
    rw [HXd.out] at this
    exact this
  have HE2 : Hid (E2 = (if q then Yd else 0)) := by
    show _ = _
    rw [← hE2]
    have := hrs2.2
    rw [HYd.out] at this
    exact this
  have HB1 : Hid (roomB true a b c d e f g h = (p && r1)) := hrs1.1
  have HB2 : Hid (roomB false a b c d e f g h = (q && r2)) := hrs2.1
  have HE1' : Hid (roomN true a b c d e f g h = E1) := hE1
  have HE2' : Hid (roomN false a b c d e f g h = E2) := hE2
  have HR1 : Hid (decide (D1 ≤ g * 18446744073709551616 + h) = r1) := hr1
  have HR2 : Hid (decide (D2 ≤ c * 18446744073709551616 + d) = r2) := hr2
  clear hE1 hE2 hr1 hr2 hrs1 hrs2
  go_cut [] (fun wc => RmS w X nh nl g5 g7 g9 g11 (D1 / 18446744073709551616) (D1 % 18446744073709551616) (D2 / 18446744073709551616) (D2 % 18446744073709551616) (E1 / 18446744073709551616) (E1 % 18446744073709551616) (Yd / 18446744073709551616) (Yd % 18446744073709551616) wc)
  case first =>
    have z0 := HS.out.r9.cell 0
    have z1 := HS.out.r9.cell 1
    have f0 := HS.out.r9.frozen 0
    have f1 := HS.out.r9.frozen 1
    simp only [List.getElem?_toArray, List.getElem?_cons_zero, List.getElem?_cons_succ] at z0 z1
    cases p
    · go_wp2_with fail
      go_meet
      case rel =>
        have := HE1.out
        simp at this
        subst this
        rw [zero_half.1, zero_half.2]
        exact HS.out.put9 HG.out 0 0
    · go_wp2_with fail
      go_meet
      case rel =>
        have := HE1.out
        simp at this
        subst this
        exact HS.out
  case rest =>
    have HS : Hid (RmS w X nh nl g5 g7 g9 g11 (D1 / 18446744073709551616) (D1 % 18446744073709551616) (D2 / 18446744073709551616) (D2 % 18446744073709551616) (E1 / 18446744073709551616) (E1 % 18446744073709551616) (Yd / 18446744073709551616) (Yd % 18446744073709551616) wc) := hcut
    clear hcut
    go_upto_if 53 with fail
    go_cut [] (fun wd => RmS w X nh nl g5 g7 g9 g11 (D1 / 18446744073709551616) (D1 % 18446744073709551616) (D2 / 18446744073709551616) (D2 % 18446744073709551616) (E1 / 18446744073709551616) (E1 % 18446744073709551616) (E2 / 18446744073709551616) (E2 % 18446744073709551616) wd)
    case first =>
      have z0 := HS.out.r11.cell 0
      have z1 := HS.out.r11.cell 1
      have f0 := HS.out.r11.frozen 0
      have f1 := HS.out.r11.frozen 1
      simp only [List.getElem?_toArray, List.getElem?_cons_zero, List.getElem?_cons_succ] at z0 z1
      cases q
      · go_wp2_with fail
        go_meet
        case rel =>
          have := HE2.out
          simp at this
          subst this
          rw [zero_half.1, zero_half.2]
          exact HS.out.put11 HG.out 0 0
      · go_wp2_with fail
        go_meet
        case rel =>
          have := HE2.out
          simp at this
          subst this
          exact HS.out
    case rest =>
    clear HS
    have HS : Hid (RmS w X nh nl g5 g7 g9 g11 (D1 / 18446744073709551616) (D1 % 18446744073709551616) (D2 / 18446744073709551616) (D2 % 18446744073709551616) (E1 / 18446744073709551616) (E1 % 18446744073709551616) (E2 / 18446744073709551616) (E2 % 18446744073709551616) wc) := hcut
    clear hcut
    go_upto_region 11 with fail
    refine wp_region_D (fun _ => true) (fun w' => RmS w X nh nl g5 g7 g9 g11 (D1 / 18446744073709551616) (D1 % 18446744073709551616) (D2 / 18446744073709551616) (D2 % 18446744073709551616) (E1 / 18446744073709551616) (E1 % 18446744073709551616) (E2 / 18446744073709551616) (E2 % 18446744073709551616) w') (by kernel_rfl) ?_
    have hS : RmS w X nh nl g5 g7 g9 g11 (D1 / 18446744073709551616) (D1 % 18446744073709551616) (D2 / 18446744073709551616) (D2 % 18446744073709551616) (E1 / 18446744073709551616) (E1 % 18446744073709551616) (E2 / 18446744073709551616) (E2 % 18446744073709551616) wc.drew := HS.out.drew
    generalize wc.drew = v0 at *
    clear HS
    refine wpAnyD_take (i := 0) rfl (by kernel_rfl) (by kernel_rfl) (by kernel_rfl) (by kernel_rfl) (fun _ _ _ h => h) (yields_blk (by rfl) 36 _ rfl w.heap.size rfl 36 X _ (fun _ h => h.r0) Try.underlying36 rfl IX.out) hS ?_
    simp only [Act.put, List.setIfInBounds_toArray, List.set_cons_zero, List.set_cons_succ]
    refine wpAnyD_take (i := 2) rfl (by kernel_rfl) (by kernel_rfl) (by kernel_rfl) (by kernel_rfl) (fun _ _ _ h => h) (yields_blk (by rfl) 24 _ rfl g9 rfl 24 #[.int .u64 (E1 / 18446744073709551616), .int .u64 (E1 % 18446744073709551616)] _ (fun _ h => h.r9) Try.underlying24 rfl info_num) hS ?_
    simp only [Act.put, List.setIfInBounds_toArray, List.set_cons_zero, List.set_cons_succ]
    refine wpAnyD_only (i := 1) rfl (by kernel_rfl) (by rfl) (fun K hK => ?_)
    go_simp
    refine (room_any X fl a b c d e f g h HK.out true v0).mono ?_
    rintro e' v1 ⟨rfl, hb1⟩
    rw [HE1'.out]
    try dsimp only
    have hSn := hS.later hb1
    refine hK.out _ _ (fun _ => hSn) ?_
    clear hK K hS
    have hS := hSn
    clear hSn
    try simp only [Act.put, List.setIfInBounds_toArray, List.set_cons_zero, List.set_cons_succ]
    have ne1 := num_neq (E1 / 18446744073709551616) (E1 % 18446744073709551616) (E1 / 18446744073709551616) (E1 % 18446744073709551616) true (by simp)
    have ne2 := num_neq (E2 / 18446744073709551616) (E2 % 18446744073709551616) (E2 / 18446744073709551616) (E2 % 18446744073709551616) true (by simp)
    refine' wpAnyD_take (i := 3) (v := _) rfl (by kernel_rfl) (by kernel_rfl) (by kernel_rfl) (by kernel_rfl) (fun _ _ _ h => h) (Or.inl ⟨by rfl, ?hy1⟩) hS ?re1
    case hy1 => (intro w hSw; (try dsimp only at hSw); go_simp; (try with_reducible rfl))
    simp only [Act.put, List.setIfInBounds_toArray, List.set_cons_zero, List.set_cons_succ]
    refine' wpAnyD_take (i := 4) (v := _) rfl (by kernel_rfl) (by kernel_rfl) (by kernel_rfl) (by kernel_rfl) (fun _ _ _ h => h) (Or.inl ⟨by rfl, ?hy2⟩) hS ?re2
    case hy2 => (intro w hSw; (try dsimp only at hSw); go_simp; (try with_reducible rfl))
    simp only [Act.put, List.setIfInBounds_toArray, List.set_cons_zero, List.set_cons_succ]
    refine wpAnyD_take (i := 5) rfl (by kernel_rfl) (by kernel_rfl) (by kernel_rfl) (by kernel_rfl) (fun _ _ _ h => h) (yields_blk (by rfl) 36 _ rfl w.heap.size rfl 36 X _ (fun _ h => h.r0) Try.underlying36 rfl IX.out) hS ?_
    simp only [Act.put, List.setIfInBounds_toArray, List.set_cons_zero, List.set_cons_succ]
    refine wpAnyD_take (i := 7) rfl (by kernel_rfl) (by kernel_rfl) (by kernel_rfl) (by kernel_rfl) (fun _ _ _ h => h) (yields_blk (by rfl) 24 _ rfl g11 rfl 24 #[.int .u64 (E2 / 18446744073709551616), .int .u64 (E2 % 18446744073709551616)] _ (fun _ h => h.r11) Try.underlying24 rfl info_num) hS ?_
    simp only [Act.put, List.setIfInBounds_toArray, List.set_cons_zero, List.set_cons_succ]
    refine wpAnyD_only (i := 6) rfl (by kernel_rfl) (by rfl) (fun K hK => ?_)
    go_simp
    refine (room_any X fl a b c d e f g h HK.out false v1).mono ?_
    rintro e' v2 ⟨rfl, hb2⟩
    rw [HE2'.out]
    try dsimp only
    have hSn := hS.later hb2
    refine hK.out _ _ (fun _ => hSn) ?_
    clear hK K hS
    have hS := hSn
    clear hSn
    try simp only [Act.put, List.setIfInBounds_toArray, List.set_cons_zero, List.set_cons_succ]
    refine' wpAnyD_take (i := 8) (v := _) rfl (by kernel_rfl) (by kernel_rfl) (by kernel_rfl) (by kernel_rfl) (fun _ _ _ h => h) (Or.inl ⟨by rfl, ?hy3⟩) hS ?re3
    case hy3 => (intro w hSw; (try dsimp only at hSw); go_simp; (try with_reducible rfl))
    simp only [Act.put, List.setIfInBounds_toArray, List.set_cons_zero, List.set_cons_succ]
    refine' wpAnyD_take (i := 9) (v := _) rfl (by kernel_rfl) (by kernel_rfl) (by kernel_rfl) (by kernel_rfl) (fun _ _ _ h => h) (Or.inl ⟨by rfl, ?hy4⟩) hS ?re4
    case hy4 => (intro w hSw; (try dsimp only at hSw); go_simp; (try with_reducible rfl))
    simp only [Act.put, List.setIfInBounds_toArray, List.set_cons_zero, List.set_cons_succ]
    clear ne1 ne2
    refine wpAnyD_done (by kernel_rfl) ?_ _
    have HS : Hid (RmS w X nh nl g5 g7 g9 g11 (D1 / 18446744073709551616) (D1 % 18446744073709551616) (D2 / 18446744073709551616) (D2 % 18446744073709551616) (E1 / 18446744073709551616) (E1 % 18446744073709551616) (E2 / 18446744073709551616) (E2 % 18446744073709551616) v2) := hS
    clear hS hb1 hb2
    obtain ⟨m2, hm2⟩ : ∃ m, (bits .and .i64 fl 2 == 0) = m := ⟨_, rfl⟩
    obtain ⟨m4, hm4⟩ : ∃ m, (bits .and .i64 fl 4 == 0) = m := ⟨_, rfl⟩
    have HM2 : Hid ((bits .and .i64 fl 2 == 0) = m2) := hm2
    have HM4 : Hid ((bits .and .i64 fl 4 == 0) = m4) := hm4
    clear hm2 hm4
    go_upto_region 13 with fail
    go_cut [13] (fun t wd => t = .bool ((m2 || p && r1) && (m4 || q && r2)) ∧ RmS w X nh nl g5 g7 g9 g11 (D1 / 18446744073709551616) (D1 % 18446744073709551616) (D2 / 18446744073709551616) (D2 % 18446744073709551616) (E1 / 18446744073709551616) (E1 % 18446744073709551616) (E2 / 18446744073709551616) (E2 % 18446744073709551616) wd)
    case first =>
      have y3 := (HS.out.r0.cell 3).trans HK.out.fl
      have c6 := (HS.out.r0.cell 6).trans HK.out.x6
      have c7 := (HS.out.r0.cell 7).trans HK.out.x7
      have c10 := (HS.out.r0.cell 10).trans HK.out.x10
      have c11 := (HS.out.r0.cell 11).trans HK.out.x11
      have d0 := HS.out.r5.cell 0
      have d1 := HS.out.r5.cell 1
      simp only [List.getElem?_toArray, List.getElem?_cons_zero, List.getElem?_cons_succ] at d0 d1
      have e0 := HS.out.r7.cell 0
      have e1 := HS.out.r7.cell 1
      simp only [List.getElem?_toArray, List.getElem?_cons_zero, List.getElem?_cons_succ] at e0 e1
      cases m2
      · have hm2 := HM2.out
        cases p
        · go_wp2_with fail
          go_meet
          case rel => exact ⟨rfl, HS.out⟩
        · cases r1
          · skip
            go_wp2_with fail
            refine (compare_any (D1 / 18446744073709551616) (D1 % 18446744073709551616) g h v2).mono ?_
            rintro e' v3 ⟨rfl, hbv3⟩
            have hcc := cmp_le (D1 / 18446744073709551616) (D1 % 18446744073709551616) g h HW1.out.1 HW1.out.2.1 HK.out.w10 HK.out.w11
            rw [show D1 / 18446744073709551616 * 18446744073709551616 + D1 % 18446744073709551616 = D1 by omega, HR1.out] at hcc
            generalize cmp2 (D1 / 18446744073709551616) (D1 % 18446744073709551616) g h = ccv3 at *
            go_wp2_with fail
            go_meet
            case rel => exact ⟨rfl, HS.out.later hbv3⟩
          · skip
            go_wp2_with fail
            refine (compare_any (D1 / 18446744073709551616) (D1 % 18446744073709551616) g h v2).mono ?_
            rintro e' v3 ⟨rfl, hbv3⟩
            have hcc := cmp_le (D1 / 18446744073709551616) (D1 % 18446744073709551616) g h HW1.out.1 HW1.out.2.1 HK.out.w10 HK.out.w11
            rw [show D1 / 18446744073709551616 * 18446744073709551616 + D1 % 18446744073709551616 = D1 by omega, HR1.out] at hcc
            generalize cmp2 (D1 / 18446744073709551616) (D1 % 18446744073709551616) g h = ccv3 at *
            have HS3 := HS.out.later hbv3
            clear y3 c6 c7 c10 c11 d0 d1 e0 e1
            have y3 := (HS3.r0.cell 3).trans HK.out.fl
            have c6 := (HS3.r0.cell 6).trans HK.out.x6
            have c7 := (HS3.r0.cell 7).trans HK.out.x7
            have e0 := HS3.r7.cell 0
            have e1 := HS3.r7.cell 1
            simp only [List.getElem?_toArray, List.getElem?_cons_zero, List.getElem?_cons_succ] at e0 e1
            cases m4
            · have hm4 := HM4.out
              cases q
              · go_wp2_with fail
                go_meet
                case rel => exact ⟨rfl, HS3⟩
              · skip
                go_wp2_with fail
                refine (compare_any (D2 / 18446744073709551616) (D2 % 18446744073709551616) c d v3).mono ?_
                rintro e' v4 ⟨rfl, hbv4⟩
                have hcc := cmp_le (D2 / 18446744073709551616) (D2 % 18446744073709551616) c d HW2.out.1 HW2.out.2.1 HK.out.w6 HK.out.w7
                rw [show D2 / 18446744073709551616 * 18446744073709551616 + D2 % 18446744073709551616 = D2 by omega, HR2.out] at hcc
                generalize cmp2 (D2 / 18446744073709551616) (D2 % 18446744073709551616) c d = ccv4 at *
                go_wp2_with fail
                go_meet
                case rel => exact ⟨by simp [hcc], HS3.later hbv4⟩
            · have hm4 := HM4.out
              go_wp2_with fail
              go_meet
              case rel => exact ⟨rfl, HS3⟩
      · have hm2 := HM2.out
        cases m4
        · have hm4 := HM4.out
          cases q
          · go_wp2_with fail
            go_meet
            case rel => exact ⟨rfl, HS.out⟩
          · skip
            go_wp2_with fail
            refine (compare_any (D2 / 18446744073709551616) (D2 % 18446744073709551616) c d v2).mono ?_
            rintro e' v4 ⟨rfl, hbv4⟩
            have hcc := cmp_le (D2 / 18446744073709551616) (D2 % 18446744073709551616) c d HW2.out.1 HW2.out.2.1 HK.out.w6 HK.out.w7
            rw [show D2 / 18446744073709551616 * 18446744073709551616 + D2 % 18446744073709551616 = D2 by omega, HR2.out] at hcc
            generalize cmp2 (D2 / 18446744073709551616) (D2 % 18446744073709551616) c d = ccv4 at *
            go_wp2_with fail
            go_meet
            case rel => exact ⟨by simp [hcc], HS.out.later hbv4⟩
        · have hm4 := HM4.out
          go_wp2_with fail
          go_meet
          case rel => exact ⟨rfl, HS.out⟩
    case rest =>
    obtain ⟨hu, hS⟩ := hcut
    subst hu
    clear HS
    have HS : Hid (RmS w X nh nl g5 g7 g9 g11 (D1 / 18446744073709551616) (D1 % 18446744073709551616) (D2 / 18446744073709551616) (D2 % 18446744073709551616) (E1 / 18446744073709551616) (E1 % 18446744073709551616) (E2 / 18446744073709551616) (E2 % 18446744073709551616) wc) := hS
    clear hS
    obtain ⟨W, hW⟩ : ∃ W, ((m2 || p && r1) && (m4 || q && r2)) = W := ⟨_, rfl⟩
    rw [hW]
    have HWB : Hid (withB fl a b c d e f g h = W) := by
      show _ = _
      unfold withB
      rw [HB1.out, HB2.out, HM2.out, HM4.out, ← hW]
      cases m2 <;> cases m4 <;> cases p <;> cases q <;> cases r1 <;> cases r2 <;> rfl
    have HWW : Hid (((m2 || p && r1) && (m4 || q && r2)) = W) := hW
    have hne : (W != W) = false := by cases W <;> rfl
    clear hW
    go_wp2_with (refine wpList_load_row rfl 36 _ rfl w.heap.size rfl 36 X (0, 0) _ HS.out.r0 Try.underlying36 rfl IX.out ?_)
    refine (within_any X fl a b c d e f g h HK.out wc).mono ?_
    rintro e' v5 ⟨rfl, hb5⟩
    rw [HWB.out]
    have HS5 : Hid (RmS w X nh nl g5 g7 g9 g11 (D1 / 18446744073709551616) (D1 % 18446744073709551616) (D2 / 18446744073709551616) (D2 % 18446744073709551616) (E1 / 18446744073709551616) (E1 % 18446744073709551616) (E2 / 18446744073709551616) (E2 % 18446744073709551616) v5) := HS.out.later hb5
    clear HS hb5
    have y3 := (HS5.out.r0.cell 3).trans HK.out.fl
    obtain ⟨z, hz⟩ : ∃ z, (bits .and .i64 fl 6 == 2) = z := ⟨_, rfl⟩
    cases z
    · go_wp2
      go_ret
      exact ⟨rfl, HS5.out.bel⟩
    cases W
    · go_wp2
      go_ret
      exact ⟨rfl, HS5.out.bel⟩
    have hz2 := and62 fl (by simpa using hz)
    have hm2 : m2 = false := by rw [← HM2.out, hz2.1]; rfl
    have hm4 : m4 = true := by rw [← HM4.out, hz2.2]; rfl
    have hpr : p = true ∧ r1 = true := by
      have := HWW.out
      rw [hm2, hm4] at this
      simpa using this
    obtain ⟨rfl, rfl⟩ := hpr
    subst hm2 hm4
    have HD : Hid (D1 = Sd ∧ E1 = g * 18446744073709551616 + h - D1 ∧ D1 ≤ g * 18446744073709551616 + h) := by
      have e1 := HD1.out
      have e2 := HE1.out
      have e3 := HXd.out
      have e4 : D1 ≤ g * 18446744073709551616 + h := of_decide_eq_true HR1.out
      rw [if_pos e4] at e3
      simp at e2
      refine ⟨?_, by omega, e4⟩
      obtain ⟨q1, q2⟩ := e1
      unfold sN at q1
      unfold sB at q2
      rw [if_pos (of_decide_eq_true q2)] at q1
      exact q1.symm
    clear hz2 HWW HWB HM2 HM4 hne HR1 HE1 HXd
    go_wp2_with (first | (refine wpList_load_row rfl 36 _ rfl w.heap.size rfl 36 X (0, 0) _ HS5.out.r0 Try.underlying36 rfl IX.out ?_) | (refine wpList_store_row rfl 36 _ _ rfl v5.heap.size X rfl rfl 36 _ (heap_alloc_new v5 _) IX.out SX.out OX.out ?_; refine stopL ?_))
    have r2x := (Blk.new v5 #[.int .u64 0, .int .u64 0, .int .i64 0, .int .i64 0, .int .u64 0, .int .u64 0, .int .u64 0, .int .u64 0, .int .u64 0, .int .u64 0, .int .u64 0, .int .u64 0, .int .i64 0, .int .i64 0, .int .u8 0, .int .u8 0, .int .u8 0, .int .u8 0, .int .u8 0, .int .u8 0, .int .u8 0, .int .u8 0, .int .u8 0, .int .u8 0, .int .u8 0, .int .u8 0, .int .u8 0, .int .u8 0, .int .u8 0, .int .u8 0, .int .u8 0, .int .u8 0, .int .u8 0, .int .u8 0, .int .u8 0, .int .u8 0, .int .u8 0, .int .u8 0, .int .u8 0, .int .u8 0, .int .u8 0, .int .u8 0, .int .u8 0, .int .u8 0, .int .u8 0, .int .u8 0] 36 rfl).setRow X
    have hq := (below_row (below1 v5 (.cells #[.int .u64 0, .int .u64 0, .int .i64 0, .int .i64 0, .int .u64 0, .int .u64 0, .int .u64 0, .int .u64 0, .int .u64 0, .int .u64 0, .int .u64 0, .int .u64 0, .int .i64 0, .int .i64 0, .int .u8 0, .int .u8 0, .int .u8 0, .int .u8 0, .int .u8 0, .int .u8 0, .int .u8 0, .int .u8 0, .int .u8 0, .int .u8 0, .int .u8 0, .int .u8 0, .int .u8 0, .int .u8 0, .int .u8 0, .int .u8 0, .int .u8 0, .int .u8 0, .int .u8 0, .int .u8 0, .int .u8 0, .int .u8 0, .int .u8 0, .int .u8 0, .int .u8 0, .int .u8 0, .int .u8 0, .int .u8 0, .int .u8 0, .int .u8 0, .int .u8 0, .int .u8 0] 36)) X (Nat.le_refl _))
    have HS6 := HS5.out.later (below_row (below1 v5 (.cells #[.int .u64 0, .int .u64 0, .int .i64 0, .int .i64 0, .int .u64 0, .int .u64 0, .int .u64 0, .int .u64 0, .int .u64 0, .int .u64 0, .int .u64 0, .int .u64 0, .int .i64 0, .int .i64 0, .int .u8 0, .int .u8 0, .int .u8 0, .int .u8 0, .int .u8 0, .int .u8 0, .int .u8 0, .int .u8 0, .int .u8 0, .int .u8 0, .int .u8 0, .int .u8 0, .int .u8 0, .int .u8 0, .int .u8 0, .int .u8 0, .int .u8 0, .int .u8 0, .int .u8 0, .int .u8 0, .int .u8 0, .int .u8 0, .int .u8 0, .int .u8 0, .int .u8 0, .int .u8 0, .int .u8 0, .int .u8 0, .int .u8 0, .int .u8 0, .int .u8 0, .int .u8 0] 36)) X (Nat.le_refl _))
    have hg14 : g11 < v5.heap.size := HS5.out.r11.lt
    unfold StopL
    generalize (v5.alloc (.cells #[.int .u64 0, .int .u64 0, .int .i64 0, .int .i64 0, .int .u64 0, .int .u64 0, .int .u64 0, .int .u64 0, .int .u64 0, .int .u64 0, .int .u64 0, .int .u64 0, .int .i64 0, .int .i64 0, .int .u8 0, .int .u8 0, .int .u8 0, .int .u8 0, .int .u8 0, .int .u8 0, .int .u8 0, .int .u8 0, .int .u8 0, .int .u8 0, .int .u8 0, .int .u8 0, .int .u8 0, .int .u8 0, .int .u8 0, .int .u8 0, .int .u8 0, .int .u8 0, .int .u8 0, .int .u8 0, .int .u8 0, .int .u8 0, .int .u8 0, .int .u8 0, .int .u8 0, .int .u8 0, .int .u8 0, .int .u8 0, .int .u8 0, .int .u8 0, .int .u8 0, .int .u8 0] 36)).setRow v5.heap.size X = v6 at *
    generalize v5.heap.size = g14 at *
    have HY : Hid (Blk v6 g14 X 36) := r2x
    have HS6' : Hid (RmS w X nh nl g5 g7 g9 g11 (D1 / 18446744073709551616) (D1 % 18446744073709551616) (D2 / 18446744073709551616) (D2 % 18446744073709551616) (E1 / 18446744073709551616) (E1 % 18446744073709551616) (E2 / 18446744073709551616) (E2 % 18446744073709551616) v6) := HS6
    have HG14 : Hid (g11 < g14) := hg14
    clear r2x hq HS6 y3 hg14 HS5
    have c4 := (HS6'.out.r0.cell 4).trans HK.out.x4
    have c5 := (HS6'.out.r0.cell 5).trans HK.out.x5
    have n0 := HS6'.out.rn.cell 0
    have n1 := HS6'.out.rn.cell 1
    simp only [List.getElem?_toArray, List.getElem?_cons_zero, List.getElem?_cons_succ] at n0 n1
    go_wp2_with fail
    obtain ⟨S3, hS3⟩ : ∃ S, (a * 18446744073709551616 + b) + (nh * 18446744073709551616 + nl) = S := ⟨_, rfl⟩
    refine (radd2 v6 _ rfl a b nh nl _ _ HK.out.w4 HK.out.w5 HWN.out.1 HWN.out.2).mono ?_
    rintro e' v7 ⟨rfl, hb7⟩
    rw [hS3, addV_sN]
    have HS3 : Hid ((a * 18446744073709551616 + b) + (nh * 18446744073709551616 + nl) = S3) := hS3
    obtain ⟨D3, hD3⟩ : ∃ D, sN S3 = D := ⟨_, rfl⟩
    obtain ⟨q3, hq3⟩ : ∃ D, sB S3 = D := ⟨_, rfl⟩
    rw [hD3, hq3]
    have HD3 : Hid (sN S3 = D3 ∧ sB S3 = q3) := ⟨hD3, hq3⟩
    clear hS3 hD3 hq3 c4 c5 n0 n1
    have HS7 : Hid (RmS w X nh nl g5 g7 g9 g11 (D1 / 18446744073709551616) (D1 % 18446744073709551616) (D2 / 18446744073709551616) (D2 % 18446744073709551616) (E1 / 18446744073709551616) (E1 % 18446744073709551616) (E2 / 18446744073709551616) (E2 % 18446744073709551616) v7) := HS6'.out.later hb7
    have HY7 : Hid (Blk v7 g14 X 36) := HY.out.later hb7
    have c4 := (HY7.out.cell 4).trans HK.out.x4
    have c5 := (HY7.out.cell 5).trans HK.out.x5
    have f4 := HY7.out.frozen 4
    have f5 := HY7.out.frozen 5
    clear hb7 HS6' HY
    have H8 : Hid (Blk ((v7.setCell ⟨g14, 4, none⟩ (.int .u64 (D3 / 18446744073709551616))).setCell ⟨g14, 5, none⟩ (.int .u64 (D3 % 18446744073709551616))) g14 ((X.setIfInBounds 4 (.int .u64 (D3 / 18446744073709551616))).setIfInBounds 5 (.int .u64 (D3 % 18446744073709551616))) 36) := (HY7.out.set 4 _).set 5 _
    have HS8 : Hid (RmS w X nh nl g5 g7 g9 g11 (D1 / 18446744073709551616) (D1 % 18446744073709551616) (D2 / 18446744073709551616) (D2 % 18446744073709551616) (E1 / 18446744073709551616) (E1 % 18446744073709551616) (E2 / 18446744073709551616) (E2 % 18446744073709551616) ((v7.setCell ⟨g14, 4, none⟩ (.int .u64 (D3 / 18446744073709551616))).setCell ⟨g14, 5, none⟩ (.int .u64 (D3 % 18446744073709551616)))) :=
      ⟨(HS7.out.r0.setOther _ (by have := HG.out; have := HG14.out; show _ ≠ g14; omega)).setOther _ (by have := HG.out; have := HG14.out; show _ ≠ g14; omega), (HS7.out.rn.setOther _ (by have := HG.out; have := HG14.out; show _ ≠ g14; omega)).setOther _ (by have := HG.out; have := HG14.out; show _ ≠ g14; omega), (HS7.out.r5.setOther _ (by have := HG.out; have := HG14.out; show _ ≠ g14; omega)).setOther _ (by have := HG.out; have := HG14.out; show _ ≠ g14; omega), (HS7.out.r7.setOther _ (by have := HG.out; have := HG14.out; show _ ≠ g14; omega)).setOther _ (by have := HG.out; have := HG14.out; show _ ≠ g14; omega), (HS7.out.r9.setOther _ (by have := HG.out; have := HG14.out; show _ ≠ g14; omega)).setOther _ (by have := HG.out; have := HG14.out; show _ ≠ g14; omega), (HS7.out.r11.setOther _ (by have := HG.out; have := HG14.out; show _ ≠ g14; omega)).setOther _ (by have := HG.out; have := HG14.out; show _ ≠ g14; omega), (HS7.out.bel.setCell (p := ⟨g14, 4, none⟩) (by have := HG.out; have := HG14.out; show _ ≤ g14; omega) _).setCell (p := ⟨g14, 5, none⟩) (by have := HG.out; have := HG14.out; show _ ≤ g14; omega) _⟩
    go_upto_region 19 with fail
    generalize ((v7.setCell ⟨g14, 4, none⟩ (.int .u64 (D3 / 18446744073709551616))).setCell ⟨g14, 5, none⟩ (.int .u64 (D3 % 18446744073709551616))) = v8 at *
    clear HS7 HY7 c4 c5 f4 f5
    cases q3
    · go_wp2
      go_ret
      exact ⟨rfl, HS8.out.bel⟩
    have HDD : Hid (D3 = S3 ∧ 0 ≤ D3 ∧ D3 < 340282366920938463463374607431768211456 ∧ 0 ≤ E1 ∧ E1 < 340282366920938463463374607431768211456) := by
      have e1 := HD3.out
      have e5 := HD.out
      have e6 := HS0.out
      have e7 := HS3.out
      obtain ⟨q1, q2⟩ := e1
      unfold sN at q1
      unfold sB at q2
      have q2' := of_decide_eq_true q2
      rw [if_pos q2'] at q1
      have hw1 := HW1.out.2.2
      exact ⟨q1.symm, by omega, by omega, by omega, by omega⟩
    have hk3 := halves HDD.out.2.1 HDD.out.2.2.1
    have he1 := halves HDD.out.2.2.2.1 HDD.out.2.2.2.2
    have HKY : Hid (AcX ((X.setIfInBounds 4 (.int .u64 (D3 / 18446744073709551616))).setIfInBounds 5 (.int .u64 (D3 % 18446744073709551616))) fl (D3 / 18446744073709551616) (D3 % 18446744073709551616) c d e f g h) := HK.out.pend _ _ hk3.1 hk3.2
    have IY : Hid ((Try.prog.info? 36).map (·.size) = some ((X.setIfInBounds 4 (.int .u64 (D3 / 18446744073709551616))).setIfInBounds 5 (.int .u64 (D3 % 18446744073709551616))).size) := HKY.out.info
    obtain ⟨s, hs⟩ : ∃ s, withB fl (D3 / 18446744073709551616) (D3 % 18446744073709551616) c d e f g h = s := ⟨_, rfl⟩
    have HWI : Hid (∀ w, Calls Try.prog 17 #[.agg ((X.setIfInBounds 4 (.int .u64 (D3 / 18446744073709551616))).setIfInBounds 5 (.int .u64 (D3 % 18446744073709551616)))] w fun e' w' => e' = .returned (.bool s) ∧ Below w.heap.size w w') := fun w => by
      have := within_any _ _ _ _ _ _ _ _ _ _ HKY.out w; rw [hs] at this; exact this
    have hcmp := cmp_le nh nl (E1 / 18446744073709551616) (E1 % 18446744073709551616) HWN.out.1 HWN.out.2 he1.1 he1.2
    have HSS : Hid (decide (cmp2 nh nl (E1 / 18446744073709551616) (E1 % 18446744073709551616) ≤ 0) = s) := by
      show _ = _
      rw [hcmp, show E1 / 18446744073709551616 * 18446744073709551616 + E1 % 18446744073709551616 = E1 by omega, ← hs]
      have hz' : bits .and .i64 fl 6 = 2 := by simpa using hz
      have h24 := and62 fl hz'
      unfold withB
      rw [h24.1, h24.2]
      have e5 := HD.out
      have e7 := HS3.out
      have e8 := HSd.out
      have e9 := HDD.out.1
      simp only [roomB, leftB, nn, if_true]
      have : decide (nh * 18446744073709551616 + nl ≤ E1) = decide (D3 / 18446744073709551616 * 18446744073709551616 + D3 % 18446744073709551616 + (c * 18446744073709551616 + d) ≤ g * 18446744073709551616 + h) := decide_eq_decide.2 (by omega)
      rw [this]
      simp
      try exact decide_eq_decide.2 Iff.rfl
    clear hs hcmp hk3 he1 hz
    go_upto_region 20 with fail
    refine wp_region_D (fun _ => true) (fun w' => Blk w' g14 ((X.setIfInBounds 4 (.int .u64 (D3 / 18446744073709551616))).setIfInBounds 5 (.int .u64 (D3 % 18446744073709551616))) 36 ∧ RmS w X nh nl g5 g7 g9 g11 (D1 / 18446744073709551616) (D1 % 18446744073709551616) (D2 / 18446744073709551616) (D2 % 18446744073709551616) (E1 / 18446744073709551616) (E1 % 18446744073709551616) (E2 / 18446744073709551616) (E2 % 18446744073709551616) w') (by kernel_rfl) ?_
    have hS : Blk v8.drew g14 ((X.setIfInBounds 4 (.int .u64 (D3 / 18446744073709551616))).setIfInBounds 5 (.int .u64 (D3 % 18446744073709551616))) 36 ∧ RmS w X nh nl g5 g7 g9 g11 (D1 / 18446744073709551616) (D1 % 18446744073709551616) (D2 / 18446744073709551616) (D2 % 18446744073709551616) (E1 / 18446744073709551616) (E1 % 18446744073709551616) (E2 / 18446744073709551616) (E2 % 18446744073709551616) v8.drew := ⟨H8.out.drew, HS8.out.drew⟩
    generalize v8.drew = v9 at *
    clear HS8 H8
    refine wpAnyD_take (i := 0) rfl (by kernel_rfl) (by kernel_rfl) (by kernel_rfl) (by kernel_rfl) (fun _ _ _ h => h) (yields_blk (by rfl) 36 _ rfl g14 rfl 36 ((X.setIfInBounds 4 (.int .u64 (D3 / 18446744073709551616))).setIfInBounds 5 (.int .u64 (D3 % 18446744073709551616))) _ (fun _ h => h.1) Try.underlying36 rfl IY.out) hS ?_
    simp only [Act.put, List.setIfInBounds_toArray, List.set_cons_zero, List.set_cons_succ]
    refine wpAnyD_take (i := 2) rfl (by kernel_rfl) (by kernel_rfl) (by kernel_rfl) (by kernel_rfl) (fun _ _ _ h => h) (yields_blk (by rfl) 24 _ rfl (w.heap.size + 1) rfl 24 #[.int .u64 nh, .int .u64 nl] _ (fun _ h => h.2.rn) Try.underlying24 rfl info_num) hS ?_
    simp only [Act.put, List.setIfInBounds_toArray, List.set_cons_zero, List.set_cons_succ]
    refine wpAnyD_take (i := 3) rfl (by kernel_rfl) (by kernel_rfl) (by kernel_rfl) (by kernel_rfl) (fun _ _ _ h => h) (yields_blk (by rfl) 24 _ rfl g9 rfl 24 #[.int .u64 (E1 / 18446744073709551616), .int .u64 (E1 % 18446744073709551616)] _ (fun _ h => h.2.r9) Try.underlying24 rfl info_num) hS ?_
    simp only [Act.put, List.setIfInBounds_toArray, List.set_cons_zero, List.set_cons_succ]
    refine wpAnyD_only (i := 1) rfl (by kernel_rfl) (by rfl) (fun K hK => ?_)
    go_simp
    refine (HWI.out v9).mono ?_
    rintro e' v10 ⟨rfl, hb10⟩
    try dsimp only
    have hSn := (And.intro (hS.1.later hb10) (hS.2.later hb10))
    refine hK.out _ _ (fun _ => hSn) ?_
    clear hK K hS
    have hS := hSn
    clear hSn
    try simp only [Act.put, List.setIfInBounds_toArray, List.set_cons_zero, List.set_cons_succ]
    refine wpAnyD_only (i := 4) rfl (by kernel_rfl) (by rfl) (fun K hK => ?_)
    go_simp
    refine (compare_any nh nl (E1 / 18446744073709551616) (E1 % 18446744073709551616) v10).mono ?_
    rintro e' v11 ⟨rfl, hb11⟩
    have hcs := HSS.out
    generalize cmp2 nh nl (E1 / 18446744073709551616) (E1 % 18446744073709551616) = cc at *
    try dsimp only
    have hSn := (And.intro (hS.1.later hb11) (hS.2.later hb11))
    refine hK.out _ _ (fun _ => hSn) ?_
    clear hK K hS
    have hS := hSn
    clear hSn
    try simp only [Act.put, List.setIfInBounds_toArray, List.set_cons_zero, List.set_cons_succ]
    refine' wpAnyD_take (i := 5) (v := _) rfl (by kernel_rfl) (by kernel_rfl) (by kernel_rfl) (by kernel_rfl) (fun _ _ _ h => h) (Or.inl ⟨by rfl, ?hy5⟩) hS ?re5
    case hy5 => (intro w hSw; (try dsimp only at hSw); go_simp; (try with_reducible rfl))
    simp only [Act.put, List.setIfInBounds_toArray, List.set_cons_zero, List.set_cons_succ]
    refine' wpAnyD_take (i := 6) (v := _) rfl (by kernel_rfl) (by kernel_rfl) (by kernel_rfl) (by kernel_rfl) (fun _ _ _ h => h) (Or.inl ⟨by rfl, ?hy6⟩) hS ?re6
    case hy6 => (intro w hSw; (try dsimp only at hSw); go_simp; (try with_reducible rfl))
    simp only [Act.put, List.setIfInBounds_toArray, List.set_cons_zero, List.set_cons_succ]
    refine' wpAnyD_take (i := 7) (v := _) rfl (by kernel_rfl) (by kernel_rfl) (by kernel_rfl) (by kernel_rfl) (fun _ _ _ h => h) (Or.inl ⟨by rfl, ?hy7⟩) hS ?re7
    case hy7 => (intro w hSw; (try dsimp only at hSw); go_simp; (try with_reducible rfl))
    simp only [Act.put, List.setIfInBounds_toArray, List.set_cons_zero, List.set_cons_succ]
    refine wpAnyD_done (by kernel_rfl) ?_ _
    go_wp2
    go_ret
    exact ⟨by simp [hcs], hS.2.bel⟩
end Go.Proofs.Ytcflbicjghndoaa
