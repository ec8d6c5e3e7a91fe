
/-
  The walk of paciolilaw09.RuleLimits: it returns true, for every account, and turns nothing that was there. (Made by tools/rulim.py.)
-/
import Derived.Test.YtcflbicjghndoaaRuN
namespace Go.Proofs.Ytcflbicjghndoaa
open Go.RowKit
set_option maxRecDepth 100000
set_option linter.unusedVariables false
set_option linter.unusedSimpArgs false

theorem one_setX {X : Array Value} (h : X.all (·.oneCell') = true) (i : Nat) (v : Value) (hv : v.oneCell' = true) : (X.setIfInBounds i v).all (·.oneCell') = true := by
  rw [Array.all_eq_true] at h ⊢
  intro j hj
  rw [Array.getElem_setIfInBounds]
  split
  · exact hv
  · exact h j (by simpa using hj)
def FX (X : Array Value) (v : Int) : Array Value := X.setIfInBounds 3 (.int .i64 v)
theorem FX_FX (X : Array Value) (u v : Int) : (FX X u).setIfInBounds 3 (.int .i64 v) = FX X v := by unfold FX; simp
theorem get_set {X : Array Value} {i j : Nat} {v u : Value} (h : X[i]? = some u) (hne : j ≠ i) : (X.setIfInBounds j v)[i]? = some u := by rw [Array.getElem?_setIfInBounds_ne hne]; exact h
theorem AcX.flags {X : Array Value} {fl a b c d e f g h : Int} (k : AcX X fl a b c d e f g h) (v : Int) : AcX (FX X v) v a b c d e f g h :=
  ⟨by unfold FX; simp [k.size], one_setX k.one _ _ rfl, by unfold FX; simp [k.size], get_set k.x4 (by decide), get_set k.x5 (by decide), get_set k.x6 (by decide), get_set k.x7 (by decide), get_set k.x8 (by decide), get_set k.x9 (by decide), get_set k.x10 (by decide), get_set k.x11 (by decide), k.w4, k.w5, k.w6, k.w7, k.w8, k.w9, k.w10, k.w11⟩
theorem AcX.debits {X : Array Value} {fl a b c d e f g h : Int} (k : AcX X fl a b c d e f g h) (c' d' : Int) (h1 : Word c') (h2 : Word d') : AcX ((X.setIfInBounds 6 (.int .u64 c')).setIfInBounds 7 (.int .u64 d')) fl a b c' d' e f g h :=
  ⟨by simp [k.size], one_setX (one_setX k.one _ _ rfl) _ _ rfl, get_set (get_set k.fl (by decide)) (by decide), get_set (get_set k.x4 (by decide)) (by decide), get_set (get_set k.x5 (by decide)) (by decide), get_set (by simp [k.size]) (by decide), by simp [k.size], get_set (get_set k.x8 (by decide)) (by decide), get_set (get_set k.x9 (by decide)) (by decide), get_set (get_set k.x10 (by decide)) (by decide), get_set (get_set k.x11 (by decide)) (by decide), k.w4, k.w5, h1, h2, k.w8, k.w9, k.w10, k.w11⟩

def StopL (p : Prop) : Prop := p
theorem stopL {p : Prop} (h : StopL p) : p := h
theorem with0 (a b c d e f g h : Int) : withB 0 a b c d e f g h = true := by
  have h2 : bits .and .i64 0 2 = 0 := by decide
  have h4 : bits .and .i64 0 4 = 0 := by decide
  unfold withB; rw [h2, h4]; simp
theorem with2 (a b c d e f g h : Int) : withB 2 a b c d e f g h = roomB true a b c d e f g h := by
  have h2 : bits .and .i64 2 2 = 2 := by decide
  have h4 : bits .and .i64 2 4 = 0 := by decide
  unfold withB; rw [h2, h4]; simp
theorem with4 (a b c d e f g h : Int) : withB 4 a b c d e f g h = roomB false a b c d e f g h := by
  have h2 : bits .and .i64 4 2 = 0 := by decide
  have h4 : bits .and .i64 4 4 = 4 := by decide
  unfold withB; rw [h2, h4]; simp
theorem with6 (a b c d e f g h : Int) : withB 6 a b c d e f g h = (roomB true a b c d e f g h && roomB false a b c d e f g h) := by
  have h2 : bits .and .i64 6 2 = 2 := by decide
  have h4 : bits .and .i64 6 4 = 4 := by decide
  unfold withB; rw [h2, h4]; simp

set_option maxHeartbeats 4000000 in
theorem law_limits (X : Array Value) (fl a b c d e f g h : Int) (k : AcX X fl a b c d e f g h) (w : World) :
    Calls Try.prog 7 #[.agg X] w fun e' w' => e' = .returned (.bool true) ∧ Below w.heap.size w w' := by
  have HK : Hid (AcX X fl a b c d e f g h) := k
  have IX : Hid ((Try.prog.info? 36).map (·.size) = some X.size) := k.info
  have OX : Hid (X.all (·.oneCell') = true) := k.one
  have SX : Hid (46 = X.size) := k.size.symm
  obtain ⟨D, hD⟩ : ∃ D, roomN true a b c d e f g h = D := ⟨_, rfl⟩
  obtain ⟨p, hp⟩ : ∃ p, roomB true a b c d e f g h = p := ⟨_, rfl⟩
  obtain ⟨q, hq⟩ : ∃ q, roomB false a b c d e f g h = q := ⟨_, rfl⟩
  have W0 : Hid (∀ w, Calls Try.prog 17 #[.agg (FX X 0)] w fun e' w' => e' = .returned (.bool true) ∧ Below w.heap.size w w') := fun w => by
    have := within_any (FX X 0) 0 a b c d e f g h (k.flags 0) w; rw [with0] at this; exact this
  have W2 : Hid (∀ w, Calls Try.prog 17 #[.agg (FX X 2)] w fun e' w' => e' = .returned (.bool p) ∧ Below w.heap.size w w') := fun w => by
    have := within_any (FX X 2) 2 a b c d e f g h (k.flags 2) w; rw [with2, hp] at this; exact this
  have W4 : Hid (∀ w, Calls Try.prog 17 #[.agg (FX X 4)] w fun e' w' => e' = .returned (.bool q) ∧ Below w.heap.size w w') := fun w => by
    have := within_any (FX X 4) 4 a b c d e f g h (k.flags 4) w; rw [with4, hq] at this; exact this
  have W6 : Hid (∀ w, Calls Try.prog 17 #[.agg (FX X 6)] w fun e' w' => e' = .returned (.bool (p && q)) ∧ Below w.heap.size w w') := fun w => by
    have := within_any (FX X 6) 6 a b c d e f g h (k.flags 6) w; rw [with6, hp, hq] at this; exact this
  have RM : Hid (∀ w, Calls Try.prog 15 #[.agg (FX X 2), .bool true] w fun e' w' => e' = .returned (.agg #[.int .u64 (D / 18446744073709551616), .int .u64 (D % 18446744073709551616)]) ∧ Below w.heap.size w w') := fun w => by
    have := room_any (FX X 2) 2 a b c d e f g h (k.flags 2) true w; rw [hD] at this; exact this
  have HD : Hid (roomN true a b c d e f g h = D) := hD
  have HP : Hid (roomB true a b c d e f g h = p) := hp
  clear hD hp hq k
  have HPQ : (p && q != (p && q)) = false := by cases p <;> cases q <;> rfl
  cases p
  · have hD0 : D = 0 := by
      have h1 := HP.out
      have h2 := HD.out
      simp only [roomB, roomN, leftB, leftN, if_true, decide_eq_false_iff_not] at h1 h2
      rw [if_neg h1] at h2
      exact h2.symm
    subst hD0
    cases q
    all_goals
      go_enter Try.func7, Try.ntmps7
      go_wp2_with fail
      refine (fit9_any _).mono ?_
      rintro e' w1 ⟨rfl, hb1⟩
      have R0 : Hid (Blk w1 w.heap.size X 36) := (Blk.new w X 36 rfl).later hb1
      have B1 : Hid (Below w.heap.size w w1) := (below1 w _).trans (hb1.mono (by simp))
      clear hb1
      go_wp2_with (first | (refine wpList_load_row rfl 36 _ rfl w.heap.size rfl 36 X (0, 0) _ R0.out Try.underlying36 rfl IX.out ?_) | (refine wpList_store_row rfl 36 _ _ rfl w1.heap.size X rfl rfl 36 _ (heap_alloc_new w1 _) IX.out SX.out OX.out ?_; refine stopL ?_))
      have r2 := (Blk.new w1 #[.int .u64 0, .int .u64 0, .int .i64 0, .int .i64 0, .int .u64 0, .int .u64 0, .int .u64 0, .int .u64 0, .int .u64 0, .int .u64 0, .int .u64 0, .int .u64 0, .int .i64 0, .int .i64 0, .int .u8 0, .int .u8 0, .int .u8 0, .int .u8 0, .int .u8 0, .int .u8 0, .int .u8 0, .int .u8 0, .int .u8 0, .int .u8 0, .int .u8 0, .int .u8 0, .int .u8 0, .int .u8 0, .int .u8 0, .int .u8 0, .int .u8 0, .int .u8 0, .int .u8 0, .int .u8 0, .int .u8 0, .int .u8 0, .int .u8 0, .int .u8 0, .int .u8 0, .int .u8 0, .int .u8 0, .int .u8 0, .int .u8 0, .int .u8 0, .int .u8 0, .int .u8 0] 36 rfl).setRow X
      have b2 := below_row (below1 w1 (.cells #[.int .u64 0, .int .u64 0, .int .i64 0, .int .i64 0, .int .u64 0, .int .u64 0, .int .u64 0, .int .u64 0, .int .u64 0, .int .u64 0, .int .u64 0, .int .u64 0, .int .i64 0, .int .i64 0, .int .u8 0, .int .u8 0, .int .u8 0, .int .u8 0, .int .u8 0, .int .u8 0, .int .u8 0, .int .u8 0, .int .u8 0, .int .u8 0, .int .u8 0, .int .u8 0, .int .u8 0, .int .u8 0, .int .u8 0, .int .u8 0, .int .u8 0, .int .u8 0, .int .u8 0, .int .u8 0, .int .u8 0, .int .u8 0, .int .u8 0, .int .u8 0, .int .u8 0, .int .u8 0, .int .u8 0, .int .u8 0, .int .u8 0, .int .u8 0, .int .u8 0, .int .u8 0] 36)) X (Nat.le_refl _)
      unfold StopL
      generalize (w1.alloc (.cells #[.int .u64 0, .int .u64 0, .int .i64 0, .int .i64 0, .int .u64 0, .int .u64 0, .int .u64 0, .int .u64 0, .int .u64 0, .int .u64 0, .int .u64 0, .int .u64 0, .int .i64 0, .int .i64 0, .int .u8 0, .int .u8 0, .int .u8 0, .int .u8 0, .int .u8 0, .int .u8 0, .int .u8 0, .int .u8 0, .int .u8 0, .int .u8 0, .int .u8 0, .int .u8 0, .int .u8 0, .int .u8 0, .int .u8 0, .int .u8 0, .int .u8 0, .int .u8 0, .int .u8 0, .int .u8 0, .int .u8 0, .int .u8 0, .int .u8 0, .int .u8 0, .int .u8 0, .int .u8 0, .int .u8 0, .int .u8 0, .int .u8 0, .int .u8 0, .int .u8 0, .int .u8 0] 36)).setRow w1.heap.size X = w2 at *
      have B_w2 : Hid (Below w.heap.size w w2) := B1.out.trans (b2.mono B1.out.size)
      have R_w2 : Hid (Blk w2 w1.heap.size X 36) := r2
      have G : Hid (w.heap.size ≤ w1.heap.size) := B1.out.size
      clear r2 b2
      generalize w1.heap.size = g1 at *
      have cs3_w3 : w2.cell? ⟨g1, 3, none⟩ = some _ := (R_w2.out.cell 3).trans (HK.out.fl)
      have fs3_w3 := R_w2.out.frozen 3
      have S_w3 : Hid (Blk (w2.setCell ⟨g1, 3, none⟩ (.int .i64 0)) g1 (FX X 0) 36) := by have := R_w2.out.set 3 (.int .i64 0); rw [show X.setIfInBounds 3 (.int .i64 0) = FX X 0 from rfl] at this; exact this
      have T_w3 : Hid (Below w.heap.size w (w2.setCell ⟨g1, 3, none⟩ (.int .i64 0))) := B_w2.out.setCell (p := ⟨g1, 3, none⟩) G.out _
      have I_w3 : Hid ((Try.prog.info? 36).map (·.size) = some (FX X 0).size) := (HK.out.flags 0).info
      go_wp2_with (refine wpList_load_row rfl 36 _ rfl g1 rfl 36 (FX X 0) (0, 0) _ S_w3.out Try.underlying36 rfl I_w3.out ?_)
      refine (W0.out _).mono ?_
      rintro e' w3 ⟨rfl, hb⟩
      have R_w3 : Hid (Blk w3 g1 (FX X 0) 36) := S_w3.out.later hb
      have B_w3 : Hid (Below w.heap.size w w3) := T_w3.out.trans (hb.mono T_w3.out.size)
      clear hb cs3_w3 fs3_w3 S_w3 T_w3
      have cs3_w4 : w3.cell? ⟨g1, 3, none⟩ = some _ := (R_w3.out.cell 3).trans ((HK.out.flags 0).fl)
      have fs3_w4 := R_w3.out.frozen 3
      have S_w4 : Hid (Blk (w3.setCell ⟨g1, 3, none⟩ (.int .i64 2)) g1 (FX X 2) 36) := by have := R_w3.out.set 3 (.int .i64 2); rw [FX_FX] at this; exact this
      have T_w4 : Hid (Below w.heap.size w (w3.setCell ⟨g1, 3, none⟩ (.int .i64 2))) := B_w3.out.setCell (p := ⟨g1, 3, none⟩) G.out _
      have I_w4 : Hid ((Try.prog.info? 36).map (·.size) = some (FX X 2).size) := (HK.out.flags 2).info
      go_wp2_with (refine wpList_load_row rfl 36 _ rfl g1 rfl 36 (FX X 2) (0, 0) _ S_w4.out Try.underlying36 rfl I_w4.out ?_)
      refine (W2.out _).mono ?_
      rintro e' w4 ⟨rfl, hb⟩
      have R_w4 : Hid (Blk w4 g1 (FX X 2) 36) := S_w4.out.later hb
      have B_w4 : Hid (Below w.heap.size w w4) := T_w4.out.trans (hb.mono T_w4.out.size)
      clear hb cs3_w4 fs3_w4 S_w4 T_w4
      have cs3_w5 : w4.cell? ⟨g1, 3, none⟩ = some _ := (R_w4.out.cell 3).trans ((HK.out.flags 2).fl)
      have fs3_w5 := R_w4.out.frozen 3
      have S_w5 : Hid (Blk (w4.setCell ⟨g1, 3, none⟩ (.int .i64 4)) g1 (FX X 4) 36) := by have := R_w4.out.set 3 (.int .i64 4); rw [FX_FX] at this; exact this
      have T_w5 : Hid (Below w.heap.size w (w4.setCell ⟨g1, 3, none⟩ (.int .i64 4))) := B_w4.out.setCell (p := ⟨g1, 3, none⟩) G.out _
      have I_w5 : Hid ((Try.prog.info? 36).map (·.size) = some (FX X 4).size) := (HK.out.flags 4).info
      go_wp2_with (refine wpList_load_row rfl 36 _ rfl g1 rfl 36 (FX X 4) (0, 0) _ S_w5.out Try.underlying36 rfl I_w5.out ?_)
      refine (W4.out _).mono ?_
      rintro e' w5 ⟨rfl, hb⟩
      have R_w5 : Hid (Blk w5 g1 (FX X 4) 36) := S_w5.out.later hb
      have B_w5 : Hid (Below w.heap.size w w5) := T_w5.out.trans (hb.mono T_w5.out.size)
      clear hb cs3_w5 fs3_w5 S_w5 T_w5
      have cs3_w6 : w5.cell? ⟨g1, 3, none⟩ = some _ := (R_w5.out.cell 3).trans ((HK.out.flags 4).fl)
      have fs3_w6 := R_w5.out.frozen 3
      have S_w6 : Hid (Blk (w5.setCell ⟨g1, 3, none⟩ (.int .i64 6)) g1 (FX X 6) 36) := by have := R_w5.out.set 3 (.int .i64 6); rw [FX_FX] at this; exact this
      have T_w6 : Hid (Below w.heap.size w (w5.setCell ⟨g1, 3, none⟩ (.int .i64 6))) := B_w5.out.setCell (p := ⟨g1, 3, none⟩) G.out _
      have I_w6 : Hid ((Try.prog.info? 36).map (·.size) = some (FX X 6).size) := (HK.out.flags 6).info
      go_wp2_with (refine wpList_load_row rfl 36 _ rfl g1 rfl 36 (FX X 6) (0, 0) _ S_w6.out Try.underlying36 rfl I_w6.out ?_)
      refine (W6.out _).mono ?_
      rintro e' w6 ⟨rfl, hb⟩
      have R_w6 : Hid (Blk w6 g1 (FX X 6) 36) := S_w6.out.later hb
      have B_w6 : Hid (Below w.heap.size w w6) := T_w6.out.trans (hb.mono T_w6.out.size)
      clear hb cs3_w6 fs3_w6 S_w6 T_w6
      have cs3_w7 : w6.cell? ⟨g1, 3, none⟩ = some _ := (R_w6.out.cell 3).trans ((HK.out.flags 6).fl)
      have fs3_w7 := R_w6.out.frozen 3
      have S_w7 : Hid (Blk (w6.setCell ⟨g1, 3, none⟩ (.int .i64 2)) g1 (FX X 2) 36) := by have := R_w6.out.set 3 (.int .i64 2); rw [FX_FX] at this; exact this
      have T_w7 : Hid (Below w.heap.size w (w6.setCell ⟨g1, 3, none⟩ (.int .i64 2))) := B_w6.out.setCell (p := ⟨g1, 3, none⟩) G.out _
      have I_w7 : Hid ((Try.prog.info? 36).map (·.size) = some (FX X 2).size) := (HK.out.flags 2).info
      go_wp2_with (refine wpList_load_row rfl 36 _ rfl g1 rfl 36 (FX X 2) (0, 0) _ S_w7.out Try.underlying36 rfl I_w7.out ?_)
      refine (RM.out _).mono ?_
      rintro e' w7 ⟨rfl, hb⟩
      have R_w7 : Hid (Blk w7 g1 (FX X 2) 36) := S_w7.out.later hb
      have B_w7 : Hid (Below w.heap.size w w7) := T_w7.out.trans (hb.mono T_w7.out.size)
      clear hb cs3_w7 fs3_w7 S_w7 T_w7
      rw [show (0 : Int) / 18446744073709551616 = 0 from rfl, show (0 : Int) % 18446744073709551616 = 0 from rfl]
      have eq0 := num_eql 0 0 0 0 true rfl
      go_wp2
      go_ret
      exact ⟨rfl, B_w7.out.alloc B_w7.out.size _⟩
  · have hD0 : D = nn g h - (nn a b + nn c d) ∧ nn a b + nn c d ≤ nn g h := by
      have h1 := HP.out
      have h2 := HD.out
      simp only [roomB, roomN, leftB, leftN, if_true, decide_eq_true_iff] at h1 h2
      rw [if_pos h1] at h2
      exact ⟨h2.symm, h1⟩
    obtain ⟨E, hE⟩ : ∃ E, nn g h - nn a b = E := ⟨_, rfl⟩
    have hEb : 0 ≤ E ∧ E < 340282366920938463463374607431768211456 := by
      obtain ⟨⟨x1, x2⟩, ⟨x3, x4⟩, ⟨x5, x6⟩, ⟨x7, x8⟩, ⟨x9, x10⟩, ⟨x11, x12⟩⟩ := And.intro HK.out.w4 (And.intro HK.out.w5 (And.intro HK.out.w6 (And.intro HK.out.w7 (And.intro HK.out.w10 HK.out.w11))))
      have h2 := hD0.2
      unfold nn at h2 hE
      omega
    have HE : Hid (D = E - nn c d ∧ nn a b + E = nn g h ∧ 0 ≤ D ∧ D < 340282366920938463463374607431768211456 ∧ 0 ≤ E ∧ E < 340282366920938463463374607431768211456) := by
      obtain ⟨⟨x1, x2⟩, ⟨x3, x4⟩, ⟨x5, x6⟩, ⟨x7, x8⟩, ⟨x9, x10⟩, ⟨x11, x12⟩⟩ := And.intro HK.out.w4 (And.intro HK.out.w5 (And.intro HK.out.w6 (And.intro HK.out.w7 (And.intro HK.out.w10 HK.out.w11))))
      have h1 := hD0.1
      have h2 := hD0.2
      obtain ⟨h3, h4⟩ := hEb
      show _ ∧ _
      unfold nn at *
      refine ⟨by omega, by omega, by omega, by omega, h3, h4⟩
    have HKY : Hid (AcX (((FX X 2).setIfInBounds 6 (.int .u64 (E / 18446744073709551616))).setIfInBounds 7 (.int .u64 (E % 18446744073709551616))) 2 a b (E / 18446744073709551616) (E % 18446744073709551616) e f g h) := (HK.out.flags 2).debits _ _ ⟨by omega, by omega⟩ ⟨by omega, by omega⟩
    have hnE : nn (E / 18446744073709551616) (E % 18446744073709551616) = E := by unfold nn; omega
    have hroom : roomB true a b (E / 18446744073709551616) (E % 18446744073709551616) e f g h = true ∧ roomN true a b (E / 18446744073709551616) (E % 18446744073709551616) e f g h = 0 := by
      have h2 := HE.out.2.1
      simp only [roomB, roomN, leftB, leftN, if_true, hnE, decide_eq_true_iff]
      refine ⟨by omega, ?_⟩
      rw [if_pos (by omega)]; omega
    have WY : Hid (∀ w, Calls Try.prog 17 #[.agg (((FX X 2).setIfInBounds 6 (.int .u64 (E / 18446744073709551616))).setIfInBounds 7 (.int .u64 (E % 18446744073709551616)))] w fun e' w' => e' = .returned (.bool true) ∧ Below w.heap.size w w') := fun w => by
      have := within_any _ _ _ _ _ _ _ _ _ _ HKY.out w; rw [with2, hroom.1] at this; exact this
    have RY : Hid (∀ w, Calls Try.prog 15 #[.agg (((FX X 2).setIfInBounds 6 (.int .u64 (E / 18446744073709551616))).setIfInBounds 7 (.int .u64 (E % 18446744073709551616))), .bool true] w fun e' w' => e' = .returned (.agg #[.int .u64 0, .int .u64 0]) ∧ Below w.heap.size w w') := fun w => by
      have := room_any _ _ _ _ _ _ _ _ _ _ HKY.out true w; rw [hroom.2] at this; exact this
    have IY : Hid ((Try.prog.info? 36).map (·.size) = some (((FX X 2).setIfInBounds 6 (.int .u64 (E / 18446744073709551616))).setIfInBounds 7 (.int .u64 (E % 18446744073709551616))).size) := HKY.out.info
    have HSUM : Hid ((c * 18446744073709551616 + d) + (D / 18446744073709551616 * 18446744073709551616 + D % 18446744073709551616) = E) := by
      have h1 := HE.out.1
      show _ = _
      unfold nn at h1
      omega
    clear hD0 hE hEb hnE hroom
    cases q
    all_goals
      go_enter Try.func7, Try.ntmps7
      go_wp2_with fail
      refine (fit9_any _).mono ?_
      rintro e' w1 ⟨rfl, hb1⟩
      have R0 : Hid (Blk w1 w.heap.size X 36) := (Blk.new w X 36 rfl).later hb1
      have B1 : Hid (Below w.heap.size w w1) := (below1 w _).trans (hb1.mono (by simp))
      clear hb1
      go_wp2_with (first | (refine wpList_load_row rfl 36 _ rfl w.heap.size rfl 36 X (0, 0) _ R0.out Try.underlying36 rfl IX.out ?_) | (refine wpList_store_row rfl 36 _ _ rfl w1.heap.size X rfl rfl 36 _ (heap_alloc_new w1 _) IX.out SX.out OX.out ?_; refine stopL ?_))
      have r2 := (Blk.new w1 #[.int .u64 0, .int .u64 0, .int .i64 0, .int .i64 0, .int .u64 0, .int .u64 0, .int .u64 0, .int .u64 0, .int .u64 0, .int .u64 0, .int .u64 0, .int .u64 0, .int .i64 0, .int .i64 0, .int .u8 0, .int .u8 0, .int .u8 0, .int .u8 0, .int .u8 0, .int .u8 0, .int .u8 0, .int .u8 0, .int .u8 0, .int .u8 0, .int .u8 0, .int .u8 0, .int .u8 0, .int .u8 0, .int .u8 0, .int .u8 0, .int .u8 0, .int .u8 0, .int .u8 0, .int .u8 0, .int .u8 0, .int .u8 0, .int .u8 0, .int .u8 0, .int .u8 0, .int .u8 0, .int .u8 0, .int .u8 0, .int .u8 0, .int .u8 0, .int .u8 0, .int .u8 0] 36 rfl).setRow X
      have b2 := below_row (below1 w1 (.cells #[.int .u64 0, .int .u64 0, .int .i64 0, .int .i64 0, .int .u64 0, .int .u64 0, .int .u64 0, .int .u64 0, .int .u64 0, .int .u64 0, .int .u64 0, .int .u64 0, .int .i64 0, .int .i64 0, .int .u8 0, .int .u8 0, .int .u8 0, .int .u8 0, .int .u8 0, .int .u8 0, .int .u8 0, .int .u8 0, .int .u8 0, .int .u8 0, .int .u8 0, .int .u8 0, .int .u8 0, .int .u8 0, .int .u8 0, .int .u8 0, .int .u8 0, .int .u8 0, .int .u8 0, .int .u8 0, .int .u8 0, .int .u8 0, .int .u8 0, .int .u8 0, .int .u8 0, .int .u8 0, .int .u8 0, .int .u8 0, .int .u8 0, .int .u8 0, .int .u8 0, .int .u8 0] 36)) X (Nat.le_refl _)
      unfold StopL
      generalize (w1.alloc (.cells #[.int .u64 0, .int .u64 0, .int .i64 0, .int .i64 0, .int .u64 0, .int .u64 0, .int .u64 0, .int .u64 0, .int .u64 0, .int .u64 0, .int .u64 0, .int .u64 0, .int .i64 0, .int .i64 0, .int .u8 0, .int .u8 0, .int .u8 0, .int .u8 0, .int .u8 0, .int .u8 0, .int .u8 0, .int .u8 0, .int .u8 0, .int .u8 0, .int .u8 0, .int .u8 0, .int .u8 0, .int .u8 0, .int .u8 0, .int .u8 0, .int .u8 0, .int .u8 0, .int .u8 0, .int .u8 0, .int .u8 0, .int .u8 0, .int .u8 0, .int .u8 0, .int .u8 0, .int .u8 0, .int .u8 0, .int .u8 0, .int .u8 0, .int .u8 0, .int .u8 0, .int .u8 0] 36)).setRow w1.heap.size X = w2 at *
      have B_w2 : Hid (Below w.heap.size w w2) := B1.out.trans (b2.mono B1.out.size)
      have R_w2 : Hid (Blk w2 w1.heap.size X 36) := r2
      have G : Hid (w.heap.size ≤ w1.heap.size) := B1.out.size
      clear r2 b2
      generalize w1.heap.size = g1 at *
      have cs3_w3 : w2.cell? ⟨g1, 3, none⟩ = some _ := (R_w2.out.cell 3).trans (HK.out.fl)
      have fs3_w3 := R_w2.out.frozen 3
      have S_w3 : Hid (Blk (w2.setCell ⟨g1, 3, none⟩ (.int .i64 0)) g1 (FX X 0) 36) := by have := R_w2.out.set 3 (.int .i64 0); rw [show X.setIfInBounds 3 (.int .i64 0) = FX X 0 from rfl] at this; exact this
      have T_w3 : Hid (Below w.heap.size w (w2.setCell ⟨g1, 3, none⟩ (.int .i64 0))) := B_w2.out.setCell (p := ⟨g1, 3, none⟩) G.out _
      have I_w3 : Hid ((Try.prog.info? 36).map (·.size) = some (FX X 0).size) := (HK.out.flags 0).info
      go_wp2_with (refine wpList_load_row rfl 36 _ rfl g1 rfl 36 (FX X 0) (0, 0) _ S_w3.out Try.underlying36 rfl I_w3.out ?_)
      refine (W0.out _).mono ?_
      rintro e' w3 ⟨rfl, hb⟩
      have R_w3 : Hid (Blk w3 g1 (FX X 0) 36) := S_w3.out.later hb
      have B_w3 : Hid (Below w.heap.size w w3) := T_w3.out.trans (hb.mono T_w3.out.size)
      clear hb cs3_w3 fs3_w3 S_w3 T_w3
      have cs3_w4 : w3.cell? ⟨g1, 3, none⟩ = some _ := (R_w3.out.cell 3).trans ((HK.out.flags 0).fl)
      have fs3_w4 := R_w3.out.frozen 3
      have S_w4 : Hid (Blk (w3.setCell ⟨g1, 3, none⟩ (.int .i64 2)) g1 (FX X 2) 36) := by have := R_w3.out.set 3 (.int .i64 2); rw [FX_FX] at this; exact this
      have T_w4 : Hid (Below w.heap.size w (w3.setCell ⟨g1, 3, none⟩ (.int .i64 2))) := B_w3.out.setCell (p := ⟨g1, 3, none⟩) G.out _
      have I_w4 : Hid ((Try.prog.info? 36).map (·.size) = some (FX X 2).size) := (HK.out.flags 2).info
      go_wp2_with (refine wpList_load_row rfl 36 _ rfl g1 rfl 36 (FX X 2) (0, 0) _ S_w4.out Try.underlying36 rfl I_w4.out ?_)
      refine (W2.out _).mono ?_
      rintro e' w4 ⟨rfl, hb⟩
      have R_w4 : Hid (Blk w4 g1 (FX X 2) 36) := S_w4.out.later hb
      have B_w4 : Hid (Below w.heap.size w w4) := T_w4.out.trans (hb.mono T_w4.out.size)
      clear hb cs3_w4 fs3_w4 S_w4 T_w4
      have cs3_w5 : w4.cell? ⟨g1, 3, none⟩ = some _ := (R_w4.out.cell 3).trans ((HK.out.flags 2).fl)
      have fs3_w5 := R_w4.out.frozen 3
      have S_w5 : Hid (Blk (w4.setCell ⟨g1, 3, none⟩ (.int .i64 4)) g1 (FX X 4) 36) := by have := R_w4.out.set 3 (.int .i64 4); rw [FX_FX] at this; exact this
      have T_w5 : Hid (Below w.heap.size w (w4.setCell ⟨g1, 3, none⟩ (.int .i64 4))) := B_w4.out.setCell (p := ⟨g1, 3, none⟩) G.out _
      have I_w5 : Hid ((Try.prog.info? 36).map (·.size) = some (FX X 4).size) := (HK.out.flags 4).info
      go_wp2_with (refine wpList_load_row rfl 36 _ rfl g1 rfl 36 (FX X 4) (0, 0) _ S_w5.out Try.underlying36 rfl I_w5.out ?_)
      refine (W4.out _).mono ?_
      rintro e' w5 ⟨rfl, hb⟩
      have R_w5 : Hid (Blk w5 g1 (FX X 4) 36) := S_w5.out.later hb
      have B_w5 : Hid (Below w.heap.size w w5) := T_w5.out.trans (hb.mono T_w5.out.size)
      clear hb cs3_w5 fs3_w5 S_w5 T_w5
      have cs3_w6 : w5.cell? ⟨g1, 3, none⟩ = some _ := (R_w5.out.cell 3).trans ((HK.out.flags 4).fl)
      have fs3_w6 := R_w5.out.frozen 3
      have S_w6 : Hid (Blk (w5.setCell ⟨g1, 3, none⟩ (.int .i64 6)) g1 (FX X 6) 36) := by have := R_w5.out.set 3 (.int .i64 6); rw [FX_FX] at this; exact this
      have T_w6 : Hid (Below w.heap.size w (w5.setCell ⟨g1, 3, none⟩ (.int .i64 6))) := B_w5.out.setCell (p := ⟨g1, 3, none⟩) G.out _
      have I_w6 : Hid ((Try.prog.info? 36).map (·.size) = some (FX X 6).size) := (HK.out.flags 6).info
      go_wp2_with (refine wpList_load_row rfl 36 _ rfl g1 rfl 36 (FX X 6) (0, 0) _ S_w6.out Try.underlying36 rfl I_w6.out ?_)
      refine (W6.out _).mono ?_
      rintro e' w6 ⟨rfl, hb⟩
      have R_w6 : Hid (Blk w6 g1 (FX X 6) 36) := S_w6.out.later hb
      have B_w6 : Hid (Below w.heap.size w w6) := T_w6.out.trans (hb.mono T_w6.out.size)
      clear hb cs3_w6 fs3_w6 S_w6 T_w6
      have cs3_w7 : w6.cell? ⟨g1, 3, none⟩ = some _ := (R_w6.out.cell 3).trans ((HK.out.flags 6).fl)
      have fs3_w7 := R_w6.out.frozen 3
      have S_w7 : Hid (Blk (w6.setCell ⟨g1, 3, none⟩ (.int .i64 2)) g1 (FX X 2) 36) := by have := R_w6.out.set 3 (.int .i64 2); rw [FX_FX] at this; exact this
      have T_w7 : Hid (Below w.heap.size w (w6.setCell ⟨g1, 3, none⟩ (.int .i64 2))) := B_w6.out.setCell (p := ⟨g1, 3, none⟩) G.out _
      have I_w7 : Hid ((Try.prog.info? 36).map (·.size) = some (FX X 2).size) := (HK.out.flags 2).info
      go_wp2_with (refine wpList_load_row rfl 36 _ rfl g1 rfl 36 (FX X 2) (0, 0) _ S_w7.out Try.underlying36 rfl I_w7.out ?_)
      refine (RM.out _).mono ?_
      rintro e' w7 ⟨rfl, hb⟩
      have R_w7 : Hid (Blk w7 g1 (FX X 2) 36) := S_w7.out.later hb
      have B_w7 : Hid (Below w.heap.size w w7) := T_w7.out.trans (hb.mono T_w7.out.size)
      clear hb cs3_w7 fs3_w7 S_w7 T_w7
      have R8 := R_w7.out.alloc (.cells #[.int .u64 (D / 18446744073709551616), .int .u64 (D % 18446744073709551616)] 24)
      have c6 := (R_w7.out.cell 6).trans (HK.out.flags 2).x6
      have c7 := (R_w7.out.cell 7).trans (HK.out.flags 2).x7
      have zg : g1 < w7.heap.size := R_w7.out.lt
      go_wp2_with fail
      refine (radd2 (w7.alloc (.cells #[.int .u64 (D / 18446744073709551616), .int .u64 (D % 18446744073709551616)] 24)) _ (by simp) c d (D / 18446744073709551616) (D % 18446744073709551616) _ _ HK.out.w6 HK.out.w7 ⟨by have := HE.out.2.2; omega, by have := HE.out.2.2; omega⟩ ⟨by omega, by omega⟩).mono ?_
      rintro e' w8 ⟨rfl, hb8⟩
      rw [HSUM.out, addV_yes HE.out.2.2.2.2.2]
      have R9 := R8.later hb8
      have B9 : Hid (Below w.heap.size w w8) := (B_w7.out.alloc B_w7.out.size _).trans (hb8.mono (by have := B_w7.out.size; simp; omega))
      have d6 := (R9.cell 6).trans (HK.out.flags 2).x6
      have d7 := (R9.cell 7).trans (HK.out.flags 2).x7
      have f6 := R9.frozen 6
      have f7 := R9.frozen 7
      have R10 : Hid (Blk ((w8.setCell ⟨g1, 6, none⟩ (.int .u64 (E / 18446744073709551616))).setCell ⟨g1, 7, none⟩ (.int .u64 (E % 18446744073709551616))) g1 (((FX X 2).setIfInBounds 6 (.int .u64 (E / 18446744073709551616))).setIfInBounds 7 (.int .u64 (E % 18446744073709551616))) 36) := (R9.set 6 _).set 7 _
      have B10 : Hid (Below w.heap.size w ((w8.setCell ⟨g1, 6, none⟩ (.int .u64 (E / 18446744073709551616))).setCell ⟨g1, 7, none⟩ (.int .u64 (E % 18446744073709551616)))) := (B9.out.setCell (p := ⟨g1, 6, none⟩) G.out _).setCell (p := ⟨g1, 7, none⟩) G.out _
      clear R8 R9 c6 c7 zg hb8
      go_wp2_with (refine wpList_load_row rfl 36 _ rfl g1 rfl 36 (((FX X 2).setIfInBounds 6 (.int .u64 (E / 18446744073709551616))).setIfInBounds 7 (.int .u64 (E % 18446744073709551616))) (0, 0) _ R10.out Try.underlying36 rfl IY.out ?_)
      refine (WY.out _).mono ?_
      rintro e' w11 ⟨rfl, hb11⟩
      have R11 : Hid (Blk w11 g1 (((FX X 2).setIfInBounds 6 (.int .u64 (E / 18446744073709551616))).setIfInBounds 7 (.int .u64 (E % 18446744073709551616))) 36) := R10.out.later hb11
      have B11 : Hid (Below w.heap.size w w11) := B10.out.trans (hb11.mono B10.out.size)
      clear hb11 d6 d7 f6 f7
      go_wp2_with (refine wpList_wr rfl (wp_load_row 36 _ rfl g1 rfl 36 (((FX X 2).setIfInBounds 6 (.int .u64 (E / 18446744073709551616))).setIfInBounds 7 (.int .u64 (E % 18446744073709551616))) (0, 0) _ R11.out Try.underlying36 rfl IY.out ?_))
      refine (RY.out _).mono ?_
      rintro e' w12 ⟨rfl, hb12⟩
      have B12 := B11.out.trans (hb12.mono B11.out.size)
      have eq0 := num_eql 0 0 0 0 true rfl
      clear hb12
      go_wp2
      go_ret
      exact ⟨rfl, B12⟩
end Go.Proofs.Ytcflbicjghndoaa
