
/-
  Package rule: Transfer, by what holds of its flags and numbers.
-/
import Derived.Test.YtcflbicjghndoaaRuA
namespace Go.Proofs.Ytcflbicjghndoaa
open Go.RowKit
set_option maxRecDepth 100000
set_option linter.unusedVariables false
set_option linter.unusedSimpArgs false

/-- What is looked at of flags. -/
structure Fl (f : Int) (b1 b2 b3 b4 b5 b6 : Bool) : Prop where
  h1 : (bits .andNot .i64 f 255 != 0) = b1
  k : ∃ k : Nat, bits .and .i64 f 14 = (k : Int) ∧ k < 16 ∧ decide (1 < pop4 k) = b2
  h3 : (bits .and .i64 f 192 != 0) = b3
  h4 : (bits .and .i64 f 2 == 0) = b4
  h5 : (bits .and .i64 f 48 == 0) = b5
  h6 : (bits .and .i64 f 12 == 0) = b6
def flB (b1 b2 b3 b4 b5 b6 : Bool) : Bool := !(b1 || b2 || (b3 && b4)) && (b5 || b6)

set_option maxHeartbeats 1000000 in
theorem tfg_any (f : Int) (b1 b2 b3 b4 b5 b6 : Bool) (h : Fl f b1 b2 b3 b4 b5 b6) (w : World) :
    Calls Try.prog 21 #[.int .i64 f] w fun e w' => e = .returned (.bool (flB b1 b2 b3 b4 b5 b6)) ∧ w' = w := by
  obtain ⟨h1, ⟨k, hk, hk16, h2⟩, h3, h4, h5, h6⟩ := h
  have hw : IntKind.u64.wrap (k : Int) = (k : Int) := by rw [IntKind.wrap_u64]; omega
  have h2' : decide ((1 : Int) < (pop4 k : Int)) = b2 := by rw [← h2]; apply decide_eq_decide.2; omega
  clear h2
  generalize hp : (pop4 k : Int) = P at *
  have HP : Hid ((pop4 k : Int) = P) := hp
  have HK : Hid (k < 16) := hk16
  clear hp hk16
  cases b1
  · cases b2
    · cases b3
      · cases b5
        all_goals
          go_enter Try.func21, Try.ntmps21
          go_wp2_with (go_at_call 30; refine (ones k HK.out _).mono ?_; rw [HP.out]; rintro e w' ⟨rfl, rfl⟩)
          go_ret
          exact ⟨rfl, rfl⟩
      · cases b4
        · cases b5
          all_goals
            go_enter Try.func21, Try.ntmps21
            go_wp2_with (go_at_call 30; refine (ones k HK.out _).mono ?_; rw [HP.out]; rintro e w' ⟨rfl, rfl⟩)
            go_ret
            exact ⟨rfl, rfl⟩
        · go_enter Try.func21, Try.ntmps21
          go_wp2_with (go_at_call 30; refine (ones k HK.out _).mono ?_; rw [HP.out]; rintro e w' ⟨rfl, rfl⟩)
          go_ret
          exact ⟨rfl, rfl⟩
    · go_enter Try.func21, Try.ntmps21
      go_wp2_with (go_at_call 30; refine (ones k HK.out _).mono ?_; rw [HP.out]; rintro e w' ⟨rfl, rfl⟩)
      go_ret
      exact ⟨rfl, rfl⟩
  · go_enter Try.func21, Try.ntmps21
    go_wp2
    go_ret
    exact ⟨rfl, rfl⟩

theorem pg_any (z q s : Bool) (a0 a1 a2 a3 a4 a5 a6 a7 a8 a9 a10 a11 a12 a13 a14 a15 : Int) (w : World) (h1 : (bits .and .i64 a12 12 == 0) = z) (h2 : (a8 == 0 && a9 == 0) = q) (h3 : (a8 == a0 && a9 == a1) = s) :
    Calls Try.prog 22 #[.agg #[.int .u64 a0, .int .u64 a1, .int .u64 a2, .int .u64 a3, .int .u64 a4, .int .u64 a5, .int .u64 a6, .int .u64 a7, .int .u64 a8, .int .u64 a9, .int .i64 a10, .int .i64 a11, .int .i64 a12, .int .i64 a13, .int .i64 a14, .int .i64 a15]] w fun e w' => e = .returned (.bool (if z then q else (!q && !s))) ∧ Below w.heap.size w w' := by
  have e1 := num_neq a8 a9 0 0 q h2
  have e2 := num_neq a8 a9 a0 a1 s h3
  clear h2 h3
  cases z <;> cases q <;> cases s
  all_goals
    go_enter Try.func22, Try.ntmps22
    go_wp2
    go_ret
    exact ⟨rfl, below1 _ _⟩

/-- What is wrong with a transfer, by what holds: its ID is 0, its flags are good, PendingID is good, it has a Timeout, it isn't Pending. -/
def trV (z g p t b4 : Bool) : Int := if z then 3 else if !g then 4 else if !p then 18 else if t && b4 then 19 else 0
/-- What is looked at of a transfer. -/
structure Tk (a0 a1 a8 a9 a10 a12 : Int) (z q s t b1 b2 b3 b4 b5 b6 : Bool) : Prop where
  z : (a0 == 0 && a1 == 0) = z
  q : (a8 == 0 && a9 == 0) = q
  s : (a8 == a0 && a9 == a1) = s
  t : (a10 != 0) = t
  fl : Fl a12 b1 b2 b3 b4 b5 b6
def tkV (z q s t b1 b2 b3 b4 b5 b6 : Bool) : Int := trV z (flB b1 b2 b3 b4 b5 b6) (if b6 then q else (!q && !s)) t b4

set_option maxHeartbeats 1000000 in
theorem transfer_any (z q s t b1 b2 b3 b4 b5 b6 : Bool) (a0 a1 a2 a3 a4 a5 a6 a7 a8 a9 a10 a11 a12 a13 a14 a15 : Int) (w : World) (hk : Tk a0 a1 a8 a9 a10 a12 z q s t b1 b2 b3 b4 b5 b6) :
    Calls Try.prog 11 #[.agg #[.int .u64 a0, .int .u64 a1, .int .u64 a2, .int .u64 a3, .int .u64 a4, .int .u64 a5, .int .u64 a6, .int .u64 a7, .int .u64 a8, .int .u64 a9, .int .i64 a10, .int .i64 a11, .int .i64 a12, .int .i64 a13, .int .i64 a14, .int .i64 a15]] w fun e w' => e = .returned (.int .i64 (tkV z q s t b1 b2 b3 b4 b5 b6)) ∧ Below w.heap.size w w' := by
  obtain ⟨hz, hq, hs, ht, hf⟩ := hk
  have e1 := num_eql a0 a1 0 0 z hz
  have h4 := hf.h4
  have H6 : Hid ((bits .and .i64 a12 12 == 0) = b6) := hf.h6
  have HQ : Hid ((a8 == 0 && a9 == 0) = q) := hq
  have HS : Hid ((a8 == a0 && a9 == a1) = s) := hs
  have HF : Hid (Fl a12 b1 b2 b3 b4 b5 b6) := hf
  unfold tkV
  have HG : Hid (∃ g, g = flB b1 b2 b3 b4 b5 b6) := ⟨_, rfl⟩
  obtain ⟨g, hg⟩ := HG.out
  have HP : Hid (∃ p, p = (if b6 then q else (!q && !s))) := ⟨_, rfl⟩
  obtain ⟨p, hp⟩ := HP.out
  have kg := fun w => tfg_any a12 b1 b2 b3 b4 b5 b6 hf w
  have kp := fun w => pg_any b6 q s a0 a1 a2 a3 a4 a5 a6 a7 a8 a9 a10 a11 a12 a13 a14 a15 w H6.out hq hs
  rw [← hg, ← hp]
  rw [← hg] at kg
  rw [← hp] at kp
  have KG := (show Hid _ from kg)
  have KP := (show Hid _ from kp)
  clear hq hs hf hz HG HP hg hp kg kp
  cases z
  · cases g
    · go_enter Try.func11, Try.ntmps11
      go_wp2_with (go_at_call 21; refine (KG.out _).mono ?_; rintro e w' ⟨rfl, rfl⟩)
      go_ret
      exact ⟨rfl, below1 _ _⟩
    · cases p
      · go_enter Try.func11, Try.ntmps11
        go_wp2_with (go_at_call 21; refine (KG.out _).mono ?_; rintro e w' ⟨rfl, rfl⟩)
        refine (KP.out _).mono ?_
        rintro e w1 ⟨rfl, hb1⟩
        go_wp2
        go_ret
        exact ⟨rfl, (below1 _ _).trans (hb1.mono (by simp))⟩
      · have r10 : ∀ w1 : World, Below (w.alloc (.cells #[] 0)).heap.size (w.alloc (.cells #[] 0)) w1 → True := fun _ _ => trivial
        cases t <;> cases b4
        all_goals
          go_enter Try.func11, Try.ntmps11
          go_wp2_with (go_at_call 21; refine (KG.out _).mono ?_; rintro e w' ⟨rfl, rfl⟩)
          refine (KP.out _).mono ?_
          rintro e w1 ⟨rfl, hb1⟩
          have hc : ∀ i, w1.cell? ⟨w.heap.size, i, none⟩ = _ := fun i => hb1.cell (p := ⟨w.heap.size, i, none⟩) (by simp)
          simp only [World.cell?_alloc_new] at hc
          have c10 := hc 10
          have c12 := hc 12
          simp at c10 c12
          clear hc
          go_wp2
          go_ret
          exact ⟨rfl, (below1 _ _).trans (hb1.mono (by simp))⟩
  · go_enter Try.func11, Try.ntmps11
    go_wp2
    go_ret
    exact ⟨rfl, below1 _ _⟩
end Go.Proofs.Ytcflbicjghndoaa
