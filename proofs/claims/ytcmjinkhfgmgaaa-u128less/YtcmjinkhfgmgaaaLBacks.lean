/-
  The walk of paciolilaw01.U128Backs: it returns true, for every slice of numbers, and turns nothing that was there.
-/
import Derived.Test.YtcmjinkhfgmgaaaLLeast
import Derived.Deep.RegionWith
namespace Go.Proofs.Ytcmjinkhfgmgaaa
open Go.RowKit

/-- Sub, by values. -/
theorem sub_val (ah al bh bl dh dl : Int) (h1 : Word ah) (h2 : Word al) (h3 : Word bh) (h4 : Word bl) (h5 : Word dh) (h6 : Word dl) (h : ah * 18446744073709551616 + al = bh * 18446744073709551616 + bl + (dh * 18446744073709551616 + dl)) (w : World) :
    Calls Try.prog 16 #[.agg #[.int .u64 ah, .int .u64 al], .agg #[.int .u64 bh, .int .u64 bl]] w fun e w' =>
      e = .returned (.tuple #[.agg #[.int .u64 dh, .int .u64 dl], .bool true]) ∧ Below w.heap.size w w' := by
  have hb : bor al bl = 0 ∨ bor al bl = 1 := by unfold bor; split <;> simp
  have hlt : ltB ah al bh bl = false := by
    obtain ⟨_, _⟩ := h1; obtain ⟨_, _⟩ := h2; obtain ⟨_, _⟩ := h3; obtain ⟨_, _⟩ := h4; obtain ⟨_, _⟩ := h5; obtain ⟨_, _⟩ := h6
    apply decide_eq_false
    unfold bor
    split <;> omega
  refine (sub_yes ah al bh bl h1 h2 h3 h4 hlt w).mono ?_
  rintro e w' ⟨rfl, hb⟩
  refine ⟨cells_eq ?_ ?_, hb⟩
  · obtain ⟨_, _⟩ := h1; obtain ⟨_, _⟩ := h2; obtain ⟨_, _⟩ := h3; obtain ⟨_, _⟩ := h4; obtain ⟨_, _⟩ := h5; obtain ⟨_, _⟩ := h6
    unfold bor; split <;> omega
  · obtain ⟨_, _⟩ := h1; obtain ⟨_, _⟩ := h2; obtain ⟨_, _⟩ := h3; obtain ⟨_, _⟩ := h4; obtain ⟨_, _⟩ := h5; obtain ⟨_, _⟩ := h6
    omega

set_option maxRecDepth 100000 in
set_option maxHeartbeats 4000000 in
theorem law_backs (a : Option Addr) (n cap : Nat) (H L : Nat → Int) (w : World) (hn : Nums w a n H L) :
    Calls Try.prog 11 #[.slice a n cap] w fun e w' => e = .returned (.bool true) ∧ Below w.heap.size w w' := by
  have hm := hn.1
  unfold maxLen at hm
  have HN : Hid (Nums w a n H L) := hn
  clear hn
  by_cases h60 : (60 : Int) < (n : Int)
  · go_enter Try.func11, Try.ntmps11
    go_wp2_with fail
    refine (fit_any _).mono ?_
    rintro e w1 ⟨rfl, hb1⟩
    go_wp2
    go_ret
    exact ⟨rfl, hb1⟩
  · go_enter Try.func11, Try.ntmps11
    go_wp2_with fail
    refine (fit_any _).mono ?_
    rintro e w1 ⟨rfl, hb1⟩
    go_wp2_with fail
    refine (add_any a n cap H L w1 (NumsIn.later HN.out hb1)).mono ?_
    rintro e w2 ⟨rfl, hb2⟩
    have bel2 := chain hb1 hb2
    clear hb1 hb2
    by_cases hs : sumTo H L n < 340282366920938463463374607431768211456
    · rw [addV_yes hs]
      have s0 := sumTo_nonneg (NumsIn.words HN.out) n (Nat.le_refl _)
      generalize g1 : sumTo H L n / 18446744073709551616 = sh
      generalize g2 : sumTo H L n % 18446744073709551616 = sl
      have wh : Word sh := ⟨by omega, by omega⟩
      have wl : Word sl := ⟨by omega, by omega⟩
      have G : Hid (sh * 18446744073709551616 + sl = sumTo H L n) := by show _ = _; omega
      clear g1 g2 hs s0
      go_wp2_with fail
      go_loopw [5] (fun i wr => ∃ k : Nat, k ≤ n ∧ i = .int .i64 ((k : Int) - 1) ∧ ∃ sh sl : Int, Hid (Word sh) ∧ Hid (Word sl) ∧ Hid (sh * 18446744073709551616 + sl = sumTo H L k) ∧ NumAt wr w2.heap.size sh sl ∧ wr.frozen? ⟨w2.heap.size, 0, none⟩ = false ∧ wr.frozen? ⟨w2.heap.size, 1, none⟩ = false ∧ Below w.heap.size w wr)
        (fun i _ => (intOf i + 1).toNat)
      case atStart => exact ⟨n, Nat.le_refl _, by first | rfl | go_num, sh, sl, wh, wl, G, ⟨by simp, World.cell?_alloc_new .., World.cell?_alloc_new ..⟩, by simp, by simp, chainA bel2 _⟩
      case round =>
        obtain ⟨k, hk, rfl, sh, sl, wh, wl, G, ⟨hz, q0, q1⟩, f0, f1, bel⟩ := hrel
        match k, hk, G with
        | k + 1, hk, G =>
          obtain ⟨bb, off, rfl, hbb, c0, c1, u1, u2⟩ := HN.out.2 k (by omega)
          have d0 := (bel.cell (p := ⟨bb, off + k * 2, none⟩) hbb).trans c0
          have d1 := (bel.cell (p := ⟨bb, off + k * 2 + 1, none⟩) hbb).trans c1
          clear c0 c1
          rw [show (((k + 1 : Nat) : Int) - 1) = (k : Int) from by omega]
          have s0 := sumTo_nonneg (NumsIn.words HN.out) k (by omega)
          obtain ⟨dh, dl, wdh, wdl, D⟩ : ∃ dh dl : Int, Word dh ∧ Word dl ∧ dh * 18446744073709551616 + dl = sumTo H L k := by
            have g := G.out
            simp only [sumTo] at g
            obtain ⟨_, _⟩ := wh.out; obtain ⟨_, _⟩ := wl.out; obtain ⟨_, _⟩ := u1; obtain ⟨_, _⟩ := u2
            exact ⟨sumTo H L k / 18446744073709551616, sumTo H L k % 18446744073709551616, ⟨by omega, by omega⟩, ⟨by omega, by omega⟩, by omega⟩
          have HD : Hid (dh * 18446744073709551616 + dl = sumTo H L k) := D
          have HS : Hid (sh * 18446744073709551616 + sl = H k * 18446744073709551616 + L k + (dh * 18446744073709551616 + dl)) := by
            have g := G.out; simp only [sumTo] at g; show _ = _; omega
          clear D s0
          go_wp2_with fail
          go_region_with (first | (go_at_call 16; refine (sub_val sh sl (H k) (L k) dh dl wh.out wl.out u1 u2 wdh wdl HS.out _).mono ?_; rintro e w3 ⟨rfl, hb3⟩; have p0 := (hb3.cell (p := ⟨w2.heap.size, 0, none⟩) hz).trans q0; have p1 := (hb3.cell (p := ⟨w2.heap.size, 1, none⟩) hz).trans q1; have e0 := (hb3.frozen (p := ⟨w2.heap.size, 0, none⟩) hz).trans f0; have e1 := (hb3.frozen (p := ⟨w2.heap.size, 1, none⟩) hz).trans f1))
          all_goals
            go_wp2
            go_roundw
            case rel =>
              refine ⟨k, by omega, by first | rfl | go_num, dh, dl, wdh, wdl, HD, ⟨?_, ?_, ?_⟩, ?_, ?_, ?_⟩
              · have := hb3.size; have : wr.drew.heap.size = wr.heap.size := rfl; simp [World.setCell]; omega
              · simp [go_sem, *]
              · simp [go_sem, *]
              · simp [go_sem, *]
              · simp [go_sem, *]
              · exact ((chain bel.drew hb3).setCell (by have := bel2.size; simpa using this) _).setCell (by have := bel2.size; simpa using this) _
            case measure => simp [intOf]
        | 0, hk, G =>
          obtain ⟨rfl, rfl⟩ : sh = 0 ∧ sl = 0 := by
            have g := G.out
            simp only [sumTo] at g
            obtain ⟨_, _⟩ := wh.out; obtain ⟨_, _⟩ := wl.out
            omega
          go_wp2
          go_ret
          exact ⟨rfl, bel⟩
    · rw [addV_no hs]
      clear hs
      go_wp2
      go_ret
      exact ⟨rfl, chainA bel2 _⟩
end Go.Proofs.Ytcmjinkhfgmgaaa
