/-
  The walk of paciolilaw01.U128Bits: it returns true, for every number, and turns nothing that was there.
-/
import Derived.Test.YtcmjinkhfgmgaaaFit
import Derived.Test.YtcmjinkhfgmgaaaBit
namespace Go.Proofs.Ytcmjinkhfgmgaaa
open Go.RowKit

/-- The number, the sum so far and the one, as they lie. -/
structure BitsW (w wr : World) (B S O : Nat) (ah al sh sl : Int) : Prop where
  s0 : 0 ≤ sh
  s1 : sh < 18446744073709551616
  s2 : 0 ≤ sl
  s3 : sl < 18446744073709551616
  a0 : wr.cell? ⟨B, 0, none⟩ = some (.int .u64 ah)
  a1 : wr.cell? ⟨B, 1, none⟩ = some (.int .u64 al)
  c0 : wr.cell? ⟨S, 0, none⟩ = some (.int .u64 sh)
  c1 : wr.cell? ⟨S, 1, none⟩ = some (.int .u64 sl)
  f0 : wr.frozen? ⟨S, 0, none⟩ = false
  f1 : wr.frozen? ⟨S, 1, none⟩ = false
  o0 : wr.cell? ⟨O, 0, none⟩ = some (.int .u64 0)
  o1 : wr.cell? ⟨O, 1, none⟩ = some (.int .u64 1)
  bel : Below w.heap.size w wr
  zB : B < wr.heap.size
  zS : S < wr.heap.size
  zO : O < wr.heap.size
  bs : B < S
  so : S < O
  ws : w.heap.size ≤ S

theorem BitsW.later {w wr w' : World} {B S O : Nat} {ah al sh sl : Int} (h : BitsW w wr B S O ah al sh sl) (hb : Below wr.heap.size wr w') : BitsW w w' B S O ah al sh sl := by
  obtain ⟨s0, s1, s2, s3, a0, a1, c0, c1, f0, f1, o0, o1, bel, zB, zS, zO, bs, so, ws⟩ := h
  have z := hb.size
  exact ⟨s0, s1, s2, s3, (hb.cell (p := ⟨B, 0, none⟩) zB).trans a0, (hb.cell (p := ⟨B, 1, none⟩) zB).trans a1, (hb.cell (p := ⟨S, 0, none⟩) zS).trans c0, (hb.cell (p := ⟨S, 1, none⟩) zS).trans c1,
    (hb.frozen (p := ⟨S, 0, none⟩) zS).trans f0, (hb.frozen (p := ⟨S, 1, none⟩) zS).trans f1, (hb.cell (p := ⟨O, 0, none⟩) zO).trans o0, (hb.cell (p := ⟨O, 1, none⟩) zO).trans o1, chain bel hb, by omega, by omega, by omega, bs, so, ws⟩

theorem BitsW.put {w wr : World} {B S O : Nat} {ah al sh sl : Int} (h : BitsW w wr B S O ah al sh sl) (th tl : Int) (t1 : Word th) (t2 : Word tl) : BitsW w ((wr.setCell ⟨S, 0, none⟩ (.int .u64 th)).setCell ⟨S, 1, none⟩ (.int .u64 tl)) B S O ah al th tl := by
  obtain ⟨s0, s1, s2, s3, a0, a1, c0, c1, f0, f1, o0, o1, bel, zB, zS, zO, bs, so, ws⟩ := h
  have n1 : ¬ B = S := by omega
  have n2 : ¬ O = S := by omega
  refine ⟨t1.1, t1.2, t2.1, t2.2, ?_, ?_, ?_, ?_, ?_, ?_, ?_, ?_, (bel.setCell (by simpa using ws) _).setCell (by simpa using ws) _, by simpa [World.setCell] using zB, by simpa [World.setCell] using zS, by simpa [World.setCell] using zO, bs, so, ws⟩
  · simp [go_sem, a0]
  · simp [go_sem, a1]
  · simp [go_sem, c0]
  · simp [go_sem, c1]
  · simp [go_sem, f0]
  · simp [go_sem, f1]
  · simp [go_sem, o0]
  · simp [go_sem, o1]

theorem half (n : Int) (k : Nat) (h : k < 128) : n / 2 ^ (128 - (k + 1)) = 2 * (n / 2 ^ (128 - k)) + n / 2 ^ (128 - (k + 1)) % 2 := by
  have e : n / 2 ^ (128 - k) = n / 2 ^ (128 - (k + 1)) / 2 := by
    rw [show 128 - k = (128 - (k + 1)) + 1 from by omega, Int.pow_succ, Int.ediv_ediv_of_nonneg (Int.le_of_lt (Int.pow_pos (by decide)))]
  rw [e]
  omega

theorem bits_bd (n : Int) (k : Nat) (h0 : 0 ≤ n) (h1 : n < 340282366920938463463374607431768211456) : 0 ≤ n / 2 ^ k ∧ n / 2 ^ k < 340282366920938463463374607431768211456 := by
  have e : n / 2 ^ k ≤ n := Int.ediv_le_self _ h0
  have e0 : 0 ≤ n / 2 ^ k := Int.ediv_nonneg h0 (Int.le_of_lt (Int.pow_pos (by decide)))
  omega

set_option maxRecDepth 100000 in
set_option maxHeartbeats 4000000 in
theorem law_bits (ah al : Int) (w : World) (h1 : Word ah) (h2 : Word al) :
    Calls Try.prog 12 #[.agg #[.int .u64 ah, .int .u64 al]] w fun e w' => e = .returned (.bool true) ∧ Below w.heap.size w w' := by
  have h1' := h1
  have h2' := h2
  obtain ⟨a1, a2⟩ := h1'
  obtain ⟨b1, b2⟩ := h2'
  go_enter Try.func12, Try.ntmps12
  go_wp2_with fail
  refine (fit_any _).mono ?_
  rintro e w1 ⟨rfl, hb1⟩
  go_wp2_with fail
  refine (of_any _ _).mono ?_
  rintro e w2 ⟨rfl, hb2⟩
  go_wp2_with fail
  have start : BitsW w (w2.alloc (.cells #[.int .u64 0, .int .u64 1] 27)) w.heap.size w1.heap.size w2.heap.size ah al 0 0 := by
    have z1 := hb1.size
    have z2 := hb2.size
    simp at z1 z2
    refine ⟨by decide, by decide, by decide, by decide, ?_, ?_, ?_, ?_, ?_, ?_, ?_, ?_, ?_, by simp; omega, by simp; omega, by simp, by omega, by omega, by omega⟩
    · rw [World.cell?_alloc_past _ _ _ (by omega), hb2.cell (p := ⟨w.heap.size, 0, none⟩) (by simp; omega), World.cell?_alloc_past _ _ _ (by omega), hb1.cell (p := ⟨w.heap.size, 0, none⟩) (by simp)]; simp
    · rw [World.cell?_alloc_past _ _ _ (by omega), hb2.cell (p := ⟨w.heap.size, 1, none⟩) (by simp; omega), World.cell?_alloc_past _ _ _ (by omega), hb1.cell (p := ⟨w.heap.size, 1, none⟩) (by simp)]; simp
    · rw [World.cell?_alloc_past _ _ _ (by omega), hb2.cell (p := ⟨w1.heap.size, 0, none⟩) (by simp)]; simp
    · rw [World.cell?_alloc_past _ _ _ (by omega), hb2.cell (p := ⟨w1.heap.size, 1, none⟩) (by simp)]; simp
    · rw [World.frozen?_alloc_past _ _ _ (by omega), hb2.frozen (p := ⟨w1.heap.size, 0, none⟩) (by simp)]; simp
    · rw [World.frozen?_alloc_past _ _ _ (by omega), hb2.frozen (p := ⟨w1.heap.size, 1, none⟩) (by simp)]; simp
    · simp
    · simp
    · exact chainA (chain (chainA (chain (below1 _ _) hb1) _) hb2) _
  have hS : w.heap.size < w1.heap.size := start.bs
  have hO : w1.heap.size < w2.heap.size := start.so
  generalize w1.heap.size = S at *
  generalize w2.heap.size = O at *
  clear hb1 hb2
  go_loopw [10] (fun i wr => ∃ k : Nat, k ≤ 128 ∧ i = .int .i64 k ∧ ∃ sh sl : Int, Hid (sh * 18446744073709551616 + sl = (ah * 18446744073709551616 + al) / 2 ^ (128 - k)) ∧ BitsW w wr w.heap.size S O ah al sh sl)
    (fun i _ => 128 - (intOf i).toNat)
  case atStart =>
    refine ⟨0, by omega, rfl, 0, 0, ?_, start⟩
    show _ = _
    have : (ah * 18446744073709551616 + al) / 2 ^ 128 = 0 := Int.ediv_eq_zero_of_lt (by omega) (by omega)
    simpa using this.symm
  case round =>
    obtain ⟨k, hk, rfl, sh, sl, R, hr⟩ := hrel
    have s0 := hr.s0
    have s1 := hr.s1
    have s2 := hr.s2
    have s3 := hr.s3
    have p0 := hr.a0
    have p1 := hr.a1
    have c0 := hr.c0
    have c1 := hr.c1
    by_cases hlt : k < 128
    · have bd := bits_bd (ah * 18446744073709551616 + al) (128 - (k + 1)) (by omega) (by omega)
      have hh := half (ah * 18446744073709551616 + al) k hlt
      rw [← R.out] at hh
      have HH := hh
      have H2 : Hid ((ah * 18446744073709551616 + al) / 2 ^ (128 - (k + 1)) = 2 * (sh * 18446744073709551616 + sl) + (ah * 18446744073709551616 + al) / 2 ^ (128 - (k + 1)) % 2) := hh
      generalize hq : (ah * 18446744073709551616 + al) / 2 ^ (128 - (k + 1)) = q at *
      have HQ : Hid ((ah * 18446744073709551616 + al) / 2 ^ (128 - (k + 1)) = q) := hq
      clear hh HH hq
      go_wp2_with fail
      refine (add2_new _ _ _ _ _ _ _ ⟨s0, s1⟩ ⟨s2, s3⟩ ⟨s0, s1⟩ ⟨s2, s3⟩).mono ?_
      rintro e w3 ⟨rfl, hb3⟩
      have hr3 := hr.later hb3
      have z2 := H2.out
      rw [addV_yes (by omega)]
      clear z2
      generalize g1 : (sh * 18446744073709551616 + sl + (sh * 18446744073709551616 + sl)) / 18446744073709551616 = th
      generalize g2 : (sh * 18446744073709551616 + sl + (sh * 18446744073709551616 + sl)) % 18446744073709551616 = tl
      have wth : Word th := by have := H2.out; exact ⟨by omega, by omega⟩
      have wtl : Word tl := ⟨by omega, by omega⟩
      have G : Hid (th * 18446744073709551616 + tl = 2 * (sh * 18446744073709551616 + sl)) := by show _ = _; omega
      clear g1 g2
      have q0 := hr3.c0
      have q1 := hr3.c1
      have f0 := hr3.f0
      have f1 := hr3.f1
      have r0 := hr3.a0
      have r1 := hr3.a1
      go_wp2_with fail
      refine (bit_in ah al _ _ h1 h2 (by omega) (by omega)).mono ?_
      rintro e w4 ⟨rfl, hb4⟩
      have hr4 := (hr3.put th tl wth wtl).later hb4
      clear hr3 q0 q1 f0 f1 r0 r1 hb3 hb4 hr c0 c1 p0 p1
      rw [show (127 - (k : Int)).toNat = 128 - (k + 1) from by omega, HQ.out]
      have q0 := hr4.c0
      have q1 := hr4.c1
      have f0 := hr4.f0
      have f1 := hr4.f1
      have e0 := hr4.o0
      have e1 := hr4.o1
      by_cases hbit : q % 2 = 1
      · have tb : (q % 2 == 1) = true := by simp [hbit]
        have HB : Hid (q % 2 = 1) := hbit
        clear hbit
        go_wp2_with fail
        refine (add2_new _ _ _ _ _ _ _ wth wtl word_zero word_one).mono ?_
        rintro e w5 ⟨rfl, hb5⟩
        have z2 := H2.out
        have z3 := G.out
        have z4 := HB.out
        rw [addV_yes (by omega)]
        generalize g1 : (th * 18446744073709551616 + tl + (0 * 18446744073709551616 + 1)) / 18446744073709551616 = uh
        generalize g2 : (th * 18446744073709551616 + tl + (0 * 18446744073709551616 + 1)) % 18446744073709551616 = ul
        have wuh : Word uh := by exact ⟨by omega, by omega⟩
        have wul : Word ul := ⟨by omega, by omega⟩
        have G2 : Hid (uh * 18446744073709551616 + ul = q) := by show _ = _; omega
        clear g1 g2 z2 z3 z4
        have hr5 := hr4.later hb5
        clear q0 q1 f0 f1 e0 e1 hr4
        have q0 := hr5.c0
        have q1 := hr5.c1
        have f0 := hr5.f0
        have f1 := hr5.f1
        go_wp2
        go_roundw
        case rel => exact ⟨k + 1, by omega, by go_num, uh, ul, by show _ = _; rw [HQ.out]; exact G2.out, hr5.put uh ul wuh wul⟩
        case measure => simp [intOf]; omega
      · have tb : (q % 2 == 1) = false := by simp [hbit]
        have HB : Hid (q % 2 = 0) := by show _ = _; omega
        clear hbit
        go_wp2
        go_roundw
        case rel => exact ⟨k + 1, by omega, by go_num, th, tl, by show _ = _; rw [HQ.out]; have := H2.out; have := G.out; have := HB.out; omega, hr4⟩
        case measure => simp [intOf]; omega
    · obtain rfl : k = 128 := by omega
      have hR := R.out
      simp at hR
      obtain ⟨rfl, rfl⟩ : sh = ah ∧ sl = al := by omega
      clear hR
      go_wp2
      go_ret
      exact ⟨rfl, hr.bel⟩
end Go.Proofs.Ytcmjinkhfgmgaaa
