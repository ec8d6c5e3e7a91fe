
/-
  u128.Print: the decimal digits of any number.
-/
import Derived.Test.YtekpkbmelhgneaaDiv
import Derived.Test.YtekpkbmelhgneaaDec
import Derived.Laws.BytesArg
namespace Go.Proofs.Ytekpkbmelhgneaa
open Go.RowKit

/-- What holds ahead of each round of Print's loop: p cells are free; what is left of the number; the digits behind. -/
structure PR (w wr : World) (n p : Nat) (hi lo : Int) (ds : List Int) : Prop where
  p39 : p ≤ 39
  h0 : 0 ≤ hi
  h1 : hi < 18446744073709551616
  l0 : 0 ≤ lo
  l1 : lo < 18446744073709551616
  c0 : wr.cell? ⟨w.heap.size, 0, none⟩ = some (.int .u64 hi)
  c1 : wr.cell? ⟨w.heap.size, 1, none⟩ = some (.int .u64 lo)
  f0 : wr.frozen? ⟨w.heap.size, 0, none⟩ = false
  f1 : wr.frozen? ⟨w.heap.size, 1, none⟩ = false
  X : ∀ j, j < 39 → (∃ v, wr.cell? ⟨w.heap.size + 1, j, none⟩ = some v) ∧ wr.frozen? ⟨w.heap.size + 1, j, none⟩ = false
  L : ds.length = 39 - p
  D : ∀ i, i < 39 - p → wr.cell? ⟨w.heap.size + 1, p + i, none⟩ = some (.int .u8 (ds.getD i 0))
  R : (p = 39 ∧ (hi * 18446744073709551616 + lo).toNat = n) ∨ (p < 39 ∧ dec n = dT p (hi * 18446744073709551616 + lo).toNat ++ ds)
  B : (hi * 18446744073709551616 + lo).toNat < 10 ^ p
  bel : Below w.heap.size w wr
  z : w.heap.size + 1 < wr.heap.size

/-- One round: the last digit of what is left goes ahead of those that are there. -/
theorem PR.step {w wr w1 : World} {n p : Nat} {hi lo : Int} {ds : List Int} (h : PR w wr n (p + 1) hi lo ds) (hb : Below wr.heap.size wr w1) (hc : p = 38 ∨ (hi * 18446744073709551616 + lo) ≠ 0) :
    PR w (((w1.setCell ⟨w.heap.size, 0, none⟩ (.int .u64 (hi / 10))).setCell ⟨w.heap.size, 1, none⟩ (.int .u64 ((hi % 10 * 18446744073709551616 + lo) / 10))).setCell ⟨w.heap.size + 1, p, none⟩ (.int .u8 (48 + (hi % 10 * 18446744073709551616 + lo) % 10)))
      n p (hi / 10) ((hi % 10 * 18446744073709551616 + lo) / 10) ((48 + (hi % 10 * 18446744073709551616 + lo) % 10) :: ds) := by
  obtain ⟨p39, h0, h1, l0, l1, c0, c1, f0, f1, X, L, D, R, B, bel, z⟩ := h
  have z' : w.heap.size < wr.heap.size := by omega
  have d0 := (hb.cell (p := ⟨w.heap.size, 0, none⟩) z').trans c0
  have d1 := (hb.cell (p := ⟨w.heap.size, 1, none⟩) z').trans c1
  have e0 := (hb.frozen (p := ⟨w.heap.size, 0, none⟩) z').trans f0
  have e1 := (hb.frozen (p := ⟨w.heap.size, 1, none⟩) z').trans f1
  have dj := fun j => hb.cell (p := ⟨w.heap.size + 1, j, none⟩) z
  have ej := fun j => hb.frozen (p := ⟨w.heap.size + 1, j, none⟩) z
  have hz1 := hb.size
  have em : (hi * 18446744073709551616 + lo).toNat / 10 = (hi / 10 * 18446744073709551616 + (hi % 10 * 18446744073709551616 + lo) / 10).toNat := by omega
  have ed : ((48 + (hi * 18446744073709551616 + lo).toNat % 10 : Nat) : Int) = 48 + (hi % 10 * 18446744073709551616 + lo) % 10 := by omega
  refine ⟨by omega, by omega, by omega, by omega, by omega, ?_, ?_, ?_, ?_, ?_, ?_, ?_, ?_, ?_, ?_, ?_⟩
  · simp [go_sem, d0]
  · simp [go_sem, d1]
  · simp [go_sem, e0]
  · simp [go_sem, e1]
  · intro j hj
    obtain ⟨⟨v, hv⟩, hf⟩ := X j hj
    have dv := (dj j).trans hv
    have ev := (ej j).trans hf
    by_cases hjp : j = p
    · subst hjp
      exact ⟨⟨_, by simp [go_sem, dv]; rfl⟩, by simp [go_sem, ev]⟩
    · exact ⟨⟨v, by simp [go_sem, dv]⟩, by simp [go_sem, ev]⟩
  · simp [L]; omega
  · intro i hi'
    cases i with
    | zero =>
      obtain ⟨⟨v, hv⟩, hf⟩ := X p (by omega)
      have dv := (dj p).trans hv
      simp [go_sem, dv]
    | succ i =>
      have dv := (dj (p + 1 + i)).trans (D i (by omega))
      rw [show p + (i + 1) = p + 1 + i from by omega]
      simp [go_sem, dv]
  · right
    refine ⟨by omega, ?_⟩
    rw [← em, ← ed]
    rcases R with ⟨hp, hn⟩ | ⟨hp, hn⟩
    · obtain rfl : p = 38 := by omega
      have : ds = [] := by apply List.eq_nil_of_length_eq_zero; omega
      subst this
      rw [hn]
      exact dec_first n
    · have hm : (hi * 18446744073709551616 + lo).toNat ≠ 0 := by omega
      exact dec_more hn hm B
  · rw [← em]
    rw [Nat.pow_succ] at B
    omega
  · exact (((bel.trans (hb.mono (by omega))).setCell (by simp) _).setCell (by simp) _).setCell (by simp) _
  · simp [World.setCell]; omega

theorem slice39 (b p : Nat) (wr : World) (h : p < 39) : (Instr.sliceAt 89 (.pointer (some ⟨b, 0, none⟩)) (some (.int .i64 p)) none none).run Try.prog wr = .ok (.slice (some ⟨b, p, none⟩) (39 - p) (39 - p)) wr := by
  have hl : Try.prog.arrayLen 89 = 39 := by kernel_rfl
  have he : (sizeOf (Try.prog.elem 89)).run Try.prog wr = .ok 1 wr := by kernel_rfl
  rw [run_sliceAt_array_l wr 89 ⟨b, 0, none⟩ (by kernel_rfl) .i64 p (by omega) (by rw [hl]; omega), he, hl]
  have : ¬ (39 = p) := by omega
  simp [Result.andThen, slicedAt, Addr.add, this]
  omega

set_option maxHeartbeats 2000000 in
theorem print_any (ah al : Int) (w : World) (h1 : Word ah) (h2 : Word al) :
    Calls Try.prog 32 #[.agg #[.int .u64 ah, .int .u64 al]] w fun e w' =>
      e = .returned (.string (strOfNums (dec (ah * 18446744073709551616 + al).toNat))) ∧ Below w.heap.size w w' := by
  obtain ⟨a1, a2⟩ := h1
  obtain ⟨b1, b2⟩ := h2
  obtain ⟨n, hn⟩ : ∃ n : Nat, n = (ah * 18446744073709551616 + al).toNat := ⟨_, rfl⟩
  rw [← hn]
  have HN : Hid (n = (ah * 18446744073709551616 + al).toNat) := hn
  clear hn
  go_enter Try.func32, Try.ntmps32
  go_wp2
  go_loopw [4] (fun i wr => ∃ p : Nat, i = .int .i64 p ∧ ∃ (hi lo : Int) (ds : List Int), PR w wr n p hi lo ds)
    (fun i _ => (intOf i).toNat)
  case atStart =>
    refine ⟨39, rfl, ah, al, [], by omega, a1, a2, b1, b2, ?_, ?_, ?_, ?_, ?_, rfl, ?_, ?_, ?_, below2 _ _ _, by simp⟩
    · simp [go_sem]
    · simp [go_sem]
    · simp [go_sem]
    · simp [go_sem]
    · intro j hj
      exact ⟨⟨_, (World.cell?_alloc2_new _ _ _ _).trans (Array.getElem?_eq_getElem (by simpa using hj))⟩, by simp [go_sem]⟩
    · intro i hi; omega
    · exact Or.inl ⟨rfl, HN.out.symm⟩
    · have : (ah * 18446744073709551616 + al).toNat < 340282366920938463463374607431768211456 := by omega
      exact Nat.lt_of_lt_of_le this (by decide)
  case round =>
    obtain ⟨p, rfl, hi, lo, ds, hr⟩ := hrel
    have g1 := hr.h0
    have g2 := hr.h1
    have g3 := hr.l0
    have g4 := hr.l1
    have q0 := hr.c0
    have q1 := hr.c1
    have f0 := hr.f0
    have f1 := hr.f1
    have hp := hr.p39
    have hz := hr.z
    have hz' : w.heap.size < wr.heap.size := by omega
    by_cases hc : p = 39 ∨ (hi * 18446744073709551616 + lo) ≠ 0
    · obtain ⟨p', rfl⟩ : ∃ p', p = p' + 1 := by
        match p with
        | 0 => have := hr.B; simp at this; omega
        | p + 1 => exact ⟨p, rfl⟩
      obtain ⟨⟨v, hv⟩, hfv⟩ := hr.X p' (by omega)
      have fin := fun w1 hb => hr.step (w1 := w1) hb (by omega)
      have HF := fin
      have H2 : Hid (∀ w1, Below wr.heap.size wr w1 → PR w (((w1.setCell ⟨w.heap.size, 0, none⟩ (.int .u64 (hi / 10))).setCell ⟨w.heap.size, 1, none⟩ (.int .u64 ((hi % 10 * 18446744073709551616 + lo) / 10))).setCell ⟨w.heap.size + 1, p', none⟩ (.int .u8 (48 + (hi % 10 * 18446744073709551616 + lo) % 10)))
        n p' (hi / 10) ((hi % 10 * 18446744073709551616 + lo) / 10) ((48 + (hi % 10 * 18446744073709551616 + lo) % 10) :: ds)) := fin
      clear fin HF
      have tst : ∃ b1 b2 b3 : Bool, ((p' : Int) + 1 == 39) = b1 ∧ (hi == 0) = b2 ∧ (lo == 0) = b3 ∧ (b1 = true ∨ (b2 && b3) = false) := by
        refine ⟨_, _, _, rfl, rfl, rfl, ?_⟩
        by_cases h39 : (p' : Int) + 1 = 39
        · simp [h39]
        · right
          by_cases h0 : hi = 0
          · subst h0; simp; omega
          · simp [h0]
      obtain ⟨b1', b2', b3', t1, t2, t3, t4⟩ := tst
      clear hc
      cases b1' <;> cases b2' <;> cases b3' <;> simp at t4
      all_goals
        go_wp2_with fail
        refine (cut_any hi lo _ ⟨g1, g2⟩ ⟨g3, g4⟩).mono ?_
        rintro e w1 ⟨rfl, hb⟩
        have d0 := (hb.cell (p := ⟨w.heap.size, 0, none⟩) hz').trans q0
        have d1 := (hb.cell (p := ⟨w.heap.size, 1, none⟩) hz').trans q1
        have e0 := (hb.frozen (p := ⟨w.heap.size, 0, none⟩) hz').trans f0
        have e1 := (hb.frozen (p := ⟨w.heap.size, 1, none⟩) hz').trans f1
        have dv := (hb.cell (p := ⟨w.heap.size + 1, p', none⟩) hz).trans hv
        have ev := (hb.frozen (p := ⟨w.heap.size + 1, p', none⟩) hz).trans hfv
        go_wp2
        go_roundw
        case rel => exact ⟨p', by go_num, _, _, _, H2.out w1 hb⟩
        case measure => simp [intOf]
    · have k39 : ((p : Int) == 39) = false := by simp; omega
      obtain ⟨rfl, rfl⟩ : hi = 0 ∧ lo = 0 := by omega
      have hcv := run_convert_bytes_arg (P := Try.prog) wr 32 5 Try.underlying32 Try.underlying5 (w.heap.size + 1) p (39 - p) (39 - p) ds hr.L hr.D 9 Try.underlying9
      have hsl := slice39 (w.heap.size + 1) p wr (by omega)
      have HR : Hid (dec n = ds) := by
        rcases hr.R with ⟨hp', _⟩ | ⟨_, hn⟩
        · omega
        · show dec n = ds; simpa [dT_zero] using hn
      clear hc
      go_wp2
      go_ret
      rw [HR.out]
      exact ⟨rfl, hr.bel⟩
end Go.Proofs.Ytekpkbmelhgneaa
