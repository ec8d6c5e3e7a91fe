/-
  The walk of paciolilaw01.U128Sums: it returns true, for every slice of numbers, and turns nothing that was there.
-/
import Derived.Test.YtcmjinkhfgmgaaaDigits
import Derived.Test.YtcmjinkhfgmgaaaLLeast
import Derived.Deep.RegionHeld3
namespace Go.Proofs.Ytcmjinkhfgmgaaa
open Go.RowKit

/-! ### Plain: adding, byte by byte -/
theorem add_div3 (T x B : Nat) (hB : 0 < B) : (T + x) / B = T / B + x / B + (T % B + x % B) / B := by
  have e : T + x = B * (T / B + x / B) + (T % B + x % B) := by
    have h1 := Nat.div_add_mod T B
    have h2 := Nat.div_add_mod x B
    rw [Nat.mul_add]; omega
  rw [e, Nat.mul_add_div hB]

theorem carry_next (T x B : Nat) (hB : 0 < B) : (T % (B * 256) + x % (B * 256)) / (B * 256) = (T / B % 256 + x / B % 256 + (T % B + x % B) / B) / 256 := by
  rw [Nat.mod_mul, Nat.mod_mul, ← Nat.div_div_eq_div_mul]
  have e : T % B + B * (T / B % 256) + (x % B + B * (x / B % 256)) = B * (T / B % 256 + x / B % 256) + (T % B + x % B) := by rw [Nat.mul_add]; omega
  rw [e, Nat.mul_add_div hB]

theorem byte_next (T x B : Nat) (hB : 0 < B) : (T + x) / B % 256 = (T / B % 256 + x / B % 256 + (T % B + x % B) / B) % 256 := by
  rw [add_div3 T x B hB]; omega

/-- Byte j of a number. -/
def by8 (T j : Nat) : Nat := T / 256 ^ j % 256
/-- What is carried into byte j. -/
def car (T x j : Nat) : Nat := (T % 256 ^ j + x % 256 ^ j) / 256 ^ j
theorem car_zero (T x : Nat) : car T x 0 = 0 := by simp [car, Nat.mod_one]
theorem car_succ (T x j : Nat) : car T x (j + 1) = (by8 T j + by8 x j + car T x j) / 256 := by
  unfold car by8; rw [Nat.pow_succ]; exact carry_next T x _ (Nat.pow_pos (by decide))
theorem by8_add (T x j : Nat) : by8 (T + x) j = (by8 T j + by8 x j + car T x j) % 256 := by
  unfold car by8; exact byte_next T x _ (Nat.pow_pos (by decide))
theorem by8_lt (T j : Nat) : by8 T j < 256 := Nat.mod_lt _ (by decide)
theorem car_le (T x j : Nat) : car T x j ≤ 1 := by
  unfold car
  have hp : 0 < 256 ^ j := Nat.pow_pos (by decide)
  have h1 := Nat.mod_lt T hp
  have h2 := Nat.mod_lt x hp
  have : (T % 256 ^ j + x % 256 ^ j) / 256 ^ j < 2 := Nat.div_lt_of_lt_mul (by omega)
  omega
theorem by8_inj {a b : Nat} (h : ∀ j, j < 17 → by8 a j = by8 b j) (ha : a < 256 ^ 17) (hb : b < 256 ^ 17) : a = b := by
  have key : ∀ k, k ≤ 17 → a % 256 ^ k = b % 256 ^ k := by
    intro k
    induction k with
    | zero => intro _; simp [Nat.mod_one]
    | succ k ih =>
      intro hk
      have h1 := ih (by omega)
      have h2 := h k (by omega)
      unfold by8 at h2
      rw [Nat.pow_succ, Nat.mod_mul, Nat.mod_mul, h1, h2]
  have := key 17 (Nat.le_refl _)
  rwa [Nat.mod_eq_of_lt ha, Nat.mod_eq_of_lt hb] at this

/-- The digits of a number of two words are the number's bytes. -/
theorem dK_by8 (ah al : Int) (j : Nat) (h1 : Word ah) (h2 : Word al) (hj : j < 17) : dK ah al 8 j = ((by8 (ah * 18446744073709551616 + al).toNat j : Nat) : Int) := by
  obtain ⟨a1, a2⟩ := h1
  obtain ⟨b1, b2⟩ := h2
  obtain ⟨a, rfl⟩ := Int.eq_ofNat_of_zero_le a1
  obtain ⟨b, rfl⟩ := Int.eq_ofNat_of_zero_le b1
  have e : ((a : Int) * 18446744073709551616 + b).toNat = a * 18446744073709551616 + b := by omega
  rw [e]
  unfold dK by8
  by_cases c1 : j < 8
  · rw [if_pos c1, if_pos c1]
    have e2 : (18446744073709551616 : Nat) = 256 ^ j * 256 ^ (7 - j) * 256 := by
      rw [← Nat.pow_add, show j + (7 - j) = 7 from by omega]
    have e3 : (a * 18446744073709551616 + b) / 256 ^ j = a * 256 ^ (7 - j) * 256 + b / 256 ^ j := by
      rw [e2, show a * (256 ^ j * 256 ^ (7 - j) * 256) = 256 ^ j * (a * 256 ^ (7 - j) * 256) from by rw [Nat.mul_assoc (256 ^ j), Nat.mul_left_comm, Nat.mul_assoc a], Nat.mul_add_div (Nat.pow_pos (by decide))]
    rw [e3]
    have e4 : ((b : Int) / 256 ^ j) = ((b / 256 ^ j : Nat) : Int) := by simp
    rw [e4]
    omega
  · rw [if_neg c1]
    by_cases c2 : j < 16
    · rw [if_pos c2, if_pos (by omega)]
      have e3 : (a * 18446744073709551616 + b) / 256 ^ j = a / 256 ^ (j - 8) := by
        rw [show j = 8 + (j - 8) from by omega, Nat.pow_add, ← Nat.div_div_eq_div_mul, show 8 + (j - 8) - 8 = j - 8 from by omega]
        congr 1
        have : (256 : Nat) ^ 8 = 18446744073709551616 := by decide
        omega
      rw [e3]
      simp
    · rw [if_neg c2]
      obtain rfl : j = 16 := by omega
      have : (256 : Nat) ^ 16 = 340282366920938463463374607431768211456 := by decide
      omega

theorem digs_index (ah al : Int) (k : Nat) (h : k < 17) (w : World) : (Instr.index 24 (.agg (digs ah al 8).toArray) (.int .i64 k)).run Try.prog w = .ok (.int .i64 (dK ah al 8 k)) w :=
  match k, h with
  | 0, _ => by kernel_rfl
  | 1, _ => by kernel_rfl
  | 2, _ => by kernel_rfl
  | 3, _ => by kernel_rfl
  | 4, _ => by kernel_rfl
  | 5, _ => by kernel_rfl
  | 6, _ => by kernel_rfl
  | 7, _ => by kernel_rfl
  | 8, _ => by kernel_rfl
  | 9, _ => by kernel_rfl
  | 10, _ => by kernel_rfl
  | 11, _ => by kernel_rfl
  | 12, _ => by kernel_rfl
  | 13, _ => by kernel_rfl
  | 14, _ => by kernel_rfl
  | 15, _ => by kernel_rfl
  | 16, _ => by kernel_rfl
  | _ + 17, h => absurd h (by omega)

theorem and255 (v : Nat) (h : v < 65536) : bits BinOp.and IntKind.i64 (v : Int) 255 = ((v % 256 : Nat) : Int) := by
  have h1 : (BitVec.ofInt 64 (v : Int)).toNat = v := by
    rw [BitVec.ofInt_natCast, BitVec.toNat_ofNat]; exact Nat.mod_eq_of_lt (by omega)
  have h2 : (BitVec.ofInt 64 255).toNat = 255 := by decide
  show IntKind.i64.wrap ((BitVec.ofInt 64 (v : Int) &&& BitVec.ofInt 64 255).toNat : Int) = _
  have e2 : v &&& 255 = v % 256 := Nat.and_two_pow_sub_one_eq_mod v 8
  rw [BitVec.toNat_and, h1, h2, e2, IntKind.wrap_i64]
  omega

set_option maxRecDepth 100000 in
set_option maxHeartbeats 1000000 in
theorem eq17 (x0 x1 x2 x3 x4 x5 x6 x7 x8 x9 x10 x11 x12 x13 x14 x15 x16 : Int) (w : World) : (Op.equalIn 10000 24 (.agg #[.int .i64 x0, .int .i64 x1, .int .i64 x2, .int .i64 x3, .int .i64 x4, .int .i64 x5, .int .i64 x6, .int .i64 x7, .int .i64 x8, .int .i64 x9, .int .i64 x10, .int .i64 x11, .int .i64 x12, .int .i64 x13, .int .i64 x14, .int .i64 x15, .int .i64 x16]) (.agg #[.int .i64 x0, .int .i64 x1, .int .i64 x2, .int .i64 x3, .int .i64 x4, .int .i64 x5, .int .i64 x6, .int .i64 x7, .int .i64 x8, .int .i64 x9, .int .i64 x10, .int .i64 x11, .int .i64 x12, .int .i64 x13, .int .i64 x14, .int .i64 x15, .int .i64 x16])).run Try.prog w = .ok true w := by
  have u3 := Try.underlying3
  have a3 := Try.isAgg3
  have z3 := Try.sizeOf3
  rw [show (10000 : Nat) = 9999 + 1 from rfl, Op.equalIn]
  simp only [Sem.run_bind, run_underlying Try.underlying24, Result.andThen_ok]
  simp only [Std.Legacy.Range.forIn_eq_forIn_range', Std.Legacy.Range.size, Nat.sub_zero, Nat.add_sub_cancel, Nat.div_one, List.range'_succ, List.range'_zero, List.forIn_cons, List.forIn_nil]
  go_simp
theorem digs_eq (ah al : Int) (w : World) : (Op.equalIn 10000 24 (.agg (digs ah al 8).toArray) (.agg (digs ah al 8).toArray)).run Try.prog w = .ok true w :=
  eq17 _ _ _ _ _ _ _ _ _ _ _ _ _ _ _ _ _ w

/-- A row of seventeen bytes, at one place of the adding: below j those of the sum, from j on the elder ones. -/
structure SumR (w wr : World) (S T x j : Nat) : Prop where
  d : ∀ m, m < 17 → wr.cell? ⟨S, m, none⟩ = some (.int .i64 ((by8 (if m < j then T + x else T) m : Nat) : Int)) ∧ wr.frozen? ⟨S, m, none⟩ = false
  bel : Below w.heap.size w wr
  z : S < wr.heap.size
  ws : w.heap.size ≤ S

theorem SumR.later {w wr w' : World} {S T x j : Nat} (h : SumR w wr S T x j) (hb : Below wr.heap.size wr w') : SumR w w' S T x j :=
  ⟨fun m hm => ⟨(hb.cell (p := ⟨S, m, none⟩) h.z).trans (h.d m hm).1, (hb.frozen (p := ⟨S, m, none⟩) h.z).trans (h.d m hm).2⟩, chain h.bel hb, Nat.lt_of_lt_of_le h.z hb.size, h.ws⟩

theorem SumR.step {w wr : World} {S T x j tj xj cj : Nat} (h : SumR w wr S T x j) (hj : j < 17) (e : by8 (T + x) j = (tj + xj + cj) % 256) (b1 : tj < 256) (b2 : xj < 256) (b3 : cj ≤ 1) :
    SumR w ((wr.setCell ⟨S, j, none⟩ (.int .i64 ((tj : Int) + ((xj : Int) + (cj : Int))))).setCell ⟨S, j, none⟩ (.int .i64 (bits BinOp.and IntKind.i64 ((tj : Int) + ((xj : Int) + (cj : Int))) 255))) S T x (j + 1) := by
  obtain ⟨d, bel, z, ws⟩ := h
  have e2 : ((tj : Int) + ((xj : Int) + (cj : Int))) = ((tj + xj + cj : Nat) : Int) := by omega
  rw [e2, and255 _ (by omega), ← e]
  refine ⟨fun m hm => ?_, (bel.setCell (by simpa using ws) _).setCell (by simpa using ws) _, by simpa [World.setCell] using z, ws⟩
  obtain ⟨d0, d1⟩ := d m hm
  refine ⟨?_, by simp [go_sem, d1]⟩
  by_cases hmj : m = j
  · subst hmj
    rw [if_pos (by omega)]
    simp [go_sem, d0]
  · have n1 : (⟨S, m, none⟩ : Addr) ≠ ⟨S, j, none⟩ := fun h => hmj (by cases h; rfl)
    have e3 : (if m < j + 1 then T + x else T) = (if m < j then T + x else T) := by
      by_cases c : m < j
      · rw [if_pos c, if_pos (by omega)]
      · rw [if_neg c, if_neg (by omega)]
    rw [e3]
    simp [go_sem, d0]

theorem sumTo_le {H L : Nat → Int} {n : Nat} (h : ∀ i, i < n → Word (H i) ∧ Word (L i)) (k : Nat) (hk : k ≤ n) : sumTo H L k ≤ k * 340282366920938463463374607431768211456 := by
  induction k with
  | zero => simp [sumTo]
  | succ k ih =>
    have := ih (by omega)
    obtain ⟨⟨_, _⟩, ⟨_, _⟩⟩ := h k (by omega)
    simp only [sumTo]; omega

/-- The row of sums and a number, as they lie. -/
def SumS (w : World) (S X : Nat) (xh xl : Int) (w' : World) : Prop :=
  w'.cell? ⟨X, 0, none⟩ = some (.int .u64 xh) ∧ w'.cell? ⟨X, 1, none⟩ = some (.int .u64 xl) ∧ w'.rangeAt S 0 (digs xh xl 8) ∧ Below w.heap.size w w' ∧ X < w'.heap.size ∧ S < w'.heap.size

theorem SumS.later {w w1 w2 : World} {S X : Nat} {xh xl : Int} (h : w1.cell? ⟨X, 0, none⟩ = some (.int .u64 xh) ∧ w1.cell? ⟨X, 1, none⟩ = some (.int .u64 xl) ∧ w1.rangeAt S 0 (digs xh xl 8) ∧ Below w.heap.size w w1 ∧ X < w1.heap.size ∧ S < w1.heap.size) (hb : Below w1.heap.size w1 w2) :
    w2.cell? ⟨X, 0, none⟩ = some (.int .u64 xh) ∧ w2.cell? ⟨X, 1, none⟩ = some (.int .u64 xl) ∧ w2.rangeAt S 0 (digs xh xl 8) ∧ Below w.heap.size w w2 ∧ X < w2.heap.size ∧ S < w2.heap.size := by
  obtain ⟨s0, s1, r, bel, zx, zs⟩ := h
  have z := hb.size
  exact ⟨(hb.cell (p := ⟨X, 0, none⟩) zx).trans s0, (hb.cell (p := ⟨X, 1, none⟩) zx).trans s1, fun j v hv => (hb.cell (p := ⟨S, 0 + j, none⟩) zs).trans (r j v hv), chain bel hb, by omega, by omega⟩

set_option maxRecDepth 100000 in
set_option maxHeartbeats 2000000 in
theorem law_sums (a : Option Addr) (n cap : Nat) (H L : Nat → Int) (w : World) (hn : Nums w a n H L) :
    Calls Try.prog 3 #[.slice a n cap] w fun e w' => e = .returned (.bool true) ∧ Below w.heap.size w w' := by
  have hm := hn.1
  unfold maxLen at hm
  have HN : Hid (Nums w a n H L) := hn
  clear hn
  by_cases h100 : (100 : Int) < (n : Int)
  · go_enter Try.func3, Try.ntmps3
    go_wp2_with fail
    refine (fit_any _).mono ?_
    rintro e w1 ⟨rfl, hb1⟩
    go_wp2
    go_ret
    exact ⟨rfl, hb1⟩
  · go_enter Try.func3, Try.ntmps3
    go_wp2_with fail
    refine (fit_any _).mono ?_
    rintro e w1 ⟨rfl, hb1⟩
    have hz1 := hb1.size
    go_wp2_with fail
    go_loopw [18] (fun i wr => ∃ k : Nat, k ≤ n ∧ i = .int .i64 k ∧ SumR w wr w1.heap.size (sumTo H L k).toNat 0 17)
      (fun i _ => n - (intOf i).toNat)
    case atStart =>
      refine ⟨0, Nat.zero_le _, rfl, ⟨fun m hm' => ⟨?_, by simp⟩, chainA hb1 _, by simp, hz1⟩⟩
      rw [World.cell?_alloc_new, show ((by8 (if m < 17 then (sumTo H L 0).toNat + 0 else (sumTo H L 0).toNat) m : Nat) : Int) = 0 from by simp [sumTo, by8]]
      exact zeros17 m hm'
    case round =>
      obtain ⟨k, hk, rfl, hr⟩ := hrel
      by_cases hlt : k < n
      · obtain ⟨bb, off, rfl, hbb, c0, c1, u1, u2⟩ := HN.out.2 k hlt
        have d0 := (hr.bel.cell (p := ⟨bb, off + k * 2, none⟩) hbb).trans c0
        have d1 := (hr.bel.cell (p := ⟨bb, off + k * 2 + 1, none⟩) hbb).trans c1
        clear c0 c1
        go_wp2_with fail
        refine (digits_any (H k) (L k) _ u1 u2).mono ?_
        rintro e w2 ⟨rfl, hb2⟩
        have hr2 := hr.later (chain (below1 _ _) hb2)
        go_wp2_with fail
        obtain ⟨wo, rfl⟩ : ∃ wo : World, wo = wr := ⟨_, rfl⟩
        have s0 := sumTo_nonneg (NumsIn.words HN.out) k (by omega)
        generalize hT : (sumTo H L k).toNat = T at *
        generalize hx : (H k * 18446744073709551616 + L k).toNat = x at *
        have HT : Hid ((sumTo H L (k + 1)).toNat = T + x) := by
          obtain ⟨_, _⟩ := u1; obtain ⟨_, _⟩ := u2
          show (sumTo H L k + (H k * 18446744073709551616 + L k)).toNat = T + x
          omega
        have HX : Hid (∀ j, j < 17 → dK (H k) (L k) 8 j = ((by8 x j : Nat) : Int)) := fun j hj => by rw [dK_by8 _ _ _ u1 u2 hj, hx]
        clear hT hx s0
        go_loopw [6, 24] (fun c i wr => ∃ j : Nat, j ≤ 17 ∧ i = .int .i64 j ∧ c = .int .i64 (car T x j) ∧ SumR w wr w1.heap.size T x j)
          (fun _ i _ => 17 - (intOf i).toNat)
        case atStart =>
          refine ⟨0, by omega, rfl, by rw [car_zero]; rfl, ⟨fun m hm' => ?_, hr2.bel, hr2.z, hr2.ws⟩⟩
          have := hr2.d m hm'
          simpa using this
        case round =>
          obtain ⟨j, hj, rfl, rfl, hs⟩ := hrel
          by_cases hjl : j < 17
          · obtain ⟨q0, f0⟩ := hs.d j hjl
            rw [if_neg (Nat.lt_irrefl _)] at q0
            have ix := fun w => digs_index (H k) (L k) j hjl w
            rw [HX.out j hjl] at ix
            have g0 : (0 : Int) ≤ (j : Int) := by omega
            have g1 : (j : Int) < 17 := by omega
            have t1 := by8_lt T j
            have t2 := by8_lt x j
            have t3 := car_le T x j
            have c1 : Hid (by8 (T + x) j = (by8 T j + by8 x j + car T x j) % 256) := by8_add T x j
            have c2 : Hid (car T x (j + 1) = (by8 T j + by8 x j + car T x j) / 256) := car_succ T x j
            have HS : Hid (SumR w wr w1.heap.size T x j) := hs
            clear hs
            generalize htj : by8 T j = tj at *
            generalize hxj : by8 x j = xj at *
            generalize hcj : car T x j = cj at *
            have fin := HS.out.step hjl c1.out t1 t2 t3
            have HF : Hid (SumR w ((wr.setCell ⟨w1.heap.size, j, none⟩ (.int .i64 ((tj : Int) + ((xj : Int) + (cj : Int))))).setCell ⟨w1.heap.size, j, none⟩ (.int .i64 (bits BinOp.and IntKind.i64 ((tj : Int) + ((xj : Int) + (cj : Int))) 255))) w1.heap.size T x (j + 1)) := fin
            clear fin htj hxj hcj c1
            go_wp2
            go_roundw
            case rel =>
              refine ⟨j + 1, by omega, by go_num, ?_, HF.out⟩
              rw [c2.out]
              have e9 : ((tj : Int) + ((xj : Int) + (cj : Int))) / 256 = (((tj + xj + cj) / 256 : Nat) : Int) := by omega
              rw [e9]
            case measure => simp [intOf]; omega
          · obtain rfl : j = 17 := by omega
            go_wp2
            go_roundw
            case rel =>
              refine ⟨k + 1, by omega, by go_num, ⟨fun m hm' => ?_, hs.bel, hs.z, hs.ws⟩⟩
              have := hs.d m hm'
              rw [if_pos hm'] at this ⊢
              rw [HT.out]
              exact this
            case measure => simp [intOf]; omega
      · obtain rfl : k = n := by omega
        go_wp2_with fail
        refine (add_any a k cap H L wr (NumsIn.later HN.out hr.bel)).mono ?_
        rintro e w3 ⟨rfl, hb3⟩
        have hr3 := hr.later hb3
        clear hr hb3
        have s0 := sumTo_nonneg (NumsIn.words HN.out) k (Nat.le_refl _)
        have s1 := sumTo_le (NumsIn.words HN.out) k (Nat.le_refl _)
        have hzS := hr3.z
        have q16 := (hr3.d 16 (by omega)).1
        rw [if_pos (by omega), Nat.add_zero] at q16
        by_cases hs : sumTo H L k < 340282366920938463463374607431768211456
        · rw [addV_yes hs]
          have e16 : by8 (sumTo H L k).toNat 16 = 0 := by
            unfold by8
            have : (256 : Nat) ^ 16 = 340282366920938463463374607431768211456 := by decide
            rw [this]; omega
          rw [e16] at q16
          generalize g1 : sumTo H L k / 18446744073709551616 = xh
          generalize g2 : sumTo H L k % 18446744073709551616 = xl
          have wh : Word xh := ⟨by omega, by omega⟩
          have wl : Word xl := ⟨by omega, by omega⟩
          have G : (sumTo H L k).toNat = (xh * 18446744073709551616 + xl).toNat := by omega
          have hc : w3.rangeAt w1.heap.size 0 (digs xh xl 8) := fun j v hv => by
            have hj : j < 17 := by
              rcases Nat.lt_or_ge j 17 with h | h
              · exact h
              · rw [List.getElem?_eq_none (by rw [digs_len]; exact h)] at hv; cases hv
            rw [digs_at _ _ _ _ hj] at hv
            cases hv
            rw [dK_by8 _ _ _ wh wl hj, ← G]
            have := (hr3.d j hj).1
            rw [if_pos hj] at this
            simpa using this
          have S0 : (w3.alloc (.cells #[.int .u64 xh, .int .u64 xl] 27)).drew.cell? ⟨w3.heap.size, 0, none⟩ = some (.int .u64 xh) ∧ (w3.alloc (.cells #[.int .u64 xh, .int .u64 xl] 27)).drew.cell? ⟨w3.heap.size, 1, none⟩ = some (.int .u64 xl) ∧ (w3.alloc (.cells #[.int .u64 xh, .int .u64 xl] 27)).drew.rangeAt w1.heap.size 0 (digs xh xl 8) ∧ Below w.heap.size w (w3.alloc (.cells #[.int .u64 xh, .int .u64 xl] 27)).drew ∧ w3.heap.size < (w3.alloc (.cells #[.int .u64 xh, .int .u64 xl] 27)).drew.heap.size ∧ w1.heap.size < (w3.alloc (.cells #[.int .u64 xh, .int .u64 xl] 27)).drew.heap.size :=
            ⟨World.cell?_alloc_new .., World.cell?_alloc_new .., World.rangeAt_alloc hc _, (chainA hr3.bel _).drew, by simp, by simp; omega⟩
          have hu := Try.underlying24
          have hi : (Try.prog.info? 24).map (·.size) = some (digs xh xl 8).length := by rw [digs_len]; kernel_rfl
          have hl := digs_len xh xl 8
          have hq := fun w => digs_eq xh xl w
          have ho := digs_one xh xl 8
          clear g1 g2 s0 s1 hs hr3 hc G e16
          go_wp2_with fail
          go_region_held3 (fun w' => w'.cell? ⟨w3.heap.size, 0, none⟩ = some (.int .u64 xh) ∧ w'.cell? ⟨w3.heap.size, 1, none⟩ = some (.int .u64 xl) ∧ w'.rangeAt w1.heap.size 0 (digs xh xl 8) ∧ Below w.heap.size w w' ∧ w3.heap.size < w'.heap.size ∧ w1.heap.size < w'.heap.size)
            (first | exact S0 | exact SumS.later (by assumption) (by assumption))
            (first | (go_at_call 14; refine (digits_any xh xl _ wh wl).mono ?_; rintro e w' ⟨rfl, hb⟩))
          go_wp2
          go_ret
          exact ⟨rfl, by have h := ‹_ ∧ _›; exact h.2.2.2.1⟩
        · rw [addV_no hs]
          obtain ⟨t, ht, ht0⟩ : ∃ t, by8 (sumTo H L k).toNat 16 = t ∧ 0 < t := by
            refine ⟨_, rfl, ?_⟩
            unfold by8
            have : (256 : Nat) ^ 16 = 340282366920938463463374607431768211456 := by decide
            rw [this]; omega
          rw [ht] at q16
          have ht1 : (0 : Int) < (t : Int) := by omega
          have bel3 := hr3.bel
          clear ht s0 s1 hs hr3
          go_wp2
          go_ret
          exact ⟨rfl, chainA bel3 _⟩
end Go.Proofs.Ytcmjinkhfgmgaaa
