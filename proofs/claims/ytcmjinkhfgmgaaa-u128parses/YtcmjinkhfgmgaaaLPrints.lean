/-
  The walk of paciolilaw01.U128Prints: it returns true, for every number, and turns nothing that was there.
-/
import Derived.Test.YtcmjinkhfgmgaaaOrd
import Derived.Test.YtcmjinkhfgmgaaaHeld
namespace Go.Proofs.Ytcmjinkhfgmgaaa
open Go.RowKit
set_option linter.unusedSimpArgs false

theorem valOf_le (a b : List Int) : valOf a ≤ valOf (a ++ b) := by
  unfold valOf
  rw [List.foldl_append]
  generalize List.foldl (fun v c => v * 10 + (Int.toNat (c - 48))) 0 a = x
  induction b generalizing x with
  | nil => exact Nat.le_refl _
  | cons c b ih =>
    rw [List.foldl_cons]
    exact Nat.le_trans (by omega) (ih (x * 10 + (c - 48).toNat))

theorem valOf_take_le (l : List Int) (k : Nat) : valOf (l.take k) ≤ valOf l := by
  have := valOf_le (l.take k) (l.drop k)
  rwa [List.take_append_drop] at this

theorem valOf_take_succ (l : List Int) (k : Nat) (h : k < l.length) : valOf (l.take (k + 1)) = valOf (l.take k) * 10 + (l.getD k 0 - 48).toNat := by
  rw [List.take_succ_eq_append_getElem h, valOf_snoc]
  simp [List.getD, List.getElem?_eq_getElem h]

theorem strOf_get (xs : List Int) (k : Nat) (h : k < (strOfNums xs).size) (hd : ∀ c ∈ xs, 48 ≤ c ∧ c ≤ 57) : (((strOfNums xs)[k]'h).toNat : Int) = xs.getD k 0 := by
  have hl : k < xs.length := by rw [strOfNums_size] at h; exact h
  have e : (strOfNums xs)[k]'h = UInt8.ofNat (xs[k]).toNat := by
    show (strOfNums xs).data[k] = _
    simp [strOfNums]
  rw [e]
  have := hd _ (List.getElem_mem hl)
  simp [List.getD, List.getElem?_eq_getElem hl]
  omega

/-- A number in a block that may be written. -/
structure Var (w : World) (b : Nat) (hi lo : Int) : Prop where
  z : b < w.heap.size
  c0 : w.cell? ⟨b, 0, none⟩ = some (.int .u64 hi)
  c1 : w.cell? ⟨b, 1, none⟩ = some (.int .u64 lo)
  f0 : w.frozen? ⟨b, 0, none⟩ = false
  f1 : w.frozen? ⟨b, 1, none⟩ = false
theorem Var.later {w w' : World} {b : Nat} {hi lo : Int} (h : Var w b hi lo) (hb : Below w.heap.size w w') : Var w' b hi lo :=
  ⟨Nat.lt_of_lt_of_le h.z hb.size, (hb.cell (p := ⟨b, 0, none⟩) h.z).trans h.c0, (hb.cell (p := ⟨b, 1, none⟩) h.z).trans h.c1, (hb.frozen (p := ⟨b, 0, none⟩) h.z).trans h.f0, (hb.frozen (p := ⟨b, 1, none⟩) h.z).trans h.f1⟩
theorem Var.put {w : World} {b : Nat} {hi lo : Int} (h : Var w b hi lo) (x y : Int) : Var ((w.setCell ⟨b, 0, none⟩ (.int .u64 x)).setCell ⟨b, 1, none⟩ (.int .u64 y)) b x y :=
  ⟨by simpa [World.setCell] using h.z, by simp [go_sem, h.c0], by simp [go_sem, h.c1], by simp [go_sem, h.f0], by simp [go_sem, h.f1]⟩
theorem NumAt.apart {w : World} {b c : Nat} {hi lo : Int} (h : NumAt w b hi lo) (hc : b ≠ c) (x y : Value) : NumAt ((w.setCell ⟨c, 0, none⟩ x).setCell ⟨c, 1, none⟩ y) b hi lo := by
  obtain ⟨z, c0, c1⟩ := h
  exact ⟨by simpa [World.setCell] using z, by simp [go_sem, c0], by simp [go_sem, c1]⟩

/-- What the region's loads read, and the rest of what is there. -/
theorem pr_later {w w1 w2 : World} {B X : Nat} {ah al xh xl : Int} (h : w1.cell? ⟨X, 0, none⟩ = some (.int .u64 xh) ∧ w1.cell? ⟨X, 1, none⟩ = some (.int .u64 xl) ∧ Var w1 X xh xl ∧ NumAt w1 B ah al ∧ Below w.heap.size w w1) (hb : Below w1.heap.size w1 w2) :
    w2.cell? ⟨X, 0, none⟩ = some (.int .u64 xh) ∧ w2.cell? ⟨X, 1, none⟩ = some (.int .u64 xl) ∧ Var w2 X xh xl ∧ NumAt w2 B ah al ∧ Below w.heap.size w w2 := by
  obtain ⟨_, _, v, n, bel⟩ := h
  have v2 := v.later hb
  exact ⟨v2.c0, v2.c1, v2, n.later hb, chain bel hb⟩

theorem add11 (w : World) (g : Nat) (hg : g = w.heap.size) (xh xl d : Int) (t : TypeId) (cap : Nat) (k1 : Word xh) (k2 : Word xl) (k3 : Word d) (yh yl : Int) (k4 : Word yh) (k5 : Word yl) (h : yh * 18446744073709551616 + yl = (xh * 18446744073709551616 + xl) * 10 + d) :
    Calls Try.prog 15 #[.slice (some ⟨g, 0, none⟩) 11 cap] (w.alloc (.cells #[.int .u64 xh, .int .u64 xl, .int .u64 xh, .int .u64 xl, .int .u64 xh, .int .u64 xl, .int .u64 xh, .int .u64 xl, .int .u64 xh, .int .u64 xl, .int .u64 xh, .int .u64 xl, .int .u64 xh, .int .u64 xl, .int .u64 xh, .int .u64 xl, .int .u64 xh, .int .u64 xl, .int .u64 xh, .int .u64 xl, .int .u64 0, .int .u64 d] t)) fun e w' =>
      e = .returned (.tuple #[.agg #[.int .u64 yh, .int .u64 yl], .bool true]) ∧ Below w.heap.size w w' := by
  refine (add_new w g hg _ t 11 cap (fun i => if i = 10 then 0 else xh) (fun i => if i = 10 then d else xl) (by decide) (by
    intro i hi
    match i, hi with
    | 0, _ => exact ⟨rfl, rfl, k1, k2⟩
    | 1, _ => exact ⟨rfl, rfl, k1, k2⟩
    | 2, _ => exact ⟨rfl, rfl, k1, k2⟩
    | 3, _ => exact ⟨rfl, rfl, k1, k2⟩
    | 4, _ => exact ⟨rfl, rfl, k1, k2⟩
    | 5, _ => exact ⟨rfl, rfl, k1, k2⟩
    | 6, _ => exact ⟨rfl, rfl, k1, k2⟩
    | 7, _ => exact ⟨rfl, rfl, k1, k2⟩
    | 8, _ => exact ⟨rfl, rfl, k1, k2⟩
    | 9, _ => exact ⟨rfl, rfl, k1, k2⟩
    | 10, _ => exact ⟨rfl, rfl, word_zero, k3⟩)).mono ?_
  rintro e w' ⟨rfl, hb⟩
  have e1 : sumTo (fun i => if i = 10 then 0 else xh) (fun i => if i = 10 then d else xl) 11 = yh * 18446744073709551616 + yl := by
    simp [sumTo]; omega
  rw [e1, addV_yes (by obtain ⟨_, _⟩ := k4; obtain ⟨_, _⟩ := k5; omega)]
  exact ⟨cells_eq (by obtain ⟨_, _⟩ := k5; omega) (by obtain ⟨_, _⟩ := k5; omega), hb⟩

set_option maxRecDepth 100000 in
set_option maxHeartbeats 1000000 in
theorem law_prints (ah al : Int) (w : World) (h1 : Word ah) (h2 : Word al) :
    Calls Try.prog 6 #[.agg #[.int .u64 ah, .int .u64 al]] w fun e w' => e = .returned (.bool true) ∧ Below w.heap.size w w' := by
  obtain ⟨a1, a2⟩ := id h1
  obtain ⟨b1, b2⟩ := id h2
  go_enter Try.func6, Try.ntmps6
  go_wp2_with fail
  refine (fit_any _).mono ?_
  rintro e w1 ⟨rfl, hb1⟩
  have NA := (NumAt.new w ah al 27).later hb1
  have bel1 := chain (below1 _ _) hb1
  obtain ⟨zA, A0, A1⟩ := NA
  clear hb1
  go_wp2_with fail
  refine (print_any ah al _ h1 h2).mono ?_
  rintro e w2 ⟨rfl, hb2⟩
  have NA := (show NumAt w1 w.heap.size ah al from ⟨zA, A0, A1⟩).later hb2
  have bel2 := chain bel1 hb2
  clear zA A0 A1 hb2 bel1
  generalize hn : (ah * 18446744073709551616 + al).toNat = n
  have hn' : n < 10 ^ 39 := Nat.lt_of_lt_of_le (show n < 340282366920938463463374607431768211456 by omega) (by decide)
  have HV : Hid (valOf (dec n) = n) := valOf_dec n hn'
  have HD := dec_digit n
  have HL := dec_length n
  have HH := dec_head n hn'
  generalize dec n = ds at *
  have HG : Hid (∀ k (h : k < (strOfNums ds).size), (((strOfNums ds)[k]'h).toNat : Int) = ds.getD k 0) := fun k h => strOf_get ds k h HD
  have HZ : Hid ((strOfNums ds).size = ds.length) := strOfNums_size ds
  generalize strOfNums ds = s at *
  have hz1 : 1 ≤ s.size := by have := HZ.out; omega
  have hz2 : s.size ≤ 39 := by have := HZ.out; omega
  have HDs : Hid (∀ c ∈ ds, 48 ≤ c ∧ c ≤ 57) := HD
  have HHs : Hid (1 < ds.length → ∃ c l, ds = c :: l ∧ 49 ≤ c) := HH
  have HN : Hid (n = (ah * 18446744073709551616 + al).toNat) := hn.symm
  clear HD HH HL hn hn'
  go_wp2_with fail
  go_loopw [5, 14] (fun ok i wr => ∃ k : Nat, k ≤ s.size ∧ i = .int .i64 k ∧ ok = .bool true ∧ ∃ xh xl : Int, Hid (Word xh) ∧ Hid (Word xl) ∧ Hid ((xh * 18446744073709551616 + xl).toNat = valOf (ds.take k)) ∧ Var wr w2.heap.size xh xl ∧ NumAt wr w.heap.size ah al ∧ Below w.heap.size w wr)
    (fun _ i _ => s.size - (intOf i).toNat)
  case atStart =>
    exact ⟨0, by omega, rfl, rfl, 0, 0, word_zero, word_zero, rfl, ⟨by simp, by simp, by simp, by simp, by simp⟩, NA.later (below1 _ _), chainA bel2 _⟩
  case round =>
    obtain ⟨k, hk, rfl, rfl, xh, xl, kx1, kx2, kv, hv, na, bel⟩ := hrel
    by_cases hlt : k < s.size
    · have hlt' : (k : Int) < (s.size : Int) := by omega
      have hkl : k < ds.length := by have := HZ.out; omega
      have hc := HDs.out _ (List.getElem_mem hkl)
      have hg := HG.out k hlt
      rw [show ds.getD k 0 = ds[k] from by simp [List.getD, List.getElem?_eq_getElem hkl]] at hg
      have HS : Hid (valOf (ds.take (k + 1)) = valOf (ds.take k) * 10 + (ds[k] - 48).toNat) := by
        have := valOf_take_succ ds k hkl
        rwa [show ds.getD k 0 = ds[k] from by simp [List.getD, List.getElem?_eq_getElem hkl]] at this
      have HT : Hid (valOf (ds.take (k + 1)) ≤ valOf ds) := valOf_take_le ds (k + 1)
      have HF : Hid (k = 0 → ds[k] = 48 → ¬ 1 < s.size) := by
        rintro rfl h48 hs1
        obtain ⟨c, l, e, hc49⟩ := HHs.out (by have := HZ.out; omega)
        subst e
        simp at h48
        omega
      generalize ds[k] = c at *
      obtain ⟨yh, yl, wy1, wy2, hy⟩ : ∃ yh yl : Int, Word yh ∧ Word yl ∧ yh * 18446744073709551616 + yl = (xh * 18446744073709551616 + xl) * 10 + (c - 48) := by
        obtain ⟨_, _⟩ := kx1.out; obtain ⟨_, _⟩ := kx2.out
        have q1 := kv.out; have q2 := HS.out; have q3 := HT.out; have q4 := HV.out; have q5 := HN.out
        exact ⟨((xh * 18446744073709551616 + xl) * 10 + (c - 48)) / 18446744073709551616, ((xh * 18446744073709551616 + xl) * 10 + (c - 48)) % 18446744073709551616, ⟨by omega, by omega⟩, ⟨by omega, by omega⟩, by omega⟩
      have HY : Hid (yh * 18446744073709551616 + yl = (xh * 18446744073709551616 + xl) * 10 + (c - 48)) := hy
      have HW : Hid ((yh * 18446744073709551616 + yl).toNat = valOf (ds.take (k + 1))) := by
        obtain ⟨_, _⟩ := kx1.out; obtain ⟨_, _⟩ := kx2.out
        have q1 := kv.out; have q2 := HS.out
        show _ = _
        omega
      clear hy HS HT
      obtain ⟨hc1, hc2⟩ := hc
      have wc : Hid (Word (c - 48)) := ⟨by omega, by omega⟩
      have hcw : IntKind.u8.wrap (c - 48) = c - 48 := by rw [IntKind.wrap_u8]; omega
      have hcw2 : IntKind.u64.wrap (c - 48) = c - 48 := by rw [IntKind.wrap_u64]; omega
      have S0 : wr.drew.cell? ⟨w2.heap.size, 0, none⟩ = some (.int .u64 xh) ∧ wr.drew.cell? ⟨w2.heap.size, 1, none⟩ = some (.int .u64 xl) ∧ Var wr.drew w2.heap.size xh xl ∧ NumAt wr.drew w.heap.size ah al ∧ Below w.heap.size w wr.drew := ⟨hv.c0, hv.c1, ⟨hv.z, hv.c0, hv.c1, hv.f0, hv.f1⟩, na, bel.drew⟩
      have hnX : w.heap.size ≠ w2.heap.size := Nat.ne_of_lt (Nat.lt_of_lt_of_le (Nat.lt_of_lt_of_le NA.1 (Nat.le_refl _)) (Nat.le_refl _))
      clear hv na bel
      by_cases hk0 : k = 0
      · subst hk0
        by_cases h48 : c = 48
        · have ho := HF.out rfl h48
          have h48' : (c == 48) = true := by simp [h48]
          clear h48
          go_wp2
          refine wp_region_D (fun i => decide (i < 18)) (fun w' => w'.cell? ⟨w2.heap.size, 0, none⟩ = some (.int .u64 xh) ∧ w'.cell? ⟨w2.heap.size, 1, none⟩ = some (.int .u64 xl) ∧ Var w' w2.heap.size xh xl ∧ NumAt w' w.heap.size ah al ∧ Below w.heap.size w w') (by kernel_rfl) ?_
          have hS := S0
          refine' wpAnyD_take (i := 0) (v := _) rfl (by kernel_rfl) (by kernel_rfl) (by kernel_rfl) (by kernel_rfl) (fun _ _ _ h => h) (Or.inl ⟨by rfl, ?hy1⟩) hS ?re1
          case hy1 => (intro w hSw; (try dsimp only at hSw); go_simp; (try with_reducible rfl))
          simp only [Act.put, List.setIfInBounds_toArray, List.set_cons_zero, List.set_cons_succ]
          refine' wpAnyD_take (i := 1) (v := _) rfl (by kernel_rfl) (by kernel_rfl) (by kernel_rfl) (by kernel_rfl) (fun _ _ _ h => h) (Or.inl ⟨by rfl, ?hy2⟩) hS ?re2
          case hy2 => (intro w hSw; (try dsimp only at hSw); go_simp; (try with_reducible rfl))
          simp only [Act.put, List.setIfInBounds_toArray, List.set_cons_zero, List.set_cons_succ]
          refine' wpAnyD_take (i := 2) (v := _) rfl (by kernel_rfl) (by kernel_rfl) (by kernel_rfl) (by kernel_rfl) (fun _ _ _ h => h) (Or.inl ⟨by rfl, ?hy3⟩) hS ?re3
          case hy3 => (intro w hSw; (try dsimp only at hSw); go_simp; (try with_reducible rfl))
          simp only [Act.put, List.setIfInBounds_toArray, List.set_cons_zero, List.set_cons_succ]
          refine' wpAnyD_take (i := 3) (v := _) rfl (by kernel_rfl) (by kernel_rfl) (by kernel_rfl) (by kernel_rfl) (fun _ _ _ h => h) (Or.inl ⟨by rfl, ?hy4⟩) hS ?re4
          case hy4 => (intro w hSw; (try dsimp only at hSw); go_simp; (try with_reducible rfl))
          simp only [Act.put, List.setIfInBounds_toArray, List.set_cons_zero, List.set_cons_succ]
          refine' wpAnyD_take (i := 4) (v := _) rfl (by kernel_rfl) (by kernel_rfl) (by kernel_rfl) (by kernel_rfl) (fun _ _ _ h => h) (Or.inl ⟨by rfl, ?hy5⟩) hS ?re5
          case hy5 => (intro w hSw; (try dsimp only at hSw); go_simp; (try with_reducible rfl))
          simp only [Act.put, List.setIfInBounds_toArray, List.set_cons_zero, List.set_cons_succ]
          refine' wpAnyD_take (i := 5) (v := _) rfl (by kernel_rfl) (by kernel_rfl) (by kernel_rfl) (by kernel_rfl) (fun _ _ _ h => h) (Or.inl ⟨by rfl, ?hy6⟩) hS ?re6
          case hy6 => (intro w hSw; (try dsimp only at hSw); go_simp; (try with_reducible rfl))
          simp only [Act.put, List.setIfInBounds_toArray, List.set_cons_zero, List.set_cons_succ]
          refine' wpAnyD_take (i := 6) (v := _) rfl (by kernel_rfl) (by kernel_rfl) (by kernel_rfl) (by kernel_rfl) (fun _ _ _ h => h) (Or.inl ⟨by rfl, ?hy7⟩) hS ?re7
          case hy7 => (intro w hSw; (try dsimp only at hSw); go_simp; (try with_reducible rfl))
          simp only [Act.put, List.setIfInBounds_toArray, List.set_cons_zero, List.set_cons_succ]
          refine' wpAnyD_take (i := 7) (v := _) rfl (by kernel_rfl) (by kernel_rfl) (by kernel_rfl) (by kernel_rfl) (fun _ _ _ h => h) (Or.inl ⟨by rfl, ?hy8⟩) hS ?re8
          case hy8 => (intro w hSw; (try dsimp only at hSw); go_simp; (try with_reducible rfl))
          simp only [Act.put, List.setIfInBounds_toArray, List.set_cons_zero, List.set_cons_succ]
          refine' wpAnyD_take (i := 8) (v := _) rfl (by kernel_rfl) (by kernel_rfl) (by kernel_rfl) (by kernel_rfl) (fun _ _ _ h => h) (Or.inl ⟨by rfl, ?hy9⟩) hS ?re9
          case hy9 => (intro w hSw; (try dsimp only at hSw); go_simp; (try with_reducible rfl))
          simp only [Act.put, List.setIfInBounds_toArray, List.set_cons_zero, List.set_cons_succ]
          refine' wpAnyD_take (i := 9) (v := _) rfl (by kernel_rfl) (by kernel_rfl) (by kernel_rfl) (by kernel_rfl) (fun _ _ _ h => h) (Or.inl ⟨by rfl, ?hy10⟩) hS ?re10
          case hy10 => (intro w hSw; (try dsimp only at hSw); go_simp; (try with_reducible rfl))
          simp only [Act.put, List.setIfInBounds_toArray, List.set_cons_zero, List.set_cons_succ]
          refine' wpAnyD_take (i := 10) (v := _) rfl (by kernel_rfl) (by kernel_rfl) (by kernel_rfl) (by kernel_rfl) (fun _ _ _ h => h) (Or.inl ⟨by rfl, ?hy11⟩) hS ?re11
          case hy11 => (intro w hSw; (try dsimp only at hSw); go_simp; (try with_reducible rfl))
          simp only [Act.put, List.setIfInBounds_toArray, List.set_cons_zero, List.set_cons_succ]
          refine' wpAnyD_take (i := 11) (v := _) rfl (by kernel_rfl) (by kernel_rfl) (by kernel_rfl) (by kernel_rfl) (fun _ _ _ h => h) (Or.inl ⟨by rfl, ?hy12⟩) hS ?re12
          case hy12 => (intro w hSw; (try dsimp only at hSw); go_simp; (try with_reducible rfl))
          simp only [Act.put, List.setIfInBounds_toArray, List.set_cons_zero, List.set_cons_succ]
          refine' wpAnyD_take (i := 12) (v := _) rfl (by kernel_rfl) (by kernel_rfl) (by kernel_rfl) (by kernel_rfl) (fun _ _ _ h => h) (Or.inl ⟨by rfl, ?hy13⟩) hS ?re13
          case hy13 => (intro w hSw; (try dsimp only at hSw); go_simp; (try with_reducible rfl))
          simp only [Act.put, List.setIfInBounds_toArray, List.set_cons_zero, List.set_cons_succ]
          refine' wpAnyD_take (i := 13) (v := _) rfl (by kernel_rfl) (by kernel_rfl) (by kernel_rfl) (by kernel_rfl) (fun _ _ _ h => h) (Or.inl ⟨by rfl, ?hy14⟩) hS ?re14
          case hy14 => (intro w hSw; (try dsimp only at hSw); go_simp; (try with_reducible rfl))
          simp only [Act.put, List.setIfInBounds_toArray, List.set_cons_zero, List.set_cons_succ]
          refine' wpAnyD_take (i := 14) (v := _) rfl (by kernel_rfl) (by kernel_rfl) (by kernel_rfl) (by kernel_rfl) (fun _ _ _ h => h) (Or.inl ⟨by rfl, ?hy15⟩) hS ?re15
          case hy15 => (intro w hSw; (try dsimp only at hSw); go_simp; (try with_reducible rfl))
          simp only [Act.put, List.setIfInBounds_toArray, List.set_cons_zero, List.set_cons_succ]
          refine wpAnyD_only (i := 15) rfl (by kernel_rfl) (by rfl) (fun K hK => ?_)
          go_simp
          refine (of_any (c - 48) _).mono ?_
          rintro e w3 ⟨rfl, hb3⟩
          try dsimp only
          have hSn := pr_later hS hb3
          refine hK.out _ _ (fun _ => hSn) ?_
          clear hK K hS
          have hS := hSn
          clear hSn
          try simp only [Act.put, List.setIfInBounds_toArray, List.set_cons_zero, List.set_cons_succ]
          clear hb3
          have hS3 := hS
          refine wpAnyD_only (i := 16) rfl (by kernel_rfl) (by rfl) (fun K hK => ?_)
          go_simp
          try dsimp only
          have hSn := pr_later hS (below1 w3 (.cells #[.int .u64 xh, .int .u64 xl, .int .u64 xh, .int .u64 xl, .int .u64 xh, .int .u64 xl, .int .u64 xh, .int .u64 xl, .int .u64 xh, .int .u64 xl, .int .u64 xh, .int .u64 xl, .int .u64 xh, .int .u64 xl, .int .u64 xh, .int .u64 xl, .int .u64 xh, .int .u64 xl, .int .u64 xh, .int .u64 xl, .int .u64 0, .int .u64 (c - 48)] 27))
          refine hK.out _ _ (fun _ => hSn) ?_
          clear hK K hS
          have hS := hSn
          clear hSn
          try simp only [Act.put, List.setIfInBounds_toArray, List.set_cons_zero, List.set_cons_succ]
          refine wpAnyD_only (i := 17) rfl (by kernel_rfl) (by rfl) (fun K hK => ?_)
          go_simp
          refine (add11 w3 _ (by simp) xh xl (c - 48) _ _ kx1.out kx2.out wc.out yh yl wy1 wy2 HY.out).mono ?_
          rintro e w4 ⟨rfl, hb4⟩
          try dsimp only
          have hSn := pr_later hS3 hb4
          refine hK.out _ _ (fun _ => hSn) ?_
          clear hK K hS
          have hS := hSn
          clear hSn
          try simp only [Act.put, List.setIfInBounds_toArray, List.set_cons_zero, List.set_cons_succ]
          clear hb4 hS3
          refine' wpAnyD_free (i := 18) (v := _) rfl (by kernel_rfl) (by kernel_rfl) (by rfl) (by kernel_rfl) (fun _ _ _ h => h) (Or.inl ⟨by rfl, ?hy16⟩) ?re16
          case hy16 => (intro w hSw; clear hSw; go_simp; (try with_reducible rfl))
          simp only [Act.put, List.setIfInBounds_toArray, List.set_cons_zero, List.set_cons_succ]
          refine' wpAnyD_free (i := 19) (v := _) rfl (by kernel_rfl) (by kernel_rfl) (by rfl) (by kernel_rfl) (fun _ _ _ h => h) (Or.inl ⟨by rfl, ?hy17⟩) ?re17
          case hy17 => (intro w hSw; clear hSw; go_simp; (try with_reducible rfl))
          simp only [Act.put, List.setIfInBounds_toArray, List.set_cons_zero, List.set_cons_succ]
          refine' wpAnyD_free (i := 20) (v := _) rfl (by kernel_rfl) (by kernel_rfl) (by rfl) (by kernel_rfl) (fun _ _ _ h => h) (Or.inl ⟨by rfl, ?hy18⟩) ?re18
          case hy18 => (intro w hSw; clear hSw; go_simp; (try with_reducible rfl))
          simp only [Act.put, List.setIfInBounds_toArray, List.set_cons_zero, List.set_cons_succ]
          have f0 := hS.2.2.1.f0
          have f1 := hS.2.2.1.f1
          have hSc := hS.1
          have hSd := hS.2.1
          refine wpAnyD_only (i := 21) rfl (by kernel_rfl) (by rfl) (fun K hK => ?_)
          go_simp
          refine hK.out _ _ (fun h => by cases h) ?_
          clear hK K
          refine' wpAnyD_free (i := 22) (v := _) rfl (by kernel_rfl) (by kernel_rfl) (by rfl) (by kernel_rfl) (fun _ _ _ h => h) (Or.inl ⟨by rfl, ?hy19⟩) ?re19
          case hy19 => (intro w hSw; clear hSw; go_simp; (try with_reducible rfl))
          simp only [Act.put, List.setIfInBounds_toArray, List.set_cons_zero, List.set_cons_succ]
          refine wpAnyD_done (by kernel_rfl) ?_ _
          go_wp2
          go_roundw
          case rel => exact ⟨0 + 1, by omega, by go_num, by rfl, yh, yl, wy1, wy2, HW, hS.2.2.1.put yh yl, hS.2.2.2.1.apart hnX _ _, (hS.2.2.2.2.setCell (p := ⟨w2.heap.size, 0, none⟩) bel2.size _).setCell (p := ⟨w2.heap.size, 1, none⟩) bel2.size _⟩
          case measure => simp [intOf]; omega
        · have h48' : (c == 48) = false := by simp [h48]
          go_wp2
          refine wp_region_D (fun i => decide (i < 18)) (fun w' => w'.cell? ⟨w2.heap.size, 0, none⟩ = some (.int .u64 xh) ∧ w'.cell? ⟨w2.heap.size, 1, none⟩ = some (.int .u64 xl) ∧ Var w' w2.heap.size xh xl ∧ NumAt w' w.heap.size ah al ∧ Below w.heap.size w w') (by kernel_rfl) ?_
          have hS := S0
          refine' wpAnyD_take (i := 0) (v := _) rfl (by kernel_rfl) (by kernel_rfl) (by kernel_rfl) (by kernel_rfl) (fun _ _ _ h => h) (Or.inl ⟨by rfl, ?hy20⟩) hS ?re20
          case hy20 => (intro w hSw; (try dsimp only at hSw); go_simp; (try with_reducible rfl))
          simp only [Act.put, List.setIfInBounds_toArray, List.set_cons_zero, List.set_cons_succ]
          refine' wpAnyD_take (i := 1) (v := _) rfl (by kernel_rfl) (by kernel_rfl) (by kernel_rfl) (by kernel_rfl) (fun _ _ _ h => h) (Or.inl ⟨by rfl, ?hy21⟩) hS ?re21
          case hy21 => (intro w hSw; (try dsimp only at hSw); go_simp; (try with_reducible rfl))
          simp only [Act.put, List.setIfInBounds_toArray, List.set_cons_zero, List.set_cons_succ]
          refine' wpAnyD_take (i := 2) (v := _) rfl (by kernel_rfl) (by kernel_rfl) (by kernel_rfl) (by kernel_rfl) (fun _ _ _ h => h) (Or.inl ⟨by rfl, ?hy22⟩) hS ?re22
          case hy22 => (intro w hSw; (try dsimp only at hSw); go_simp; (try with_reducible rfl))
          simp only [Act.put, List.setIfInBounds_toArray, List.set_cons_zero, List.set_cons_succ]
          refine' wpAnyD_take (i := 3) (v := _) rfl (by kernel_rfl) (by kernel_rfl) (by kernel_rfl) (by kernel_rfl) (fun _ _ _ h => h) (Or.inl ⟨by rfl, ?hy23⟩) hS ?re23
          case hy23 => (intro w hSw; (try dsimp only at hSw); go_simp; (try with_reducible rfl))
          simp only [Act.put, List.setIfInBounds_toArray, List.set_cons_zero, List.set_cons_succ]
          refine' wpAnyD_take (i := 4) (v := _) rfl (by kernel_rfl) (by kernel_rfl) (by kernel_rfl) (by kernel_rfl) (fun _ _ _ h => h) (Or.inl ⟨by rfl, ?hy24⟩) hS ?re24
          case hy24 => (intro w hSw; (try dsimp only at hSw); go_simp; (try with_reducible rfl))
          simp only [Act.put, List.setIfInBounds_toArray, List.set_cons_zero, List.set_cons_succ]
          refine' wpAnyD_take (i := 5) (v := _) rfl (by kernel_rfl) (by kernel_rfl) (by kernel_rfl) (by kernel_rfl) (fun _ _ _ h => h) (Or.inl ⟨by rfl, ?hy25⟩) hS ?re25
          case hy25 => (intro w hSw; (try dsimp only at hSw); go_simp; (try with_reducible rfl))
          simp only [Act.put, List.setIfInBounds_toArray, List.set_cons_zero, List.set_cons_succ]
          refine' wpAnyD_take (i := 6) (v := _) rfl (by kernel_rfl) (by kernel_rfl) (by kernel_rfl) (by kernel_rfl) (fun _ _ _ h => h) (Or.inl ⟨by rfl, ?hy26⟩) hS ?re26
          case hy26 => (intro w hSw; (try dsimp only at hSw); go_simp; (try with_reducible rfl))
          simp only [Act.put, List.setIfInBounds_toArray, List.set_cons_zero, List.set_cons_succ]
          refine' wpAnyD_take (i := 7) (v := _) rfl (by kernel_rfl) (by kernel_rfl) (by kernel_rfl) (by kernel_rfl) (fun _ _ _ h => h) (Or.inl ⟨by rfl, ?hy27⟩) hS ?re27
          case hy27 => (intro w hSw; (try dsimp only at hSw); go_simp; (try with_reducible rfl))
          simp only [Act.put, List.setIfInBounds_toArray, List.set_cons_zero, List.set_cons_succ]
          refine' wpAnyD_take (i := 8) (v := _) rfl (by kernel_rfl) (by kernel_rfl) (by kernel_rfl) (by kernel_rfl) (fun _ _ _ h => h) (Or.inl ⟨by rfl, ?hy28⟩) hS ?re28
          case hy28 => (intro w hSw; (try dsimp only at hSw); go_simp; (try with_reducible rfl))
          simp only [Act.put, List.setIfInBounds_toArray, List.set_cons_zero, List.set_cons_succ]
          refine' wpAnyD_take (i := 9) (v := _) rfl (by kernel_rfl) (by kernel_rfl) (by kernel_rfl) (by kernel_rfl) (fun _ _ _ h => h) (Or.inl ⟨by rfl, ?hy29⟩) hS ?re29
          case hy29 => (intro w hSw; (try dsimp only at hSw); go_simp; (try with_reducible rfl))
          simp only [Act.put, List.setIfInBounds_toArray, List.set_cons_zero, List.set_cons_succ]
          refine' wpAnyD_take (i := 10) (v := _) rfl (by kernel_rfl) (by kernel_rfl) (by kernel_rfl) (by kernel_rfl) (fun _ _ _ h => h) (Or.inl ⟨by rfl, ?hy30⟩) hS ?re30
          case hy30 => (intro w hSw; (try dsimp only at hSw); go_simp; (try with_reducible rfl))
          simp only [Act.put, List.setIfInBounds_toArray, List.set_cons_zero, List.set_cons_succ]
          refine' wpAnyD_take (i := 11) (v := _) rfl (by kernel_rfl) (by kernel_rfl) (by kernel_rfl) (by kernel_rfl) (fun _ _ _ h => h) (Or.inl ⟨by rfl, ?hy31⟩) hS ?re31
          case hy31 => (intro w hSw; (try dsimp only at hSw); go_simp; (try with_reducible rfl))
          simp only [Act.put, List.setIfInBounds_toArray, List.set_cons_zero, List.set_cons_succ]
          refine' wpAnyD_take (i := 12) (v := _) rfl (by kernel_rfl) (by kernel_rfl) (by kernel_rfl) (by kernel_rfl) (fun _ _ _ h => h) (Or.inl ⟨by rfl, ?hy32⟩) hS ?re32
          case hy32 => (intro w hSw; (try dsimp only at hSw); go_simp; (try with_reducible rfl))
          simp only [Act.put, List.setIfInBounds_toArray, List.set_cons_zero, List.set_cons_succ]
          refine' wpAnyD_take (i := 13) (v := _) rfl (by kernel_rfl) (by kernel_rfl) (by kernel_rfl) (by kernel_rfl) (fun _ _ _ h => h) (Or.inl ⟨by rfl, ?hy33⟩) hS ?re33
          case hy33 => (intro w hSw; (try dsimp only at hSw); go_simp; (try with_reducible rfl))
          simp only [Act.put, List.setIfInBounds_toArray, List.set_cons_zero, List.set_cons_succ]
          refine' wpAnyD_take (i := 14) (v := _) rfl (by kernel_rfl) (by kernel_rfl) (by kernel_rfl) (by kernel_rfl) (fun _ _ _ h => h) (Or.inl ⟨by rfl, ?hy34⟩) hS ?re34
          case hy34 => (intro w hSw; (try dsimp only at hSw); go_simp; (try with_reducible rfl))
          simp only [Act.put, List.setIfInBounds_toArray, List.set_cons_zero, List.set_cons_succ]
          refine wpAnyD_only (i := 15) rfl (by kernel_rfl) (by rfl) (fun K hK => ?_)
          go_simp
          refine (of_any (c - 48) _).mono ?_
          rintro e w3 ⟨rfl, hb3⟩
          try dsimp only
          have hSn := pr_later hS hb3
          refine hK.out _ _ (fun _ => hSn) ?_
          clear hK K hS
          have hS := hSn
          clear hSn
          try simp only [Act.put, List.setIfInBounds_toArray, List.set_cons_zero, List.set_cons_succ]
          clear hb3
          have hS3 := hS
          refine wpAnyD_only (i := 16) rfl (by kernel_rfl) (by rfl) (fun K hK => ?_)
          go_simp
          try dsimp only
          have hSn := pr_later hS (below1 w3 (.cells #[.int .u64 xh, .int .u64 xl, .int .u64 xh, .int .u64 xl, .int .u64 xh, .int .u64 xl, .int .u64 xh, .int .u64 xl, .int .u64 xh, .int .u64 xl, .int .u64 xh, .int .u64 xl, .int .u64 xh, .int .u64 xl, .int .u64 xh, .int .u64 xl, .int .u64 xh, .int .u64 xl, .int .u64 xh, .int .u64 xl, .int .u64 0, .int .u64 (c - 48)] 27))
          refine hK.out _ _ (fun _ => hSn) ?_
          clear hK K hS
          have hS := hSn
          clear hSn
          try simp only [Act.put, List.setIfInBounds_toArray, List.set_cons_zero, List.set_cons_succ]
          refine wpAnyD_only (i := 17) rfl (by kernel_rfl) (by rfl) (fun K hK => ?_)
          go_simp
          refine (add11 w3 _ (by simp) xh xl (c - 48) _ _ kx1.out kx2.out wc.out yh yl wy1 wy2 HY.out).mono ?_
          rintro e w4 ⟨rfl, hb4⟩
          try dsimp only
          have hSn := pr_later hS3 hb4
          refine hK.out _ _ (fun _ => hSn) ?_
          clear hK K hS
          have hS := hSn
          clear hSn
          try simp only [Act.put, List.setIfInBounds_toArray, List.set_cons_zero, List.set_cons_succ]
          clear hb4 hS3
          refine' wpAnyD_free (i := 18) (v := _) rfl (by kernel_rfl) (by kernel_rfl) (by rfl) (by kernel_rfl) (fun _ _ _ h => h) (Or.inl ⟨by rfl, ?hy35⟩) ?re35
          case hy35 => (intro w hSw; clear hSw; go_simp; (try with_reducible rfl))
          simp only [Act.put, List.setIfInBounds_toArray, List.set_cons_zero, List.set_cons_succ]
          refine' wpAnyD_free (i := 19) (v := _) rfl (by kernel_rfl) (by kernel_rfl) (by rfl) (by kernel_rfl) (fun _ _ _ h => h) (Or.inl ⟨by rfl, ?hy36⟩) ?re36
          case hy36 => (intro w hSw; clear hSw; go_simp; (try with_reducible rfl))
          simp only [Act.put, List.setIfInBounds_toArray, List.set_cons_zero, List.set_cons_succ]
          refine' wpAnyD_free (i := 20) (v := _) rfl (by kernel_rfl) (by kernel_rfl) (by rfl) (by kernel_rfl) (fun _ _ _ h => h) (Or.inl ⟨by rfl, ?hy37⟩) ?re37
          case hy37 => (intro w hSw; clear hSw; go_simp; (try with_reducible rfl))
          simp only [Act.put, List.setIfInBounds_toArray, List.set_cons_zero, List.set_cons_succ]
          have f0 := hS.2.2.1.f0
          have f1 := hS.2.2.1.f1
          have hSc := hS.1
          have hSd := hS.2.1
          refine wpAnyD_only (i := 21) rfl (by kernel_rfl) (by rfl) (fun K hK => ?_)
          go_simp
          refine hK.out _ _ (fun h => by cases h) ?_
          clear hK K
          refine' wpAnyD_free (i := 22) (v := _) rfl (by kernel_rfl) (by kernel_rfl) (by rfl) (by kernel_rfl) (fun _ _ _ h => h) (Or.inl ⟨by rfl, ?hy38⟩) ?re38
          case hy38 => (intro w hSw; clear hSw; go_simp; (try with_reducible rfl))
          simp only [Act.put, List.setIfInBounds_toArray, List.set_cons_zero, List.set_cons_succ]
          refine wpAnyD_done (by kernel_rfl) ?_ _
          go_wp2
          go_roundw
          case rel => exact ⟨0 + 1, by omega, by go_num, by rfl, yh, yl, wy1, wy2, HW, hS.2.2.1.put yh yl, hS.2.2.2.1.apart hnX _ _, (hS.2.2.2.2.setCell (p := ⟨w2.heap.size, 0, none⟩) bel2.size _).setCell (p := ⟨w2.heap.size, 1, none⟩) bel2.size _⟩
          case measure => simp [intOf]; omega
      · have hk0' : ((k : Int) == 0) = false := by simp; omega
        go_wp2
        refine wp_region_D (fun i => decide (i < 18)) (fun w' => w'.cell? ⟨w2.heap.size, 0, none⟩ = some (.int .u64 xh) ∧ w'.cell? ⟨w2.heap.size, 1, none⟩ = some (.int .u64 xl) ∧ Var w' w2.heap.size xh xl ∧ NumAt w' w.heap.size ah al ∧ Below w.heap.size w w') (by kernel_rfl) ?_
        have hS := S0
        refine' wpAnyD_take (i := 0) (v := _) rfl (by kernel_rfl) (by kernel_rfl) (by kernel_rfl) (by kernel_rfl) (fun _ _ _ h => h) (Or.inl ⟨by rfl, ?hy39⟩) hS ?re39
        case hy39 => (intro w hSw; (try dsimp only at hSw); go_simp; (try with_reducible rfl))
        simp only [Act.put, List.setIfInBounds_toArray, List.set_cons_zero, List.set_cons_succ]
        refine' wpAnyD_take (i := 1) (v := _) rfl (by kernel_rfl) (by kernel_rfl) (by kernel_rfl) (by kernel_rfl) (fun _ _ _ h => h) (Or.inl ⟨by rfl, ?hy40⟩) hS ?re40
        case hy40 => (intro w hSw; (try dsimp only at hSw); go_simp; (try with_reducible rfl))
        simp only [Act.put, List.setIfInBounds_toArray, List.set_cons_zero, List.set_cons_succ]
        refine' wpAnyD_take (i := 2) (v := _) rfl (by kernel_rfl) (by kernel_rfl) (by kernel_rfl) (by kernel_rfl) (fun _ _ _ h => h) (Or.inl ⟨by rfl, ?hy41⟩) hS ?re41
        case hy41 => (intro w hSw; (try dsimp only at hSw); go_simp; (try with_reducible rfl))
        simp only [Act.put, List.setIfInBounds_toArray, List.set_cons_zero, List.set_cons_succ]
        refine' wpAnyD_take (i := 3) (v := _) rfl (by kernel_rfl) (by kernel_rfl) (by kernel_rfl) (by kernel_rfl) (fun _ _ _ h => h) (Or.inl ⟨by rfl, ?hy42⟩) hS ?re42
        case hy42 => (intro w hSw; (try dsimp only at hSw); go_simp; (try with_reducible rfl))
        simp only [Act.put, List.setIfInBounds_toArray, List.set_cons_zero, List.set_cons_succ]
        refine' wpAnyD_take (i := 4) (v := _) rfl (by kernel_rfl) (by kernel_rfl) (by kernel_rfl) (by kernel_rfl) (fun _ _ _ h => h) (Or.inl ⟨by rfl, ?hy43⟩) hS ?re43
        case hy43 => (intro w hSw; (try dsimp only at hSw); go_simp; (try with_reducible rfl))
        simp only [Act.put, List.setIfInBounds_toArray, List.set_cons_zero, List.set_cons_succ]
        refine' wpAnyD_take (i := 5) (v := _) rfl (by kernel_rfl) (by kernel_rfl) (by kernel_rfl) (by kernel_rfl) (fun _ _ _ h => h) (Or.inl ⟨by rfl, ?hy44⟩) hS ?re44
        case hy44 => (intro w hSw; (try dsimp only at hSw); go_simp; (try with_reducible rfl))
        simp only [Act.put, List.setIfInBounds_toArray, List.set_cons_zero, List.set_cons_succ]
        refine' wpAnyD_take (i := 6) (v := _) rfl (by kernel_rfl) (by kernel_rfl) (by kernel_rfl) (by kernel_rfl) (fun _ _ _ h => h) (Or.inl ⟨by rfl, ?hy45⟩) hS ?re45
        case hy45 => (intro w hSw; (try dsimp only at hSw); go_simp; (try with_reducible rfl))
        simp only [Act.put, List.setIfInBounds_toArray, List.set_cons_zero, List.set_cons_succ]
        refine' wpAnyD_take (i := 7) (v := _) rfl (by kernel_rfl) (by kernel_rfl) (by kernel_rfl) (by kernel_rfl) (fun _ _ _ h => h) (Or.inl ⟨by rfl, ?hy46⟩) hS ?re46
        case hy46 => (intro w hSw; (try dsimp only at hSw); go_simp; (try with_reducible rfl))
        simp only [Act.put, List.setIfInBounds_toArray, List.set_cons_zero, List.set_cons_succ]
        refine' wpAnyD_take (i := 8) (v := _) rfl (by kernel_rfl) (by kernel_rfl) (by kernel_rfl) (by kernel_rfl) (fun _ _ _ h => h) (Or.inl ⟨by rfl, ?hy47⟩) hS ?re47
        case hy47 => (intro w hSw; (try dsimp only at hSw); go_simp; (try with_reducible rfl))
        simp only [Act.put, List.setIfInBounds_toArray, List.set_cons_zero, List.set_cons_succ]
        refine' wpAnyD_take (i := 9) (v := _) rfl (by kernel_rfl) (by kernel_rfl) (by kernel_rfl) (by kernel_rfl) (fun _ _ _ h => h) (Or.inl ⟨by rfl, ?hy48⟩) hS ?re48
        case hy48 => (intro w hSw; (try dsimp only at hSw); go_simp; (try with_reducible rfl))
        simp only [Act.put, List.setIfInBounds_toArray, List.set_cons_zero, List.set_cons_succ]
        refine' wpAnyD_take (i := 10) (v := _) rfl (by kernel_rfl) (by kernel_rfl) (by kernel_rfl) (by kernel_rfl) (fun _ _ _ h => h) (Or.inl ⟨by rfl, ?hy49⟩) hS ?re49
        case hy49 => (intro w hSw; (try dsimp only at hSw); go_simp; (try with_reducible rfl))
        simp only [Act.put, List.setIfInBounds_toArray, List.set_cons_zero, List.set_cons_succ]
        refine' wpAnyD_take (i := 11) (v := _) rfl (by kernel_rfl) (by kernel_rfl) (by kernel_rfl) (by kernel_rfl) (fun _ _ _ h => h) (Or.inl ⟨by rfl, ?hy50⟩) hS ?re50
        case hy50 => (intro w hSw; (try dsimp only at hSw); go_simp; (try with_reducible rfl))
        simp only [Act.put, List.setIfInBounds_toArray, List.set_cons_zero, List.set_cons_succ]
        refine' wpAnyD_take (i := 12) (v := _) rfl (by kernel_rfl) (by kernel_rfl) (by kernel_rfl) (by kernel_rfl) (fun _ _ _ h => h) (Or.inl ⟨by rfl, ?hy51⟩) hS ?re51
        case hy51 => (intro w hSw; (try dsimp only at hSw); go_simp; (try with_reducible rfl))
        simp only [Act.put, List.setIfInBounds_toArray, List.set_cons_zero, List.set_cons_succ]
        refine' wpAnyD_take (i := 13) (v := _) rfl (by kernel_rfl) (by kernel_rfl) (by kernel_rfl) (by kernel_rfl) (fun _ _ _ h => h) (Or.inl ⟨by rfl, ?hy52⟩) hS ?re52
        case hy52 => (intro w hSw; (try dsimp only at hSw); go_simp; (try with_reducible rfl))
        simp only [Act.put, List.setIfInBounds_toArray, List.set_cons_zero, List.set_cons_succ]
        refine' wpAnyD_take (i := 14) (v := _) rfl (by kernel_rfl) (by kernel_rfl) (by kernel_rfl) (by kernel_rfl) (fun _ _ _ h => h) (Or.inl ⟨by rfl, ?hy53⟩) hS ?re53
        case hy53 => (intro w hSw; (try dsimp only at hSw); go_simp; (try with_reducible rfl))
        simp only [Act.put, List.setIfInBounds_toArray, List.set_cons_zero, List.set_cons_succ]
        refine wpAnyD_only (i := 15) rfl (by kernel_rfl) (by rfl) (fun K hK => ?_)
        go_simp
        refine (of_any (c - 48) _).mono ?_
        rintro e w3 ⟨rfl, hb3⟩
        try dsimp only
        have hSn := pr_later hS hb3
        refine hK.out _ _ (fun _ => hSn) ?_
        clear hK K hS
        have hS := hSn
        clear hSn
        try simp only [Act.put, List.setIfInBounds_toArray, List.set_cons_zero, List.set_cons_succ]
        clear hb3
        have hS3 := hS
        refine wpAnyD_only (i := 16) rfl (by kernel_rfl) (by rfl) (fun K hK => ?_)
        go_simp
        try dsimp only
        have hSn := pr_later hS (below1 w3 (.cells #[.int .u64 xh, .int .u64 xl, .int .u64 xh, .int .u64 xl, .int .u64 xh, .int .u64 xl, .int .u64 xh, .int .u64 xl, .int .u64 xh, .int .u64 xl, .int .u64 xh, .int .u64 xl, .int .u64 xh, .int .u64 xl, .int .u64 xh, .int .u64 xl, .int .u64 xh, .int .u64 xl, .int .u64 xh, .int .u64 xl, .int .u64 0, .int .u64 (c - 48)] 27))
        refine hK.out _ _ (fun _ => hSn) ?_
        clear hK K hS
        have hS := hSn
        clear hSn
        try simp only [Act.put, List.setIfInBounds_toArray, List.set_cons_zero, List.set_cons_succ]
        refine wpAnyD_only (i := 17) rfl (by kernel_rfl) (by rfl) (fun K hK => ?_)
        go_simp
        refine (add11 w3 _ (by simp) xh xl (c - 48) _ _ kx1.out kx2.out wc.out yh yl wy1 wy2 HY.out).mono ?_
        rintro e w4 ⟨rfl, hb4⟩
        try dsimp only
        have hSn := pr_later hS3 hb4
        refine hK.out _ _ (fun _ => hSn) ?_
        clear hK K hS
        have hS := hSn
        clear hSn
        try simp only [Act.put, List.setIfInBounds_toArray, List.set_cons_zero, List.set_cons_succ]
        clear hb4 hS3
        refine' wpAnyD_free (i := 18) (v := _) rfl (by kernel_rfl) (by kernel_rfl) (by rfl) (by kernel_rfl) (fun _ _ _ h => h) (Or.inl ⟨by rfl, ?hy54⟩) ?re54
        case hy54 => (intro w hSw; clear hSw; go_simp; (try with_reducible rfl))
        simp only [Act.put, List.setIfInBounds_toArray, List.set_cons_zero, List.set_cons_succ]
        refine' wpAnyD_free (i := 19) (v := _) rfl (by kernel_rfl) (by kernel_rfl) (by rfl) (by kernel_rfl) (fun _ _ _ h => h) (Or.inl ⟨by rfl, ?hy55⟩) ?re55
        case hy55 => (intro w hSw; clear hSw; go_simp; (try with_reducible rfl))
        simp only [Act.put, List.setIfInBounds_toArray, List.set_cons_zero, List.set_cons_succ]
        refine' wpAnyD_free (i := 20) (v := _) rfl (by kernel_rfl) (by kernel_rfl) (by rfl) (by kernel_rfl) (fun _ _ _ h => h) (Or.inl ⟨by rfl, ?hy56⟩) ?re56
        case hy56 => (intro w hSw; clear hSw; go_simp; (try with_reducible rfl))
        simp only [Act.put, List.setIfInBounds_toArray, List.set_cons_zero, List.set_cons_succ]
        have f0 := hS.2.2.1.f0
        have f1 := hS.2.2.1.f1
        have hSc := hS.1
        have hSd := hS.2.1
        refine wpAnyD_only (i := 21) rfl (by kernel_rfl) (by rfl) (fun K hK => ?_)
        go_simp
        refine hK.out _ _ (fun h => by cases h) ?_
        clear hK K
        refine' wpAnyD_free (i := 22) (v := _) rfl (by kernel_rfl) (by kernel_rfl) (by rfl) (by kernel_rfl) (fun _ _ _ h => h) (Or.inl ⟨by rfl, ?hy57⟩) ?re57
        case hy57 => (intro w hSw; clear hSw; go_simp; (try with_reducible rfl))
        simp only [Act.put, List.setIfInBounds_toArray, List.set_cons_zero, List.set_cons_succ]
        refine wpAnyD_done (by kernel_rfl) ?_ _
        go_wp2
        go_roundw
        case rel => exact ⟨k + 1, by omega, by go_num, by rfl, yh, yl, wy1, wy2, HW, hS.2.2.1.put yh yl, hS.2.2.2.1.apart hnX _ _, (hS.2.2.2.2.setCell (p := ⟨w2.heap.size, 0, none⟩) bel2.size _).setCell (p := ⟨w2.heap.size, 1, none⟩) bel2.size _⟩
        case measure => simp [intOf]; omega
    · obtain rfl : k = s.size := by omega
      have hfin : (xh * 18446744073709551616 + xl).toNat = (ah * 18446744073709551616 + al).toNat := by
        rw [kv.out, List.take_of_length_le (by have := HZ.out; omega), HV.out, HN.out]
      obtain ⟨rfl, rfl⟩ : xh = ah ∧ xl = al := by
        obtain ⟨_, _⟩ := kx1.out; obtain ⟨_, _⟩ := kx2.out
        omega
      obtain ⟨zX, X0, X1, _, _⟩ := hv
      obtain ⟨zA, A0, A1⟩ := na
      have hz1' : (1 : Int) ≤ (s.size : Int) := by omega
      have hz2' : (s.size : Int) ≤ 39 := by omega
      clear hfin
      go_wp2
      go_ret
      exact ⟨rfl, bel⟩
end Go.Proofs.Ytcmjinkhfgmgaaa
