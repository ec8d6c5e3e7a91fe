/-
  The reference's roots: the first bits behind the point of the roots of the first primes.
-/
import Derived.Test.YtbbpihdebdknhaaDoorRfO
namespace Go.Proofs.YtbbpihdebdknhaaDoor
open Go.RowKit

theorem kO_spec1 (p : Nat) : ∀ f k, k < kO p f → (2 + k) * (2 + k) ≤ p
  | 0, k, h => by simp [kO] at h
  | f + 1, k, h => by
    rw [kO] at h
    split at h
    · have := Nat.mul_le_mul (show 2 + k ≤ 2 + f by omega) (show 2 + k ≤ 2 + f by omega)
      omega
    · exact kO_spec1 p f k h
theorem kO_spec2 (p : Nat) : ∀ f k, k < f → (2 + k) * (2 + k) ≤ p → k < kO p f
  | 0, k, h, _ => by omega
  | f + 1, k, h, h2 => by
    rw [kO]
    split
    · exact h
    · rename_i h3
      refine kO_spec2 p f k ?_ h2
      rcases Nat.lt_or_ge k f with h4 | h4
      · exact h4
      · obtain rfl : k = f := by omega
        exact absurd h2 h3
theorem kO_le (p : Nat) : ∀ f, kO p f ≤ f
  | 0 => Nat.le_refl _
  | f + 1 => by
    rw [kO]
    split
    · exact Nat.le_refl _
    · exact Nat.le_succ_of_le (kO_le p f)
theorem kO_end (p k : Nat) (h : kO p p ≤ k) : p < (2 + k) * (2 + k) := by
  rcases Nat.lt_or_ge p ((2 + k) * (2 + k)) with h1 | h1
  · exact h1
  · have h2 : 2 + k ≤ (2 + k) * (2 + k) := Nat.le_mul_of_pos_left _ (by omega)
    have := kO_spec2 p p k (by omega) h1
    omega
theorem xs_lt (p : Nat) (cube : Bool) : ∀ t, t ≤ 38 → xsF p cube t + 2 ^ (38 - t) ≤ 2 ^ 38
  | 0, _ => by simp [xsF]
  | t + 1, h => by
    have ih := xs_lt p cube t (by omega)
    have e : 2 ^ (38 - t) = 2 ^ (38 - (t + 1)) + 2 ^ (37 - t) := by
      rw [show 38 - (t + 1) = 37 - t from by omega, show 38 - t = 37 - t + 1 from by omega, Nat.pow_succ]
      omega
    rw [e] at ih
    rw [xsF]
    generalize 2 ^ (38 - (t + 1)) = c at *
    generalize 2 ^ (37 - t) = d at *
    split <;> omega

theorem val_i64 {a b : Int} (h : a = b) : Value.int .i64 a = .int .i64 b := by rw [h]
theorem OwnW.later {w w1 : World} {base : Nat} {v : Value} {l : List Nat} (h : OwnW w base v l) (hb : Below w.heap.size w w1) : OwnW w1 base v l :=
  ⟨h.1, h.2.imp id fun ⟨g, cap, cur, e, h1, h2, h3⟩ => ⟨g, cap, cur, e, h1, (hb.block g (Array.getElem?_eq_some_iff.1 h2).1).trans h2, h3⟩⟩
theorem Own.later {w w1 : World} {base : Nat} {v : Value} {l : List Nat} (h : Own w base v l) (hb : Below w.heap.size w w1) : Own w1 base v l :=
  ⟨h.1, h.2.imp id fun ⟨g, cap, cur, e, h1, h2, h3⟩ => ⟨g, cap, cur, e, h1, (hb.block g (Array.getElem?_eq_some_iff.1 h2).1).trans h2, h3⟩⟩

set_option maxHeartbeats 1000000 in
set_option maxRecDepth 100000 in
theorem roots_any (n J : Nat) (cube : Bool) (w : World) (hJ : cntF J = n) (hlt : ∀ j, j < J → cntF j < n) (hJb : J ≤ 1000) :
    Calls Tryd.prog 16 #[.int .i64 n, .bool cube] w fun e w' => ∃ v, e = .returned v ∧ OwnW w' w.heap.size v (outF cube J) ∧ Below w.heap.size w w' := by
  have hn : n ≤ J := by
    subst hJ
    have : ∀ j, cntF j ≤ j := fun j => by induction j with | zero => exact Nat.le_refl _ | succ j ih => rw [cntF]; split <;> omega
    exact this J
  have n0 : (0 : Int) ≤ (n : Int) := by omega
  have n1 : (n : Int) ≤ 1000 := by omega
  go_enter Tryd.func16, Tryd.ntmps16
  go_wp2
  go_loopw [6, 5] (fun pp s wr => ∃ (j : Nat) (v : Value), j ≤ J ∧ pp = .int .u64 ((2 + j : Nat) : Int) ∧ v = s ∧ OwnW wr w.heap.size v (outF cube j) ∧ Below w.heap.size w wr) (fun pp _ _ => J + 2 - (intOf pp).toNat)
  case atStart => exact ⟨0, _, Nat.zero_le _, rfl, rfl, World.ownsRow_nil _ _ _ _, Below.refl _ _⟩
  case round =>
    obtain ⟨j, v, hj, rfl, hv, ho, hbel⟩ := hrel
    subst hv
    obtain ⟨vp, vn, vc, rfl, hvn⟩ := ho.form
    rw [out_len] at hvn
    by_cases hlj : j < J
    · have hcn := hlt j hlj
      have HO : Hid (outF cube (j + 1) = if primeF (2 + j) then outF cube j ++ [xsF (2 + j) cube 38 % 4294967296] else outF cube j) := show _ = _ from rfl
      have HV : Hid (vn = cntF j) := hvn
      have v0 : (vn : Int) < (n : Int) := by omega
      have HL : Hid (OwnW wr w.heap.size (.slice vp vn vc) (outF cube j)) := ho
      have hol : (outF cube j).length ≤ 1000 := by rw [out_len]; omega
      clear hvn ho hcn
      generalize outF cube j = L at *
      have HP : Hid (primeF (2 + j) = prF (2 + j) (kO (2 + j) (2 + j))) := show _ = _ from rfl
      have HJ : Hid (j + 2 = 2 + j) := Nat.add_comm _ _
      obtain ⟨p, hp⟩ : ∃ p, p = 2 + j := ⟨_, rfl⟩
      have HJP : Hid (p = 2 + j) := hp
      rw [← hp] at HP HO ⊢
      have p0 : (2 : Int) ≤ (p : Int) := by omega
      have p1 : (p : Int) ≤ 1002 := by omega
      clear hp
      go_wp2
      go_loop [8, 7] (fun d b => ∃ k : Nat, k ≤ kO p p ∧ d = .int .u64 ((2 + k : Nat) : Int) ∧ b = .bool (prF p k)) (fun d _ => kO p p + 2 - (intOf d).toNat)
      case atStart => exact ⟨0, Nat.zero_le _, rfl, rfl⟩
      case round =>
        obtain ⟨k, hk, rfl, rfl⟩ := hrel
        have hkp := kO_le p p
        by_cases hkl : k < kO p p
        · have hsq := kO_spec1 p p k hkl
          obtain ⟨d, hd⟩ : ∃ d, d = 2 + k := ⟨_, rfl⟩
          have hpr : prF p (k + 1) = if p % d = 0 then false else prF p k := by rw [hd]; rfl
          rw [← hd] at hsq ⊢
          have HD : Hid (d = 2 + k) := hd
          have d0 : (2 : Int) ≤ (d : Int) := by omega
          have d1 : (d : Int) ≤ 1004 := by omega
          have q0 : (0 : Int) ≤ (d : Int) * (d : Int) := by rw [← Int.natCast_mul]; omega
          have q1 : (d : Int) * (d : Int) ≤ (p : Int) := by rw [← Int.natCast_mul]; omega
          generalize hpq : (d : Int) * (d : Int) = pq at *
          clear hd hsq hkp
          by_cases hz : p % d = 0
          · rw [if_pos hz] at hpr
            have HPR : Hid (prF p (k + 1) = false) := hpr
            have hz' : ((p : Int) % (d : Int) == 0) = true := by simp only [beq_iff_eq]; omega
            clear hz hpr
            go_wp2
            go_round
            case rel => exact ⟨k + 1, by omega, val_u64 (by rw [HD.out]; omega), by rw [HPR.out]⟩
            case measure => simp [intOf]; have := HD.out; omega
          · rw [if_neg hz] at hpr
            have HPR : Hid (prF p (k + 1) = prF p k) := hpr
            have hz' : ((p : Int) % (d : Int) == 0) = false := by simp only [beq_eq_false_iff_ne, ne_eq]; omega
            clear hz hpr
            go_wp2
            go_round
            case rel => exact ⟨k + 1, by omega, val_u64 (by rw [HD.out]; omega), by rw [HPR.out]⟩
            case measure => simp [intOf]; have := HD.out; omega
        · obtain rfl : k = kO p p := by omega
          have hsq := kO_end p (kO p p) (Nat.le_refl _)
          rw [← HP.out]
          obtain ⟨d, hd⟩ : ∃ d, d = 2 + kO p p := ⟨_, rfl⟩
          rw [← hd] at hsq ⊢
          have d0 : (2 : Int) ≤ (d : Int) := by omega
          have d1 : (d : Int) ≤ 1004 := by omega
          have q2 : d * d ≤ 1004 * 1004 := Nat.mul_le_mul (by omega) (by omega)
          have q0 : (p : Int) < (d : Int) * (d : Int) := by rw [← Int.natCast_mul]; omega
          have q1 : (d : Int) * (d : Int) ≤ 1008016 := by rw [← Int.natCast_mul]; omega
          generalize hpq : (d : Int) * (d : Int) = pq at *
          clear hd hsq hkp HP hk hkl q2
          by_cases hprime : primeF p = true
          · have ho := HO.out
            rw [if_pos hprime] at ho
            have HO2 : Hid (outF cube (j + 1) = L ++ [xsF p cube 38 % 4294967296]) := ho
            clear HO ho
            rw [hprime]
            clear hprime
            go_wp2
            go_loopw [10, 9, 11] (fun kk x _ w' => ∃ t : Nat, t ≤ 38 ∧ kk = .int .i64 (37 - (t : Int)) ∧ x = .int .u64 ((xsF p cube t : Nat) : Int) ∧ Below wr.heap.size wr w') (fun kk _ _ _ => (intOf kk + 1).toNat)
            case atStart => exact ⟨0, by omega, rfl, rfl, Below.refl _ _⟩
            case round =>
              rename_i wx
              obtain ⟨t, ht, rfl, rfl, hbx⟩ := hrel
              have hxl := xs_lt p cube t ht
              by_cases htl : t < 38
              · have HX : Hid (xsF p cube (t + 1) = if aboveF (xsF p cube t + 2 ^ (37 - t)) p cube then xsF p cube t else xsF p cube t + 2 ^ (37 - t)) := show _ = _ from rfl
                have t0 : (0 : Int) ≤ (t : Int) := by omega
                have t1 : (t : Int) < 38 := by omega
                have e2 : 2 ^ (38 - t) = 2 * 2 ^ (37 - t) := by rw [show 38 - t = 37 - t + 1 from by omega, Nat.pow_succ, Nat.mul_comm]
                rw [e2] at hxl
                generalize xsF p cube t = x at *
                have e3 : IntKind.u64.wrap ((2 : Int) ^ (37 - t)) = ((2 ^ (37 - t) : Nat) : Int) := by
                  rw [IntKind.wrap_u64, show (2 : Int) ^ (37 - t) = ((2 ^ (37 - t) : Nat) : Int) from by rw [Int.natCast_pow]; rfl]
                  omega
                obtain ⟨yy, hyy⟩ : ∃ yy, yy = x + 2 ^ (37 - t) := ⟨_, rfl⟩
                rw [← hyy] at HX
                have e4 : IntKind.u64.wrap ((x : Int) + ((2 ^ (37 - t) : Nat) : Int)) = (yy : Int) := by rw [IntKind.wrap_u64]; omega
                have hy : yy < 18446744073709551616 := by omega
                generalize 2 ^ (37 - t) = pw at *
                clear hyy hxl e2
                go_wp2_with (go_at_call 24; refine stop ?_)
                refine (above_any yy p cube _ hy (by omega)).mono ?_
                rintro e w5 ⟨rfl, hb5⟩
                have hb6 := chain hbx hb5
                clear e3 e4
                cases hab : aboveF yy p cube with
                | true =>
                  have hx := HX.out
                  rw [if_pos hab] at hx
                  have HX2 : Hid (xsF p cube (t + 1) = x) := hx
                  clear HX hx hab
                  go_wp2
                  go_roundw
                  case rel => exact ⟨t + 1, by omega, val_i64 (by omega), by rw [HX2.out], hb6⟩
                  case measure => simp [intOf]; omega
                | false =>
                  have hx := HX.out
                  rw [if_neg (by rw [hab]; decide)] at hx
                  have HX2 : Hid (xsF p cube (t + 1) = yy) := hx
                  clear HX hx hab
                  go_wp2
                  go_roundw
                  case rel => exact ⟨t + 1, by omega, val_i64 (by omega), by rw [HX2.out], hb6⟩
                  case measure => simp [intOf]; omega
              · obtain rfl : t = 38 := by omega
                rw [show (37 : Int) - ((38 : Nat) : Int) = -1 from rfl]
                have hxb : xsF p cube 38 < 274877906944 := by simp at hxl; omega
                generalize xsF p cube 38 = x at *
                have x0 : (0 : Int) ≤ (x : Int) := by omega
                have hb6 : Below w.heap.size w wr := chain hbel hbx
                have ho := HL.out
                have ho2 : OwnW wr w.heap.size (.slice vp vn vc) L := OwnW.later ho hbx
                have hown2 : OwnW (wr.alloc (.cells #[.int .u32 ((x % 4294967296 : Nat) : Int)] 46)) w.heap.size (.slice vp vn vc) L := ho2.later (below1 _ _)
                obtain ⟨v2, w2, hrun, hown3, hg, _⟩ := append_words _ w.heap.size 44 _ L hown2 _ [x % 4294967296] (WordsAt.new1 wr (x % 4294967296) (Nat.mod_lt _ (by decide))) (by simp; omega) (by simp; have := hb6.size; omega)
                have hb7 : Below w.heap.size w w2 := below_grown (chainA hb6 _) (by simp; have := hb6.size; omega) hg (fun k hk => (hown2.lt k hk).1)
                rw [← HO2.out] at hown3
                rw [show ((x % 4294967296 : Nat) : Int) = (x : Int) % 4294967296 from Int.natCast_emod _ _] at hrun
                clear hown2 ho2 ho hg hbx hxl
                go_wp2_with (at_builtin; refine Lib.wpList_append_run _ rfl _ _ _ _ rfl _ _ rfl rfl _ _ hrun ?_)
                go_roundw
                case rel => exact ⟨j + 1, _, by omega, val_u64 (by rw [HJP.out]; omega), rfl, hown3, hb7⟩
                case measure => simp [intOf]; have := HJP.out; omega
          · have ho := HO.out
            rw [if_neg hprime] at ho
            have hpf : primeF p = false := by simpa using hprime
            rw [hpf]
            have hown3 := HL.out
            have HO2 : Hid (outF cube (j + 1) = L) := ho
            clear HO ho hprime hpf
            go_wp2
            go_roundw
            case rel => exact ⟨j + 1, _, by omega, val_u64 (by rw [HJP.out]; omega), rfl, by rw [HO2.out]; exact hown3, hbel⟩
            case measure => simp [intOf]; have := HJP.out; omega
    · obtain rfl : j = J := by omega
      have v0 : (vn : Int) = (n : Int) := by omega
      have v1 : ¬ (vn : Int) < (n : Int) := by omega
      clear v0 hvn
      go_wp2
      go_ret
      exact ⟨_, rfl, ho, hbel⟩
end Go.Proofs.YtbbpihdebdknhaaDoor
