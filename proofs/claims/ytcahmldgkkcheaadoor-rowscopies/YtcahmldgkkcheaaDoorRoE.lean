
/-
  The walk of RowsSpans: it returns true, for any rows, ends and limit, and turns nothing that was there.
-/
import Derived.Test.YtcahmldgkkcheaaDoorRoD
set_option maxRecDepth 100000
namespace Go.Proofs.YtcahmldgkkcheaaDoor
open Go.RowKit
set_option linter.unusedVariables false
set_option linter.unusedSimpArgs false

/-- Times rise. -/
def Rise (M : List Rc) : Prop := M.Pairwise fun a b => a.tm < b.tm
theorem lst_rise : ∀ (L : List Rc) (t : Int), Rise (lst t L) ∧ ∀ a ∈ lst t L, t < a.tm
  | [], t => ⟨List.Pairwise.nil, fun a h => by cases h⟩
  | a :: L, t => by
    obtain ⟨k, hk, e⟩ := and_3 a.tm
    obtain ⟨h1, h2⟩ := lst_rise L (t + (1 + bits .and .i64 a.tm 3))
    have ht : (lstep t a).tm = t + (1 + bits .and .i64 a.tm 3) := rfl
    refine ⟨List.Pairwise.cons (fun b hb => ?_) h1, fun b hb => ?_⟩
    · rw [ht]; exact h2 b hb
    · rcases List.mem_cons.1 hb with rfl | hb
      · rw [ht, e]; omega
      · have := h2 b hb; rw [e] at this; omega
/-- One row counted. -/
def stepC (f t lim : Int) (p : Nat × Nat) (a : Rc) : Nat × Nat := if a.tm < f then (p.1 + 1, p.2) else if a.tm ≤ t ∧ (p.2 : Int) < lim then (p.1, p.2 + 1) else p
theorem count_from (f t lim : Int) : ∀ (M : List Rc) (F C : Nat), Rise M → (∀ a ∈ M, f ≤ a.tm) → C ≤ lim.toNat → M.foldl (stepC f t lim) (F, C) = (F, min lim.toNat (C + (M.takeWhile fun a => decide (a.tm ≤ t)).length))
  | [], F, C, _, _, h => by simp; omega
  | a :: M, F, C, hr, hf, h => by
    obtain ⟨h1, h2⟩ := List.pairwise_cons.1 hr
    have ha := hf a (by simp)
    rw [List.foldl_cons, List.takeWhile_cons]
    have hs : stepC f t lim (F, C) a = if a.tm ≤ t ∧ (C : Int) < lim then (F, C + 1) else (F, C) := by unfold stepC; rw [if_neg (by omega)]
    rw [hs]
    by_cases c1 : a.tm ≤ t
    · rw [if_pos (show decide (a.tm ≤ t) = true from decide_eq_true c1)]
      by_cases c2 : (C : Int) < lim
      · rw [if_pos ⟨c1, c2⟩, count_from f t lim M F (C + 1) h2 (fun b hb => hf b (by simp [hb])) (by omega), List.length_cons]
        congr 1
        omega
      · rw [if_neg (fun h => c2 h.2), count_from f t lim M F C h2 (fun b hb => hf b (by simp [hb])) h, List.length_cons]
        congr 1
        omega
    · rw [if_neg (fun h => c1 h.1), if_neg (by simp [c1]), count_from f t lim M F C h2 (fun b hb => hf b (by simp [hb])) h]
      have e : (M.takeWhile fun a => decide (a.tm ≤ t)) = [] := by
        cases M with
        | nil => rfl
        | cons b M' =>
          have := h1 b (by simp)
          rw [List.takeWhile_cons, if_neg]
          simp; omega
      rw [e]
theorem count_all (f t lim : Int) : ∀ (M : List Rc) (F : Nat), Rise M → M.foldl (stepC f t lim) (F, 0) = (F + spanF M f, spanC M f t lim)
  | [], F, _ => by simp [spanF, spanC]
  | a :: M, F, hr => by
    obtain ⟨h1, h2⟩ := List.pairwise_cons.1 hr
    by_cases c : a.tm < f
    · rw [List.foldl_cons]
      have hs : stepC f t lim (F, 0) a = (F + 1, 0) := by unfold stepC; rw [if_pos c]
      rw [hs, count_all f t lim M (F + 1) h2]
      have e1 : spanF (a :: M) f = spanF M f + 1 := by unfold spanF; rw [List.takeWhile_cons, if_pos (by simp [c])]; rfl
      have e2 : spanC (a :: M) f t lim = spanC M f t lim := by unfold spanC; rw [e1, List.drop_succ_cons]
      rw [e1, e2]
      congr 1
      omega
    · rw [count_from f t lim (a :: M) F 0 hr (fun b hb => by
        rcases List.mem_cons.1 hb with rfl | hb
        · omega
        · have := h1 b hb; omega) (by omega)]
      have e1 : spanF (a :: M) f = 0 := by unfold spanF; rw [List.takeWhile_cons, if_neg (by simp [c])]; rfl
      unfold spanC
      rw [e1, List.drop_zero, Nat.zero_add, Nat.add_zero]
theorem fold_le (f t lim : Int) : ∀ (M : List Rc) (p : Nat × Nat), (M.foldl (stepC f t lim) p).1 ≤ p.1 + M.length ∧ (M.foldl (stepC f t lim) p).2 ≤ p.2 + M.length
  | [], p => by simp
  | a :: M, p => by
    have := fold_le f t lim M (stepC f t lim p a)
    rw [List.foldl_cons, List.length_cons]
    have h : (stepC f t lim p a).1 ≤ p.1 + 1 ∧ (stepC f t lim p a).2 ≤ p.2 + 1 := by
      unfold stepC
      split
      · simp
      · split <;> simp
    omega
theorem fold_next (f t lim : Int) (M : List Rc) (k : Nat) (h : k < M.length) : (M.take (k + 1)).foldl (stepC f t lim) (0, 0) = stepC f t lim ((M.take k).foldl (stepC f t lim) (0, 0)) (M.getD k Rc.z) := by
  rw [take_snoc M k h, List.foldl_append]
  rfl
set_option maxHeartbeats 4000000 in
theorem spans_walk (v0 : Value) (L : List Rc) (f t lim : Int) (w : World) (hL : RowsAt w v0 L) (l0 : -9223372036854775808 ≤ lim) (l1 : lim ≤ 9223372036854775807) (ht : Tab w) :
    Calls Tryd.prog 3 #[v0, .agg #[.int .i64 f, .int .i64 t], .int .i64 lim] w fun e w' => e = .returned (.bool true) ∧ Below w.heap.size w w' := by
  obtain ⟨hok, hlm, p0, c0, rfl, _⟩ := id hL
  have HL : Hid (RowsAt w (.slice p0 L.length c0) L) := hL
  have HT : Hid (Tab w) := ht
  unfold maxLen at hlm
  have n0 : (0 : Int) ≤ (L.length : Int) := by omega
  have n1 : (L.length : Int) ≤ 9223372036854775807 := by omega
  have b1 := below1 w (.cells #[.int .i64 f, .int .i64 t] 23)
  have r1 := Row.new w #[.int .i64 f, .int .i64 t] 23 rfl
  clear hL ht hok hlm
  go_enter Tryd.func3, Tryd.ntmps3
  go_wp2_with fail
  refine (fit10_any _ (HT.out.later b1)).mono ?_
  rintro e w1 ⟨rfl, hb1⟩
  have B1 : Hid (Below w.heap.size w w1) := chain b1 hb1
  have R1 : Hid (Row w1 w.heap.size #[.int .i64 f, .int .i64 t] 23) := r1.later hb1
  clear b1 r1 hb1
  by_cases h40 : L.length ≤ 40
  · have n40 : (L.length : Int) ≤ 40 := by omega
    have H40 : Hid (L.length ≤ 40) := h40
    clear h40 n1
    go_wp2_with fail
    refine (list_any w1 _ L (HL.out.later B1.out) H40.out).mono ?_
    rintro e w2 ⟨rfl, hls, hb2⟩
    obtain ⟨M, hM⟩ : ∃ M, lst 0 L = M := ⟨_, rfl⟩
    rw [hM] at hls
    have HM : Hid (M.length = L.length ∧ Rise M) := by rw [← hM]; exact ⟨lst_len L 0, (lst_rise L 0).1⟩
    have HLS : Hid (LsAt w2 w1.heap.size w1.heap.size M) := hls
    have B2 : Hid (Below w.heap.size w w2) := B1.out.trans (hb2.mono B1.out.size)
    have R2 : Hid (Row w2 w.heap.size #[.int .i64 f, .int .i64 t] 23) := R1.out.later hb2
    clear hM hls hb2
    have z0 := R2.out.cell 0
    have z1 := R2.out.cell 1
    simp only [List.getElem?_toArray, List.getElem?_cons_zero, List.getElem?_cons_succ] at z0 z1
    have zl := R2.out.lt
    go_wp2_with fail
    refine (span_any w2 w1.heap.size w1.heap.size M f t lim HLS.out (by have := HM.out.1; have := H40.out; omega) l0 l1).mono ?_
    rintro e w3 ⟨rfl, hw3⟩
    obtain rfl := hw3
    have HCA : Hid (M.foldl (stepC f t lim) (0, 0) = (spanF M f, spanC M f t lim)) := by have := count_all f t lim M 0 HM.out.2; rw [Nat.zero_add] at this; exact this
    go_wp2_with fail
    refine (lslen_any w3 w1.heap.size w1.heap.size M HLS.out).mono ?_
    rintro e w4 ⟨rfl, hw4⟩
    obtain rfl := hw4
    rw [HM.out.1]
    have hR0 : LsAt w4 w1.heap.size w1.heap.size M ∧ Row w4 w.heap.size #[.int .i64 f, .int .i64 t] 23 ∧ Below w.heap.size w w4 := ⟨HLS.out, R2.out, B2.out⟩
    clear z0 z1 zl HLS R2 B2
    go_wp2
    go_loopw [33, 10, 11] (fun i u v wr => ∃ k : Nat, k ≤ L.length ∧ i = .int .i64 k ∧ u = .int .i64 ((M.take k).foldl (stepC f t lim) (0, 0)).1 ∧ v = .int .i64 ((M.take k).foldl (stepC f t lim) (0, 0)).2 ∧ LsAt wr w1.heap.size w1.heap.size M ∧ Row wr w.heap.size #[.int .i64 f, .int .i64 t] 23 ∧ Below w.heap.size w wr) (fun i _ _ _ => L.length - (intOf i).toNat)
    case atStart => exact ⟨0, Nat.zero_le _, rfl, rfl, rfl, hR0⟩
    case round =>
      clear hR0
      obtain ⟨k, hk, rfl, rfl, rfl, hls, hr, hbr⟩ := hrel
      have k0 : (0 : Int) ≤ (k : Int) := by omega
      have HLS := (show Hid (LsAt wr w1.heap.size w1.heap.size M) from hls)
      have HR : Hid (Row wr w.heap.size #[.int .i64 f, .int .i64 t] 23) := hr
      have HBR : Hid (Below w.heap.size w wr) := hbr
      clear hls hr hbr
      by_cases hlt : k < L.length
      · have k1 : (k : Int) < (L.length : Int) := by omega
        have hkM : k < M.length := by rw [HM.out.1]; exact hlt
        have hn := fold_next f t lim M k hkM
        have hle := fold_le f t lim (M.take k) (0, 0)
        rw [List.length_take] at hle
        have HK : Hid (k < L.length) := hlt
        have hat := fun w hw => lsat_any w w1.heap.size w1.heap.size M k hkM (by rw [HM.out.1]; have := H40.out; omega) hw
        have HAT := (show Hid _ from hat)
        obtain ⟨a, ha⟩ : ∃ a, M.getD k Rc.z = a := ⟨_, rfl⟩
        have HA : Hid (M.getD k Rc.z = a) := ha
        rw [ha] at hn
        obtain ⟨P, hP⟩ : ∃ P, (M.take k).foldl (stepC f t lim) (0, 0) = P := ⟨_, rfl⟩
        rw [hP] at hn hle ⊢
        have HN0 := (show Hid ((M.take (k + 1)).foldl (stepC f t lim) (0, 0) = stepC f t lim P a) from hn)
        obtain ⟨F, C⟩ := P
        simp only at hle
        have fb : (0 : Int) ≤ (F : Int) ∧ (F : Int) ≤ 40 := by have := H40.out; omega
        have cb : (0 : Int) ≤ (C : Int) ∧ (C : Int) ≤ 40 := by have := H40.out; omega
        obtain ⟨fb0, fb1⟩ := fb
        obtain ⟨cb0, cb1⟩ := cb
        clear hn hle hP ha hat hkM hlt
        dsimp only
        go_wp2_with fail
        refine (HAT.out wr HLS.out).mono ?_
        rintro e w5 ⟨rfl, hb5⟩
        rw [HA.out]
        have hfd := rc_time a
        have HRR : LsAt w5 w1.heap.size w1.heap.size M ∧ Row w5 w.heap.size #[.int .i64 f, .int .i64 t] 23 ∧ Below w.heap.size w w5 := ⟨HLS.out.later hb5, HR.out.later hb5, HBR.out.trans (hb5.mono HBR.out.size)⟩
        have z0 := HRR.2.1.cell 0
        have z1 := HRR.2.1.cell 1
        simp only [List.getElem?_toArray, List.getElem?_cons_zero, List.getElem?_cons_succ] at z0 z1
        have zl := HRR.2.1.lt
        have HXX := (show Hid (LsAt w5 w1.heap.size w1.heap.size M ∧ Row w5 w.heap.size #[.int .i64 f, .int .i64 t] 23 ∧ Below w.heap.size w w5) from HRR)
        clear hb5 HLS HR HBR HRR HAT
        have hsc : stepC f t lim (F, C) a = if a.tm < f then (F + 1, C) else if a.tm ≤ t ∧ (C : Int) < lim then (F, C + 1) else (F, C) := rfl
        rw [← HN0.out] at hsc
        generalize a.tm = x at *
        by_cases c1 : x < f
        · rw [if_pos c1] at hsc
          have HN : Hid ((M.take (k + 1)).foldl (stepC f t lim) (0, 0) = (F + 1, C)) := hsc
          have cb1 : (decide (x < f)) = true := decide_eq_true c1
          have HRR := HXX.out
          clear hsc c1
          go_wp2
          go_roundw
          case rel => exact ⟨k + 1, HK.out, by go_num, by rw [HN.out] <;> first | rfl | go_num, by rw [HN.out] <;> first | rfl | go_num, HRR⟩
          case measure => simp [intOf]; have := HK.out; omega
        · rw [if_neg c1] at hsc
          have cb1 : (decide (x < f)) = false := decide_eq_false c1
          by_cases c2 : x ≤ t
          · have cb2 : (decide (x ≤ t)) = true := decide_eq_true c2
            by_cases c3 : (C : Int) < lim
            · rw [if_pos ⟨c2, c3⟩] at hsc
              have HN : Hid ((M.take (k + 1)).foldl (stepC f t lim) (0, 0) = (F, C + 1)) := hsc
              have cb3 : (decide ((C : Int) < lim)) = true := decide_eq_true c3
              have HRR := HXX.out
              clear hsc c1 c2 c3
              go_wp2
              go_roundw
              case rel => exact ⟨k + 1, HK.out, by go_num, by rw [HN.out] <;> first | rfl | go_num, by rw [HN.out] <;> first | rfl | go_num, HRR⟩
              case measure => simp [intOf]; have := HK.out; omega
            · rw [if_neg (fun h => c3 h.2)] at hsc
              have HN : Hid ((M.take (k + 1)).foldl (stepC f t lim) (0, 0) = (F, C)) := hsc
              have cb3 : (decide ((C : Int) < lim)) = false := decide_eq_false c3
              have HRR := HXX.out
              clear hsc c1 c2 c3
              go_wp2
              go_roundw
              case rel => exact ⟨k + 1, HK.out, by go_num, by rw [HN.out] <;> first | rfl | go_num, by rw [HN.out] <;> first | rfl | go_num, HRR⟩
              case measure => simp [intOf]; have := HK.out; omega
          · rw [if_neg (fun h => c2 h.1)] at hsc
            have HN : Hid ((M.take (k + 1)).foldl (stepC f t lim) (0, 0) = (F, C)) := hsc
            have cb2 : (decide (x ≤ t)) = false := decide_eq_false c2
            have HRR := HXX.out
            clear hsc c1 c2
            go_wp2
            go_roundw
            case rel => exact ⟨k + 1, HK.out, by go_num, by rw [HN.out] <;> first | rfl | go_num, by rw [HN.out] <;> first | rfl | go_num, HRR⟩
            case measure => simp [intOf]; have := HK.out; omega
      · obtain rfl : k = L.length := by omega
        rw [← HM.out.1, List.take_length, HCA.out, HM.out.1]
        dsimp only
        generalize spanF M f = F at *
        generalize spanC M f t lim = C at *
        clear k0
        go_wp2_with fail
        refine (lslen_any wr w1.heap.size w1.heap.size M HLS.out).mono ?_
        rintro e w5 ⟨rfl, hw5⟩
        obtain rfl := hw5
        rw [HM.out.1]
        go_wp2
        go_ret
        exact ⟨rfl, HBR.out⟩
  · have n40 : (40 : Int) < (L.length : Int) := by omega
    go_wp2
    go_ret
    exact ⟨rfl, B1.out⟩
end Go.Proofs.YtcahmldgkkcheaaDoor
