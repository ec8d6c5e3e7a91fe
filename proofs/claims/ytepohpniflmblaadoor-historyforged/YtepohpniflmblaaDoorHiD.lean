
/-
  history's Root. For at most 64 leaves.
-/
import Derived.Test.YtepohpniflmblaaDoorHiC
import Derived.Test.YtepohpniflmblaaDoorHiS
namespace Go.Proofs.YtepohpniflmblaaDoor
open Go.RowKit
set_option maxRecDepth 100000
set_option linter.unusedVariables false
set_option linter.unusedSimpArgs false

theorem split_lt {n : Nat} (h : 2 ≤ n) : 1 ≤ split n ∧ split n < n := by
  unfold split
  have hne : n - 1 ≠ 0 := by omega
  have h1 := Nat.log2_self_le hne
  have h2 : 1 ≤ 2 ^ Nat.log2 (n - 1) := Nat.one_le_two_pow
  omega
/-- The root of leaves' hashes. -/
noncomputable def rootL (l : List (List Nat)) : List Nat :=
  if h : 2 ≤ l.length then hsh (msgN (rootL (l.take (split l.length))) (rootL (l.drop (split l.length)))) else match l with | [] => hsh [] | a :: _ => a
termination_by l.length
decreasing_by
  · have := split_lt h; rw [List.length_take]; omega
  · have := split_lt h; rw [List.length_drop]; omega
/-- What is hashed for it, in order. -/
noncomputable def rootN (l : List (List Nat)) : List (List Nat) :=
  if h : 2 ≤ l.length then rootN (l.take (split l.length)) ++ rootN (l.drop (split l.length)) ++ [msgN (rootL (l.take (split l.length))) (rootL (l.drop (split l.length)))] else match l with | [] => [[]] | _ :: _ => []
termination_by l.length
decreasing_by
  · have := split_lt h; rw [List.length_take]; omega
  · have := split_lt h; rw [List.length_drop]; omega
theorem rootL_nil : rootL [] = hsh [] := by rw [rootL]; simp
theorem rootL_one (a : List Nat) : rootL [a] = a := by rw [rootL]; simp
theorem rootL_two {l : List (List Nat)} (h : 2 ≤ l.length) : rootL l = hsh (msgN (rootL (l.take (split l.length))) (rootL (l.drop (split l.length)))) := by rw [rootL, dif_pos h]
theorem rootN_nil : rootN [] = [[]] := by rw [rootN]; simp
theorem rootN_one (a : List Nat) : rootN [a] = [] := by rw [rootN]; simp
theorem rootN_two {l : List (List Nat)} (h : 2 ≤ l.length) : rootN l = rootN (l.take (split l.length)) ++ rootN (l.drop (split l.length)) ++ [msgN (rootL (l.take (split l.length))) (rootL (l.drop (split l.length)))] := by rw [rootN, dif_pos h]
theorem root_32 : ∀ (n : Nat) (l : List (List Nat)), l.length ≤ n → (∀ x ∈ l, H32 x) → H32 (rootL l)
  | _, [], _, _ => by rw [rootL_nil]; exact hsh_32 _
  | _, [a], _, h => by rw [rootL_one]; exact h a (by simp)
  | n + 1, a :: b :: l, hl, h => by rw [rootL_two (by simp)]; exact hsh_32 _
theorem rootN_len : ∀ (n : Nat) (l : List (List Nat)), l.length ≤ n → (rootN l).length ≤ l.length + (if l = [] then 1 else 0)  ∧ (l ≠ [] → (rootN l).length + 1 = l.length)
  | _, [], _ => by rw [rootN_nil]; simp
  | _, [a], _ => by rw [rootN_one]; simp
  | 0, a :: b :: l, h => by simp at h
  | n + 1, a :: b :: l, h => by
    have h2 : 2 ≤ (a :: b :: l).length := by simp
    rw [rootN_two h2]
    generalize a :: b :: l = m at *
    have hs := split_lt h2
    have e1 : (m.take (split m.length)).length = split m.length := by rw [List.length_take]; omega
    have e2 : (m.drop (split m.length)).length = m.length - split m.length := by rw [List.length_drop]
    have i1 := (rootN_len n (m.take (split m.length)) (by omega)).2 (by intro e; rw [e] at e1; simp at e1; omega)
    have i2 := (rootN_len n (m.drop (split m.length)) (by omega)).2 (by intro e; rw [e] at e2; simp at e2; omega)
    have hm : m ≠ [] := by intro e; subst e; simp at h2
    simp only [List.length_append, List.length_singleton, if_neg hm]
    constructor
    · omega
    · intro _; omega

theorem info_h32 {l : List Nat} (h : H32 l) : (Tryd.prog.info? 28).map (·.size) = some (bytesL l).size := by rw [bytesL_size, h.1]; exact info_hash
theorem z32_size {l : List Nat} (h : H32 l) : (bytesL (List.replicate 32 0)).size = (bytesL l).size := by simp [bytesL_size, h.1]
set_option maxHeartbeats 2000000 in
theorem root_any : ∀ (n : Nat) (v : Value) (L : List (List Nat)) (base : Nat) (tv : Value) (N : List (List Nat)) (w : World), L.length ≤ n → L.length ≤ 64 → HsAt w v L → Tab w → 0 < base → base ≤ w.heap.size → TpAt w base tv N → N.length + L.length ≤ 1000 →
    Calls Tryd.prog 15 #[tv, v] w fun e w' => e = .returned (.agg (bytesL (rootL L))) ∧ TpAt w' base tv (N ++ rootN L) ∧ TStep base w w' := by
  intro n
  induction n with
  | zero =>
    intro v L base tv N w hn h64 hv ht h0 hbw htp hN
    obtain ⟨pt, rfl⟩ := htp.form
    obtain ⟨p, c, rfl, hc1, hc2⟩ := hv.form
    obtain rfl : L = [] := List.eq_nil_of_length_eq_zero (by omega)
    rw [rootL_nil, rootN_nil]
    have h32 := hsh_32 []
    generalize hH : hsh [] = H at *
    have HH : Hid (hashF KW [] = H) := hH
    have hsz := info_h32 h32
    have b1 := below1 w (.cells (bytesL (List.replicate 32 0)) 28)
    have r0 := Row.new w (bytesL (List.replicate 32 0)) 28 rfl
    have ht1 := htp.later b1
    have HT1 := ht.later b1
    clear hv hc1 hH
    simp only [List.length_nil] at *
    go_enter Tryd.func15, Tryd.ntmps15
    go_wp2_with (go_at_call 25; refine stop ?_)
    rw [zeros32b]
    refine (of_tp _ [] [] H base _ N _ (parts0 _) rfl (by simp) HT1 h0 (by have := b1.size; omega) HH.out ht1 (by omega)).mono ?_
    rintro e w4 ⟨rfl, ht4, hs4⟩
    have r4 : Row w4 w.heap.size (bytesL (List.replicate 32 0)) 28 := r0.tstep hs4 (by decide) (by decide)
    have hs5 := (TStep.of b1).trans hs4
    clear b1 r0 hs4 htp ht1
    go_wp2_with (refine wpList_store_row rfl 28 _ _ rfl w.heap.size (bytesL H) rfl rfl 28 _ r4 hsz (by simp [bytesL_size, h32.1]) (bytesL_one _) ?_)
    refine bodyPost_ret (v := .agg (bytesL H)) (results_cell_row Tryd.results15 _ _ w.heap.size 28 (bytesL H) (0, 0) _ ?hp ?hg Tryd.underlying28 rfl hsz) rfl ⟨rfl, ?_, ?_⟩
    case hp => rfl
    case hg => exact r4.setRow _
    · exact ht4.setNew r4 (by decide) (by decide) (by decide) _
    · exact hs5.setNew (Nat.le_refl _) _
  | succ n ih =>
    intro v L base tv N w hn h64 hv ht h0 hbw htp hN
    obtain ⟨pt, rfl⟩ := htp.form
    obtain ⟨p, c, rfl, hc1, hc2⟩ := hv.form
    rcases Nat.lt_or_ge L.length 2 with h2 | h2
    · match L, h2 with
      | [], _ => 
        rw [rootL_nil, rootN_nil]
        have h32 := hsh_32 []
        generalize hH : hsh [] = H at *
        have HH : Hid (hashF KW [] = H) := hH
        have hsz := info_h32 h32
        have b1 := below1 w (.cells (bytesL (List.replicate 32 0)) 28)
        have r0 := Row.new w (bytesL (List.replicate 32 0)) 28 rfl
        have ht1 := htp.later b1
        have HT1 := ht.later b1
        clear hv hc1 hH
        simp only [List.length_nil] at *
        go_enter Tryd.func15, Tryd.ntmps15
        go_wp2_with (go_at_call 25; refine stop ?_)
        rw [zeros32b]
        refine (of_tp _ [] [] H base _ N _ (parts0 _) rfl (by simp) HT1 h0 (by have := b1.size; omega) HH.out ht1 (by omega)).mono ?_
        rintro e w4 ⟨rfl, ht4, hs4⟩
        have r4 : Row w4 w.heap.size (bytesL (List.replicate 32 0)) 28 := r0.tstep hs4 (by decide) (by decide)
        have hs5 := (TStep.of b1).trans hs4
        clear b1 r0 hs4 htp ht1
        go_wp2_with (refine wpList_store_row rfl 28 _ _ rfl w.heap.size (bytesL H) rfl rfl 28 _ r4 hsz (by simp [bytesL_size, h32.1]) (bytesL_one _) ?_)
        refine bodyPost_ret (v := .agg (bytesL H)) (results_cell_row Tryd.results15 _ _ w.heap.size 28 (bytesL H) (0, 0) _ ?hp ?hg Tryd.underlying28 rfl hsz) rfl ⟨rfl, ?_, ?_⟩
        case hp => rfl
        case hg => exact r4.setRow _
        · exact ht4.setNew r4 (by decide) (by decide) (by decide) _
        · exact hs5.setNew (Nat.le_refl _) _
      | [a], _ =>
        have h32 := hv.ok a (by simp)
        rw [rootL_one, rootN_one, List.append_nil]
        obtain ⟨g, off, rfl, hg, hr, _⟩ := hv.at (i := 0) (by simp)
        simp only [List.getD_cons_zero, Nat.zero_mul, Nat.add_zero] at hr
        have hsz := info_h32 h32
        have hsz2 : (Tryd.prog.info? 28).map (·.size) = some (bytesL a).toList.length := by rw [Array.length_toList]; exact hsz
        have hzz := z32_size h32
        have hone := bytesL_one a
        have b1 := below1 w (.cells (bytesL (List.replicate 32 0)) 28)
        have r0 := Row.new w (bytesL (List.replicate 32 0)) 28 rfl
        have hr1 : (w.alloc (.cells (bytesL (List.replicate 32 0)) 28)).rangeAt g off (bytesL a).toList := fun j x hx => (b1.cell (p := ⟨g, off + j, none⟩) hg).trans (hr j x hx)
        rw [← zeros32b] at hr1
        have ht1 := htp.later b1
        clear hv hr hN ih
        simp only [List.length_cons, List.length_nil] at *
        generalize bytesL a = ca at *
        go_enter Tryd.func15, Tryd.ntmps15
        go_wp2_with (refine wpList_load_mid rfl 28 _ rfl g off rfl ca.toList _ hr1 Tryd.underlying28 rfl hsz2 ?_; refine stop ?_)
        unfold Stop
        rw [zeros32b]
        clear hr1
        have r1 := r0
        generalize w.alloc (.cells (bytesL (List.replicate 32 0)) 28) = w1 at *
        go_wp2_with (refine wpList_store_row rfl 28 _ _ rfl w.heap.size ca rfl rfl 28 _ r1 hsz hzz hone ?_)
        refine bodyPost_ret (v := .agg ca) (results_cell_row Tryd.results15 _ _ w.heap.size 28 ca (0, 0) _ ?hp ?hg Tryd.underlying28 rfl hsz) rfl ⟨rfl, ?_, ?_⟩
        case hp => rfl
        case hg => exact r1.setRow _
        · exact ht1.setNew r1 (by decide) (by decide) (by decide) _
        · exact (TStep.of b1).setNew (Nat.le_refl _) _
    · have hs := split_lt h2
      have h32 : H32 (rootL L) := root_32 _ L (Nat.le_refl _) hv.ok
      rw [rootL_two h2] at h32 ⊢
      rw [rootN_two h2]
      have q1 : ((L.length : Int) == 0) = false := by rw [beq_eq_false_iff_ne]; omega
      have q2 : ((L.length : Int) == 1) = false := by rw [beq_eq_false_iff_ne]; omega
      have b1 := below1 w (.cells (bytesL (List.replicate 32 0)) 28)
      have r0 := Row.new w (bytesL (List.replicate 32 0)) 28 rfl
      have HT : Hid (Tab w) := ht
      have HV : Hid (HsAt w (.slice p L.length c) L) := hv
      have htp1 := htp.later b1
      have H2 : Hid (2 ≤ L.length) := h2
      have H64 : Hid (L.length ≤ 64) := h64
      have HN : Hid (N.length + L.length ≤ 1000) := hN
      have HLN : Hid (L.length ≤ n + 1) := hn
      clear hv ht htp h2 hN hn h64
      go_enter Tryd.func15, Tryd.ntmps15
      go_wp2_with (go_at_call 27; refine stop ?_)
      rw [zeros32b]
      refine (split_any _ H2.out H64.out _).mono ?_
      rintro e w1' ⟨rfl, hw1⟩
      obtain rfl := hw1.symm
      clear hw1
      have HL1 : Hid ((rootN (L.take (split L.length))).length + 1 = split L.length) := by
        have i1 := (rootN_len _ (L.take (split L.length)) (Nat.le_refl _)).2
        have e1 : (L.take (split L.length)).length = split L.length := by rw [List.length_take]; omega
        have i1 := i1 (by intro e; rw [e] at e1; simp at e1; omega)
        show _ = _
        omega
      have HL2 : Hid ((rootN (L.take (split L.length))).length + (rootN (L.drop (split L.length))).length + 2 = L.length) := by
        have i1 := (rootN_len _ (L.take (split L.length)) (Nat.le_refl _)).2
        have i2 := (rootN_len _ (L.drop (split L.length)) (Nat.le_refl _)).2
        have e1 : (L.take (split L.length)).length = split L.length := by rw [List.length_take]; omega
        have e2 : (L.drop (split L.length)).length = L.length - split L.length := by rw [List.length_drop]
        have i1 := i1 (by intro e; rw [e] at e1; simp at e1; omega)
        have i2 := i2 (by intro e; rw [e] at e2; simp at e2; omega)
        show _ = _
        omega
      generalize hkq : split L.length = k at *
      have HKq : Hid (split L.length = k) := hkq
      clear hkq
      obtain ⟨k1, k2⟩ := hs
      have k0 : (0 : Int) ≤ (k : Int) := by omega
      have kL : (k : Int) ≤ (L.length : Int) := by omega
      have kc : (k : Int) ≤ (c : Int) := by omega
      have Lc : (L.length : Int) ≤ (c : Int) := by omega
      have knc : ¬ c = k := by omega
      have KK : Hid (1 ≤ k ∧ k < L.length) := ⟨k1, k2⟩
      have s1 : (w.alloc (.cells (bytesL (List.replicate 32 0)) 28)).heap.size = w.heap.size + 1 := by simp
      generalize hw1 : w.alloc (.cells (bytesL (List.replicate 32 0)) 28) = w1 at *
      have S1 : Hid (w1.heap.size = w.heap.size + 1) := s1
      have HV1 := HV.out.later b1
      have HT1 := HT.out.later b1
      have A1 := HV1.take k (by omega)
      have A2 := HV1.drop k (by omega)
      rw [if_neg knc] at A2
      have HA2 : Hid (HsAt w1 (.slice (p.map (·.add (k * 32))) (L.length - k) (c - k)) (L.drop k)) := A2
      have ok1 : H32 (rootL (L.take k)) := root_32 _ _ (Nat.le_refl _) A1.ok
      have ok2 : H32 (rootL (L.drop k)) := root_32 _ _ (Nat.le_refl _) A2.ok
      clear A2 HV1 HV hw1 s1 k1 k2
      go_wp2_with (go_at_call 15; refine stop ?_)
      refine (ih _ (L.take k) base _ N w1 (by rw [List.length_take]; have := KK.out; have := HLN.out; omega) (by rw [List.length_take]; have := H64.out; omega) A1 HT1 h0 (by have := S1.out; omega) htp1 (by rw [List.length_take]; have := HN.out; omega)).mono ?_
      rintro e w2 ⟨rfl, htp2, hs2⟩
      have hs12 := (TStep.of (base := base) b1).trans hs2
      have rz2 := r0.tstep hs2 (by decide) (by decide)
      have HA22 : Hid (HsAt w2 (.slice (p.map (·.add (k * 32))) (L.length - k) (c - k)) (L.drop k)) := HA2.out.tstep hs2
      have HT2 : Hid (Tab w2) := HT1.tstep h0 hs2
      have HB2 : Hid (base ≤ w2.heap.size) := by have := hs2.size; have := S1.out; show _ ≤ _; omega
      have iA := info_h32 ok1
      have zA := z32_size ok1
      have oA := bytesL_one (rootL (L.take k))
      have iB := info_h32 ok2
      have zB := z32_size ok2
      have oB := bytesL_one (rootL (L.drop k))
      have hlt2 := hs12.size
      clear hs2 r0 HA2 HT1 htp1 b1 A1
      generalize hA : rootL (L.take k) = A at *
      have HAq : Hid (rootL (L.take k) = A) := hA
      clear hA
      generalize hB : rootL (L.drop k) = B at *
      have HBq : Hid (rootL (L.drop k) = B) := hB
      clear hB
      generalize hra : bytesL A = ra at *
      generalize hrb : bytesL B = rb at *
      go_wp2_with (refine wpList_store_row rfl 28 _ _ rfl w2.heap.size ra rfl rfl 28 _ (heap_alloc_new w2 _) iA zA oA ?_; refine stop ?_)
      unfold Stop
      rw [zeros32b]
      have rg3 := (Row.new w2 (bytesL (List.replicate 32 0)) 28 rfl).setRow ra
      have b3 : Below w2.heap.size w2 ((w2.alloc (.cells (bytesL (List.replicate 32 0)) 28)).setRow w2.heap.size ra) := Below.row (below1 w2 _) _ (Nat.le_refl _)
      generalize (w2.alloc (.cells (bytesL (List.replicate 32 0)) 28)).setRow w2.heap.size ra = w3 at *
      have rz3 := rz2.later b3
      have hA3 := HA22.out.later b3
      have HT3 := HT2.out.later b3
      have htp3 := htp2.later b3
      have hs13 := hs12.trans (TStep.of b3)
      have HB3 : Hid (base ≤ w3.heap.size) := by have := b3.size; have := HB2.out; show _ ≤ _; omega
      clear rz2 HA22 HT2 htp2 hs12 zA
      go_wp2_with (go_at_call 15; refine stop ?_)
      refine (ih _ (L.drop k) base _ (N ++ rootN (L.take k)) w3 (by rw [List.length_drop]; have := KK.out; have := HLN.out; omega) (by rw [List.length_drop]; have := H64.out; omega) hA3 HT3 h0 HB3.out htp3 (by rw [List.length_append, List.length_drop]; have := HN.out; have := HL1.out; have := KK.out; omega)).mono ?_
      rintro e w4 ⟨rfl, htp4, hs4⟩
      rw [HBq.out, hrb]
      have rz4 := rz3.tstep hs4 (by decide) (by decide)
      have rg4 := rg3.tstep hs4 (by decide) (by decide)
      have HT4 : Hid (Tab w4) := HT3.tstep h0 hs4
      have hs14 := hs13.trans hs4
      have HB4 : Hid (base ≤ w4.heap.size) := by have := hs4.size; have := HB3.out; show _ ≤ _; omega
      have hlt3 : w2.heap.size < w4.heap.size := by have := rg3.lt; have := hs4.size; omega
      clear rz3 rg3 HT3 hs13 hs4 htp3 hA3 b3 HB3
      go_wp2_with (refine wpList_store_row rfl 28 _ _ rfl w4.heap.size rb rfl rfl 28 _ (heap_alloc_new w4 _) iB zB oB ?_; refine stop ?_)
      unfold Stop
      rw [zeros32b]
      have rh5 := (Row.new w4 (bytesL (List.replicate 32 0)) 28 rfl).setRow rb
      have b5 : Below w4.heap.size w4 ((w4.alloc (.cells (bytesL (List.replicate 32 0)) 28)).setRow w4.heap.size rb) := Below.row (below1 w4 _) _ (Nat.le_refl _)
      generalize (w4.alloc (.cells (bytesL (List.replicate 32 0)) 28)).setRow w4.heap.size rb = w5 at *
      have rz5 := rz4.later b5
      have rg5 := rg4.later b5
      have HT5 := HT4.out.later b5
      have htp5 := htp4.later b5
      have hs15 := hs14.trans (TStep.of b5)
      have HB5 : Hid (base ≤ w5.heap.size) := by have := b5.size; have := HB4.out; show _ ≤ _; omega
      clear rz4 rg4 HT4 htp4 hs14 zB oA oB b5
      go_wp2_with (first | (refine wpList_load_row rfl 28 _ rfl w2.heap.size rfl 28 ra (0, 0) _ rg5 Tryd.underlying28 rfl iA ?_) | (refine wpList_load_row rfl 28 _ rfl w4.heap.size rfl 28 rb (0, 0) _ rh5 Tryd.underlying28 rfl iB ?_) | (go_at_call 24; refine stop ?_))
      subst hra hrb
      refine (node_any A B ok1 ok2 base _ (N ++ rootN (L.take k) ++ rootN (L.drop k)) w5 HT5 h0 HB5.out htp5 (by rw [List.length_append, List.length_append]; have := HN.out; have := HL2.out; omega)).mono ?_
      rintro e w6 ⟨rfl, htp6, hs6⟩
      have rz6 : Row w6 w.heap.size (bytesL (List.replicate 32 0)) 28 := rz5.tstep hs6 (by decide) (by decide)
      have hs16 := hs15.trans hs6
      clear rg5 rh5 rz5 HT5 htp5 hs15 hs6 iA iB ih
      have hsz := info_h32 h32
      have hzz := z32_size h32
      have hone := bytesL_one (hsh (msgN A B))
      rw [List.append_assoc, List.append_assoc] at htp6
      generalize hH : hsh (msgN A B) = H at *
      have HHq : Hid (hsh (msgN A B) = H) := hH
      clear hH
      go_wp2_with (refine wpList_store_row rfl 28 _ _ rfl w.heap.size (bytesL H) rfl rfl 28 _ rz6 hsz hzz hone ?_)
      refine bodyPost_ret (v := .agg (bytesL H)) (results_cell_row Tryd.results15 _ _ w.heap.size 28 (bytesL H) (0, 0) _ ?hp ?hg Tryd.underlying28 rfl hsz) rfl ⟨by rw [HKq.out, HAq.out, HBq.out, HHq.out], ?_, ?_⟩
      case hp => rfl
      case hg => exact rz6.setRow _
      · rw [HKq.out, HAq.out, HBq.out, List.append_assoc]
        exact htp6.setNew rz6 (by decide) (by decide) (by decide) _
      · exact hs16.setNew (Nat.le_refl _) _
end Go.Proofs.YtepohpniflmblaaDoor
