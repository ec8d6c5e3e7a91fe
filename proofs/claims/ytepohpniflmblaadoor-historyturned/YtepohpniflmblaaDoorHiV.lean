
/-
  The walk of HistoryOrders: it returns true, for any leaves and places, and turns nothing that was there.
-/
import Derived.Test.YtepohpniflmblaaDoorClO
import Derived.Test.YtepohpniflmblaaDoorClC
import Derived.Test.YtepohpniflmblaaDoorHiG
import Derived.Test.YtepohpniflmblaaDoorHeld
import Derived.Test.YtepohpniflmblaaDoorHiQ
import Derived.Deep.CutBlock
import Derived.Deep.DeepCutAuto
namespace Go.Proofs.YtepohpniflmblaaDoor
open Go.RowKit
set_option maxRecDepth 100000
set_option linter.unusedVariables false
set_option linter.unusedSimpArgs false
/-- An exchange of two rows of hashes in memory. -/
theorem hs_swp {w : World} {g n c : Nat} {L : List (List Nat)} (h : HsAt w (.slice (some ⟨g, 0, none⟩) n c) L) {a b : Nat} (ha : a < L.length) (hb : b < L.length) :
    HsAt ((w.setCells g (a * 32) (bytesL (L.getD b [])).toList).setCells g (b * 32) (bytesL (L.getD a [])).toList) (.slice (some ⟨g, 0, none⟩) n c) (swp L a b) := by
  have h1 := h.put ha (getD_32 h.ok hb)
  rw [Nat.zero_add] at h1
  have h2 := h1.put (i := b) (by simpa using hb) (x := L.getD a []) (getD_32 h.ok ha)
  rw [Nat.zero_add] at h2
  exact h2
theorem _root_.Go.Proofs.YtepohpniflmblaaDoor.Row.cells {w : World} {b g : Nat} {cs : Array Value} {t : TypeId} (h : Row w b cs t) (vs : List Value) (o : Nat) (hne : b ≠ g) : Row (w.setCells g o vs) b cs t := by
  induction vs generalizing o w with
  | nil => exact h
  | cons v r ih => exact ih ((heap_setCell_other w ⟨g, o, none⟩ b v hne).trans h) (o + 1)
theorem rootN_short : ∀ {A : List (List Nat)}, (∀ x ∈ A, H32 x) → ∀ l ∈ rootN A, l.length ≤ 1000 := by
  intro A
  induction hn : A.length using Nat.strongRecOn generalizing A with
  | _ n ih =>
    intro hA l hl
    rcases Nat.lt_or_ge n 2 with h2 | h2
    · match A, hn with
      | [], _ => rw [rootN_nil] at hl; simp at hl; subst hl; simp
      | [a], _ => rw [rootN_one] at hl; cases hl
      | _ :: _ :: _, h => simp at h; omega
    · have hs := split_lt h2
      rw [rootN_two (by omega), hn] at hl
      have tA : ∀ x ∈ A.take (split n), H32 x := fun x hx => hA x (List.mem_of_mem_take hx)
      have dA : ∀ x ∈ A.drop (split n), H32 x := fun x hx => hA x (List.mem_of_mem_drop hx)
      rcases List.mem_append.1 hl with hl | hl
      · rcases List.mem_append.1 hl with hl | hl
        · exact ih (split n) hs.2 (by rw [List.length_take]; omega) tA l hl
        · exact ih (n - split n) (by omega) (by rw [List.length_drop]; omega) dA l hl
      · rw [List.mem_singleton] at hl
        subst hl
        rw [msgN_len (rootL_32 tA) (rootL_32 dA)]
        omega
theorem yields_conv {ops : Array Oper} {S : World → Prop} {op : Oper} {a : Act} (hw : Region.wanted op (yielded ops a.tmps) = true) (x : Operand) (ho : op.op = .convert 37 9 x) (v : Value) (hx : a.eval x = v) (l : List Nat) (hS : ∀ w, S w → BytesAt w v l) : YieldsIf Tryd.prog ops S op (.string (strL l)) a :=
  .inl ⟨hw, fun w hw' => by
    unfold execOp
    simp only [ho, hx, Sem.run_bind, Sem.run_pure, conv_str (hS w hw'), Result.andThen_ok]⟩
theorem hash_in (l m : List Nat) (hl : l.length = 32) (hm : m.length = 32) (w : World) : (Op.equalIn 10000 28 (.agg (bytesL l)) (.agg (bytesL m))).run Tryd.prog w = .ok (decide (l = m)) w := by
  obtain ⟨i, hi, _⟩ := info_u8'
  rw [run_equalIn_array w 9999 (bytesL l) (bytesL m) Tryd.underlying28 hi, cells_u8]
  have h := run_eqItems_u8 9998 l m w (List.range 32) (fun j hj => by rw [hl, hm]; simpa using hj)
  rw [h, ← hl, all_range_eq l m (by omega)]
theorem TpAt.w8 {w : World} {base T : Nat} {N : List (List Nat)} (h : TpAt w base (.pointer (some ⟨T, 0, none⟩)) N) : ∀ l ∈ N, W8 l := by
  rcases h with h | ⟨_, _, _, _, _, _, _, h8⟩
  · cases h
  · exact h8
theorem HsAt.row {w : World} {g n c : Nat} {L : List (List Nat)} (h : HsAt w (.slice (some ⟨g, 0, none⟩) n c) L) (h0 : 0 < L.length) : ∃ cs, Row w g cs 28 := by
  obtain ⟨_, p, c', e, _, _, hat⟩ := h
  cases e
  obtain ⟨g', off, cs, e, hr, _⟩ := hat 0 h0
  cases e
  exact ⟨cs, hr⟩
theorem hs_range {w : World} {g n c : Nat} {L : List (List Nat)} (h : HsAt w (.slice (some ⟨g, 0, none⟩) n c) L) {i : Nat} (hi : i < L.length) : w.rangeAt g (i * 32) (bytesL (L.getD i [])).toList := by
  obtain ⟨g', off, e, _, hr, _⟩ := h.at hi
  cases e
  rw [Nat.zero_add] at hr
  exact hr
set_option maxHeartbeats 4000000 in
theorem orders_walk (v0 : Value) (L : List (List Nat)) (x y : Int) (w : World) (hL : PartsAt w v0 L) (hcap0 : ∀ q n c, v0 = .slice q n c → n ≤ c) (lo : -9223372036854775808 ≤ x) (hi : x ≤ 9223372036854775807) (lo2 : -9223372036854775808 ≤ y) (hi2 : y ≤ 9223372036854775807) (ht : Tab w) :
    Calls Tryd.prog 10 #[v0, .int .i64 x, .int .i64 y] w fun e w' => e = .returned (.bool true) ∧ Below w.heap.size w w' := by
  obtain ⟨hlm, p0, c0, rfl, hcells⟩ := id hL
  have HL : Hid (PartsAt w (.slice p0 L.length c0) L) := hL
  have HT : Hid (Tab w) := ht
  clear hcells hcap0
  unfold maxLen at hlm
  have l0 : (0 : Int) ≤ (L.length : Int) := by omega
  have l1 : (L.length : Int) ≤ 9223372036854775807 := by omega
  go_enter Tryd.func10, Tryd.ntmps10
  go_wp2_with (go_at_call 12; refine stop ?_)
  refine (fit6_any w HT.out).mono ?_
  rintro e w1 ⟨rfl, hb1⟩
  go_wp2_with (go_at_call 13; refine stop ?_)
  refine (light_any _ L w1 (HL.out.later hb1)).mono ?_
  rintro e w1' ⟨b, rfl, hli, hw1⟩
  obtain rfl := hw1.symm
  clear hw1
  cases b with
  | false =>
    go_wp2
    go_ret
    exact ⟨rfl, hb1⟩
  | true =>
    have hli := hli rfl
    by_cases h0 : L.length = 0
    · have h0' : (L.length : Int) = 0 := by omega
      go_wp2
      go_ret
      exact ⟨rfl, hb1⟩
    · have h0' : ((L.length : Int) == 0) = false := by rw [beq_eq_false_iff_ne]; omega
      have HLI : Hid (Light L ∧ L.length ≠ 0) := ⟨hli, h0⟩
      have l40 : (L.length : Int) ≤ 40 := by have := hli.1; omega
      have lp : (0 : Int) < (L.length : Int) := by omega
      obtain ⟨m, hm, hmx⟩ := and1023 x
      have hmod : ((m : Int)).tmod (L.length : Int) = ((m % L.length : Nat) : Int) := by rw [Int.ofNat_tmod]
      have HI : Hid (m % L.length < L.length) := Nat.mod_lt _ (Nat.pos_of_ne_zero h0)
      generalize m % L.length = i at *
      obtain ⟨m2, hm2, hmx2⟩ := and1023 y
      have hmod2 : ((m2 : Int)).tmod (L.length : Int) = ((m2 % L.length : Nat) : Int) := by rw [Int.ofNat_tmod]
      have HJ : Hid (m2 % L.length < L.length) := Nat.mod_lt _ (Nat.pos_of_ne_zero h0)
      generalize m2 % L.length = j at *
      have i0 : (0 : Int) ≤ (i : Int) := by omega
      have i1 : (i : Int) < (L.length : Int) := by have := HI.out; omega
      have j0 : (0 : Int) ≤ (j : Int) := by omega
      have j1 : (j : Int) < (L.length : Int) := by have := HJ.out; omega
      have B1 : Hid (Below w.heap.size w w1) := hb1
      clear hli h0 l1 hb1
      have hLn : ¬ L = [] := by rintro rfl; exact HLI.out.2 rfl
      go_upto_region 5 with fail
      refine wp_region_D (fun _ => true) (fun _ => True) (by kernel_rfl) ?_
      have hS : True := trivial
      have B2 : Hid (Below w.heap.size w w1.drew) := B1.out.drew
      generalize w1.drew = w2 at *
      refine' wpAnyD_take (i := 0) (v := _) rfl (by kernel_rfl) (by kernel_rfl) (by kernel_rfl) (by kernel_rfl) (fun _ _ _ h => h) (Or.inl ⟨by rfl, ?hy1⟩) hS ?re1
      case hy1 => (intro w hSw; (try dsimp only at hSw); go_simp; (try with_reducible rfl))
      simp only [Act.put, List.setIfInBounds_toArray, List.set_cons_zero, List.set_cons_succ]
      refine' wpAnyD_take (i := 1) (v := _) rfl (by kernel_rfl) (by kernel_rfl) (by kernel_rfl) (by kernel_rfl) (fun _ _ _ h => h) (Or.inl ⟨by rfl, ?hy2⟩) hS ?re2
      case hy2 => (intro w hSw; (try dsimp only at hSw); go_simp; (try with_reducible rfl))
      simp only [Act.put, List.setIfInBounds_toArray, List.set_cons_zero, List.set_cons_succ]
      refine' wpAnyD_take (i := 2) (v := _) rfl (by kernel_rfl) (by kernel_rfl) (by kernel_rfl) (by kernel_rfl) (fun _ _ _ h => h) (Or.inl ⟨by rfl, ?hy3⟩) hS ?re3
      case hy3 => (intro w hSw; (try dsimp only at hSw); go_simp; (try with_reducible rfl))
      simp only [Act.put, List.setIfInBounds_toArray, List.set_cons_zero, List.set_cons_succ]
      refine' wpAnyD_take (i := 3) (v := _) rfl (by kernel_rfl) (by kernel_rfl) (by kernel_rfl) (by kernel_rfl) (fun _ _ _ h => h) (Or.inl ⟨by rfl, ?hy4⟩) hS ?re4
      case hy4 => (intro w hSw; (try dsimp only at hSw); go_simp; (try with_reducible rfl))
      simp only [Act.put, List.setIfInBounds_toArray, List.set_cons_zero, List.set_cons_succ]
      refine' wpAnyD_take (i := 4) (v := _) rfl (by kernel_rfl) (by kernel_rfl) (by kernel_rfl) (by kernel_rfl) (fun _ _ _ h => h) (Or.inl ⟨by rfl, ?hy5⟩) hS ?re5
      case hy5 => (intro w hSw; (try dsimp only at hSw); go_simp; (try with_reducible rfl))
      simp only [Act.put, List.setIfInBounds_toArray, List.set_cons_zero, List.set_cons_succ]
      refine' wpAnyD_take (i := 5) (v := _) rfl (by kernel_rfl) (by kernel_rfl) (by kernel_rfl) (by kernel_rfl) (fun _ _ _ h => h) (Or.inl ⟨by rfl, ?hy6⟩) hS ?re6
      case hy6 => (intro w hSw; (try dsimp only at hSw); go_simp; (try with_reducible rfl))
      simp only [Act.put, List.setIfInBounds_toArray, List.set_cons_zero, List.set_cons_succ]
      refine' wpAnyD_take (i := 6) (v := _) rfl (by kernel_rfl) (by kernel_rfl) (by kernel_rfl) (by kernel_rfl) (fun _ _ _ h => h) (Or.inl ⟨by rfl, ?hy7⟩) hS ?re7
      case hy7 => (intro w hSw; (try dsimp only at hSw); go_simp; (try with_reducible rfl))
      simp only [Act.put, List.setIfInBounds_toArray, List.set_cons_zero, List.set_cons_succ]
      refine' wpAnyD_take (i := 7) (v := _) rfl (by kernel_rfl) (by kernel_rfl) (by kernel_rfl) (by kernel_rfl) (fun _ _ _ h => h) (Or.inl ⟨by rfl, ?hy8⟩) hS ?re8
      case hy8 => (intro w hSw; (try dsimp only at hSw); go_simp; (try with_reducible rfl))
      simp only [Act.put, List.setIfInBounds_toArray, List.set_cons_zero, List.set_cons_succ]
      refine' wpAnyD_take (i := 8) (v := _) rfl (by kernel_rfl) (by kernel_rfl) (by kernel_rfl) (by kernel_rfl) (fun _ _ _ h => h) (Or.inl ⟨by rfl, ?hy9⟩) hS ?re9
      case hy9 => (intro w hSw; (try dsimp only at hSw); go_simp; (try with_reducible rfl))
      simp only [Act.put, List.setIfInBounds_toArray, List.set_cons_zero, List.set_cons_succ]
      refine' wpAnyD_take (i := 9) (v := _) rfl (by kernel_rfl) (by kernel_rfl) (by kernel_rfl) (by kernel_rfl) (fun _ _ _ h => h) (Or.inl ⟨by rfl, ?hy10⟩) hS ?re10
      case hy10 => (intro w hSw; (try dsimp only at hSw); go_simp; (try with_reducible rfl))
      simp only [Act.put, List.setIfInBounds_toArray, List.set_cons_zero, List.set_cons_succ]
      refine' wpAnyD_take (i := 10) (v := _) rfl (by kernel_rfl) (by kernel_rfl) (by kernel_rfl) (by kernel_rfl) (fun _ _ _ h => h) (Or.inl ⟨by rfl, ?hy11⟩) hS ?re11
      case hy11 => (intro w hSw; (try dsimp only at hSw); go_simp; (try with_reducible rfl))
      simp only [Act.put, List.setIfInBounds_toArray, List.set_cons_zero, List.set_cons_succ]
      refine' wpAnyD_take (i := 11) (v := _) rfl (by kernel_rfl) (by kernel_rfl) (by kernel_rfl) (by kernel_rfl) (fun _ _ _ h => h) (Or.inl ⟨by rfl, ?hy12⟩) hS ?re12
      case hy12 => (intro w hSw; (try dsimp only at hSw); go_simp; (try with_reducible rfl))
      simp only [Act.put, List.setIfInBounds_toArray, List.set_cons_zero, List.set_cons_succ]
      refine wpAnyD_done (by kernel_rfl) ?_ _
      go_wp2_with (go_at_call 19; refine stop ?_)
      have b23 := below1 w2 (.cells #[.slice none 0 0] 40)
      have r7 := Row.new w2 #[.slice none 0 0] 40 rfl
      have B3 : Hid (Below w.heap.size w (w2.alloc (.cells #[.slice none 0 0] 40))) := B2.out.alloc B2.out.size _
      have G2 : Hid (w.heap.size ≤ w2.heap.size ∧ 0 < w2.heap.size) := ⟨B2.out.size, Nat.lt_of_lt_of_le HT.out.pos B2.out.size⟩
      have htp0 : TpAt (w2.alloc (.cells #[.slice none 0 0] 40)) w2.heap.size (.pointer (some ⟨w2.heap.size, 0, none⟩)) [] := TpAt.new (w := w2.alloc (.cells #[.slice none 0 0] 40)) (w' := w2.alloc (.cells #[.slice none 0 0] 40)) r7 (Nat.le_refl _)
      have hsz : w2.heap.size < (w2.alloc (.cells #[.slice none 0 0] 40)).heap.size := by simp
      have HSZ : Hid (w2.heap.size < (w2.alloc (.cells #[.slice none 0 0] 40)).heap.size) := hsz
      clear r7 b23 hsz
      generalize w2.alloc (.cells #[.slice none 0 0] 40) = w3 at *
      generalize w2.heap.size = T at *
      refine (noted_any _ L T _ [] w3 (fun wr hs => HL.out.low B3.out G2.out.1 hs) HLI.out.1 (HT.out.later B3.out) G2.out.2 (Nat.le_of_lt HSZ.out) htp0 (by simp)).mono ?_
      rintro e w4 ⟨u, rfl, hu, htp4, hs4⟩
      rw [List.nil_append] at htp4
      obtain ⟨hlen, ⟨rfl, hz⟩ | ⟨g, cap, cur, rfl, hbg, hg, h1, h2, h3, h4⟩⟩ := id hu
      · exact absurd hz (by rw [leafs_len]; exact HLI.out.2)
      have hn1 := leafs_len L
      rw [hn1]
      have HHS : Hid (HsAt w4 (.slice (some ⟨g, 0, none⟩) L.length cap) (leafs L)) := by have := hu.hs (leafs_ok L); rw [hn1] at this; exact this
      have B4 : Hid (Below w.heap.size w w4) := TStep.below B3.out (TStep.mk hs4.os hs4.tape hs4.output hs4.size (fun k o hk hs => hs4.block k o hk (hs.imp (fun h => Nat.lt_of_lt_of_le h G2.out.1) id)))
      have HG : Hid (T < g ∧ w.heap.size ≤ g) := ⟨Nat.lt_of_lt_of_le HSZ.out hbg, Nat.le_trans G2.out.1 (Nat.le_trans (Nat.le_of_lt HSZ.out) hbg)⟩
      have HTP4 : Hid (TpAt w4 T (.pointer (some ⟨T, 0, none⟩)) (L.map msgL)) := htp4
      have G4 : Hid (T ≤ w4.heap.size) := Nat.le_trans (Nat.le_of_lt HSZ.out) hs4.size
      clear hu hlen hbg hg h1 h2 h3 h4 hn1 htp4 hs4 htp0 B3 HSZ
      go_wp2_with (go_at_call 15; refine stop ?_)
      refine (root_any _ _ (leafs L) T _ (L.map msgL) w4 (Nat.le_refl _) (by rw [leafs_len]; have := HLI.out.1.1; omega) HHS.out (HT.out.later B4.out) G2.out.2 G4.out HTP4.out (by rw [leafs_len, List.length_map]; have := HLI.out.1.1; omega)).mono ?_
      rintro e w5 ⟨rfl, htp5, hs5⟩
      have h32 := root_32 _ (leafs L) (Nat.le_refl _) (leafs_ok L)
      obtain ⟨R, hR⟩ : ∃ R, rootL (leafs L) = R := ⟨_, rfl⟩
      rw [hR] at h32 ⊢
      have HR : Hid (rootL (leafs L) = R) := hR
      have H32R : Hid (H32 R) := h32
      have HH5 : Hid (HsAt w5 (.slice (some ⟨g, 0, none⟩) L.length cap) (leafs L)) := HHS.out.tstep hs5
      have B5 : Hid (Below w.heap.size w w5) := TStep.below B4.out (TStep.mk hs5.os hs5.tape hs5.output hs5.size (fun k o hk hs => hs5.block k o hk (hs.imp (fun h => Nat.lt_of_lt_of_le h G2.out.1) id)))
      have HTP5 : Hid (TpAt w5 T (.pointer (some ⟨T, 0, none⟩)) (L.map msgL ++ rootN (leafs L))) := htp5
      have G5 : Hid (T ≤ w5.heap.size ∧ g < w5.heap.size) := ⟨Nat.le_trans G4.out hs5.size, by
        obtain ⟨g', off, e, hlt, _⟩ := HH5.out.at (i := 0) (by rw [leafs_len]; exact Nat.pos_of_ne_zero HLI.out.2)
        cases e
        exact hlt⟩
      have iR := info_h32 h32
      have zR := z32_size h32
      have oR := bytesL_one R
      clear htp5 hs5 HHS HTP4 B4 G4 hR h32
      go_wp2_with (refine wpList_store_row rfl 28 _ _ rfl w5.heap.size (bytesL R) rfl rfl 28 _ (heap_alloc_new w5 _) iR zR oR ?_; refine stop ?_)
      unfold Stop
      rw [zeros32b]
      have r9 := (Row.new w5 (bytesL (List.replicate 32 0)) 28 rfl).setRow (bytesL R)
      have bz : Below w5.heap.size w5 ((w5.alloc (.cells (bytesL (List.replicate 32 0)) 28)).setRow w5.heap.size (bytesL R)) := Below.row (below1 w5 _) _ (Nat.le_refl _)
      generalize (w5.alloc (.cells (bytesL (List.replicate 32 0)) 28)).setRow w5.heap.size (bytesL R) = w6 at *
      have HH6 : Hid (HsAt w6 (.slice (some ⟨g, 0, none⟩) L.length cap) (leafs L)) := HH5.out.later bz
      have B6 : Hid (Below w.heap.size w w6) := B5.out.trans (bz.mono B5.out.size)
      have HTP6 : Hid (TpAt w6 T (.pointer (some ⟨T, 0, none⟩)) (L.map msgL ++ rootN (leafs L))) := HTP5.out.later bz
      have G6 : Hid (T ≤ w5.heap.size ∧ g < w5.heap.size ∧ w5.heap.size ≤ w6.heap.size) := ⟨G5.out.1, G5.out.2, bz.size⟩
      have R9 : Hid (Row w6 w5.heap.size (bytesL R) 28) := r9
      clear bz HH5 B5 HTP5 G5 r9
      generalize w5.heap.size = g9 at *
      have nL := leafs_len L
      have lH := fun (l : List Nat) (h : H32 l) => (by rw [Array.length_toList]; exact info_h32 h : (Tryd.prog.info? 28).map (·.size) = some (bytesL l).toList.length)
      have hia : i < (leafs L).length := by rw [nL]; exact HI.out
      have hja : j < (leafs L).length := by rw [nL]; exact HJ.out
      have h3i := getD_32 (leafs_ok L) hia
      have h3j := getD_32 (leafs_ok L) hja
      go_upto_region 9 with fail
      refine wp_region_D (fun k => Nat.blt k 13 && k != 2 && k != 3) (fun w' : World => HsAt w' (.slice (some ⟨g, 0, none⟩) L.length cap) (leafs L)) (by kernel_rfl) ?_
      have hS : (fun w' : World => HsAt w' (.slice (some ⟨g, 0, none⟩) L.length cap) (leafs L)) w6.drew := HH6.out.later ((Below.refl w6.heap.size w6).drew)
      have B7 : Hid (Below w.heap.size w w6.drew) := B6.out.drew
      have HTP7 : Hid (TpAt w6.drew T (.pointer (some ⟨T, 0, none⟩)) (L.map msgL ++ rootN (leafs L))) := HTP6.out.later ((Below.refl w6.heap.size w6).drew)
      have G7 : Hid (T ≤ g9 ∧ g < g9 ∧ g9 ≤ w6.drew.heap.size) := G6.out
      have R97 : Hid (Row w6.drew g9 (bytesL R) 28) := R9.out.later ((Below.refl w6.heap.size w6).drew)
      clear HH6 B6 HTP6 G6 R9
      generalize w6.drew = w7 at *
      refine' wpAnyD_free (i := 2) (v := _) rfl (by kernel_rfl) (by kernel_rfl) (by rfl) (by kernel_rfl) (fun _ _ _ h => h) (Or.inl ⟨by rfl, ?hy13⟩) ?re13
      case hy13 => (intro w hSw; clear hSw; go_simp; (try with_reducible rfl))
      simp only [Act.put, List.setIfInBounds_toArray, List.set_cons_zero, List.set_cons_succ]
      refine' wpAnyD_free (i := 3) (v := _) rfl (by kernel_rfl) (by kernel_rfl) (by rfl) (by kernel_rfl) (fun _ _ _ h => h) (Or.inl ⟨by rfl, ?hy14⟩) ?re14
      case hy14 => (intro w hSw; clear hSw; go_simp; (try with_reducible rfl))
      simp only [Act.put, List.setIfInBounds_toArray, List.set_cons_zero, List.set_cons_succ]
      refine' wpAnyD_take (i := 0) (v := _) rfl (by kernel_rfl) (by kernel_rfl) (by kernel_rfl) (by kernel_rfl) (fun _ _ _ h => h) (Or.inl ⟨by rfl, ?hy15⟩) hS ?re15
      case hy15 => (intro w hSw; (try dsimp only at hSw); go_simp; (try with_reducible rfl))
      simp only [Act.put, List.setIfInBounds_toArray, List.set_cons_zero, List.set_cons_succ]
      refine' wpAnyD_take (i := 1) (v := _) rfl (by kernel_rfl) (by kernel_rfl) (by kernel_rfl) (by kernel_rfl) (fun _ _ _ h => h) (Or.inl ⟨by rfl, ?hy16⟩) hS ?re16
      case hy16 => (intro w hSw; (try dsimp only at hSw); go_simp; (try with_reducible rfl))
      simp only [Act.put, List.setIfInBounds_toArray, List.set_cons_zero, List.set_cons_succ]
      refine' wpAnyD_take (i := 4) (v := _) rfl (by kernel_rfl) (by kernel_rfl) (by kernel_rfl) (by kernel_rfl) (fun _ _ _ h => h) (Or.inl ⟨by rfl, ?hy17⟩) hS ?re17
      case hy17 => (intro w hSw; (try dsimp only at hSw); go_simp; (try with_reducible rfl))
      simp only [Act.put, List.setIfInBounds_toArray, List.set_cons_zero, List.set_cons_succ]
      refine' wpAnyD_take (i := 5) (v := _) rfl (by kernel_rfl) (by kernel_rfl) (by kernel_rfl) (by kernel_rfl) (fun _ _ _ h => h) (Or.inl ⟨by rfl, ?hy18⟩) hS ?re18
      case hy18 => (intro w hSw; (try dsimp only at hSw); go_simp; (try with_reducible rfl))
      simp only [Act.put, List.setIfInBounds_toArray, List.set_cons_zero, List.set_cons_succ]
      refine' wpAnyD_take (i := 6) (v := _) rfl (by kernel_rfl) (by kernel_rfl) (by kernel_rfl) (by kernel_rfl) (fun _ _ _ h => h) (Or.inl ⟨by rfl, ?hy19⟩) hS ?re19
      case hy19 => (intro w hSw; (try dsimp only at hSw); go_simp; (try with_reducible rfl))
      simp only [Act.put, List.setIfInBounds_toArray, List.set_cons_zero, List.set_cons_succ]
      refine wpAnyD_take (i := 7) rfl (by kernel_rfl) (by kernel_rfl) (by kernel_rfl) (by kernel_rfl) (fun _ _ _ h => h) (yieldsIf_load_mid (by rfl) 28 _ rfl g (j * 32) rfl (bytesL ((leafs L).getD j [])).toList _ (fun w' hw' => hs_range hw' hja) Tryd.underlying28 rfl (lH _ h3j)) hS ?_
      simp only [Act.put, List.setIfInBounds_toArray, List.set_cons_zero, List.set_cons_succ]
      refine' wpAnyD_take (i := 8) (v := _) rfl (by kernel_rfl) (by kernel_rfl) (by kernel_rfl) (by kernel_rfl) (fun _ _ _ h => h) (Or.inl ⟨by rfl, ?hy20⟩) hS ?re20
      case hy20 => (intro w hSw; (try dsimp only at hSw); go_simp; (try with_reducible rfl))
      simp only [Act.put, List.setIfInBounds_toArray, List.set_cons_zero, List.set_cons_succ]
      refine' wpAnyD_take (i := 9) (v := _) rfl (by kernel_rfl) (by kernel_rfl) (by kernel_rfl) (by kernel_rfl) (fun _ _ _ h => h) (Or.inl ⟨by rfl, ?hy21⟩) hS ?re21
      case hy21 => (intro w hSw; (try dsimp only at hSw); go_simp; (try with_reducible rfl))
      simp only [Act.put, List.setIfInBounds_toArray, List.set_cons_zero, List.set_cons_succ]
      refine' wpAnyD_take (i := 10) (v := _) rfl (by kernel_rfl) (by kernel_rfl) (by kernel_rfl) (by kernel_rfl) (fun _ _ _ h => h) (Or.inl ⟨by rfl, ?hy22⟩) hS ?re22
      case hy22 => (intro w hSw; (try dsimp only at hSw); go_simp; (try with_reducible rfl))
      simp only [Act.put, List.setIfInBounds_toArray, List.set_cons_zero, List.set_cons_succ]
      refine wpAnyD_take (i := 11) rfl (by kernel_rfl) (by kernel_rfl) (by kernel_rfl) (by kernel_rfl) (fun _ _ _ h => h) (yieldsIf_load_mid (by rfl) 28 _ rfl g (i * 32) rfl (bytesL ((leafs L).getD i [])).toList _ (fun w' hw' => hs_range hw' hia) Tryd.underlying28 rfl (lH _ h3i)) hS ?_
      simp only [Act.put, List.setIfInBounds_toArray, List.set_cons_zero, List.set_cons_succ]
      refine' wpAnyD_take (i := 12) (v := _) rfl (by kernel_rfl) (by kernel_rfl) (by kernel_rfl) (by kernel_rfl) (fun _ _ _ h => h) (Or.inl ⟨by rfl, ?hy23⟩) hS ?re23
      case hy23 => (intro w hSw; (try dsimp only at hSw); go_simp; (try with_reducible rfl))
      simp only [Act.put, List.setIfInBounds_toArray, List.set_cons_zero, List.set_cons_succ]
      refine wpAnyD_only (i := 13) rfl (by kernel_rfl) (by rfl) (fun K hK => ?_)
      rw [Array.toArray_toList, Array.toArray_toList]
      refine wp_store_mid 28 _ _ rfl g (i * 32) (bytesL ((leafs L).getD j [])) rfl rfl (by have := hS.there hia; rw [Nat.zero_add] at this; rw [bytesL_size, h3j.1]; exact this) (info_h32 h3j) (bytesL_one _) ?_
      refine hK.out _ _ (fun h => absurd h (by decide)) ?_
      clear hK K
      try simp only [Act.put, List.setIfInBounds_toArray, List.set_cons_zero, List.set_cons_succ]
      refine' wpAnyD_free (i := 14) (v := _) rfl (by kernel_rfl) (by kernel_rfl) (by rfl) (by kernel_rfl) (fun _ _ _ h => h) (Or.inl ⟨by rfl, ?hy24⟩) ?re24
      case hy24 => (intro w hSw; clear hSw; go_simp; (try with_reducible rfl))
      simp only [Act.put, List.setIfInBounds_toArray, List.set_cons_zero, List.set_cons_succ]
      refine wpAnyD_only (i := 15) rfl (by kernel_rfl) (by rfl) (fun K hK => ?_)
      refine wp_store_mid 28 _ _ rfl g (j * 32) (bytesL ((leafs L).getD i [])) rfl rfl (by have := (hS.put hia h3j).there (i := j) (by simpa using hja); rw [Nat.zero_add, Nat.zero_add] at this; rw [bytesL_size, h3i.1]; exact this) (info_h32 h3i) (bytesL_one _) ?_
      refine hK.out _ _ (fun h => absurd h (by decide)) ?_
      clear hK K
      try simp only [Act.put, List.setIfInBounds_toArray, List.set_cons_zero, List.set_cons_succ]
      refine wpAnyD_done (by kernel_rfl) ?_ _
      have hS8 := hs_swp hS hia hja
      obtain ⟨cs0, hr7⟩ := hS.row (by rw [nL]; exact Nat.pos_of_ne_zero HLI.out.2)
      obtain ⟨cs1, hr71, _⟩ := row_setCells g _ (bytesL ((leafs L).getD j [])).toList (i * 32) w7 cs0 hr7
      have hnh := (nh_setCells g (bytesL ((leafs L).getD j [])).toList (i * 32) w7 cs0 hr7).trans (nh_setCells g (bytesL ((leafs L).getD i [])).toList (j * 32) _ cs1 hr71)
      have htp8 := HTP7.out.nh hnh
      have B8 := below_setCells g HG.out.2 (bytesL ((leafs L).getD i [])).toList (j * 32) _ (below_setCells g HG.out.2 (bytesL ((leafs L).getD j [])).toList (i * 32) _ B7.out)
      have r98 := (R97.out.cells (g := g) (bytesL ((leafs L).getD j [])).toList (i * 32) (by have := G7.out; omega)).cells (g := g) (bytesL ((leafs L).getD i [])).toList (j * 32) (by have := G7.out; omega)
      have z8 := hnh.size
      generalize (w7.setCells g (i * 32) (bytesL ((leafs L).getD j [])).toList).setCells g (j * 32) (bytesL ((leafs L).getD i [])).toList = w8 at *
      have HS8 : Hid (HsAt w8 (.slice (some ⟨g, 0, none⟩) L.length cap) (swp (leafs L) i j)) := hS8
      have HTP8 : Hid (TpAt w8 T (.pointer (some ⟨T, 0, none⟩)) (L.map msgL ++ rootN (leafs L))) := htp8
      have HB8 : Hid (Below w.heap.size w w8) := B8
      have R98 : Hid (Row w8 g9 (bytesL R) 28) := r98
      have G8 : Hid (T ≤ w8.heap.size) := by have := G7.out; show _ ≤ _; omega
      have HLS : Hid ((swp (leafs L) i j).length = L.length) := by show _ = _; rw [swp_len, nL]
      clear hS hS8 hr7 hr71 hnh htp8 B8 r98 z8 HTP7 B7 R97 G7 nL lH
      go_wp2_with (go_at_call 15; refine stop ?_)
      refine (root_any _ _ (swp (leafs L) i j) T _ (L.map msgL ++ rootN (leafs L)) w8 (Nat.le_refl _) (by rw [HLS.out]; have := HLI.out.1.1; omega) (by have := HS8.out; rw [← HLS.out] at this; rw [HLS.out] at this; exact this) (HT.out.later HB8.out) G2.out.2 G8.out HTP8.out (by
        have h1 := (rootN_len _ (leafs L) (Nat.le_refl _)).1
        rw [leafs_len] at h1
        rw [HLS.out, List.length_append, List.length_map]
        have := HLI.out.1.1
        split at h1 <;> omega)).mono ?_
      rintro e w9 ⟨rfl, htp9, hs9⟩
      obtain ⟨R2, hR2⟩ : ∃ R, rootL (swp (leafs L) i j) = R := ⟨_, rfl⟩
      have h322 : H32 R2 := by rw [← hR2]; exact root_32 _ _ (Nat.le_refl _) (swp_32 (leafs_ok L) hia hja)
      rw [hR2]
      have HR2 : Hid (rootL (swp (leafs L) i j) = R2) := hR2
      have H322 : Hid (H32 R2) := h322
      have B9 : Hid (Below w.heap.size w w9) := TStep.below HB8.out (TStep.mk hs9.os hs9.tape hs9.output hs9.size (fun k o hk hs => hs9.block k o hk (hs.imp (fun h => Nat.lt_of_lt_of_le h G2.out.1) id)))
      have HTP9 : Hid (TpAt w9 T (.pointer (some ⟨T, 0, none⟩)) (L.map msgL ++ rootN (leafs L) ++ rootN (swp (leafs L) i j))) := htp9
      have R99 : Hid (Row w9 g9 (bytesL R) 28) := R98.out.tstep hs9 (by decide) (by decide)
      have iR := info_h32 h322
      have zR := z32_size h322
      have oR := bytesL_one R2
      clear htp9 hs9 HS8 HTP8 HB8 R98 G8 hR2 h322
      go_wp2_with (refine wpList_store_row rfl 28 _ _ rfl w9.heap.size (bytesL R2) rfl rfl 28 _ (heap_alloc_new w9 _) iR zR oR ?_; refine stop ?_)
      unfold Stop
      rw [zeros32b]
      have r10 := (Row.new w9 (bytesL (List.replicate 32 0)) 28 rfl).setRow (bytesL R2)
      have bz : Below w9.heap.size w9 ((w9.alloc (.cells (bytesL (List.replicate 32 0)) 28)).setRow w9.heap.size (bytesL R2)) := Below.row (below1 w9 _) _ (Nat.le_refl _)
      generalize (w9.alloc (.cells (bytesL (List.replicate 32 0)) 28)).setRow w9.heap.size (bytesL R2) = wa at *
      have Ba : Hid (Below w.heap.size w wa) := B9.out.trans (bz.mono B9.out.size)
      have HTPa : Hid (TpAt wa T (.pointer (some ⟨T, 0, none⟩)) (L.map msgL ++ rootN (leafs L) ++ rootN (swp (leafs L) i j))) := HTP9.out.later bz
      have R9a : Hid (Row wa g9 (bytesL R) 28) := R99.out.later bz
      have R10 : Hid (Row wa w9.heap.size (bytesL R2) 28) := r10
      clear bz B9 HTP9 R99 r10
      generalize w9.heap.size = g10 at *
      clear iR zR oR
      obtain ⟨_, _, _, e, hc⟩ := HL.out.later Ba.out
      cases e
      obtain ⟨b1, off1, x1, rfl, hbl1, hcx1, hx1⟩ := hc i HI.out
      obtain ⟨b2, off2, x2, e, hbl2, hcx2, hx2⟩ := hc j HJ.out
      cases e
      have hst := strL_ne (l := L.getD i []) (m := L.getD j []) hx1.1 hx2.1
      obtain ⟨_, _, px1, cx1, rfl, _⟩ := id hx1
      obtain ⟨_, _, px2, cx2, rfl, _⟩ := id hx2
      have HC : Hid (∀ hne : L.getD i [] ≠ L.getD j [], R = R2 → ClN (L.map msgL ++ rootN (leafs L) ++ rootN (swp (leafs L) i j))) := fun hne e =>
        orders_clash HI.out HJ.out hne (by rw [HR.out, HR2.out]; exact e)
      have HSE : Hid (L.getD i [] = L.getD j [] → R2 = R) := fun e => by
        rw [← HR.out, ← HR2.out, swp_same]
        rw [leafs_at HI.out, leafs_at HJ.out, e]
      have HNL : Hid ((L.map msgL ++ rootN (leafs L) ++ rootN (swp (leafs L) i j)).length ≤ 1000) := by
        have h1 := (rootN_len _ (leafs L) (Nat.le_refl _)).1
        have h2 := (rootN_len _ (swp (leafs L) i j) (Nat.le_refl _)).1
        rw [swp_len] at h2
        rw [leafs_len] at h1 h2
        show _ ≤ _
        rw [List.length_append, List.length_append, List.length_map]
        have := HLI.out.1.1
        split at h1 <;> split at h2 <;> omega
      have HML : Hid (∀ l ∈ L.map msgL ++ rootN (leafs L) ++ rootN (swp (leafs L) i j), l.length ≤ 1000) := by
        intro l hl
        rcases List.mem_append.1 hl with hl | hl
        · rcases List.mem_append.1 hl with hl | hl
          · obtain ⟨b, hb, rfl⟩ := List.mem_map.1 hl
            have := HLI.out.1.2 b hb
            simp [msgL]; omega
          · exact rootN_short (leafs_ok L) l hl
        · exact rootN_short (swp_32 (leafs_ok L) hia hja) l hl
      clear hc hbl1 hbl2
      generalize L.getD i [] = li at *
      generalize L.getD j [] = lj at *
      have hlr : (Tryd.prog.info? 28).map (·.size) = some (bytesL R).toList.length := by rw [Array.length_toList]; exact info_h32 H32R.out
      have hlr2 : (Tryd.prog.info? 28).map (·.size) = some (bytesL R2).toList.length := by rw [Array.length_toList]; exact info_h32 H322.out
      go_upto_region 11 with fail
      refine wp_region_D (fun _ => true) (fun w' : World => (w'.cell? ⟨b1, off1 + i, none⟩ = some (.slice px1 li.length cx1) ∧ w'.cell? ⟨b1, off1 + j, none⟩ = some (.slice px2 lj.length cx2)) ∧ BytesAt w' (.slice px1 li.length cx1) li ∧ BytesAt w' (.slice px2 lj.length cx2) lj) (by kernel_rfl) ?_
      have hS : (wa.drew.cell? ⟨b1, off1 + i, none⟩ = some (.slice px1 li.length cx1) ∧ wa.drew.cell? ⟨b1, off1 + j, none⟩ = some (.slice px2 lj.length cx2)) ∧ BytesAt wa.drew (.slice px1 li.length cx1) li ∧ BytesAt wa.drew (.slice px2 lj.length cx2) lj := ⟨⟨hcx1, hcx2⟩, hx1.later (Below.refl _ _).drew, hx2.later (Below.refl _ _).drew⟩
      have Bb : Hid (Below w.heap.size w wa.drew) := Ba.out.drew
      have HTPb : Hid (TpAt wa.drew T (.pointer (some ⟨T, 0, none⟩)) (L.map msgL ++ rootN (leafs L) ++ rootN (swp (leafs L) i j))) := HTPa.out.later (Below.refl _ _).drew
      have R9b : Hid (Row wa.drew g9 (bytesL R) 28) := R9a.out
      have R10b : Hid (Row wa.drew g10 (bytesL R2) 28) := R10.out
      clear hcx1 hcx2 hx1 hx2 Ba HTPa R9a R10
      generalize wa.drew = wb at *
      refine' wpAnyD_take (i := 0) (v := _) rfl (by kernel_rfl) (by kernel_rfl) (by kernel_rfl) (by kernel_rfl) (fun _ _ _ h => h) (Or.inl ⟨by rfl, ?hy25⟩) hS ?re25
      case hy25 => (intro w hSw; (try dsimp only at hSw); go_simp; (try with_reducible rfl))
      simp only [Act.put, List.setIfInBounds_toArray, List.set_cons_zero, List.set_cons_succ]
      refine' wpAnyD_take (i := 1) (v := _) rfl (by kernel_rfl) (by kernel_rfl) (by kernel_rfl) (by kernel_rfl) (fun _ _ _ h => h) (Or.inl ⟨by rfl, ?hy26⟩) hS ?re26
      case hy26 => (intro w hSw; (try dsimp only at hSw); go_simp; (try with_reducible rfl))
      simp only [Act.put, List.setIfInBounds_toArray, List.set_cons_zero, List.set_cons_succ]
      refine' wpAnyD_take (i := 2) (v := _) rfl (by kernel_rfl) (by kernel_rfl) (by kernel_rfl) (by kernel_rfl) (fun _ _ _ h => h) (Or.inl ⟨by rfl, ?hy27⟩) hS ?re27
      case hy27 => (intro w hSw; (try dsimp only at hSw); go_simp; (try with_reducible rfl))
      simp only [Act.put, List.setIfInBounds_toArray, List.set_cons_zero, List.set_cons_succ]
      refine' wpAnyD_take (i := 3) (v := _) rfl (by kernel_rfl) (by kernel_rfl) (by kernel_rfl) (by kernel_rfl) (fun _ _ _ h => h) (Or.inl ⟨by rfl, ?hy28⟩) hS ?re28
      case hy28 => (intro w hSw; (try dsimp only at hSw); go_simp; (try with_reducible rfl))
      simp only [Act.put, List.setIfInBounds_toArray, List.set_cons_zero, List.set_cons_succ]
      refine wpAnyD_take (i := 4) rfl (by kernel_rfl) (by kernel_rfl) (by kernel_rfl) (by kernel_rfl) (fun _ _ _ h => h) (yields_conv (by rfl) _ rfl (.slice px1 li.length cx1) rfl li (fun _ h => h.2.1)) hS ?_
      simp only [Act.put, List.setIfInBounds_toArray, List.set_cons_zero, List.set_cons_succ]
      refine' wpAnyD_take (i := 5) (v := _) rfl (by kernel_rfl) (by kernel_rfl) (by kernel_rfl) (by kernel_rfl) (fun _ _ _ h => h) (Or.inl ⟨by rfl, ?hy29⟩) hS ?re29
      case hy29 => (intro w hSw; (try dsimp only at hSw); go_simp; (try with_reducible rfl))
      simp only [Act.put, List.setIfInBounds_toArray, List.set_cons_zero, List.set_cons_succ]
      refine' wpAnyD_take (i := 6) (v := _) rfl (by kernel_rfl) (by kernel_rfl) (by kernel_rfl) (by kernel_rfl) (fun _ _ _ h => h) (Or.inl ⟨by rfl, ?hy30⟩) hS ?re30
      case hy30 => (intro w hSw; (try dsimp only at hSw); go_simp; (try with_reducible rfl))
      simp only [Act.put, List.setIfInBounds_toArray, List.set_cons_zero, List.set_cons_succ]
      refine' wpAnyD_take (i := 7) (v := _) rfl (by kernel_rfl) (by kernel_rfl) (by kernel_rfl) (by kernel_rfl) (fun _ _ _ h => h) (Or.inl ⟨by rfl, ?hy31⟩) hS ?re31
      case hy31 => (intro w hSw; (try dsimp only at hSw); go_simp; (try with_reducible rfl))
      simp only [Act.put, List.setIfInBounds_toArray, List.set_cons_zero, List.set_cons_succ]
      refine' wpAnyD_take (i := 8) (v := _) rfl (by kernel_rfl) (by kernel_rfl) (by kernel_rfl) (by kernel_rfl) (fun _ _ _ h => h) (Or.inl ⟨by rfl, ?hy32⟩) hS ?re32
      case hy32 => (intro w hSw; (try dsimp only at hSw); go_simp; (try with_reducible rfl))
      simp only [Act.put, List.setIfInBounds_toArray, List.set_cons_zero, List.set_cons_succ]
      refine wpAnyD_take (i := 9) rfl (by kernel_rfl) (by kernel_rfl) (by kernel_rfl) (by kernel_rfl) (fun _ _ _ h => h) (yields_conv (by rfl) _ rfl (.slice px2 lj.length cx2) rfl lj (fun _ h => h.2.2)) hS ?_
      simp only [Act.put, List.setIfInBounds_toArray, List.set_cons_zero, List.set_cons_succ]
      by_cases hsame : li = lj
      · subst hsame
        have e2 := HSE.out rfl
        refine' wpAnyD_take (i := 10) (v := _) rfl (by kernel_rfl) (by kernel_rfl) (by kernel_rfl) (by kernel_rfl) (fun _ _ _ h => h) (Or.inl ⟨by rfl, ?hy33⟩) hS ?re33
        case hy33 => (intro w hSw; (try dsimp only at hSw); go_simp; (try with_reducible rfl))
        simp only [Act.put, List.setIfInBounds_toArray, List.set_cons_zero, List.set_cons_succ]
        refine wpAnyD_done (by kernel_rfl) ?_ _
        clear hS hst
        have hsm := hash_in R2 R H322.out.1 H32R.out.1
        rw [decide_eq_true e2] at hsm
        have hsame := hash_same R H32R.out.1
        go_wp2_with (first | refine wpList_load_row rfl 28 _ rfl g10 rfl 28 (bytesL R2) (0, 0) _ R10b.out Tryd.underlying28 rfl (info_h32 H322.out) ?_ | refine wpList_load_row rfl 28 _ rfl g9 rfl 28 (bytesL R) (0, 0) _ R9b.out Tryd.underlying28 rfl (info_h32 H32R.out) ?_)
        go_ret
        exact ⟨rfl, Bb.out⟩
      · have hst := hst hsame
        have hsb : ((strL li).toList == (strL lj).toList) = false := by rw [beq_eq_false_iff_ne]; exact hst
        refine' wpAnyD_take (i := 10) (v := _) rfl (by kernel_rfl) (by kernel_rfl) (by kernel_rfl) (by kernel_rfl) (fun _ _ _ h => h) (Or.inl ⟨by rfl, ?hy34⟩) hS ?re34
        case hy34 => (intro w hSw; (try dsimp only at hSw); go_simp; (try with_reducible rfl))
        simp only [Act.put, List.setIfInBounds_toArray, List.set_cons_zero, List.set_cons_succ]
        refine wpAnyD_done (by kernel_rfl) ?_ _
        clear hS
        have hsn := hash_in R2 R H322.out.1 H32R.out.1
        have hsame2 := hash_same R H32R.out.1
        by_cases hr : R2 = R
        · rw [decide_eq_true hr] at hsn
          have hcl := HC.out hsame hr.symm
          go_wp2_with (first | refine wpList_load_row rfl 28 _ rfl g10 rfl 28 (bytesL R2) (0, 0) _ R10b.out Tryd.underlying28 rfl (info_h32 H322.out) ?_ | refine wpList_load_row rfl 28 _ rfl g9 rfl 28 (bytesL R) (0, 0) _ R9b.out Tryd.underlying28 rfl (info_h32 H32R.out) ?_ | (go_at_call 21; refine stop ?_))
          refine (clash_tp T T _ wb HTPb.out (HT.out.later Bb.out) HNL.out HML.out (HTPb.out.w8)).mono ?_
          rintro e wc ⟨bb, rfl, hbb, hbc⟩
          obtain rfl := hbb hcl
          go_wp2
          go_ret
          exact ⟨rfl, Bb.out.trans (hbc.mono Bb.out.size)⟩
        · rw [decide_eq_false hr] at hsn
          go_wp2_with (first | refine wpList_load_row rfl 28 _ rfl g10 rfl 28 (bytesL R2) (0, 0) _ R10b.out Tryd.underlying28 rfl (info_h32 H322.out) ?_ | refine wpList_load_row rfl 28 _ rfl g9 rfl 28 (bytesL R) (0, 0) _ R9b.out Tryd.underlying28 rfl (info_h32 H32R.out) ?_)
          go_ret
          exact ⟨rfl, Bb.out⟩
end Go.Proofs.YtepohpniflmblaaDoor
