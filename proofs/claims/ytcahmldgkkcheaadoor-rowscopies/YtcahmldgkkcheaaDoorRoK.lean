
/-
  The walk of RowsApart: it returns true, for any rows, place and row, and turns nothing that was there.
-/
import Derived.Test.YtcahmldgkkcheaaDoorRoI0
import Derived.Test.YtcahmldgkkcheaaDoorClO
import Derived.Deep.CutBlock
set_option maxRecDepth 100000
namespace Go.Proofs.YtcahmldgkkcheaaDoor
open Go.RowKit
set_option linter.unusedVariables false
set_option linter.unusedSimpArgs false

theorem xor_one (l : Nat) (h : l < 18446744073709551616) : ∃ m : Nat, m < 18446744073709551616 ∧ bits .xor .u64 (l : Int) 1 = (m : Int) ∧ m ≠ l := by
  refine ⟨(BitVec.ofInt 64 (l : Int) ^^^ BitVec.ofInt 64 1).toNat, BitVec.isLt _, ?_, ?_⟩
  · show IntKind.u64.wrap (((BitVec.ofInt 64 (l : Int) ^^^ BitVec.ofInt 64 1).toNat : Nat) : Int) = _
    rw [IntKind.wrap_u64]
    have := (BitVec.ofInt 64 (l : Int) ^^^ BitVec.ofInt 64 1).isLt
    omega
  · intro e
    have e2 : BitVec.ofInt 64 (l : Int) ^^^ BitVec.ofInt 64 1 = BitVec.ofInt 64 (l : Int) := by
      apply BitVec.eq_of_toNat_eq
      rw [e, BitVec.ofInt_natCast, BitVec.toNat_ofNat]
      omega
    have e3 : BitVec.ofInt 64 (l : Int) ^^^ (BitVec.ofInt 64 (l : Int) ^^^ BitVec.ofInt 64 1) = BitVec.ofInt 64 (l : Int) ^^^ BitVec.ofInt 64 (l : Int) := by rw [e2]
    rw [← BitVec.xor_assoc, BitVec.xor_self, BitVec.zero_xor] at e3
    exact absurd e3 (by decide)
/-- A row with its amount turned, its event another one. -/
def altR (a : Rc) (m : Nat) (ev : Int) : Rc := { a with l1 := m, ev := ev }
theorem altR_cs (a : Rc) (m : Nat) (ev : Int) : (a.cs.setIfInBounds 5 (.int .u64 (m : Int))).setIfInBounds 3 (.int .i64 ev) = (altR a m ev).cs := by simp [Rc.cs, altR]
theorem lst_tame : ∀ (L : List Rc) (t : Int), (∀ a ∈ L, a.ok) → 0 ≤ t → t + 4 * L.length ≤ 1000 → ∀ a ∈ lst t L, Tame a ∧ a.tm < 65536
  | [], t, _, _, _, a, h => by cases h
  | b :: L, t, hok, h0, h1, a, h => by
    obtain ⟨k, hk, e⟩ := and_3 b.tm
    obtain ⟨q, hq, e2⟩ := and_255 b.ev
    rw [List.length_cons] at h1
    have hb := hok b (by simp)
    rcases List.mem_cons.1 h with rfl | h
    · have ht : (lstep t b).tm = t + (1 + (k : Int)) := by show t + (1 + bits .and .i64 b.tm 3) = _; rw [e]
      have he : (lstep t b).ev = (q : Int) := e2
      exact ⟨⟨hb.w0, hb.w1, hb.w2, hb.w3, hb.w4, hb.w5, by rw [ht]; omega, by rw [ht]; omega, by rw [he]; omega, by rw [he]; omega⟩, by rw [ht]; omega⟩
    · refine lst_tame L _ (fun x hx => hok x (by simp [hx])) ?_ ?_ a h
      · rw [e]; omega
      · rw [e]; omega
theorem set_getD_rc (M : List Rc) (j : Nat) (x : Rc) (k : Nat) (h : k < M.length) : (M.set j x).getD k Rc.z = if k = j then x else M.getD k Rc.z := by
  by_cases e : k = j
  · subst e; simp [List.getD, h]
  · rw [if_neg e]; simp [List.getD, List.getElem?_set, Ne.symm e]
/-- Lists that part in one row's bytes and have one root: hashes clash. -/
theorem apart_clash {A B : List (List Nat)} (hl : A.length = B.length) {j : Nat} (hj : j < A.length) (hne : A.getD j [] ≠ B.getD j []) (e : rootL (leafs A) = rootL (leafs B)) : ClN (A.map msgL ++ rootN (leafs A) ++ B.map msgL ++ rootN (leafs B)) := by
  rcases root_inj _ (leafs A) (leafs B) rfl (by rw [leafs_len, leafs_len, hl]) (leafs_ok A) (leafs_ok B) e with hc | q
  · exact hc.mono (by intro x hx; simp only [List.mem_append] at hx ⊢; rcases hx with hx | hx <;> simp [hx])
  · have e1 : (leafs A).getD j [] = (leafs B).getD j [] := by rw [q]
    rw [leafs_at hj, leafs_at (by rw [← hl]; exact hj)] at e1
    have ma : msgL (A.getD j []) ∈ A.map msgL := List.mem_map_of_mem (by simp [List.getD, hj])
    have mb : msgL (B.getD j []) ∈ B.map msgL := List.mem_map_of_mem (by simp [List.getD, show j < B.length by omega])
    rcases hsh_or (N := A.map msgL ++ B.map msgL) (List.mem_append_left _ ma) (List.mem_append_right _ mb) e1 with hc | h
    · exact hc.mono (by intro x hx; simp only [List.mem_append] at hx ⊢; rcases hx with hx | hx <;> simp [hx])
    · exact absurd (msgL_inj h) hne

theorem rootN_short' : ∀ {A : List (List Nat)}, (∀ x ∈ A, H32 x) → ∀ l ∈ rootN A, l.length ≤ 1000 := by
  intro A
  induction hn : A.length using Nat.strongRecOn generalizing A with
  | _ n ih =>
    intro hA l hl
    rcases Nat.lt_or_ge n 2 with h2 | h2
    · match A, hn with
      | [], _ => rw [rootN_nil] at hl; simp at hl; subst hl; simp
      | [a], _ => rw [rootN_one] at hl; cases hl
      | _ :: _ :: _, h => simp at h; omega
    · have hs := split_lt h2
      rw [rootN_two (by omega), hn] at hl
      have tA : ∀ x ∈ A.take (split n), H32 x := fun x hx => hA x (List.mem_of_mem_take hx)
      have dA : ∀ x ∈ A.drop (split n), H32 x := fun x hx => hA x (List.mem_of_mem_drop hx)
      rcases List.mem_append.1 hl with hl | hl
      · rcases List.mem_append.1 hl with hl | hl
        · exact ih (split n) hs.2 (by rw [List.length_take]; omega) tA l hl
        · exact ih (n - split n) (by omega) (by rw [List.length_drop]; omega) dA l hl
      · rw [List.mem_singleton] at hl
        subst hl
        rw [msgN_len (rootL_32 tA) (rootL_32 dA)]
        omega
set_option maxHeartbeats 4000000 in
theorem apart_walk (v0 : Value) (L : List Rc) (x : Int) (r : Rc) (w : World) (hL : RowsAt w v0 L) (lo : -9223372036854775808 ≤ x) (hi : x ≤ 9223372036854775807) (hr : r.ok) (ht : Tab w) :
    Calls Tryd.prog 7 #[v0, .int .i64 x, .agg r.cs] w fun e w' => e = .returned (.bool true) ∧ Below w.heap.size w w' := by
  obtain ⟨hok, hlm, p0, c0, rfl, _⟩ := id hL
  have HL : Hid (RowsAt w (.slice p0 L.length c0) L) := hL
  have HT : Hid (Tab w) := ht
  have HR : Hid r.ok := hr
  unfold maxLen at hlm
  have n0 : (0 : Int) ≤ (L.length : Int) := by omega
  have n1 : (L.length : Int) ≤ 9223372036854775807 := by omega
  have b1 := below1 w (.cells r.cs 34)
  have r1 := Row.new w r.cs 34 rfl
  clear hL ht hok hlm hr
  go_enter Tryd.func7, Tryd.ntmps7
  go_wp2_with fail
  refine (fit10_any _ (HT.out.later b1)).mono ?_
  rintro e w1 ⟨rfl, hb1⟩
  have B1 : Hid (Below w.heap.size w w1) := chain b1 hb1
  have R1 : Hid (Row w1 w.heap.size r.cs 34) := r1.later hb1
  clear b1 r1 hb1
  by_cases h0 : L.length = 0
  · have h0' : (L.length : Int) = 0 := by omega
    go_wp2
    go_ret
    exact ⟨rfl, B1.out⟩
  have h0' : ((L.length : Int) == 0) = false := by rw [beq_eq_false_iff_ne]; omega
  by_cases h30 : L.length ≤ 30
  · have n30 : (L.length : Int) ≤ 30 := by omega
    have H30 : Hid (L.length ≤ 30 ∧ L.length ≠ 0) := ⟨h30, h0⟩
    have lp : (0 : Int) < (L.length : Int) := by omega
    have hLn : ¬ L = [] := by rintro rfl; exact h0 rfl
    obtain ⟨m, hm, hmx⟩ := (show ∃ k : Nat, k ≤ 1023 ∧ bits .and .i64 x 1023 = (k : Int) from by obtain ⟨k, hk, e⟩ := andlow x 10 (by decide); exact ⟨k, by omega, e⟩)
    have hmod : ((m : Int)).tmod (L.length : Int) = ((m % L.length : Nat) : Int) := by rw [Int.ofNat_tmod]
    have HJ : Hid (m % L.length < L.length) := Nat.mod_lt _ (Nat.pos_of_ne_zero h0)
    generalize m % L.length = j at *
    have j0 : (0 : Int) ≤ (j : Int) := by omega
    have j1 : (j : Int) < (L.length : Int) := by have := HJ.out; omega
    clear h30 n1 h0
    go_wp2_with fail
    refine (list_any w1 _ L (HL.out.later B1.out) (by have := H30.out.1; omega)).mono ?_
    rintro e w2 ⟨rfl, hls, hb2⟩
    obtain ⟨M, hM⟩ : ∃ M, lst 0 L = M := ⟨_, rfl⟩
    rw [hM] at hls
    have HM : Hid (M.length = L.length ∧ ∀ a ∈ M, Tame a ∧ a.tm < 65536) := by
      rw [← hM]
      exact ⟨lst_len L 0, lst_tame L 0 HL.out.ok (Int.le_refl _) (by have := H30.out.1; omega)⟩
    have HLS : Hid (LsAt w2 w1.heap.size w1.heap.size M) := hls
    have B2 : Hid (Below w.heap.size w w2) := B1.out.trans (hb2.mono B1.out.size)
    have R2 : Hid (Row w2 w.heap.size r.cs 34) := R1.out.later hb2
    clear hM hls hb2
    go_wp2_with fail
    have hy0 := ls_new w2 rfl w2.heap.size (Nat.le_refl _)
    have b23 := below1 w2 (.cells #[.slice none 0 0] 56)
    refine (lslen_any _ w1.heap.size w1.heap.size M (HLS.out.later b23)).mono ?_
    rintro e w4 ⟨rfl, hw4⟩
    rw [HM.out.1]
    obtain ⟨q, hq, eq⟩ := and_255 r.ev
    have hjM : j < M.length := by rw [HM.out.1]; exact HJ.out
    have hTj := HM.out.2 _ (getD_rc hjM)
    obtain ⟨mm, hmm, emm, nmm⟩ := xor_one (M.getD j Rc.z).l1 hTj.1.w1.2
    obtain ⟨M2, hM2⟩ : ∃ M2, M.set j (altR (M.getD j Rc.z) mm q) = M2 := ⟨_, rfl⟩
    have HM2 : Hid (M.set j (altR (M.getD j Rc.z) mm q) = M2) := hM2
    have HM2L : Hid (M2.length = L.length) := by show _ = _; rw [← hM2, List.length_set]; exact HM.out.1
    have HAT : Hid (Tame (altR (M.getD j Rc.z) mm q) ∧ (altR (M.getD j Rc.z) mm q).tm < 65536) := ⟨⟨hTj.1.w0, ⟨hTj.1.w1.1, hmm⟩, hTj.1.w2, hTj.1.w3, hTj.1.w4, hTj.1.w5, hTj.1.t0, hTj.1.t1, by show (0 : Int) ≤ (q : Int); omega, by show (q : Int) ≤ 255; omega⟩, hTj.2⟩
    have HNM : Hid (mm ≠ (M.getD j Rc.z).l1 ∧ mm < 18446744073709551616) := ⟨nmm, hmm⟩
    have HTJ : Hid (Tame (M.getD j Rc.z) ∧ (M.getD j Rc.z).tm < 65536) := hTj
    have hR0 : LsAt w4 w2.heap.size w2.heap.size (M2.take 0) ∧ Below w2.heap.size w2 w4 := by rw [hw4]; exact ⟨by simpa using hy0, b23⟩
    clear hy0 b23 hw4 hM2 hTj hjM nmm
    go_wp2
    go_loopw [33] (fun i wr => ∃ k : Nat, k ≤ L.length ∧ i = .int .i64 k ∧ LsAt wr w2.heap.size w2.heap.size (M2.take k) ∧ Below w2.heap.size w2 wr) (fun i _ => L.length - (intOf i).toNat)
    case atStart => exact ⟨0, Nat.zero_le _, rfl, hR0⟩
    case round =>
      clear hR0
      obtain ⟨k, hk, rfl, hy, hbr⟩ := hrel
      have k0 : (0 : Int) ≤ (k : Int) := by omega
      have HY := (show Hid (LsAt wr w2.heap.size w2.heap.size (M2.take k)) from hy)
      have HBR := (show Hid (Below w2.heap.size w2 wr) from hbr)
      clear hy hbr
      by_cases hlt : k < L.length
      · have k1 : (k : Int) < (L.length : Int) := by omega
        have hkM : k < M.length := by rw [HM.out.1]; exact hlt
        have htk := take_snoc M2 k (by rw [HM2L.out]; exact hlt)
        rw [← HM2.out, set_getD_rc M j _ k hkM, HM2.out] at htk
        have HTK0 := (show Hid (M2.take (k + 1) = M2.take k ++ [if k = j then altR (M.getD j Rc.z) mm q else M.getD k Rc.z]) from htk)
        have HK : Hid (k < L.length) := hlt
        clear htk hlt hkM
        go_wp2_with fail
        refine (lsat_any wr w1.heap.size w1.heap.size M k (by rw [HM.out.1]; exact HK.out) (by rw [HM.out.1]; have := H30.out.1; omega) (HLS.out.later HBR.out)).mono ?_
        rintro e w5 ⟨rfl, hb5⟩
        have HY5 : Hid (LsAt w5 w2.heap.size w2.heap.size (M2.take k)) := HY.out.later hb5
        have HB5 : Hid (Below w2.heap.size w2 w5) := HBR.out.trans (hb5.mono HBR.out.size)
        clear hb5 HY HBR
        obtain ⟨a, ha⟩ : ∃ a, M.getD k Rc.z = a := ⟨_, rfl⟩
        have HA : Hid (M.getD k Rc.z = a) := ha
        rw [ha]
        clear ha
        have ia := info_rc a
        have oa := a.one
        have za : Hid ((14 : Nat) = a.cs.size) := rfl
        go_wp2_with (refine wpList_store_row rfl 34 _ _ rfl w5.heap.size a.cs rfl rfl 34 _ (heap_alloc_new w5 _) ia za.out oa ?_; refine stop ?_)
        unfold Stop
        have rz := (Row.new w5 #[.int .u64 0, .int .u64 0, .int .i64 0, .int .i64 0, .int .u64 0, .int .u64 0, .int .u64 0, .int .u64 0, .int .u64 0, .int .u64 0, .int .u64 0, .int .u64 0, .int .u64 0, .int .u64 0] 34 rfl).setRow a.cs
        have b6 := Below.row (below1 w5 (.cells #[.int .u64 0, .int .u64 0, .int .i64 0, .int .i64 0, .int .u64 0, .int .u64 0, .int .u64 0, .int .u64 0, .int .u64 0, .int .u64 0, .int .u64 0, .int .u64 0, .int .u64 0, .int .u64 0] 34)) a.cs (Nat.le_refl _)
        have hg5 := HB5.out.size
        generalize (w5.alloc (.cells #[.int .u64 0, .int .u64 0, .int .i64 0, .int .i64 0, .int .u64 0, .int .u64 0, .int .u64 0, .int .u64 0, .int .u64 0, .int .u64 0, .int .u64 0, .int .u64 0, .int .u64 0, .int .u64 0] 34)).setRow w5.heap.size a.cs = w6 at *
        obtain ⟨gz, hgz⟩ : ∃ g, w5.heap.size = g := ⟨_, rfl⟩
        rw [hgz] at rz b6 hg5 ⊢
        have HSZ : Hid (w5.heap.size = gz) := hgz
        have HG5 : Hid (w2.heap.size ≤ gz) := hg5
        have RZ : Hid (Row w6 gz a.cs 34) := rz
        have HB6 : Hid (Below gz w5 w6) := b6
        clear rz b6 hgz hg5 oa
        by_cases hkj : k = j
        · subst hkj
          have hae := HA.out
          have htk := HTK0.out
          rw [if_pos rfl, hae] at htk
          rw [hae] at emm
          have HTK : Hid (M2.take (k + 1) = M2.take k ++ [altR a mm q]) := htk
          have c5 : w6.cell? ⟨gz, 5, none⟩ = some (.int .u64 (a.l1 : Nat)) := (RZ.out.cell 5).trans rfl
          have c3 : w6.cell? ⟨gz, 3, none⟩ = some (.int .i64 a.ev) := (RZ.out.cell 3).trans rfl
          have f5 := RZ.out.frozen 5
          have f3 := RZ.out.frozen 3
          have hRr : Row w6 w.heap.size r.cs 34 := by
            have h5 : Row w5 w.heap.size r.cs 34 := R2.out.later HB5.out
            exact (HB6.out.block _ (by have := h5.lt; have := HSZ.out; omega)).trans h5
          have d3 : w6.cell? ⟨w.heap.size, 3, none⟩ = some (.int .i64 r.ev) := (hRr.cell 3).trans rfl
          have hne : w.heap.size ≠ gz := by have := R2.out.lt; have := HG5.out; omega
          have RZ2 : Hid (Row ((w6.setCell ⟨gz, 5, none⟩ (.int .u64 (mm : Int))).setCell ⟨gz, 3, none⟩ (.int .i64 (q : Int))) gz (altR a mm q).cs 34) := by
            have := (RZ.out.set 5 (.int .u64 (mm : Int))).set 3 (.int .i64 (q : Int))
            rw [altR_cs] at this
            exact this
          have hbz : Below gz w5 ((w6.setCell ⟨gz, 5, none⟩ (.int .u64 (mm : Int))).setCell ⟨gz, 3, none⟩ (.int .i64 (q : Int))) := (HB6.out.setCell (p := ⟨gz, 5, none⟩) (Nat.le_refl _) _).setCell (p := ⟨gz, 3, none⟩) (Nat.le_refl _) _
          have HYZ : Hid (LsAt ((w6.setCell ⟨gz, 5, none⟩ (.int .u64 (mm : Int))).setCell ⟨gz, 3, none⟩ (.int .i64 (q : Int))) w2.heap.size w2.heap.size (M2.take k)) := HY5.out.later (by rw [HSZ.out]; exact hbz)
          have HBZ : Hid (Below w2.heap.size w2 ((w6.setCell ⟨gz, 5, none⟩ (.int .u64 (mm : Int))).setCell ⟨gz, 3, none⟩ (.int .i64 (q : Int)))) := HB5.out.trans (hbz.mono HG5.out)
          have HSB : Hid (w2.heap.size ≤ ((w6.setCell ⟨gz, 5, none⟩ (.int .u64 (mm : Int))).setCell ⟨gz, 3, none⟩ (.int .i64 (q : Int))).heap.size) := HBZ.out.size
          clear hbz htk hRr HTK0 hae
          go_upto_region 14 with fail
          generalize (w6.setCell ⟨gz, 5, none⟩ (.int .u64 (mm : Int))).setCell ⟨gz, 3, none⟩ (.int .i64 (q : Int)) = wz at *
          clear c5 c3 f5 f3 d3 hne ia
          go_wp2_with (refine wpList_load_row rfl 34 _ rfl gz rfl 34 (altR a mm q).cs (0, 0) _ RZ2.out Tryd.underlying34 rfl (info_rc (altR a mm q)) ?_)
          refine (ladd_any wz w2.heap.size w2.heap.size (M2.take k) (altR a mm q) HYZ.out HSB.out (by rw [List.length_take]; have := HK.out; have := H30.out.1; omega)).mono ?_
          rintro e w8 ⟨rfl, hy8, hb8, _⟩
          have hF : LsAt w8 w2.heap.size w2.heap.size (M2.take (k + 1)) ∧ Below w2.heap.size w2 w8 := by
            rw [HTK.out]
            exact ⟨hy8, HBZ.out.trans hb8⟩
          clear hy8 hb8
          go_wp2
          go_roundw
          case rel => exact ⟨k + 1, HK.out, by go_num, hF⟩
          case measure => simp [intOf]; have := HK.out; omega
        · have htk := HTK0.out
          rw [if_neg hkj, HA.out] at htk
          have HTK : Hid (M2.take (k + 1) = M2.take k ++ [a]) := htk
          have RZ2 : Hid (Row w6 gz a.cs 34) := RZ.out
          have HYZ : Hid (LsAt w6 w2.heap.size w2.heap.size (M2.take k)) := HY5.out.later (by rw [HSZ.out]; exact HB6.out)
          have HBZ : Hid (Below w2.heap.size w2 w6) := HB5.out.trans (HB6.out.mono HG5.out)
          have HSB : Hid (w2.heap.size ≤ w6.heap.size) := HBZ.out.size
          have hkn : ((k : Int) == (j : Int)) = false := by rw [beq_eq_false_iff_ne]; omega
          clear htk HTK0 ia RZ HB6
          generalize w6 = wz at *
          go_wp2_with (refine wpList_load_row rfl 34 _ rfl gz rfl 34 (a).cs (0, 0) _ RZ2.out Tryd.underlying34 rfl (info_rc (a)) ?_)
          refine (ladd_any wz w2.heap.size w2.heap.size (M2.take k) (a) HYZ.out HSB.out (by rw [List.length_take]; have := HK.out; have := H30.out.1; omega)).mono ?_
          rintro e w8 ⟨rfl, hy8, hb8, _⟩
          have hF : LsAt w8 w2.heap.size w2.heap.size (M2.take (k + 1)) ∧ Below w2.heap.size w2 w8 := by
            rw [HTK.out]
            exact ⟨hy8, HBZ.out.trans hb8⟩
          clear hy8 hb8
          go_wp2
          go_roundw
          case rel => exact ⟨k + 1, HK.out, by go_num, hF⟩
          case measure => simp [intOf]; have := HK.out; omega
      · obtain rfl : k = L.length := by omega
        have hfull : M2.take L.length = M2 := by rw [← HM2L.out, List.take_length]
        have hy2 := HY.out
        rw [hfull] at hy2
        have HYF : Hid (LsAt wr w2.heap.size w2.heap.size M2) := hy2
        have HXF : Hid (LsAt wr w1.heap.size w1.heap.size M) := HLS.out.later HBR.out
        have BF : Hid (Below w.heap.size w wr) := B2.out.trans (HBR.out.mono B2.out.size)
        have HB2F : Hid (∀ b ∈ M2, Tame b) := by
          intro b hb
          rw [← HM2.out] at hb
          rcases List.mem_or_eq_of_mem_set hb with hb | rfl
          · exact (HM.out.2 b hb).1
          · exact HAT.out.1
        have HBF : Hid (∀ b ∈ M, Tame b) := fun b hb => (HM.out.2 b hb).1
        have HCL : Hid (rootL (leafs (M.map rowBy)) = rootL (leafs (M2.map rowBy)) → ClN ((M.map rowBy).map msgL ++ rootN (leafs (M.map rowBy)) ++ (M2.map rowBy).map msgL ++ rootN (leafs (M2.map rowBy)))) := fun e => by
          have hjM : j < M.length := by rw [HM.out.1]; exact HJ.out
          refine apart_clash (by rw [List.length_map, List.length_map, HM.out.1, HM2L.out]) (j := j) (by rw [List.length_map]; exact hjM) ?_ e
          rw [map_getD hjM, map_getD (by rw [HM2L.out]; exact HJ.out), ← HM2.out, set_getD_rc M j _ j hjM, if_pos rfl]
          intro hh
          have := rowBy_inj HTJ.out.1 HAT.out.1 HTJ.out.2 HAT.out.2 hh
          have h2 := congrArg Rc.l1 this
          exact HNM.out.1 h2.symm
        clear hy2 hfull HY HBR k0 hk
        obtain ⟨X, hX⟩ : ∃ X, rootL (leafs (M.map rowBy)) = X := ⟨_, rfl⟩
        obtain ⟨Y, hY⟩ : ∃ Y, rootL (leafs (M2.map rowBy)) = Y := ⟨_, rfl⟩
        have h3X : H32 X := by rw [← hX]; exact root_32 _ _ (Nat.le_refl _) (leafs_ok _)
        have h3Y : H32 Y := by rw [← hY]; exact root_32 _ _ (Nat.le_refl _) (leafs_ok _)
        have HX : Hid (rootL (leafs (M.map rowBy)) = X) := hX
        have HY : Hid (rootL (leafs (M2.map rowBy)) = Y) := hY
        have hin := hash_in' X Y h3X.1 h3Y.1
        have hsa := hash_same X h3X.1
        have hsb := hash_same Y h3Y.1
        have HLN : Hid (((M.map rowBy).map msgL ++ rootN (leafs (M.map rowBy))).length ≤ 80) := by
          have h1 := (rootN_len _ (leafs (M.map rowBy)) (Nat.le_refl _)).1
          rw [leafs_len, List.length_map] at h1
          show _ ≤ _
          rw [List.length_append, List.length_map, List.length_map]
          have := HM.out.1
          have := H30.out.1
          split at h1 <;> omega
        have HLN2 : Hid (((M.map rowBy).map msgL ++ rootN (leafs (M.map rowBy)) ++ (M2.map rowBy).map msgL ++ rootN (leafs (M2.map rowBy))).length ≤ 1000) := by
          have h1 := (rootN_len _ (leafs (M2.map rowBy)) (Nat.le_refl _)).1
          rw [leafs_len, List.length_map] at h1
          show _ ≤ _
          rw [List.length_append, List.length_append, List.length_map, List.length_map]
          have := HM2L.out
          have := HLN.out
          have := H30.out.1
          split at h1 <;> omega
        have HML : Hid (∀ l ∈ (M.map rowBy).map msgL ++ rootN (leafs (M.map rowBy)) ++ (M2.map rowBy).map msgL ++ rootN (leafs (M2.map rowBy)), l.length ≤ 1000) := by
          have hmm : ∀ (K : List Rc), ∀ l ∈ (K.map rowBy).map msgL, l.length ≤ 1000 := by
            intro K l hl
            obtain ⟨y, hy, rfl⟩ := List.mem_map.1 hl
            obtain ⟨z, hz, rfl⟩ := List.mem_map.1 hy
            simp [msgL, rowBy_len]
          intro l hl
          rcases List.mem_append.1 hl with hl | hl
          · rcases List.mem_append.1 hl with hl | hl
            · rcases List.mem_append.1 hl with hl | hl
              · exact hmm M l hl
              · exact rootN_short' (leafs_ok _) l hl
            · exact hmm M2 l hl
          · exact rootN_short' (leafs_ok _) l hl
        clear hX hY h3X h3Y
        go_upto_region 17 with fail
        have r11 := Row.new wr #[.slice none 0 0] 40 rfl
        have bt := below1 wr (.cells #[.slice none 0 0] 40)
        have htp0 : TpAt (wr.alloc (.cells #[.slice none 0 0] 40)) wr.heap.size (.pointer (some ⟨wr.heap.size, 0, none⟩)) [] := TpAt.new (w := wr.alloc (.cells #[.slice none 0 0] 40)) (w' := wr.alloc (.cells #[.slice none 0 0] 40)) r11 (Nat.le_refl _)
        have HTP0 : Hid (TpAt (wr.alloc (.cells #[.slice none 0 0] 40)) wr.heap.size (.pointer (some ⟨wr.heap.size, 0, none⟩)) []) := htp0
        have GT : Hid (w.heap.size ≤ wr.heap.size ∧ 0 < wr.heap.size) := ⟨BF.out.size, Nat.lt_of_lt_of_le HT.out.pos BF.out.size⟩
        have HGT : Hid (wr.heap.size ≤ (wr.alloc (.cells #[.slice none 0 0] 40)).heap.size) := by show _ ≤ _; simp
        have HYT : Hid (LsAt (wr.alloc (.cells #[.slice none 0 0] 40)) w2.heap.size w2.heap.size M2) := HYF.out.later bt
        have HXT : Hid (LsAt (wr.alloc (.cells #[.slice none 0 0] 40)) w1.heap.size w1.heap.size M) := HXF.out.later bt
        have BT : Hid (Below w.heap.size w (wr.alloc (.cells #[.slice none 0 0] 40))) := BF.out.alloc BF.out.size _
        clear r11 bt htp0 HYF HXF BF
        generalize wr.alloc (.cells #[.slice none 0 0] 40) = wt at *
        generalize wr.heap.size = T at *
        go_wp2_with fail
        refine (lslen_any wt w1.heap.size w1.heap.size M HXT.out).mono ?_
        rintro e wt1 ⟨rfl, hwt⟩
        obtain rfl := hwt
        rw [HM.out.1]
        go_wp2_with fail
        refine (lslen_any wt1 w2.heap.size w2.heap.size M2 HYT.out).mono ?_
        rintro e wt2 ⟨rfl, hwt⟩
        obtain rfl := hwt
        rw [HM2L.out]
        go_wp2_with fail
        refine (rroot_any w1.heap.size w1.heap.size M T _ [] wt2 HXT.out (by have := HM.out.1; have := H30.out.1; omega) HBF.out (HT.out.later BT.out) GT.out.2 HGT.out HTP0.out (by simp)).mono ?_
        rintro e wu ⟨rfl, htpu, hsu⟩
        rw [HX.out]
        rw [List.nil_append] at htpu
        have HTPU : Hid (TpAt wu T (.pointer (some ⟨T, 0, none⟩)) ((M.map rowBy).map msgL ++ rootN (leafs (M.map rowBy)))) := htpu
        have BU : Hid (Below w.heap.size w wu) := below_t BT.out GT.out.1 hsu
        have HYU : Hid (LsAt wu w2.heap.size w2.heap.size M2) := HYT.out.tstep hsu
        have HGU : Hid (T ≤ wu.heap.size) := Nat.le_trans HGT.out hsu.size
        clear htpu hsu HXT HYT BT HGT HTP0
        go_wp2_with fail
        refine (rroot_any w2.heap.size w2.heap.size M2 T _ _ wu HYU.out (by have := HM2L.out; have := H30.out.1; omega) HB2F.out (HT.out.later BU.out) GT.out.2 HGU.out HTPU.out (by have := HLN.out; omega)).mono ?_
        rintro e wv ⟨rfl, htpv, hsv⟩
        rw [HY.out]
        have HTPV : Hid (TpAt wv T (.pointer (some ⟨T, 0, none⟩)) ((M.map rowBy).map msgL ++ rootN (leafs (M.map rowBy)) ++ (M2.map rowBy).map msgL ++ rootN (leafs (M2.map rowBy)))) := htpv
        have BV : Hid (Below w.heap.size w wv) := below_t BU.out GT.out.1 hsv
        clear htpv hsv HYU BU HGU HTPU
        have HCL2 : Hid (X = Y → ClN ((M.map rowBy).map msgL ++ rootN (leafs (M.map rowBy)) ++ (M2.map rowBy).map msgL ++ rootN (leafs (M2.map rowBy)))) := fun e => HCL.out (by rw [HX.out, HY.out]; exact e)
        clear HCL
        by_cases hxy : X = Y
        · rw [decide_eq_true hxy] at hin
          have HCN := (show Hid (ClN ((M.map rowBy).map msgL ++ rootN (leafs (M.map rowBy)) ++ (M2.map rowBy).map msgL ++ rootN (leafs (M2.map rowBy)))) from HCL2.out hxy)
          generalize (M.map rowBy).map msgL ++ rootN (leafs (M.map rowBy)) ++ (M2.map rowBy).map msgL ++ rootN (leafs (M2.map rowBy)) = N at *
          clear hxy HCL2
          go_wp2_with fail
          refine (clash_tp T T N wv HTPV.out (HT.out.later BV.out) HLN2.out HML.out HTPV.out.w8').mono ?_
          rintro e wd ⟨bb, rfl, hbb, hbc⟩
          obtain rfl := hbb HCN.out
          go_wp2
          go_ret
          exact ⟨rfl, BV.out.trans (hbc.mono BV.out.size)⟩
        · rw [decide_eq_false hxy] at hin
          clear HCL2
          go_wp2
          go_ret
          exact ⟨rfl, BV.out⟩
  · have n30 : (30 : Int) < (L.length : Int) := by omega
    go_wp2
    go_ret
    exact ⟨rfl, B1.out⟩
end Go.Proofs.YtcahmldgkkcheaaDoor
