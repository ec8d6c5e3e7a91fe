
/-
  Stage 10's own list of rows with times that rise; its anchor.
-/
import Derived.Test.YtcahmldgkkcheaaDoorRoB
set_option maxRecDepth 100000
namespace Go.Proofs.YtcahmldgkkcheaaDoor
open Go.RowKit
set_option linter.unusedVariables false
set_option linter.unusedSimpArgs false

theorem andlow (n : Int) (s : Nat) (hs : s ≤ 16) : ∃ k : Nat, k < 2 ^ s ∧ bits .and .i64 n ((2 ^ s - 1 : Nat) : Int) = (k : Int) := by
  have hp : 2 ^ s ≤ 65536 := Nat.le_trans (Nat.pow_le_pow_right (by decide) hs) (by decide)
  have hp0 : 0 < 2 ^ s := Nat.pow_pos (by decide)
  refine ⟨(BitVec.ofInt 64 n).toNat % 2 ^ s, Nat.mod_lt _ hp0, ?_⟩
  have h : (BitVec.ofInt 64 n &&& BitVec.ofInt 64 ((2 ^ s - 1 : Nat) : Int)).toNat = (BitVec.ofInt 64 n).toNat % 2 ^ s := by
    rw [BitVec.toNat_and, show (BitVec.ofInt 64 ((2 ^ s - 1 : Nat) : Int)).toNat = 2 ^ s - 1 by rw [BitVec.ofInt_natCast, BitVec.toNat_ofNat]; omega]
    exact Nat.and_two_pow_sub_one_eq_mod _ s
  show IntKind.i64.wrap ((BitVec.ofInt 64 n &&& BitVec.ofInt 64 ((2 ^ s - 1 : Nat) : Int)).toNat : Int) = _
  rw [h, IntKind.wrap_i64]
  have := Nat.mod_lt (BitVec.ofInt 64 n).toNat hp0
  omega
theorem and_3 (n : Int) : ∃ k : Nat, k ≤ 3 ∧ bits .and .i64 n 3 = (k : Int) := by
  obtain ⟨k, hk, e⟩ := andlow n 2 (by decide)
  exact ⟨k, by omega, e⟩
theorem and_255 (n : Int) : ∃ k : Nat, k ≤ 255 ∧ bits .and .i64 n 255 = (k : Int) := by
  obtain ⟨k, hk, e⟩ := andlow n 8 (by decide)
  exact ⟨k, by omega, e⟩
theorem and_65535 (n : Int) : ∃ k : Nat, k ≤ 65535 ∧ bits .and .i64 n 65535 = (k : Int) := by
  obtain ⟨k, hk, e⟩ := andlow n 16 (by decide)
  exact ⟨k, by omega, e⟩
/-- A row with its time set on, its event cut. -/
def lstep (t : Int) (a : Rc) : Rc := { a with tm := t + (1 + bits .and .i64 a.tm 3), ev := bits .and .i64 a.ev 255 }
def lend : Int → List Rc → Int
  | t, [] => t
  | t, a :: L => lend (t + (1 + bits .and .i64 a.tm 3)) L
def lst : Int → List Rc → List Rc
  | _, [] => []
  | t, a :: L => lstep t a :: lst (t + (1 + bits .and .i64 a.tm 3)) L
theorem lst_len : ∀ (L : List Rc) (t : Int), (lst t L).length = L.length
  | [], _ => rfl
  | a :: L, t => by simp [lst, lst_len L]
theorem lend_snoc : ∀ (L : List Rc) (a : Rc) (t : Int), lend t (L ++ [a]) = lend t L + (1 + bits .and .i64 a.tm 3)
  | [], a, t => rfl
  | b :: L, a, t => lend_snoc L a _
theorem lst_snoc : ∀ (L : List Rc) (a : Rc) (t : Int), lst t (L ++ [a]) = lst t L ++ [lstep (lend t L) a]
  | [], a, t => rfl
  | b :: L, a, t => by simp [lst, lend, lst_snoc L a]
theorem lend_le : ∀ (L : List Rc) (t : Int), t ≤ lend t L ∧ lend t L ≤ t + 4 * L.length
  | [], t => by simp [lend]
  | a :: L, t => by
    obtain ⟨k, hk, e⟩ := and_3 a.tm
    have := lend_le L (t + (1 + bits .and .i64 a.tm 3))
    rw [e] at this
    unfold lend
    rw [e, List.length_cons]
    omega
theorem take_snoc (L : List Rc) (k : Nat) (h : k < L.length) : L.take (k + 1) = L.take k ++ [L.getD k Rc.z] := by
  rw [List.take_succ_eq_append_getElem h]
  simp [List.getD, h]
theorem Below.new_row {w w1 : World} (h : Below w.heap.size w w1) {g : Nat} (cs : Array Value) (hg : w.heap.size ≤ g) : Below w.heap.size w (w1.setRow g cs) := Below.row h cs hg
set_option maxHeartbeats 4000000 in
theorem list_any (w : World) (v : Value) (L : List Rc) (h : RowsAt w v L) (hl : L.length ≤ 40) :
    Calls Tryd.prog 10 #[v] w fun e w' => e = .returned (.pointer (some ⟨w.heap.size, 0, none⟩)) ∧ LsAt w' w.heap.size w.heap.size (lst 0 L) ∧ Below w.heap.size w w' := by
  have HR : Hid (RowsAt w v L) := h
  obtain ⟨hok, _, p, c, rfl, _⟩ := h
  have n0 : (0 : Int) ≤ (L.length : Int) := by omega
  have n1 : (L.length : Int) ≤ 40 := by omega
  have HL40 : Hid (L.length ≤ 40) := hl
  have hb0 := below1 w (.cells #[.slice none 0 0] 56)
  have hls := ls_new w rfl w.heap.size (Nat.le_refl _)
  have hR0 : LsAt (w.alloc (.cells #[.slice none 0 0] 56)) w.heap.size w.heap.size (lst 0 (L.take 0)) ∧ Below w.heap.size w (w.alloc (.cells #[.slice none 0 0] 56)) := ⟨by simpa [lst] using hls, hb0⟩
  clear hls hb0 hl hok
  go_enter Tryd.func10, Tryd.ntmps10
  go_wp2
  go_loopw [11, 4] (fun i t wr => ∃ k : Nat, k ≤ L.length ∧ i = .int .i64 k ∧ t = .int .i64 (lend 0 (L.take k)) ∧ LsAt wr w.heap.size w.heap.size (lst 0 (L.take k)) ∧ Below w.heap.size w wr) (fun i _ _ => L.length - (intOf i).toNat)
  case atStart => exact ⟨0, Nat.zero_le _, rfl, by simp [lend], hR0⟩
  case round =>
    clear hR0
    obtain ⟨k, hk, rfl, rfl, hls, hbr⟩ := hrel
    have k0 : (0 : Int) ≤ (k : Int) := by omega
    by_cases hlt : k < L.length
    · have k1 : (k : Int) < (L.length : Int) := by omega
      have hla := lend_le (L.take k) 0
      rw [List.length_take] at hla
      have hls1 := lst_snoc (L.take k) (L.getD k Rc.z) 0
      have hle1 := lend_snoc (L.take k) (L.getD k Rc.z) 0
      rw [← take_snoc L k hlt] at hls1 hle1
      have HS1 := (show Hid _ from hls1)
      have HE1 := (show Hid _ from hle1)
      have HTL : Hid ((lst 0 (L.take k)).length ≤ 1000) := by show _ ≤ _; rw [lst_len, List.length_take]; have := HL40.out; omega
      obtain ⟨_, _, _, _, e, hex⟩ := HR.out.later hbr
      cases e
      obtain ⟨g, off, rfl, hg, hrg⟩ := hex k hlt
      have HK : Hid (k < L.length) := hlt
      generalize L.getD k Rc.z = a at *
      have HLA : Hid (lst 0 (L.take (k + 1)) = lst 0 (L.take k) ++ [lstep (lend 0 (L.take k)) a]) := HS1.out
      obtain ⟨T, hT⟩ : ∃ T, lend 0 (L.take k) = T := ⟨_, rfl⟩
      rw [hT] at hla ⊢
      have HTT : Hid (lend 0 (L.take k) = T) := hT
      have t0 : 0 ≤ T := hla.1
      have t1 : T ≤ 1000 := by have := hla.2; omega
      obtain ⟨m, hm, em⟩ := and_3 a.tm
      obtain ⟨q, hq, eq⟩ := and_255 a.ev
      have m0 : (0 : Int) ≤ (m : Int) := by omega
      have m1 : (m : Int) ≤ 3 := by omega
      have ia := info_rc a
      have ial := info_rcl a
      have oa := a.one
      have za : Hid ((14 : Nat) = a.cs.size) := rfl
      have HLS : Hid (LsAt wr w.heap.size w.heap.size (lst 0 (L.take k))) := hls
      have HBR : Hid (Below w.heap.size w wr) := hbr
      clear hls1 hle1 hT hla hlt hls hbr hex HS1
      go_wp2_with (first | (refine wpList_load_mid rfl 34 _ rfl g (off + k * 14) rfl a.cs.toList _ hrg Tryd.underlying34 rfl ial ?_) | (refine wpList_store_row rfl 34 _ _ rfl wr.heap.size a.cs rfl rfl 34 _ (heap_alloc_new wr _) ia za.out oa ?_; refine stop ?_))
      unfold Stop
      have r6 := (Row.new wr #[.int .u64 0, .int .u64 0, .int .i64 0, .int .i64 0, .int .u64 0, .int .u64 0, .int .u64 0, .int .u64 0, .int .u64 0, .int .u64 0, .int .u64 0, .int .u64 0, .int .u64 0, .int .u64 0] 34 rfl).setRow a.cs
      have b5 := Below.row (below1 wr (.cells #[.int .u64 0, .int .u64 0, .int .i64 0, .int .i64 0, .int .u64 0, .int .u64 0, .int .u64 0, .int .u64 0, .int .u64 0, .int .u64 0, .int .u64 0, .int .u64 0, .int .u64 0, .int .u64 0] 34)) a.cs (Nat.le_refl _)
      have g0 : wr.heap.size ≤ wr.heap.size := Nat.le_refl _
      generalize (wr.alloc (.cells #[.int .u64 0, .int .u64 0, .int .i64 0, .int .i64 0, .int .u64 0, .int .u64 0, .int .u64 0, .int .u64 0, .int .u64 0, .int .u64 0, .int .u64 0, .int .u64 0, .int .u64 0, .int .u64 0] 34)).setRow wr.heap.size a.cs = w5 at *
      have HLS5 : Hid (LsAt w5 w.heap.size w.heap.size (lst 0 (L.take k))) := HLS.out.later b5
      have HB5 : Hid (Below w.heap.size w w5) := HBR.out.trans (b5.mono HBR.out.size)
      have HG6 : Hid (w.heap.size ≤ wr.heap.size) := HBR.out.size
      have HLT6 : Hid (w.heap.size < wr.heap.size) := by obtain ⟨v, hv⟩ := HLS.out; exact hv.row.lt
      have hd6 : ∀ k', k' < wr.heap.size → w5.heap[k']? = wr.heap[k']? := fun k' hk' => b5.block k' hk'
      have HD6 := (show Hid _ from hd6)
      have HS5 : Hid (wr.heap.size < w5.heap.size) := r6.lt
      have HWL : Hid (LsAt wr w.heap.size w.heap.size (lst 0 (L.take k))) := HLS.out
      have c62 : w5.cell? ⟨wr.heap.size, 2, none⟩ = some (.int .i64 a.tm) := (r6.cell 2).trans rfl
      have c63 : w5.cell? ⟨wr.heap.size, 3, none⟩ = some (.int .i64 a.ev) := (r6.cell 3).trans rfl
      have f62 := r6.frozen 2
      have f63 := r6.frozen 3
      obtain ⟨g6, hg6⟩ : ∃ g6, wr.heap.size = g6 := ⟨_, rfl⟩
      rw [hg6] at c62 c63 f62 f63 r6 b5 HG6 HLT6 HD6 HS5 ⊢
      have HBW : Hid (Below g6 wr w5) := b5
      have HSZ : Hid (wr.heap.size = g6) := hg6
      have R7 : Hid (Row ((w5.setCell ⟨g6, 2, none⟩ (.int .i64 (T + (1 + (m : Int))))).setCell ⟨g6, 3, none⟩ (.int .i64 (q : Int))) g6 (lstep T a).cs 34) := by
        have := (r6.set 2 (.int .i64 (T + (1 + (m : Int))))).set 3 (.int .i64 (q : Int))
        have e : ((a.cs.setIfInBounds 2 (.int .i64 (T + (1 + (m : Int))))).setIfInBounds 3 (.int .i64 (q : Int))) = (lstep T a).cs := by simp [Rc.cs, lstep, em, eq]
        rw [e] at this
        exact this
      have B7 : Hid (Below w.heap.size w ((w5.setCell ⟨g6, 2, none⟩ (.int .i64 (T + (1 + (m : Int))))).setCell ⟨g6, 3, none⟩ (.int .i64 (q : Int)))) := (HB5.out.setCell (p := ⟨g6, 2, none⟩) HG6.out _).setCell (p := ⟨g6, 3, none⟩) HG6.out _
      have BL7 : Hid (LsAt ((w5.setCell ⟨g6, 2, none⟩ (.int .i64 (T + (1 + (m : Int))))).setCell ⟨g6, 3, none⟩ (.int .i64 (q : Int))) w.heap.size w.heap.size (lst 0 (L.take k))) := HLS.out.later (by
        rw [HSZ.out]
        exact (HBW.out.setCell (p := ⟨g6, 2, none⟩) (Nat.le_refl _) _).setCell (p := ⟨g6, 3, none⟩) (Nat.le_refl _) _)
      have i7 := info_rc (lstep T a)
      clear r6 b5 g0 hg6 hd6 HLS5 HB5 HWL hrg ial oa
      go_upto_region 8 with fail
      generalize (w5.setCell ⟨g6, 2, none⟩ (.int .i64 (T + (1 + (m : Int))))).setCell ⟨g6, 3, none⟩ (.int .i64 (q : Int)) = w7 at *
      clear c62 c63 f62 f63 HD6 HS5 HBW HLS HBR
      go_wp2_with (refine wpList_load_row rfl 34 _ rfl g6 rfl 34 (lstep T a).cs (0, 0) _ R7.out Tryd.underlying34 rfl i7 ?_)
      refine (ladd_any w7 w.heap.size w.heap.size (lst 0 (L.take k)) (lstep T a) BL7.out B7.out.size HTL.out).mono ?_
      rintro e w8 ⟨rfl, hls8, hb8, _⟩
      have hF : LsAt w8 w.heap.size w.heap.size (lst 0 (L.take (k + 1))) ∧ Below w.heap.size w w8 := by
        rw [HLA.out, HTT.out]
        exact ⟨hls8, B7.out.trans hb8⟩
      have hT1 : lend 0 (L.take (k + 1)) = T + (1 + (m : Int)) := by have := HE1.out; rw [this, HTT.out, em]
      have HT1 := (show Hid _ from hT1)
      clear hT1 hls8 hb8 em eq i7 ia
      go_wp2
      go_roundw
      case rel => exact ⟨k + 1, HK.out, by go_num, by rw [HT1.out], hF⟩
      case measure => simp [intOf]; have := HK.out; omega
    · obtain rfl : k = L.length := by omega
      rw [List.take_length] at hls
      have k2 : (L.length : Int) ≤ (L.length : Int) := by omega
      go_wp2
      go_ret
      exact ⟨rfl, hls, hbr⟩
end Go.Proofs.YtcahmldgkkcheaaDoor
