
/-
  package wire's Reader: New, next, Int, Num, Done, Bad; bytes.Clone. For all bytes up to 2^20.
-/
import Derived.Test.YtfhaphbfbmpbiaaWiM
import Derived.Lib.LazyBuf
namespace Go.Proofs.Ytfhaphbfbmpbiaa
open Go.RowKit
set_option maxRecDepth 100000

/-- A reader that lies in block R, its bytes in block D. -/
structure RdAt (w : World) (R D : Nat) (s : List Nat × Bool) : Prop where
  w8 : W8 s.1
  len : s.1.length ≤ 1048576
  ex : ∃ p c, Row w R #[.slice p s.1.length c, .bool s.2] 87 ∧ s.1.length ≤ c ∧ c ≤ maxLen ∧ (s.1 ≠ [] → ∃ off, p = some ⟨D, off, none⟩ ∧ ∀ i, i < s.1.length → w.cell? ⟨D, off + i, none⟩ = some (.int .u8 (s.1.getD i 0 : Nat)))
  ne : s.1 ≠ [] → D ≠ R
  dl : D < w.heap.size
theorem RdAt.lt {w : World} {R D : Nat} {s : List Nat × Bool} (h : RdAt w R D s) : R < w.heap.size := by obtain ⟨_, _, r, _⟩ := h.ex; exact r.lt
theorem RdAt.keep' {w w' : World} {R D : Nat} {s : List Nat × Bool} (h : RdAt w R D s) (hz : w.heap.size ≤ w'.heap.size) (hR : w'.heap[R]? = w.heap[R]?) (hD : s.1 ≠ [] → w'.heap[D]? = w.heap[D]?) : RdAt w' R D s := by
  obtain ⟨h1, h2, ⟨p, c, r, h3, h3', h4⟩, h5, h6⟩ := h
  refine ⟨h1, h2, ⟨p, c, hR.trans r, h3, h3', fun hs => ?_⟩, h5, Nat.lt_of_lt_of_le h6 hz⟩
  obtain ⟨off, e, k⟩ := h4 hs
  exact ⟨off, e, fun i hi => (World.cell?_of_block (a := ⟨D, off + i, none⟩) (hD hs)).trans (k i hi)⟩
theorem RdAt.keep {w w' : World} {R D : Nat} {s : List Nat × Bool} (h : RdAt w R D s) (hz : w.heap.size ≤ w'.heap.size) (hR : w'.heap[R]? = w.heap[R]?) (hD : w'.heap[D]? = w.heap[D]?) : RdAt w' R D s := h.keep' hz hR fun _ => hD
theorem RdAt.later {w w' : World} {R D : Nat} {s : List Nat × Bool} (h : RdAt w R D s) (hb : Below w.heap.size w w') : RdAt w' R D s :=
  h.keep hb.size (hb.block R h.lt) (hb.block D h.dl)
theorem RdAt.alloc {w : World} {R D : Nat} {s : List Nat × Bool} (h : RdAt w R D s) (o : Obj) : RdAt (w.alloc o) R D s := h.later (below1 _ _)
theorem RdAt.else {w w' : World} {R D A : Nat} {s : List Nat × Bool} (h : RdAt w R D s) (e : Else A w w') (h1 : R ≠ A) (h2 : D ≠ A) : RdAt w' R D s :=
  h.keep e.size (e.block R h.lt h1) (e.block D h.dl h2)
theorem RdAt.set {w : World} {R D A : Nat} {s : List Nat × Bool} (h : RdAt w R D s) (i : Nat) (v : Value) (h1 : R ≠ A) (h2 : D ≠ A) : RdAt (w.setCell ⟨A, i, none⟩ v) R D s :=
  h.keep (by simp [World.setCell]) (heap_setCell_other w ⟨A, i, none⟩ R v h1) (heap_setCell_other w ⟨A, i, none⟩ D v h2)
theorem RdAt.setRow {w : World} {R D A : Nat} {s : List Nat × Bool} (h : RdAt w R D s) (ds : Array Value) (h1 : R ≠ A) (h2 : D ≠ A) : RdAt (w.setRow A ds) R D s :=
  h.keep (by simp [World.setRow]) (setRow_other w A R ds h1) (setRow_other w A D ds h2)
theorem RdAt.drew {w : World} {R D : Nat} {s : List Nat × Bool} (h : RdAt w R D s) : RdAt w.drew R D s := h.keep (Nat.le_refl _) rfl rfl

theorem getD_take (l : List Nat) (n i : Nat) (h : i < n) : (l.take n).getD i 0 = l.getD i 0 := by simp [List.getD, h]
theorem getD_drop (l : List Nat) (n i : Nat) : (l.drop n).getD i 0 = l.getD (n + i) 0 := by simp [List.getD, List.getElem?_drop]

theorem RdAt.cut {w : World} {R D : Nat} {l : List Nat} (h : RdAt w R D (l, false)) {p : Option Addr} {c n : Nat} (r : Row w R #[.slice p l.length c, .bool false] 87) (hn : n ≤ l.length) (hc : l.length ≤ c) (hcm : c ≤ maxLen) {q : Option Addr} (hq : c = n ∨ q = p.map (fun x => x.add n)) :
    BytesAt ((w.setCell ⟨R, 1, none⟩ (.bool false)).setCell ⟨R, 0, none⟩ (.slice q (l.length - n) (c - n))) (.slice p n n) (l.take n) ∧
    RdAt ((w.setCell ⟨R, 1, none⟩ (.bool false)).setCell ⟨R, 0, none⟩ (.slice q (l.length - n) (c - n))) R D (l.drop n, false) ∧
    Else R w ((w.setCell ⟨R, 1, none⟩ (.bool false)).setCell ⟨R, 0, none⟩ (.slice q (l.length - n) (c - n))) := by
  obtain ⟨k1, k2, ⟨p', c', r', k3, k3', k4⟩, k5, k6⟩ := h
  dsimp only at k1 k2 k4 k5 r' k3
  have hpp : p' = p := by
    have := r'.symm.trans r
    simp at this
    exact this.1
  subst hpp
  have hr : Row ((w.setCell ⟨R, 1, none⟩ (.bool false)).setCell ⟨R, 0, none⟩ (.slice q (l.length - n) (c - n))) R #[.slice q (l.length - n) (c - n), .bool false] 87 := (r.set 1 (.bool false)).set 0 _
  have oth : ∀ k, k ≠ R → ((w.setCell ⟨R, 1, none⟩ (.bool false)).setCell ⟨R, 0, none⟩ (.slice q (l.length - n) (c - n))).heap[k]? = w.heap[k]? := fun k hk =>
    (heap_setCell_other _ ⟨R, 0, none⟩ k _ hk).trans (heap_setCell_other w ⟨R, 1, none⟩ k _ hk)
  refine ⟨⟨k1.take n, ?_, p', n, ?_, fun i hi => ?_⟩, ⟨k1.drop n, ?_, ⟨q, c - n, ?_, ?_, ?_, fun hs => ?_⟩, fun hs => ?_, by simpa [World.setCell] using k6⟩, ((Else.refl _ _).set 1 _).set 0 _⟩
  · simp [maxLen]; omega
  · rw [List.length_take, Nat.min_eq_left hn]
  · have hin : i < n := by rw [List.length_take] at hi; omega
    have hs : l ≠ [] := fun e => by subst e; simp at hn; omega
    obtain ⟨off, e, k⟩ := k4 hs
    have kk := k i (by omega)
    refine ⟨D, off, e, ?_, ?_⟩
    · have := World.block_lt_of_cell? w _ kk
      simpa [World.setCell] using this
    · rw [World.cell?_of_block (a := ⟨D, off + i, none⟩) (oth D (k5 hs)), kk, getD_take _ _ _ hin]
  · dsimp only; rw [List.length_drop]; omega
  · dsimp only; rw [List.length_drop]; exact hr
  · dsimp only; rw [List.length_drop]; omega
  · omega
  · dsimp only at hs ⊢
    have hs' : l ≠ [] := fun e => hs (by rw [e]; simp)
    have hln : n < l.length := by
      rcases Nat.lt_or_ge n l.length with h | h
      · exact h
      · exact absurd (List.drop_eq_nil_of_le h) hs
    obtain ⟨off, e, k⟩ := k4 hs'
    rcases hq with hq | hq
    · omega
    · subst hq e
      refine ⟨off + n, congrArg some (Addr.add_lit ..), fun i hi => ?_⟩
      rw [List.length_drop] at hi
      rw [World.cell?_of_block (a := ⟨D, off + n + i, none⟩) (oth D (k5 hs')), Nat.add_assoc, k (n + i) (by omega), getD_drop]
  · exact k5 fun e => hs (by show l.drop n = []; rw [show l = [] from e]; simp)

set_option maxHeartbeats 1000000 in
theorem next_any (n : Nat) (hn : n ≤ 1000) (w : World) (R D : Nat) (s : List Nat × Bool) (h : RdAt w R D s) :
    Calls Try.prog 45 #[.pointer (some ⟨R, 0, none⟩), .int .i64 n] w fun e w' => ∃ v, e = .returned v ∧ BytesAt w' v (rTake n s) ∧ RdAt w' R D (rDrop n s) ∧ Else R w w' := by
  obtain ⟨l, bad⟩ := s
  obtain ⟨h8, hlen, ⟨p, c, r, hc, hcm, hb⟩, hne, hdl⟩ := id h
  dsimp only at h8 hlen r hc hcm hb hne
  have c0 := r.cell 0
  have c1 := r.cell 1
  have f0 := r.frozen 0
  have f1 := r.frozen 1
  simp only [List.getElem?_toArray, List.getElem?_cons_zero, List.getElem?_cons_succ] at c0 c1
  unfold maxLen at hcm
  have n0 : (0 : Int) ≤ (n : Int) := by omega
  have n1 : (n : Int) ≤ 1000 := by omega
  have l0 : (0 : Int) ≤ (l.length : Int) := by omega
  have l1 : (l.length : Int) ≤ 1048576 := by omega
  have hnn : ¬ (n : Int) < 0 := by omega
  cases bad with
  | true =>
    rw [rTake_bad rfl, rDrop_bad rfl]
    dsimp only
    have HB : Hid (RdAt w R D (l, true)) := h
    clear h hb hne
    go_enter Try.func45, Try.ntmps45
    go_wp2
    go_ret
    have e1 : Row (w.setCell ⟨R, 1, none⟩ (.bool true)) R #[.slice p l.length c, .bool true] 87 := r.set 1 (.bool true)
    refine ⟨_, rfl, BytesAt.nil _, ?_, (Else.refl _ _).set 1 _⟩
    exact HB.out.keep' (by simp [World.setCell]) (e1.trans r.symm) (fun hs => heap_setCell_other _ _ _ _ (HB.out.ne hs))
  | false =>
    by_cases hlt : l.length < n
    · rw [rTake_few hlt, rDrop_few hlt]
      dsimp only
      have hlt' : (l.length : Int) < (n : Int) := by omega
      have HB : Hid (RdAt w R D (l, false)) := h
      clear h hb hne
      go_enter Try.func45, Try.ntmps45
      go_wp2
      go_ret
      have e1 : Row (w.setCell ⟨R, 1, none⟩ (.bool true)) R #[.slice p l.length c, .bool true] 87 := r.set 1 (.bool true)
      refine ⟨_, rfl, BytesAt.nil _, ?_, (Else.refl _ _).set 1 _⟩
      obtain ⟨k1, k2, ⟨p', c', r', k3, k3', k4⟩, k5, k6⟩ := HB.out
      refine ⟨k1, k2, ⟨p, c, e1, hc, by unfold maxLen; omega, fun hs => ?_⟩, k5, by simpa [World.setCell] using k6⟩
      obtain ⟨off, e, k⟩ := k4 hs
      have hpp : p' = p := by
        have := r'.symm.trans r
        simp at this
        exact this.1
      subst hpp
      exact ⟨off, e, fun i hi => (World.cell?_of_block (a := ⟨D, off + i, none⟩) (heap_setCell_other _ ⟨R, 1, none⟩ _ _ (k5 hs))).trans (k i hi)⟩
    · have hle : n ≤ l.length := by omega
      rw [rTake_yes rfl hle, rDrop_yes rfl hle]
      dsimp only
      have hle' : (n : Int) ≤ (l.length : Int) := by omega
      have hnl : ¬ (l.length : Int) < (n : Int) := by omega
      have hcn : (n : Int) ≤ (c : Int) := by omega
      have HB : Hid (RdAt w R D (l, false)) := h
      clear h hb hne
      go_enter Try.func45, Try.ntmps45
      go_wp2
      case inr =>
        go_ret
        obtain ⟨x1, x2, x3⟩ := HB.out.cut r hle hc (by unfold maxLen; omega) (q := p.map (fun x => x.add n)) (Or.inr rfl)
        exact ⟨_, rfl, x1, x2, x3⟩
      case inl =>
        go_ret
        obtain ⟨x1, x2, x3⟩ := HB.out.cut r hle hc (by unfold maxLen; omega) (q := p) (Or.inl h)
        subst h
        rw [Nat.sub_self] at x1 x2 x3
        exact ⟨_, rfl, x1, x2, x3⟩

theorem done_any (w : World) (R D : Nat) (s : List Nat × Bool) (h : RdAt w R D s) :
    Calls Try.prog 28 #[.pointer (some ⟨R, 0, none⟩)] w fun e w' => e = .returned (.bool (!s.2 && s.1.length == 0)) ∧ w' = w := by
  obtain ⟨l, bad⟩ := s
  obtain ⟨h8, hlen, ⟨p, c, r, hc, hcm, hb⟩, hne, hdl⟩ := h
  dsimp only at h8 hlen r hc hcm hb hne
  have c0 := r.cell 0
  have c1 := r.cell 1
  simp only [List.getElem?_toArray, List.getElem?_cons_zero, List.getElem?_cons_succ] at c0 c1
  clear hb hne
  have l0 : (0 : Int) ≤ (l.length : Int) := by omega
  have l1 : (l.length : Int) ≤ 1048576 := by omega
  cases bad with
  | true =>
    go_enter Try.func28, Try.ntmps28
    go_wp2
    go_ret
    exact ⟨rfl, rfl⟩
  | false =>
    by_cases hl : l.length = 0
    · have hl' : ((l.length : Int) == 0) = true := by simp [hl]
      go_enter Try.func28, Try.ntmps28
      go_wp2
      go_ret
      exact ⟨by simp [hl], rfl⟩
    · have hl' : ((l.length : Int) == 0) = false := by simp; intro e; exact hl (by simp [e])
      go_enter Try.func28, Try.ntmps28
      go_wp2
      go_ret
      exact ⟨by simp [hl], rfl⟩

theorem or_be (x z : Nat) (h1 : x < 281474976710656) (z1 : z < 256) : bits BinOp.or IntKind.u64 ((x : Int) * 256) (z : Int) = ((x * 256 + z : Nat) : Int) := by
  rw [or_byte (x : Int) (z : Int) (by omega) (by omega) (by omega) (by omega)]
  omega
theorem take_snoc (l : List Nat) (k : Nat) (h : k < l.length) : l.take (k + 1) = l.take k ++ [l.getD k 0] := by
  rw [List.take_succ_eq_append_getElem (by simpa using h)]
  simp [List.getD, h]
theorem be_take_lt {l : List Nat} (hw : W8 l) {k : Nat} (hk : k ≤ 6) : be (l.take k) < 281474976710656 := by
  have h1 := be_lt _ (hw.take k)
  have h2 : (l.take k).length ≤ 6 := by simp; omega
  exact Nat.lt_of_lt_of_le h1 (Nat.le_trans (Nat.pow_le_pow_right (by decide) h2) (by decide))

set_option maxHeartbeats 1000000 in
set_option maxRecDepth 100000 in
theorem rint_any (n : Nat) (hn : n ≤ 7) (w : World) (R D : Nat) (s : List Nat × Bool) (h : RdAt w R D s) :
    Calls Try.prog 43 #[.pointer (some ⟨R, 0, none⟩), .int .i64 n] w fun e w' => e = .returned (.int .i64 (be (rTake n s) : Nat)) ∧ RdAt w' R D (rDrop n s) ∧ Else R w w' := by
  go_enter Try.func43, Try.ntmps43
  go_wp2_with (go_at_call 45; refine stop ?_)
  refine (next_any n (by omega) w R D s h).mono ?_
  rintro e w1 ⟨v, rfl, hv, hR, he⟩
  have hl := rTake_len n s
  obtain ⟨hw8, hm, p, c, rfl, hc⟩ := hv
  have t0 : (0 : Int) ≤ ((rTake n s).length : Int) := by omega
  have t1 : ((rTake n s).length : Int) ≤ 7 := by omega
  revert hl hw8 hm hc t0 t1
  generalize ht : rTake n s = t
  have HT : Hid (rTake n s = t) := ht
  clear ht
  intro hl hw8 hm hc t0 t1
  go_wp2
  go_loop [12, 5] (fun i x => ∃ k : Nat, k ≤ t.length ∧ i = .int .i64 k ∧ x = .int .u64 (be (t.take k) : Nat)) (fun i _ => t.length - (intOf i).toNat)
  case atStart => exact ⟨0, Nat.zero_le _, rfl, rfl⟩
  case round =>
    obtain ⟨k, hk, rfl, rfl⟩ := hrel
    by_cases hlt : k < t.length
    · obtain ⟨b, off, rfl, hb, hcell⟩ := hc k hlt
      have hx := be_take_lt hw8 (k := k) (by omega)
      have hz := hw8.at k
      have HS : Hid (be (t.take (k + 1)) = be (t.take k) * 256 + t.getD k 0) := by
        show _ = _
        rw [take_snoc t k hlt, be_snoc]
      clear hc
      generalize be (t.take k) = x at *
      generalize t.getD k 0 = z at *
      have x0 : (0 : Int) ≤ (x : Int) := by omega
      have x1 : (x : Int) < 281474976710656 := by omega
      have z0 : (0 : Int) ≤ (z : Int) := by omega
      have z1 : (z : Int) < 256 := by omega
      go_wp2
      go_round
      case rel => exact ⟨k + 1, by omega, by go_num, by rw [HS.out, or_be x z hx hz]⟩
      case measure => simp [intOf]; omega
    · have hx : be t < 72057594037927936 := by
        have h1 := be_lt _ hw8
        exact Nat.lt_of_lt_of_le h1 (Nat.le_trans (Nat.pow_le_pow_right (by decide) (show t.length ≤ 7 by omega)) (by decide))
      have ht : t.take k = t := List.take_of_length_le (by omega)
      rw [ht]
      clear hc ht
      generalize htx : be t = x at *
      have HX : Hid (be t = x) := htx
      clear htx
      have x0 : (0 : Int) ≤ (x : Int) := by omega
      have x1 : (x : Int) < 72057594037927936 := by omega
      go_wp2
      go_ret
      exact ⟨by rw [HT.out, HX.out]; rfl, hR, he⟩

/-- A number of 128 bits as a value, of bytes. -/
def numV (t : List Nat) : Value := .agg #[.int .u64 (be (t.take 8) : Nat), .int .u64 (be (t.drop 8) : Nat)]
theorem rd_be (l : List Nat) (o : Nat) : ∀ k, o + k ≤ l.length → rd (fun j => ((l.getD (o + j) 0 : Nat) : Int)) k = (be ((l.drop o).take k) : Nat)
  | 0, _ => by simp [rd, be_nil]
  | k + 1, h => by
    rw [rd, rd_be l o k (by omega), take_snoc _ _ (by simp; omega), be_snoc, getD_drop]
    omega
theorem BytesAt.in {w : World} {p : Option Addr} {n c : Nat} {l : List Nat} (h : BytesAt w (.slice p n c) l) : n = l.length ∧ BytesIn w p l.length (fun i => ((l.getD i 0 : Nat) : Int)) := by
  obtain ⟨h1, h2, p', c', e, hc⟩ := h
  cases e
  refine ⟨rfl, h2, fun i hi => ?_⟩
  obtain ⟨b, off, e, hb, hcell⟩ := hc i hi
  have := h1.at i
  exact ⟨b, off, e, hb, hcell, by dsimp only; omega, by dsimp only; omega⟩

theorem own_made (w : World) (base : Nat) (hb : base ≤ w.heap.size) : Own (w.alloc (.cells #[] 5)) base (.slice (some ⟨w.heap.size, 0, none⟩) 0 0) [] :=
  ⟨rfl, Or.inr ⟨w.heap.size, 0, #[], rfl, hb, heap_alloc_new w _, Nat.le_refl _, Nat.zero_le _, rfl, rfl⟩⟩

theorem clone_any (v : Value) (l : List Nat) (w : World) (h : BytesAt w v l) (hl : l.length ≤ 1048576) :
    Calls Try.prog 41 #[v] w fun e w' => ∃ v', e = .returned v' ∧ Own w' w.heap.size v' l ∧ Below w.heap.size w w' := by
  obtain ⟨h8, hm, p, c, rfl, hc⟩ := id h
  have hq := fun w => Go.run_eql_slice_nil (P := Try.prog) w 31 5 p l.length c under_bytes
  cases p with
  | none =>
    obtain rfl : l = [] := by
      cases l with
      | nil => rfl
      | cons x l => obtain ⟨_, _, e, _⟩ := hc 0 (by simp); cases e
    simp only [List.length_nil, Option.isNone_none] at hq ⊢
    go_enter Try.func41, Try.ntmps41
    go_wp2
    go_ret
    exact ⟨_, rfl, World.ownsRow_nil _ _ _ _, Below.refl _ _⟩
  | some a =>
    obtain ⟨v1, w1, run1, own1, gr1, _, _⟩ := append_bytes (w.alloc (.cells #[] 5)) w.heap.size 31 (.slice (some ⟨w.heap.size, 0, none⟩) 0 0) [] (own_made w _ (Nat.le_refl _)) _ l (h.later (below1 _ _)) (by simpa using hl) (by simp)
    have hb1 : Below w.heap.size w w1 := below_grown (below1 w _) (by simp) gr1 (fun k hk => by simp [Value.ownBlock] at hk; omega)
    clear hc gr1
    generalize l.length = n at *
    go_enter Try.func41, Try.ntmps41
    go_wp2_with (at_builtin; refine Lib.wpList_append_run _ rfl _ _ _ _ rfl _ _ rfl rfl _ _ run1 ?_)
    go_ret
    exact ⟨_, rfl, by simpa using own1, hb1⟩

theorem Own.rd {w : World} {base : Nat} {v : Value} {l : List Nat} (h : Own w base v l) (h8 : W8 l) (hl : l.length ≤ 1048576) (hb : base ≤ w.heap.size) :
    ∃ D, base ≤ D ∧ RdAt (w.alloc (.cells #[v, .bool false] 87)) w.heap.size D (l, false) := by
  obtain ⟨hx, ⟨rfl, h0⟩ | ⟨g, cap, cur, rfl, hbg, hg, h1, h2, h3, h4⟩⟩ := h
  · obtain rfl := List.eq_nil_of_length_eq_zero h0
    exact ⟨w.heap.size, hb, h8, hl, ⟨none, 0, Row.new _ _ _ rfl, Nat.le_refl _, Nat.zero_le _, fun h => absurd rfl h⟩, fun h => absurd rfl h, by simp⟩
  · have hlt := (Array.getElem?_eq_some_iff.1 hg).1
    refine ⟨g, hbg, h8, hl, ⟨_, cap, Row.new _ _ _ rfl, h1, h2, fun _ => ⟨0, rfl, fun i hi => ?_⟩⟩, fun _ => by omega, by simp; omega⟩
    dsimp only at hi ⊢
    rw [World.cell?_of_block (w := w) (a := ⟨g, 0 + i, none⟩) (heap_alloc_old w _ hlt), cell_of_row w g (0 + i) cur _ _ hg, Nat.zero_add]
    have e := congrArg (fun x : List Value => x[i]?) h4
    simp only [Nat.mul_one, List.getElem?_take, hi, if_true] at e
    rw [← Array.getElem?_toList, e]
    simp [hi]

theorem rdnew_any (v : Value) (l : List Nat) (w : World) (h : BytesAt w v l) (hl : l.length ≤ 1048576) :
    Calls Try.prog 27 #[v] w fun e w' => ∃ R D, e = .returned (.pointer (some ⟨R, 0, none⟩)) ∧ w.heap.size ≤ R ∧ w.heap.size ≤ D ∧ RdAt w' R D (l, false) ∧ Below w.heap.size w w' := by
  go_enter Try.func27, Try.ntmps27
  go_wp2_with (go_at_call 41; refine stop ?_)
  refine (clone_any v l w h hl).mono ?_
  rintro e w1 ⟨v', rfl, ho, hb⟩
  obtain ⟨p, n, c, rfl, hn⟩ := ho.form
  obtain ⟨D, hD, hR⟩ := ho.rd h.1 hl hb.size
  clear hn
  go_wp2
  go_ret
  exact ⟨w1.heap.size, D, rfl, hb.size, hD, hR, chainA hb _⟩
end Go.Proofs.Ytfhaphbfbmpbiaa
