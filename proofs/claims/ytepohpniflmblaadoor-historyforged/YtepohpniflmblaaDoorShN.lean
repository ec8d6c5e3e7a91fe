
/-
  sha.Of with a tape: the hash, and one note more on the tape; Len of a tape.
-/
import Derived.Test.YtepohpniflmblaaDoorShE
namespace Go.Proofs.YtepohpniflmblaaDoor
open Go.RowKit

theorem info_row : (Tryd.prog.info? 37).map (fun i => (i.zero, i.size, i.bytes)) = some (some (.slice none 0 0), 1, 24) := by kernel_rfl
theorem info_row' : ∃ i, Tryd.prog.info? 37 = some i ∧ i.zero = some (.slice none 0 0) ∧ i.size = 1 ∧ i.bytes = 24 := by
  cases hi : Tryd.prog.info? 37 with
  | none => have h := info_row; rw [hi] at h; cases h
  | some i =>
    have h := info_row
    rw [hi] at h
    have h' : (i.zero, i.size, i.bytes) = (some (.slice none 0 0), 1, 24) := Option.some.inj h
    exact ⟨i, rfl, congrArg (·.1) h', congrArg (·.2.1) h', congrArg (·.2.2) h'⟩
theorem under_rows : Tryd.prog.underlying 22 = some (.slice 37) := by kernel_rfl

/-- A tape whose notes are these values. -/
structure TapeAt (w : World) (base T : Nat) (vN : Value) (ns : List Value) : Prop where
  row : Row w T #[vN] 40
  own : w.ownsRow base 37 1 vN ns.length ns
  ne : vN.ownBlock ≠ some T
  le : base ≤ T
/-- What a call that notes leaves alone. -/
structure KeptBut (w w' : World) (T : Nat) (vN : Value) : Prop where
  os : w'.os = w.os
  tape : w'.tape = w.tape
  output : w'.output = w.output
  size : w.heap.size ≤ w'.heap.size
  block : ∀ k, k < w.heap.size → k ≠ T → some k ≠ vN.ownBlock → w'.heap[k]? = w.heap[k]?
theorem ownsRow_at {w : World} {base : Nat} {e : TypeId} {v : Value} {ns : List Value} {n : Nat} (h : w.ownsRow base e 1 v n ns) : ∃ p n' c, v = .slice p n' c ∧ n' = n := by
  obtain ⟨_, ⟨rfl, h0⟩ | ⟨g, cap, cur, rfl, _⟩⟩ := h
  · exact ⟨_, _, _, rfl, h0.symm⟩
  · exact ⟨_, _, _, rfl, rfl⟩
theorem ownsRow_later {w w1 : World} {base : Nat} {e : TypeId} {v : Value} {ns : List Value} {n : Nat} (h : w.ownsRow base e 1 v n ns) (hb : Below w.heap.size w w1) : w1.ownsRow base e 1 v n ns :=
  ⟨h.1, h.2.imp id fun ⟨g, cap, cur, e, h1, h2, h3⟩ => ⟨g, cap, cur, e, h1, (hb.block g (Array.getElem?_eq_some_iff.1 h2).1).trans h2, h3⟩⟩
theorem ownsRow_set {w : World} {base : Nat} {e : TypeId} {v : Value} {ns : List Value} {n : Nat} (h : w.ownsRow base e 1 v n ns) {T i : Nat} (hne : v.ownBlock ≠ some T) (u : Value) : (w.setCell ⟨T, i, none⟩ u).ownsRow base e 1 v n ns :=
  ⟨h.1, h.2.imp id fun ⟨g, cap, cur, e, h1, h2, h3⟩ => ⟨g, cap, cur, e, h1, (heap_setCell_other w ⟨T, i, none⟩ g u (fun hh => hne (by rw [e]; simp [Value.ownBlock, hh]))).trans h2, h3⟩⟩
theorem ownsRow_row {w : World} {base : Nat} {e : TypeId} {v : Value} {ns : List Value} {n : Nat} (h : w.ownsRow base e 1 v n ns) {T : Nat} (hne : v.ownBlock ≠ some T) (ds : Array Value) : (w.setRow T ds).ownsRow base e 1 v n ns :=
  ⟨h.1, h.2.imp id fun ⟨g, cap, cur, e, h1, h2, h3⟩ => ⟨g, cap, cur, e, h1, (setRow_other w T g ds (fun hh => hne (by rw [e]; simp [Value.ownBlock, hh]))).trans h2, h3⟩⟩

theorem append_note (w : World) (base : Nat) (ty : TypeId) (vN : Value) (ns : List Value) (hown : w.ownsRow base 37 1 vN ns.length ns) (u : Value) (hu : u.oneCell' = true) (hn : ns.length ≤ 1000) (hb : base ≤ w.heap.size) :
    ∃ v' w', (Builtin.append_ #[22, 22] ty #[vN, .slice (some ⟨w.heap.size, 0, none⟩) 1 1]).run Tryd.prog (w.alloc (.cells #[u] 37)) = .ok v' w' ∧ w'.ownsRow base 37 1 v' (ns.length + 1) (ns ++ [u]) ∧ (w.alloc (.cells #[u] 37)).grownBy w' vN.ownBlock := by
  obtain ⟨i, hi, z0, z1, z2⟩ := info_row'
  obtain ⟨v', w', h1, h2, h3, _⟩ := run_append_own (P := Tryd.prog) (w.alloc (.cells #[u] 37)) base 22 ty 37 i _ 1 24 under_rows hi z0 z1 z2 rfl (by decide) vN ns.length ns (ownsRow_later hown (below1 _ _)) ⟨w.heap.size, 0, none⟩ 1 1 [u] (by simp)
    (fun j v hv => by
      have hj : j = 0 := by have := (List.getElem?_eq_some_iff.1 hv).1; simpa using this
      subst hj
      rw [show (⟨w.heap.size, 0, none⟩ : Addr).add 0 = ⟨w.heap.size, 0 + 0, none⟩ from Addr.add_lit .., World.cell?_alloc_at _ _ _ _ rfl, ← hv]
      rfl) (fun x hx => by simp at hx; rw [hx]; exact hu) (by unfold maxLen; omega) (by omega) (by simp; omega)
  exact ⟨v', w', h1, h2, h3⟩
/-- A row of one type is none of another one. -/
theorem own_ne {w : World} {base : Nat} {e t : TypeId} {v : Value} {ns : List Value} {n T : Nat} {cs : Array Value} (h : w.ownsRow base e 1 v n ns) (hr : Row w T cs t) (hne : e ≠ t) : v.ownBlock ≠ some T := by
  intro hh
  obtain ⟨_, ⟨rfl, _⟩ | ⟨g, cap, cur, rfl, _, hg, _⟩⟩ := h
  · cases hh
  · simp [Value.ownBlock] at hh
    subst hh
    unfold Row at hr
    rw [hg] at hr
    simp at hr
    exact hne hr.2

theorem own_own {w : World} {b c : Nat} {e e' : TypeId} {v u : Value} {xs ys : List Value} {n m : Nat} (h : w.ownsRow b e 1 v n xs) (k : w.ownsRow c e' 1 u m ys) (hne : e ≠ e') : v.ownBlock = none ∨ v.ownBlock ≠ u.ownBlock := by
  obtain ⟨_, ⟨rfl, _⟩ | ⟨g, cap, cur, rfl, _, hg, _⟩⟩ := h
  · exact Or.inl rfl
  · right
    intro hh
    obtain ⟨_, ⟨rfl, _⟩ | ⟨g', cap', cur', rfl, _, hg', _⟩⟩ := k
    · cases hh
    · simp [Value.ownBlock] at hh
      subst hh
      rw [hg] at hg'
      simp at hg'
      exact hne hg'.2

set_option maxHeartbeats 1000000 in
set_option maxRecDepth 100000 in
theorem of_tape (pv : Value) (L : List (List Nat)) (M H : List Nat) (base T : Nat) (vN : Value) (ns : List Value) (w : World) (hp : PartsAt w pv L) (hfl : L.flatten = M) (hl : M.length ≤ 1000000) (ht : Tab w) (hH : hashF KW M = H) (hta : TapeAt w base T vN ns) (hns : ns.length ≤ 1000) (hT0 : T ≠ 0) (hN0 : some 0 ≠ vN.ownBlock) :
    Calls Tryd.prog 25 #[.pointer (some ⟨T, 0, none⟩), pv] w fun e w' => ∃ vN' u, e = .returned (.agg (bytesL H)) ∧ TapeAt w' base T vN' (ns ++ [u]) ∧ Own w' w.heap.size u M ∧ KeptBut w w' T vN := by
  have hok := hp.ok
  have hlen : H.length = 32 := by rw [← hH]; exact hash_len M
  have hsz : (Tryd.prog.info? 28).map (·.size) = some (bytesL H).size := by rw [bytesL_size, hlen]; exact info_hash
  have HM : Hid (L.flatten = M) := hfl
  have HH : Hid (hashF KW M = H) := hH
  rw [hfl] at hok
  clear hfl hH
  obtain ⟨pN, nN, cN, rfl, hnN⟩ := ownsRow_at hta.own
  clear hnN
  go_enter Tryd.func25, Tryd.ntmps25
  go_wp2_with (go_at_call 32; refine stop ?_)
  rw [zeros32b]
  refine (concat_any pv L _ (hp.later (below1 _ _)) (by rw [HM.out]; omega)).mono ?_
  rintro e w1 ⟨v, rfl, hown, hb1⟩
  rw [HM.out] at hown
  have r0 : Row w1 w.heap.size (bytesL (List.replicate 32 0)) 28 := (Row.new _ _ _ rfl).later hb1
  have b0 : Below w.heap.size w w1 := chain (below1 _ _) hb1
  have hown1 : Own w1 w.heap.size v M := ⟨hown.1, hown.2.imp id fun ⟨g, cap, cur, e, h1, h2⟩ => ⟨g, cap, cur, e, by simp at h1; omega, h2⟩⟩
  have hT1 := hta.row.later b0
  have hN1 := ownsRow_later hta.own b0
  have cT := hT1.cell 0
  simp only [List.getElem?_toArray, List.getElem?_cons_zero] at cT
  obtain ⟨pm, nm, cm, rfl, hnm⟩ := hown1.form
  obtain ⟨v2, w2, run2, own2, gr2⟩ := append_note w1 base 22 _ ns hN1 (.slice pm nm cm) rfl (by omega) (by have := hta.le; have := hta.row.lt; have := b0.size; omega)
  clear hb1 hown hnm
  have hmN : (Value.slice pm nm cm).ownBlock = none ∨ (Value.slice pm nm cm).ownBlock ≠ (Value.slice pN nN cN).ownBlock := own_own hown1 hN1 (by decide)
  have hown1a : Own (w1.alloc (.cells #[.slice pm nm cm] 37)) w.heap.size (.slice pm nm cm) M := ownsRow_later hown1 (below1 _ _)
  have hown2 : Own w2 w.heap.size (.slice pm nm cm) M := hown1a.kept gr2 hmN
  have hTN : some T ≠ (Value.slice pN nN cN).ownBlock := fun hh => hta.ne hh.symm
  have hT2 : Row w2 T #[.slice pN nN cN] 40 := (gr2.block T (hT1.alloc (.cells #[.slice pm nm cm] 37)).lt hTN).trans (hT1.alloc _)
  have hr0N : some w.heap.size ≠ (Value.slice pN nN cN).ownBlock := fun hh => own_ne hN1 r0 (by decide) hh.symm
  have r2 : Row w2 w.heap.size (bytesL (List.replicate 32 0)) 28 := (gr2.block w.heap.size (r0.alloc (.cells #[.slice pm nm cm] 37)).lt hr0N).trans (r0.alloc _)
  have hTlt := hta.row.lt
  have c2T := hT2.cell 0
  simp only [List.getElem?_toArray, List.getElem?_cons_zero] at c2T
  have f2T := hT2.frozen 0
  have hv2T : v2.ownBlock ≠ some T := own_ne own2 hT2 (by decide)
  have hv2r : v2.ownBlock ≠ some w.heap.size := own_ne own2 r2 (by decide)
  have hmT : (Value.slice pm nm cm).ownBlock ≠ some T := own_ne hown2 hT2 (by decide)
  have hmr : (Value.slice pm nm cm).ownBlock ≠ some w.heap.size := own_ne hown2 r2 (by decide)
  obtain ⟨p2, n2, c2, rfl, hn2⟩ := ownsRow_at own2
  clear hn2
  have hown3 : Own (w2.setCell ⟨T, 0, none⟩ (.slice p2 n2 c2)) w.heap.size (.slice pm nm cm) M := ownsRow_set hown2 hmT _
  have own3 := ownsRow_set own2 (i := 0) hv2T (.slice p2 n2 c2)
  have hT3 : Row (w2.setCell ⟨T, 0, none⟩ (.slice p2 n2 c2)) T #[.slice p2 n2 c2] 40 := hT2.set 0 _
  have r3 : Row (w2.setCell ⟨T, 0, none⟩ (.slice p2 n2 c2)) w.heap.size (bytesL (List.replicate 32 0)) 28 := r2.setOther _ (by simp; omega)
  have k3 : KeptBut w (w2.setCell ⟨T, 0, none⟩ (.slice p2 n2 c2)) T (.slice pN nN cN) := by
    refine ⟨gr2.os.trans b0.os, gr2.tape.trans b0.tape, gr2.output.trans b0.output, ?_, fun k hk hkT hkN => ?_⟩
    · have := gr2.size; have := b0.size; simp at *; omega
    · have hk1 : k < (w1.alloc (.cells #[.slice pm nm cm] 37)).heap.size := by have := b0.size; simp; omega
      rw [heap_setCell_other _ _ _ _ (by simpa using hkT), gr2.block k hk1 hkN, heap_alloc_old w1 _ (by have := b0.size; omega)]
      exact b0.block k hk
  have ht3 : Tab (w2.setCell ⟨T, 0, none⟩ (.slice p2 n2 c2)) := by
    intro i hi
    rw [World.cell?_of_block (a := ⟨0, i, none⟩) (k3.block 0 ht.pos ?h0 ?hN)]
    · exact ht i hi
    case h0 => exact fun hh => hT0 hh.symm
    case hN => exact hN0
  clear hown1a hmN hT2 r2 own2 gr2 hown2
  go_wp2_with (first | (at_builtin; refine Lib.wpList_append_run _ rfl _ _ _ _ rfl _ _ rfl rfl _ _ run2 ?_) | (go_at_call 33; refine stop ?_))
  refine (hash_any _ M _ (hown3.bytes hok (by unfold maxLen; omega)) hl ht3).mono ?_
  rw [HH.out]
  rintro e w4 ⟨rfl, hb4⟩
  have hown4 : Own w4 w.heap.size (.slice pm nm cm) M := ownsRow_later hown3 hb4
  have own4 := ownsRow_later own3 hb4
  have hT4 := hT3.later hb4
  have r4 := r3.later hb4
  have k4 : KeptBut w w4 T (.slice pN nN cN) := ⟨hb4.os.trans k3.os, hb4.tape.trans k3.tape, hb4.output.trans k3.output, Nat.le_trans k3.size hb4.size, fun k hk h1 h2 => (hb4.block k (Nat.lt_of_lt_of_le hk k3.size)).trans (k3.block k hk h1 h2)⟩
  clear hb4 hown3 own3 hT3 r3 k3 ht3 hown1 hN1 hT1 r0 c2T f2T cT run2
  go_wp2_with (refine wpList_store_row rfl 28 _ _ rfl w.heap.size (bytesL H) rfl rfl 28 _ r4 hsz (by simp [bytesL_size, hlen]) (bytesL_one _) ?_)
  refine bodyPost_ret (v := .agg (bytesL H)) (results_cell_row Tryd.results25 _ _ w.heap.size 28 (bytesL H) (0, 0) _ ?hp ?hg Tryd.underlying28 rfl hsz) rfl ⟨_, _, rfl, ⟨hT4.setRowOther _ (by omega), ?ho, hv2T, hta.le⟩, ownsRow_row hown4 hmr _, ?hk⟩
  case hp => rfl
  case hg => exact r4.setRow _
  case ho => rw [List.length_append]; exact ownsRow_row own4 hv2r _
  case hk => exact ⟨k4.os, k4.tape, k4.output, by simp [World.setRow]; exact k4.size, fun k hk h1 h2 => (setRow_other _ _ _ _ (by omega)).trans (k4.block k hk h1 h2)⟩
end Go.Proofs.YtepohpniflmblaaDoor
