
/-
  package wire: writeEvents of accounts and of transfers.
-/
import Derived.Test.YtekpkbmelhgneaaWiX
import Derived.Test.YtekpkbmelhgneaaWiV
import Derived.Deep.MidRow
namespace Go.Proofs.Ytekpkbmelhgneaa
open Go.RowKit
set_option maxRecDepth 100000

theorem flat_get {α : Type} (f : α → List Value) (z : Nat) (hf : ∀ a, (f a).length = z) : ∀ (L : List α) (k j : Nat), j < z → (L.flatMap f)[k * z + j]? = (L[k]?).bind (fun a => (f a)[j]?)
  | [], k, j, _ => by simp
  | a :: L, 0, j, h => by
    rw [List.flatMap_cons, Nat.zero_mul, Nat.zero_add, List.getElem?_append_left (by rw [hf]; exact h)]
    rfl
  | a :: L, k + 1, j, h => by
    rw [List.flatMap_cons, List.getElem?_append_right (by rw [hf, Nat.add_mul]; omega), hf, show (k + 1) * z + j - z = k * z + j from by rw [Nat.add_mul]; omega, flat_get f z hf L k j h]
    rfl
theorem rows_range {α : Type} (f : α → List Value) (z : Nat) (hf : ∀ a, (f a).length = z) {w : World} {base : Nat} {t : TypeId} {v : Value} {L : List α} (h : w.ownsRow base t z v L.length (L.flatMap f)) (k : Nat) (a : α) (hk : L[k]? = some a) :
    ∃ g c cur, v = .slice (some ⟨g, 0, none⟩) L.length c ∧ w.heap[g]? = some (.cells cur t (0, 0)) ∧ w.rangeAt g (k * z) (f a) := by
  have hkl : k < L.length := (List.getElem?_eq_some_iff.1 hk).1
  obtain ⟨_, ⟨rfl, h0⟩ | ⟨g, cap, cur, rfl, hbg, hg, h1, h2, h3, h4⟩⟩ := h
  · omega
  · refine ⟨g, cap, cur, rfl, hg, fun j u hu => ?_⟩
    have hj : j < z := by rw [← hf a]; exact (List.getElem?_eq_some_iff.1 hu).1
    have e := flat_get f z hf L k j hj
    rw [hk, ← h4] at e
    have hlt : k * z + j < L.length * z := by
      have : (k + 1) * z ≤ L.length * z := Nat.mul_le_mul_right _ hkl
      rw [Nat.add_mul] at this
      omega
    rw [List.getElem?_take_of_lt hlt] at e
    rw [cell_of_row w g (k * z + j) cur _ _ hg, ← Array.getElem?_toList, e]
    exact hu

/-- Do the words fit? -/
def Ac.ok (a : Ac) : Prop := Word64 (a.hi, a.lo)
def Tr.ok (a : Tr) : Prop := Word64 (a.h1, a.l1) ∧ Word64 (a.h2, a.l2) ∧ Word64 (a.h3, a.l3) ∧ Word64 (a.h4, a.l4) ∧ Word64 (a.h5, a.l5)
def Ac.bytes (a : Ac) : List Nat := acB a.hi a.lo a.led a.fl
def Tr.bytes (a : Tr) : List Nat := trB a.h1 a.l1 a.h2 a.l2 a.h3 a.l3 a.h4 a.l4 a.h5 a.l5 a.tm a.led a.fl
theorem Ac.bytes_len (a : Ac) : a.bytes.length = 22 := acB_len _ _ _ _
theorem Tr.bytes_len (a : Tr) : a.bytes.length = 90 := trB_len ..
theorem flat_take_succ {α : Type} (f : α → List Nat) (L : List α) (k : Nat) (a : α) (h : L[k]? = some a) : (L.take (k + 1)).flatMap f = (L.take k).flatMap f ++ f a := by
  obtain ⟨hk, rfl⟩ := List.getElem?_eq_some_iff.1 h
  rw [List.take_succ_eq_append_getElem (i := k) (l := L) hk, List.flatMap_append]
  simp only [List.flatMap_cons, List.flatMap_nil, List.append_nil]
theorem flat_len {α : Type} (f : α → List Nat) (z : Nat) (hf : ∀ a, (f a).length = z) (L : List α) : (L.flatMap f).length = L.length * z := by
  induction L with
  | nil => simp
  | cons a L ih => rw [List.flatMap_cons, List.length_append, hf, ih, List.length_cons, Nat.add_mul]; omega

theorem far_of_block {w : World} {b : Nat} {v : Value} {l : List Nat} (h : WrAt w b v l) {g : Nat} {cur : Array Value} {t : TypeId} {fr : Nat × Nat} (hg : w.heap[g]? = some (.cells cur t fr)) (h1 : t ≠ 5) (h2 : t ≠ 54) : Far b v g := by
  refine ⟨fun e => ?_, fun e => ?_⟩
  · subst e
    have := hg.symm.trans h.row
    simp at this
    exact h2 this.2.1
  · obtain ⟨_, ⟨hn, _⟩ | ⟨g', cap, cur', hv, _, hg', _⟩⟩ := h.own
    · rw [hn] at e; cases e
    · rw [hv] at e
      cases e
      have := hg.symm.trans hg'
      simp at this
      exact h1 this.2.1
theorem ownsRow_far {w : World} {b : Nat} {v : Value} {l : List Nat} (h : WrAt w b v l) {base : Nat} {t : TypeId} {u : Value} {ns : List Value} {n sz : Nat} (ho : w.ownsRow base t sz u n ns) (h1 : t ≠ 5) (h2 : t ≠ 54) {w' : World} {v' : Value} (hs : WStep w w' b v v') : w'.ownsRow base t sz u n ns :=
  ownsRow_keep ho fun k _ hk hu => by
    obtain ⟨_, ⟨hn, _⟩ | ⟨g', cap, cur', hv, _, hg', _⟩⟩ := id ho
    · rw [hn] at hu; cases hu
    · rw [hv] at hu
      cases hu
      exact hs.far (far_of_block h hg' h1 h2) hk

set_option maxHeartbeats 4000000 in
theorem writeAcs_any (ev : Value) (L : List Ac) (base : Nat) (w : World) (b : Nat) (v : Value) (l : List Nat) (h : WrAt w b v l) (ha : AcsAt w base ev L) (hok : ∀ a ∈ L, Ac.ok a) (hL : L.length ≤ 1000) (hT : l.length ≤ 100000) :
    Calls Try.prog 35 #[.pointer (some ⟨b, 0, none⟩), ev, .func (.func 36) #[] #[]] w fun e w' => ∃ v', e = .returned (.tuple #[]) ∧ WrAt w' b v' (l ++ intB 1 (L.length : Nat) ++ L.flatMap Ac.bytes) ∧ WStep w w' b v v' := by
  obtain ⟨pe, ne, ce, rfl, hne⟩ := ownsRow_form ha
  subst hne
  have m0 : (0 : Int) ≤ (L.length : Int) := by omega
  have m1 : (L.length : Int) ≤ 1000 := by omega
  go_enter Try.func35, Try.ntmps35
  go_wp2_with (go_at_call 24; refine stop ?_)
  have hp0 := int1 h (L.length : Nat) _ rfl 3
  have h0 := h.alloc (.cells #[.int .i64 (L.length : Nat)] 3)
  have s0 := (WStep.refl w b v).alloc (.cells #[.int .i64 (L.length : Nat)] 3)
  refine (wint' 1 (by decide) _ rfl _ [((L.length : Nat) : Int)] _ b _ _ h0 hp0 (by omega)).mono ?_
  rintro e w1 ⟨v1, rfl, h1, q1⟩
  have s1 := s0.trans q1
  simp only [List.flatMap_cons, List.flatMap_nil, List.append_nil] at h1
  clear hp0 h0 s0 q1
  go_wp2
  go_loopw [15] (fun i wr => ∃ (k : Nat) (vk : Value), k ≤ L.length ∧ i = .int .i64 k ∧ WrAt wr b vk (l ++ intB 1 (L.length : Nat) ++ (L.take k).flatMap Ac.bytes) ∧ WStep w wr b v vk) (fun i _ => L.length - (intOf i).toNat)
  case atStart => exact ⟨0, v1, Nat.zero_le _, rfl, by simpa using h1, s1⟩
  case round =>
    obtain ⟨k, vk, hk, rfl, hw, hs⟩ := hrel
    clear h1 s1
    by_cases hlt : k < L.length
    · obtain ⟨a, hka⟩ : ∃ a, L[k]? = some a := ⟨L[k], List.getElem?_eq_getElem hlt⟩
      have hak : a.ok := hok a (List.mem_of_getElem? hka)
      have hak2 := ownsRow_far h ha (by decide) (by decide) hs
      obtain ⟨g, c, cur, hv, hg, hr⟩ := rows_range (fun a : Ac => a.cells.toList) 46 (fun _ => rfl) hak2 k a hka
      cases hv
      have HS : Hid ((L.take (k + 1)).flatMap Ac.bytes = (L.take k).flatMap Ac.bytes ++ a.bytes) := flat_take_succ _ _ _ _ hka
      have hlen : (l ++ intB 1 (L.length : Nat) ++ (L.take k).flatMap Ac.bytes).length ≤ 200000 := by
        rw [List.length_append, List.length_append, intB_len, flat_len Ac.bytes 22 Ac.bytes_len]
        simp
        omega
      have k0 : (0 : Int) ≤ (k : Int) := by omega
      have k1 : (k : Int) < (L.length : Int) := by omega
      clear hak2
      have hinf : (Try.prog.info? 42).map (·.size) = some a.cells.toList.length := info_acc
      have rN := (Row.new wr (Ac.cells ⟨0, 0, 0, 0⟩) 42 rfl).setRow a.cells
      have bN : Below wr.heap.size wr ((wr.alloc (.cells (Ac.cells ⟨0, 0, 0, 0⟩) 42)).setRow wr.heap.size a.cells) := Below.row (below1 wr _) _ (Nat.le_refl _)
      have hw2 := hw.later bN
      have hs2 := hs.trans (WStep.of bN b vk)
      clear hw hs bN hg
      have hca : a.cells.toList.toArray = a.cells := rfl
      go_wp2_with (first | (refine wpList_load_mid rfl 42 _ rfl g (k * 46) rfl a.cells.toList _ hr Try.underlying42 rfl hinf ?_; rw [hca]) | (refine wpList_store_row rfl 42 _ _ rfl wr.heap.size a.cells rfl rfl 42 _ (heap_alloc_new wr _) info_acc rfl (Ac.one _) ?_; refine stop ?_))
      rw [acc_lit]
      unfold Stop
      generalize (wr.alloc (.cells (Ac.cells ⟨0, 0, 0, 0⟩) 42)).setRow wr.heap.size a.cells = w2 at *
      go_wp2_with (first | refine wpList_load_row rfl 42 _ rfl wr.heap.size rfl 42 a.cells (0, 0) _ rN Try.underlying42 rfl info_acc ?_ | (go_at_call 36; refine stop ?_))
      refine (writeAc_any a.cells a.hi a.lo a.led a.fl hak rfl rfl rfl rfl w2 b vk _ hw2 (by omega)).mono ?_
      rintro e w3 ⟨v3, rfl, h3, q3⟩
      have s3 := hs2.trans q3
      rw [List.append_assoc, show acB a.hi a.lo a.led a.fl = a.bytes from rfl, ← HS.out] at h3
      clear hw2 hs2 q3 rN hr hca
      go_wp2
      go_roundw
      case rel => exact ⟨k + 1, _, by omega, by go_num, h3, s3⟩
      case measure => simp [intOf]; omega
    · rw [List.take_of_length_le (by omega)] at hw
      go_wp2
      exact bodyPost_end (v := .tuple #[]) (by simp [results, Try.results35]) rfl ⟨_, rfl, hw, hs⟩

set_option maxHeartbeats 4000000 in
theorem writeTrs_any (ev : Value) (L : List Tr) (base : Nat) (w : World) (b : Nat) (v : Value) (l : List Nat) (h : WrAt w b v l) (ha : TrsAt w base ev L) (hok : ∀ a ∈ L, Tr.ok a) (hL : L.length ≤ 1000) (hT : l.length ≤ 100000) :
    Calls Try.prog 37 #[.pointer (some ⟨b, 0, none⟩), ev, .func (.func 38) #[] #[]] w fun e w' => ∃ v', e = .returned (.tuple #[]) ∧ WrAt w' b v' (l ++ intB 1 (L.length : Nat) ++ L.flatMap Tr.bytes) ∧ WStep w w' b v v' := by
  obtain ⟨pe, ne, ce, rfl, hne⟩ := ownsRow_form ha
  subst hne
  have m0 : (0 : Int) ≤ (L.length : Int) := by omega
  have m1 : (L.length : Int) ≤ 1000 := by omega
  go_enter Try.func37, Try.ntmps37
  go_wp2_with (go_at_call 24; refine stop ?_)
  have hp0 := int1 h (L.length : Nat) _ rfl 3
  have h0 := h.alloc (.cells #[.int .i64 (L.length : Nat)] 3)
  have s0 := (WStep.refl w b v).alloc (.cells #[.int .i64 (L.length : Nat)] 3)
  refine (wint' 1 (by decide) _ rfl _ [((L.length : Nat) : Int)] _ b _ _ h0 hp0 (by omega)).mono ?_
  rintro e w1 ⟨v1, rfl, h1, q1⟩
  have s1 := s0.trans q1
  simp only [List.flatMap_cons, List.flatMap_nil, List.append_nil] at h1
  clear hp0 h0 s0 q1
  go_wp2
  go_loopw [15] (fun i wr => ∃ (k : Nat) (vk : Value), k ≤ L.length ∧ i = .int .i64 k ∧ WrAt wr b vk (l ++ intB 1 (L.length : Nat) ++ (L.take k).flatMap Tr.bytes) ∧ WStep w wr b v vk) (fun i _ => L.length - (intOf i).toNat)
  case atStart => exact ⟨0, v1, Nat.zero_le _, rfl, by simpa using h1, s1⟩
  case round =>
    obtain ⟨k, vk, hk, rfl, hw, hs⟩ := hrel
    clear h1 s1
    by_cases hlt : k < L.length
    · obtain ⟨a, hka⟩ : ∃ a, L[k]? = some a := ⟨L[k], List.getElem?_eq_getElem hlt⟩
      have hak : a.ok := hok a (List.mem_of_getElem? hka)
      have hak2 := ownsRow_far h ha (by decide) (by decide) hs
      obtain ⟨g, c, cur, hv, hg, hr⟩ := rows_range (fun a : Tr => a.cells.toList) 16 (fun _ => rfl) hak2 k a hka
      cases hv
      have HS : Hid ((L.take (k + 1)).flatMap Tr.bytes = (L.take k).flatMap Tr.bytes ++ a.bytes) := flat_take_succ _ _ _ _ hka
      have hlen : (l ++ intB 1 (L.length : Nat) ++ (L.take k).flatMap Tr.bytes).length ≤ 200000 := by
        rw [List.length_append, List.length_append, intB_len, flat_len Tr.bytes 90 Tr.bytes_len]
        simp
        omega
      have k0 : (0 : Int) ≤ (k : Int) := by omega
      have k1 : (k : Int) < (L.length : Int) := by omega
      clear hak2
      have hinf : (Try.prog.info? 71).map (·.size) = some a.cells.toList.length := info_tr
      have rN := (Row.new wr (Tr.cells ⟨0, 0, 0, 0, 0, 0, 0, 0, 0, 0, 0, 0, 0⟩) 71 rfl).setRow a.cells
      have bN : Below wr.heap.size wr ((wr.alloc (.cells (Tr.cells ⟨0, 0, 0, 0, 0, 0, 0, 0, 0, 0, 0, 0, 0⟩) 71)).setRow wr.heap.size a.cells) := Below.row (below1 wr _) _ (Nat.le_refl _)
      have hw2 := hw.later bN
      have hs2 := hs.trans (WStep.of bN b vk)
      clear hw hs bN hg
      have hca : a.cells.toList.toArray = a.cells := rfl
      go_wp2_with (first | (refine wpList_load_mid rfl 71 _ rfl g (k * 16) rfl a.cells.toList _ hr Try.underlying71 rfl hinf ?_; rw [hca]) | (refine wpList_store_row rfl 71 _ _ rfl wr.heap.size a.cells rfl rfl 71 _ (heap_alloc_new wr _) info_tr rfl (Tr.one _) ?_; refine stop ?_))
      rw [tr_lit]
      unfold Stop
      generalize (wr.alloc (.cells (Tr.cells ⟨0, 0, 0, 0, 0, 0, 0, 0, 0, 0, 0, 0, 0⟩) 71)).setRow wr.heap.size a.cells = w2 at *
      go_wp2_with (first | refine wpList_load_row rfl 71 _ rfl wr.heap.size rfl 71 a.cells (0, 0) _ rN Try.underlying71 rfl info_tr ?_ | (go_at_call 38; refine stop ?_))
      refine (writeTr_any a.cells a.h1 a.l1 a.h2 a.l2 a.h3 a.l3 a.h4 a.l4 a.h5 a.l5 a.tm a.led a.fl hak.1 hak.2.1 hak.2.2.1 hak.2.2.2.1 hak.2.2.2.2 rfl rfl rfl rfl rfl rfl rfl rfl rfl rfl rfl rfl rfl w2 b vk _ hw2 (by omega)).mono ?_
      rintro e w3 ⟨v3, rfl, h3, q3⟩
      have s3 := hs2.trans q3
      rw [List.append_assoc, show trB a.h1 a.l1 a.h2 a.l2 a.h3 a.l3 a.h4 a.l4 a.h5 a.l5 a.tm a.led a.fl = a.bytes from rfl, ← HS.out] at h3
      clear hw2 hs2 q3 rN hr hca
      go_wp2
      go_roundw
      case rel => exact ⟨k + 1, _, by omega, by go_num, h3, s3⟩
      case measure => simp [intOf]; omega
    · rw [List.take_of_length_le (by omega)] at hw
      go_wp2
      exact bodyPost_end (v := .tuple #[]) (by simp [results, Try.results37]) rfl ⟨_, rfl, hw, hs⟩

end Go.Proofs.Ytekpkbmelhgneaa
