
/-
  slices.Grow and slices.Concat at []byte: for all parts that hold together at most 2^20 bytes.
-/
import Derived.Test.YtepohpniflmblaaDoorShP
import Derived.Lib.AppendZeros
import Derived.Deep.Upon
set_option maxRecDepth 100000
namespace Go.Proofs.YtepohpniflmblaaDoor
open Go.RowKit

/-- A slice value with these bytes. -/
def BytesAt (w : World) (v : Value) (l : List Nat) : Prop :=
  W8 l ∧ l.length ≤ maxLen ∧ ∃ p c, v = .slice p l.length c ∧ ∀ i, i < l.length → ∃ b off, p = some ⟨b, off, none⟩ ∧ b < w.heap.size ∧ w.cell? ⟨b, off + i, none⟩ = some (.int .u8 (l.getD i 0 : Nat))
theorem BytesAt.later {w w1 : World} {v : Value} {l : List Nat} (h : BytesAt w v l) (hb : Below w.heap.size w w1) : BytesAt w1 v l := by
  obtain ⟨h1, h2, p, c, e, h⟩ := h
  refine ⟨h1, h2, p, c, e, fun i hi => ?_⟩
  obtain ⟨b, off, e, hlt, hc⟩ := h i hi
  exact ⟨b, off, e, Nat.lt_of_lt_of_le hlt hb.size, (hb.cell (p := ⟨b, off + i, none⟩) hlt).trans hc⟩
theorem BytesAt.below {B : World} {w1 : World} {v : Value} {l : List Nat} (h : BytesAt B v l) (hb : Below B.heap.size B w1) : BytesAt w1 v l := h.later hb
/-- A slice of such. -/
def PartsAt (w : World) (v : Value) (L : List (List Nat)) : Prop :=
  L.length ≤ maxLen ∧ ∃ p c, v = .slice p L.length c ∧ ∀ i, i < L.length → ∃ b off u, p = some ⟨b, off, none⟩ ∧ b < w.heap.size ∧ w.cell? ⟨b, off + i, none⟩ = some u ∧ BytesAt w u (L.getD i [])
theorem PartsAt.later {w w1 : World} {v : Value} {L : List (List Nat)} (h : PartsAt w v L) (hb : Below w.heap.size w w1) : PartsAt w1 v L := by
  obtain ⟨h2, p, c, e, h⟩ := h
  refine ⟨h2, p, c, e, fun i hi => ?_⟩
  obtain ⟨b, off, u, e, hlt, hc, hu⟩ := h i hi
  exact ⟨b, off, u, e, Nat.lt_of_lt_of_le hlt hb.size, (hb.cell (p := ⟨b, off + i, none⟩) hlt).trans hc, hu.later hb⟩

theorem Row.bytes {w : World} {b : Nat} {l : List Nat} {t : TypeId} (h : Row w b (bytesL l) t) (hw : W8 l) (hl : l.length ≤ maxLen) (n c : Nat) (hn : n = l.length) : BytesAt w (.slice (some ⟨b, 0, none⟩) n c) l := by
  subst hn
  exact ⟨hw, hl, _, _, rfl, fun i hi => ⟨b, 0, rfl, h.lt, by rw [h.cell, Nat.zero_add]; exact bytesL_at _ i hi⟩⟩
theorem parts0 (w : World) : PartsAt w (.slice none 0 0) [] := ⟨Nat.zero_le _, none, 0, rfl, fun i hi => by simp at hi⟩
theorem parts1 (w : World) {u : Value} {l : List Nat} (t : TypeId) (h : BytesAt w u l) (c : Nat) : PartsAt (w.alloc (.cells #[u] t)) (.slice (some ⟨w.heap.size, 0, none⟩) 1 c) [l] :=
  ⟨by simp [maxLen], _, _, rfl, fun i hi => by
    obtain rfl : i = 0 := by simpa using hi
    exact ⟨_, 0, u, rfl, by simp, by rw [World.cell?_alloc_at _ _ _ _ rfl]; rfl, h.later (below1 _ _)⟩⟩
theorem parts2 (w : World) {u v : Value} {l k : List Nat} (t : TypeId) (h : BytesAt w u l) (g : BytesAt w v k) (c : Nat) : PartsAt (w.alloc (.cells #[u, v] t)) (.slice (some ⟨w.heap.size, 0, none⟩) 2 c) [l, k] :=
  ⟨by simp [maxLen], _, _, rfl, fun i hi => by
    match i, hi with
    | 0, _ => exact ⟨_, 0, u, rfl, by simp, by rw [World.cell?_alloc_at _ _ _ _ rfl]; rfl, h.later (below1 _ _)⟩
    | 1, _ => exact ⟨_, 0, v, rfl, by simp, by rw [World.cell?_alloc_at _ _ _ _ rfl]; rfl, g.later (below1 _ _)⟩⟩
theorem parts3 (w : World) {u v x : Value} {l k m : List Nat} (t : TypeId) (h : BytesAt w u l) (g : BytesAt w v k) (f : BytesAt w x m) (c : Nat) : PartsAt (w.alloc (.cells #[u, v, x] t)) (.slice (some ⟨w.heap.size, 0, none⟩) 3 c) [l, k, m] :=
  ⟨by simp [maxLen], _, _, rfl, fun i hi => by
    match i, hi with
    | 0, _ => exact ⟨_, 0, u, rfl, by simp, by rw [World.cell?_alloc_at _ _ _ _ rfl]; rfl, h.later (below1 _ _)⟩
    | 1, _ => exact ⟨_, 0, v, rfl, by simp, by rw [World.cell?_alloc_at _ _ _ _ rfl]; rfl, g.later (below1 _ _)⟩
    | 2, _ => exact ⟨_, 0, x, rfl, by simp, by rw [World.cell?_alloc_at _ _ _ _ rfl]; rfl, f.later (below1 _ _)⟩⟩
theorem BytesAt.nil (w : World) : BytesAt w (.slice none 0 0) [] := ⟨(fun _ h => by cases h), by simp [maxLen], none, 0, rfl, fun i hi => by simp at hi⟩

/-- A row of bytes of the call's own. -/
def Own (w : World) (base : Nat) (v : Value) (l : List Nat) : Prop := w.ownsRow base 5 1 v l.length (l.map fun x : Nat => Value.int .u8 (x : Int))
theorem Own.bytes {w : World} {base : Nat} {v : Value} {l : List Nat} (h : Own w base v l) (hw : W8 l) (hl : l.length ≤ maxLen) : BytesAt w v l := by
  obtain ⟨_, ⟨rfl, h0⟩ | ⟨g, cap, cur, rfl, hb, hg, h1, h2, h3, h4⟩⟩ := h
  · obtain rfl := List.eq_nil_of_length_eq_zero h0
    exact ⟨hw, hl, none, 0, rfl, fun i hi => by simp at hi⟩
  · refine ⟨hw, hl, _, _, rfl, fun i hi => ⟨g, 0, rfl, (Array.getElem?_eq_some_iff.1 hg).1, ?_⟩⟩
    rw [cell_of_row w g (0 + i) cur _ _ hg, Nat.zero_add]
    have e := congrArg (fun x : List Value => x[i]?) h4
    simp only [Nat.mul_one, List.getElem?_take, hi, if_true] at e
    rw [← Array.getElem?_toList, e]
    simp [hi]
theorem below_grown {B : Nat} {w w1 w2 : World} {row : Option Nat} (h : Below B w w1) (hB : B ≤ w1.heap.size) (hg : w1.grownBy w2 row) (hr : ∀ k, row = some k → B ≤ k) : Below B w w2 :=
  h.trans ⟨hg.os, hg.tape, hg.output, hg.size, fun k hk => hg.block k (by omega) (fun e => by have := hr k e.symm; omega)⟩

theorem under_bytes : Tryd.prog.underlying 37 = some (.slice 5) := by kernel_rfl

theorem src_empty (w : World) (i : TypeInfo) (p : Option Addr) (c : Nat) : Src Tryd.prog i.size 37 (.slice p ([] : List Nat).length c) 0 [] w := by
  cases p with
  | none => exact Src.ofNil w under_bytes c
  | some a => exact Src.ofSlice w under_bytes a 0 c [] (by simp) (fun j u h => by simp at h) (fun u h => by cases h)
/-- append(v, x...) where v is the call's own row. -/
theorem append_bytes (w : World) (base : Nat) (ty : TypeId) (v : Value) (xs : List Nat) (hown : Own w base v xs) (x : Value) (l : List Nat) (hx : BytesAt w x l) (hn : xs.length + l.length ≤ 1048576) (hb : base ≤ w.heap.size) :
    ∃ v' w', (Builtin.append_ #[37, 37] ty #[v, x]).run Tryd.prog w = .ok v' w' ∧ Own w' base v' (xs ++ l) ∧ w.grownBy w' v.ownBlock ∧ (v' = .slice none 0 0 ↔ v = .slice none 0 0 ∧ l = []) := by
  obtain ⟨i, hi, z0, z1, z2⟩ := info_u8'
  obtain ⟨_, hm, p, c, rfl, hc⟩ := hx
  by_cases hl : l = []
  · subst hl
    refine ⟨v, w, ?_, by simpa using hown, ⟨rfl, rfl, rfl, Nat.le_refl _, fun _ _ _ => rfl⟩, by simp⟩
    obtain ⟨_, ⟨rfl, h0⟩ | ⟨g, cap, cur, rfl, hb, hg, h1, h2, h3, h4⟩⟩ := hown
    · exact run_append_nothing w _ _ ty _ i under_bytes hi none 0 0 (Nat.le_refl _) _ (src_empty w i p c)
    · exact run_append_nothing w _ _ ty _ i under_bytes hi _ _ cap h1 _ (src_empty w i p c)
  · have hpos : 0 < l.length := List.length_pos_iff.2 hl
    obtain ⟨b, off, rfl, _, _⟩ := hc 0 hpos
    obtain ⟨v', w', h1, h2, h3, h4⟩ := run_append_own (P := Tryd.prog) w base 37 ty 5 i _ 1 1 under_bytes hi z0 z1 z2 rfl (by decide) v xs.length _ hown ⟨b, off, none⟩ l.length c (l.map fun x : Nat => Value.int .u8 (x : Int)) (by simp)
      (fun j u hu => by
        have hj : j < l.length := by
          have := (List.getElem?_eq_some_iff.1 hu).1
          simpa using this
        obtain ⟨b', off', e', _, hcell⟩ := hc j hj
        cases e'
        rw [show (⟨b, off, none⟩ : Addr).add j = ⟨b, off + j, none⟩ from Addr.add_lit .., hcell, ← hu]
        simp [hj]) (fun u hu => by obtain ⟨y, _, rfl⟩ := List.mem_map.1 hu; rfl) (by unfold maxLen; omega) (by omega) hb
    refine ⟨v', w', h1, ?_, h3, by rw [h4]; simp [hl]⟩
    unfold Own
    rw [List.map_append, List.length_append]
    exact h2

theorem grow_any (n : Nat) (w : World) (hn : n ≤ 1048576) :
    Calls Tryd.prog 37 #[.slice none 0 0, .int .i64 n] w fun e w' => ∃ v, e = .returned v ∧ Own w' w.heap.size v [] ∧ (v = .slice none 0 0 ↔ n = 0) ∧ Below w.heap.size w w' := by
  obtain ⟨i, hi, z0, z1, z2⟩ := info_u8'
  have n0 : (0 : Int) ≤ (n : Int) := by omega
  have n1 : (n : Int) ≤ 1048576 := by omega
  by_cases h0 : n = 0
  · subst h0
    go_enter Tryd.func37, Tryd.ntmps37
    go_wp2
    go_ret
    exact ⟨_, rfl, World.ownsRow_nil _ _ _ _, by simp, Below.refl _ _⟩
  · have g0 : 0 < (n : Int) := by omega
    have hr := Lib.run_append_nil_zeros (P := Tryd.prog) w 37 3 37 5 i _ .i64 .i64 under_bytes (by kernel_rfl) hi z0 n (by omega) (by rw [z1]; decide) (by omega) (by rw [z2]; omega)
    go_enter Tryd.func37, Tryd.ntmps37
    go_wp2_with (at_builtin; refine Lib.wpList_append_run _ rfl _ _ _ _ rfl _ _ rfl rfl _ _ hr ?_)
    go_ret
    have hge := grownCap_ge w n 0 5
    refine ⟨_, rfl, World.ownsRow_made w _ (grownCap w n 0 5) (Nat.le_refl _) (grownCap_le_maxLen w n 0 _ (by unfold maxLen; omega)) ?_, by simp [h0], (below1 _ _).drew⟩
    simp [size_zeroCells]
    omega

/-- The bytes of the first k parts. -/
def firsts (L : List (List Nat)) (k : Nat) : List Nat := (L.take k).flatten
theorem firsts_succ (L : List (List Nat)) (k : Nat) (h : k < L.length) : firsts L (k + 1) = firsts L k ++ L.getD k [] := by
  unfold firsts
  rw [List.take_succ_eq_append_getElem (i := k) (l := L) h]
  simp only [List.getD, List.getElem?_eq_getElem h, Option.getD_some, List.flatten_append, List.flatten_cons, List.flatten_nil, List.append_nil]
theorem firsts_le (L : List (List Nat)) (k : Nat) : (firsts L k).length ≤ L.flatten.length := by
  unfold firsts
  conv => rhs; rw [← List.take_append_drop k L]
  rw [List.flatten_append, List.length_append]
  omega
theorem firsts_all (L : List (List Nat)) (k : Nat) (h : L.length ≤ k) : firsts L k = L.flatten := by unfold firsts; rw [List.take_of_length_le h]

set_option maxHeartbeats 1000000 in
theorem concat_any (pv : Value) (L : List (List Nat)) (w : World) (hp : PartsAt w pv L) (hT : L.flatten.length ≤ 1048576) :
    Calls Tryd.prog 32 #[pv] w fun e w' => ∃ v, e = .returned v ∧ Own w' w.heap.size v L.flatten ∧ Below w.heap.size w w' := by
  obtain ⟨hm, p, c, rfl, hc⟩ := id hp
  unfold maxLen at hm
  have hm0 : (0 : Int) ≤ (L.length : Int) := by omega
  have hm1 : (L.length : Int) ≤ 9223372036854775807 := by omega
  go_enter Tryd.func32, Tryd.ntmps32
  go_wp2
  go_loop [11, 3] (fun i t => ∃ k : Nat, k ≤ L.length ∧ i = .int .i64 k ∧ t = .int .i64 ((firsts L k).length : Nat)) (fun i _ => L.length - (intOf i).toNat)
  case atStart => exact ⟨0, Nat.zero_le _, rfl, rfl⟩
  case round =>
    obtain ⟨k, hk, rfl, rfl⟩ := hrel
    have hle := firsts_le L k
    by_cases hlt : k < L.length
    · obtain ⟨b, off, u, rfl, hb, hcell, hu⟩ := hc k hlt
      obtain ⟨_, hum, q, cq, rfl, _⟩ := hu
      have hs := firsts_succ L k hlt
      have hle1 := firsts_le L (k + 1)
      have hln : (firsts L (k + 1)).length = (firsts L k).length + (L.getD k []).length := by rw [hs, List.length_append]
      have HN : Hid ((firsts L (k + 1)).length = (firsts L k).length + (L.getD k []).length) := hln
      clear hs
      have g1 : ((firsts L k).length : Int) + ((L.getD k []).length : Nat) ≤ 1048576 := by omega
      have g2 : (0 : Int) ≤ ((firsts L k).length : Int) := by omega
      have g3 : (0 : Int) ≤ ((L.getD k []).length : Int) := by omega
      clear hln hle hle1 hc hp hum
      generalize (firsts L k).length = n1 at *
      generalize (L.getD k []).length = n2 at *
      go_wp2
      go_round
      case rel => exact ⟨k + 1, by omega, by go_num, by rw [HN.out]; go_num⟩
      case measure => simp [intOf]; omega
    · have hall := firsts_all L k (by omega)
      obtain rfl : k = L.length := by omega
      rw [hall]
      have HA : Hid (firsts L L.length = L.flatten) := hall
      clear hall hle hlt hk
      generalize hTl : L.flatten.length = T at *
      have HT : Hid (L.flatten.length = T) := hTl
      clear hTl
      go_wp2_with (go_at_call 37; refine (grow_any _ _ hT).mono ?_; rintro e w1 ⟨v1, rfl, ho1, hz1, hb1⟩)
      clear hz1
      go_loopw [27, 6] (fun i s wr => ∃ (k : Nat) (v : Value), k ≤ L.length ∧ i = .int .i64 k ∧ v = s ∧ Own wr w.heap.size v (firsts L k) ∧ Below w.heap.size w wr) (fun i _ _ => L.length - (intOf i).toNat)
      case atStart => exact ⟨0, _, Nat.zero_le _, rfl, rfl, by simpa [firsts] using ho1, hb1⟩
      case round =>
        obtain ⟨k, v, hk, rfl, hv, ho, hbel⟩ := hrel
        subst hv
        clear ho1 hb1
        have hle := firsts_le L k
        by_cases hlt : k < L.length
        · obtain ⟨b, off, u, rfl, hb, hcell, hu⟩ := hc k hlt
          have hcell' := (hbel.cell (p := ⟨b, off + k, none⟩) hb).trans hcell
          have hu' := BytesAt.below hu hbel
          have hs := firsts_succ L k hlt
          have hle1 := firsts_le L (k + 1)
          rw [hs, List.length_append] at hle1
          obtain ⟨v2, w2, hrun, ho2, hg2, _⟩ := append_bytes wr w.heap.size 37 v (firsts L k) ho u (L.getD k []) hu' (by rw [HT.out] at hle1; omega) hbel.size
          have hb2 : Below w.heap.size w w2 := below_grown hbel hbel.size hg2 (fun j hj => (ho.lt j hj).1)
          obtain ⟨_, hum, q, cq, rfl, _⟩ := hu
          rw [← hs] at ho2
          clear hle hle1 hs hc hp hcell hu'
          generalize (L.getD k []).length = n2 at *
          go_wp2_with (at_builtin; refine Lib.wpList_append_run _ rfl _ _ _ _ rfl _ _ rfl rfl _ _ hrun ?_)
          go_roundw
          case rel => exact ⟨k + 1, _, by omega, by go_num, rfl, ho2, hb2⟩
          case measure => simp [intOf]; omega
        · have hall := firsts_all L k (by omega)
          rw [hall] at ho
          clear hall
          go_wp2
          go_ret
          exact ⟨_, rfl, ho, hbel⟩
end Go.Proofs.YtepohpniflmblaaDoor
