
/-
  package wal: sealed. For every stamp below 2^32 and every load of at most 56 bytes.
-/
import Derived.Test.YtfhaphbfbmpbiaaWaF
namespace Go.Proofs.Ytfhaphbfbmpbiaa
open Go.RowKit
set_option maxRecDepth 100000
set_option linter.unusedVariables false
set_option linter.unusedSimpArgs false

theorem ints1 {w : World} {b : Nat} {v : Value} {l : List Nat} (h : WrAt w b v l) (x : Int) : IntsOff (w.alloc (.cells #[.int .i64 x] 3)) (Far b v) (.slice (some ⟨w.heap.size, 0, none⟩) 1 1) [x] := by
  refine ⟨by simp, _, _, rfl, fun i hi => ?_⟩
  obtain rfl : i = 0 := by simpa using hi
  exact ⟨_, 0, rfl, h.far (Nat.le_refl _), by simp, by rw [World.cell?_alloc_at _ _ _ _ rfl]; rfl⟩
theorem BytesAt.off {w w' : World} {u : Value} {l : List Nat} (h : BytesAt w u l) (hb : Below w.heap.size w w') (N : Nat → Prop) (hN : ∀ k, k < w.heap.size → N k) : BytesOff w' N u l := by
  obtain ⟨h1, h2, p, c, e, h⟩ := h
  refine ⟨h1, h2, p, c, e, fun i hi => ?_⟩
  obtain ⟨b, off, e, hb3, hc⟩ := h i hi
  exact ⟨b, off, e, hN b hb3, Nat.lt_of_lt_of_le hb3 hb.size, (World.cell?_of_block (a := ⟨b, off + i, none⟩) (hb.block b hb3)).trans hc⟩
theorem WStep.below {w w' : World} {B b : Nat} {v v' : Value} (h : WStep w w' b v v') (hB : B ≤ w.heap.size) (hb : B ≤ b) (hv : ∀ k, v.ownBlock = some k → B ≤ k) : Below B w w' :=
  ⟨h.os, h.tape, h.output, h.size, fun k hk => h.block k (by omega) (by omega) (fun e => by have := hv k e; omega)⟩
theorem Own.base {w : World} {base base' : Nat} {v : Value} {l : List Nat} (h : Own w base v l) (hb : base' ≤ base) : Own w base' v l :=
  ⟨h.1, h.2.imp id fun ⟨g, cap, cur, e, h1, h2⟩ => ⟨g, cap, cur, e, Nat.le_trans hb h1, h2⟩⟩
theorem intB4 {st : Nat} (h : st < 4294967296) : intB 4 (st : Int) = enc 4 st := by
  unfold intB
  congr 1
  omega
/-- What a writer that is new since w is to the world w. -/
theorem WStep.new {w a b : World} {B : Nat} {v v' : Value} (h : WStep a b B v v') (hb : Below w.heap.size w a) (hB : w.heap.size ≤ B) (hv : ∀ k, v.ownBlock = some k → w.heap.size ≤ k) : Below w.heap.size w b ∧ ∀ k, v'.ownBlock = some k → w.heap.size ≤ k :=
  ⟨hb.trans (h.below hb.size hB hv), fun k hk => by
    rcases h.moved k hk with e | e
    · exact hv k e
    · exact Nat.le_trans hb.size e⟩
theorem two_parts {w : World} {b : Nat} {v u x : Value} {l k m : List Nat} (h : WrAt w b v l) (hu : BytesOff w (Far b v) u k) (hx : BytesOff w (Far b v) x m) :
    PartsOff (w.alloc (.cells #[u, x] 31)) (Far b v) (.slice (some ⟨w.heap.size, 0, none⟩) 2 2) [k, m] := by
  refine ⟨by simp [maxLen], _, _, rfl, fun i hi => ?_⟩
  have hi2 : i < 2 := hi
  have hc : ∀ y z, BytesOff w (Far b v) y z → BytesOff (w.alloc (.cells #[u, x] 31)) (Far b v) y z := fun y z hy => hy.keep (below1 w _).size (fun j hj _ => heap_alloc_old w _ hj)
  rcases i with _ | _ | i
  · exact ⟨_, 0, u, rfl, h.far (Nat.le_refl _), by simp, by rw [World.cell?_alloc_at _ _ _ _ rfl]; rfl, hc _ _ hu⟩
  · exact ⟨_, 0, x, rfl, h.far (Nat.le_refl _), by simp, by rw [World.cell?_alloc_at _ _ _ _ rfl]; rfl, hc _ _ hx⟩
  · omega
theorem one_part {w : World} {b : Nat} {v u : Value} {l k : List Nat} (h : WrAt w b v l) (hu : BytesOff w (Far b v) u k) :
    PartsOff (w.alloc (.cells #[u] 31)) (Far b v) (.slice (some ⟨w.heap.size, 0, none⟩) 1 1) [k] := by
  refine ⟨by simp [maxLen], _, _, rfl, fun i hi => ?_⟩
  obtain rfl : i = 0 := by simpa using hi
  exact ⟨_, 0, u, rfl, h.far (Nat.le_refl _), by simp, by rw [World.cell?_alloc_at _ _ _ _ rfl]; rfl, hu.keep (below1 w _).size (fun j hj _ => heap_alloc_old w _ hj)⟩
theorem ints2 {w : World} {b : Nat} {v : Value} {l : List Nat} (h : WrAt w b v l) (x y : Int) : IntsOff (w.alloc (.cells #[.int .i64 x, .int .i64 y] 3)) (Far b v) (.slice (some ⟨w.heap.size, 0, none⟩) 2 2) [x, y] := by
  refine ⟨by simp, _, _, rfl, fun i hi => ?_⟩
  have hi2 : i < 2 := hi
  rcases i with _ | _ | i
  · exact ⟨_, 0, rfl, h.far (Nat.le_refl _), by simp, by rw [World.cell?_alloc_at _ _ _ _ rfl]; rfl⟩
  · exact ⟨_, 0, rfl, h.far (Nat.le_refl _), by simp, by rw [World.cell?_alloc_at _ _ _ _ rfl]; rfl⟩
  · omega
set_option maxHeartbeats 4000000 in
theorem sealed_any (st : Nat) (hst : st < 4294967296) (u : Value) (l : List Nat) (w : World) (hu : BytesAt w u l) (hl : l.length ≤ 56) :
    Calls Try.prog 36 #[.int .i64 (st : Nat), u] w fun e w' => ∃ v, e = .returned v ∧ Own w' w.heap.size v (sealL st l) ∧ Below w.heap.size w w' := by
  obtain ⟨hu8, hum, pu, cu, rfl, hcu⟩ := id hu
  have l1 : (l.length : Int) ≤ 56 := by omega
  have l0 : (0 : Int) ≤ (l.length : Int) := by omega
  clear hcu
  go_enter Try.func36, Try.ntmps36
  go_wp2_with (go_at_call 24; refine stop ?_)
  have wt0 : WrAt (w.alloc (.cells #[.slice none 0 0] 53)) w.heap.size (.slice none 0 0) [] := ⟨Row.new w _ _ rfl, World.ownsRow_nil _ _ _ _, fun x hx => by cases hx⟩
  have hb0 := below1 w (.cells #[.slice none 0 0] 53)
  have hs0 : (w.alloc (.cells #[.slice none 0 0] 53)).heap.size = w.heap.size + 1 := by simp
  have hio := ints1 wt0 (st : Int)
  have wt1 := wt0.later (below1 _ (.cells #[.int .i64 (st : Int)] 3))
  rw [hs0] at hio
  refine (wint_any 4 (by decide) _ [(st : Int)] _ w.heap.size _ _ wt1 hio (by simp)).mono ?_
  rintro e w2 ⟨v2, rfl, wt2, ws2⟩
  have hv0 : ∀ k, (Value.slice none 0 0).ownBlock = some k → w.heap.size ≤ k := fun k hk => by cases hk
  obtain ⟨hB2, hV2⟩ := ws2.new (w := w) (hb0.trans ((below1 _ (.cells #[.int .i64 (st : Int)] 3)).mono hb0.size)) (Nat.le_refl _) hv0
  obtain ⟨m, hm⟩ : ∃ m : Nat, l.length + m = 56 := ⟨56 - l.length, by omega⟩
  have hmi : (56 : Int) - (l.length : Int) = (m : Int) := by omega
  have hmk := make_bytes m (by omega) w2
  have m0 : (0 : Int) ≤ (m : Int) := by omega
  have HM : Hid (l.length + m = 56) := hm
  clear hm wt0 wt1 hb0 hs0 hio ws2
  go_wp2_with (go_at_call 25; refine stop ?_)
  have hbm := below1 w2 (.cells (bytesL (List.replicate m 0)) 5)
  have wt3 := wt2.later hbm
  have hrm := Row.new w2 (bytesL (List.replicate m 0)) 5 rfl
  have hB3 : Below w.heap.size w (w2.alloc (.cells (bytesL (List.replicate m 0)) 5)) := hB2.trans (hbm.mono hB2.size)
  have hou : BytesOff (w2.alloc (.cells (bytesL (List.replicate m 0)) 5)) (Far w.heap.size v2) (.slice pu l.length cu) l := hu.off hB3 _ (fun k hk => ⟨by omega, fun e => by have := hV2 k e; omega⟩)
  have hox : BytesOff (w2.alloc (.cells (bytesL (List.replicate m 0)) 5)) (Far w.heap.size v2) (.slice (some ⟨w2.heap.size, 0, none⟩) m m) (zs m) := by
    refine ⟨zs_w8 m, by rw [zs_len]; have := HM.out; unfold maxLen; omega, _, m, by rw [zs_len], fun i hi => ⟨w2.heap.size, 0, rfl, wt2.far (Nat.le_refl _), hrm.lt, ?_⟩⟩
    rw [Nat.zero_add, hrm.cell]
    exact bytesL_at (zs m) i hi
  have hpo := two_parts wt3 hou hox
  have hsz3 : (w2.alloc (.cells (bytesL (List.replicate m 0)) 5)).heap.size = w2.heap.size + 1 := by simp
  rw [hsz3] at hpo
  have wt4 := wt3.later (below1 _ (.cells #[.slice pu l.length cu, .slice (some ⟨w2.heap.size, 0, none⟩) m m] 31))
  have hB4 := hB3.trans ((below1 _ (.cells #[.slice pu l.length cu, .slice (some ⟨w2.heap.size, 0, none⟩) m m] 31)).mono hB3.size)
  refine (raw_any _ [l, zs m] _ w.heap.size v2 _ wt4 hpo (by simp [intB_len, zs_len]; have := HM.out; omega)).mono ?_
  rintro e w5 ⟨v5, rfl, wt5, ws5⟩
  obtain ⟨hB5, hV5⟩ := ws5.new hB4 (Nat.le_refl _) hV2
  clear hpo wt4 hox hou hrm wt3 hbm hB3 hB4 wt2 hmk ws5
  have HL5 : Hid ([] ++ [(st : Int)].flatMap (intB 4) ++ [l, zs m].flatten = enc 4 st ++ (l ++ zs m)) := by
    show _ = _
    simp [intB4 hst]
  rw [HL5.out] at wt5
  have hlen5 : (enc 4 st ++ (l ++ zs m)).length = 60 := by simp only [List.length_append, enc_len, zs_len]; have := HM.out; omega
  go_wp2_with (go_at_call 24; refine stop ?_)
  have hio := ints1 wt5 (st : Int)
  have wt6 := wt5.later (below1 _ (.cells #[.int .i64 (st : Int)] 3))
  have hB6 := hB5.trans ((below1 _ (.cells #[.int .i64 (st : Int)] 3)).mono hB5.size)
  refine (wint_any 4 (by decide) _ [(st : Int)] _ w.heap.size _ _ wt6 hio (by omega)).mono ?_
  rintro e w7 ⟨v7, rfl, wt7, ws7⟩
  obtain ⟨hB7, hV7⟩ := ws7.new hB6 (Nat.le_refl _) hV5
  have hl7 : enc 4 st ++ (l ++ zs m) ++ [(st : Int)].flatMap (intB 4) = sealL st l := by
    unfold sealL
    rw [show 56 - l.length = m by have := HM.out; omega]
    simp [intB4 hst]
  rw [hl7] at wt7
  have HLS : Hid ((sealL st l).length = 64) := sealL_len hl
  clear hio wt6 hB6 wt5 ws7 hl7 HL5
  go_wp2_with (go_at_call 26; refine stop ?_)
  refine (wbytes_any w7 w.heap.size v7 _ wt7 (by rw [HLS.out]; decide)).mono ?_
  rintro e w8 ⟨v8, rfl, ho8, hb8⟩
  have hO := ho8.base hB7.size
  have hB8 := hB7.trans (hb8.mono hB7.size)
  obtain ⟨p8, n8, c8, rfl, hn8⟩ := ho8.form
  clear hn8
  go_wp2
  go_ret
  exact ⟨_, rfl, hO, hB8⟩
end Go.Proofs.Ytfhaphbfbmpbiaa
