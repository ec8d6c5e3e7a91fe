
/-
  package wal: readLog. For all sectors.
-/
import Derived.Test.YtfhaphbfbmpbiaaWaC
import Derived.Deep.LoopGhost
import Derived.WalkMore
namespace Go.Proofs.Ytfhaphbfbmpbiaa
open Go.RowKit
set_option maxRecDepth 100000
set_option linter.unusedVariables false
set_option linter.unusedSimpArgs false

/-- A record's number and length, by its first sector. -/
def wnum (s : List Nat) : Nat := be ((load s).take 4)
def wlen (s : List Nat) : Nat := be (((load s).drop 4).take 4)
/-- Is there a whole record of this number at e? -/
structure Whole (Z : List (List Nat)) (e num : Nat) : Prop where
  lt : e < Z.length
  st : front (Z.getD e []) ≠ 0
  nu : wnum (Z.getD e []) = num
  le : wlen (Z.getD e []) ≤ 4096
  fit : e + secs (wlen (Z.getD e [])) ≤ Z.length
  all : ∀ k, k < secs (wlen (Z.getD e [])) → front (Z.getD (e + k) []) = front (Z.getD e []) ∧ back (Z.getD (e + k) []) = front (Z.getD e [])
/-- The loads of k sectors from e on. -/
def loadsOf (Z : List (List Nat)) (e k : Nat) : List Nat := ((Z.drop e).take k).flatMap load
/-- The bytes of the record at e. -/
def recAt (Z : List (List Nat)) (e : Nat) : List Nat := ((loadsOf Z e (secs (wlen (Z.getD e [])))).drop 8).take (wlen (Z.getD e []))
/-- From L and e on, the records that are read, and where they end. -/
inductive Rl (Z : List (List Nat)) : List (List Nat) → Nat → List (List Nat) → Nat → Prop
  | stop {L : List (List Nat)} {e : Nat} : ¬ Whole Z e (L.length + 1) → Rl Z L e L e
  | step {L : List (List Nat)} {e : Nat} {L' : List (List Nat)} {e' : Nat} : Whole Z e (L.length + 1) → Rl Z (L ++ [recAt Z e]) (e + secs (wlen (Z.getD e []))) L' e' → Rl Z L e L' e'

/-- A list of byte strings of the call's own. -/
structure LogAt (w : World) (base : Nat) (u : Value) (L : List (List Nat)) : Prop where
  ex : ∃ vs : List Value, w.ownsRow base 31 1 u L.length vs ∧ vs.length = L.length ∧ ∀ i, i < L.length → Own w base (vs.getD i undef) (L.getD i [])
  ok : ∀ l ∈ L, W8 l ∧ l.length ≤ 4096
theorem LogAt.later {w w' : World} {base : Nat} {u : Value} {L : List (List Nat)} (h : LogAt w base u L) (hb : Below w.heap.size w w') : LogAt w' base u L := by
  obtain ⟨⟨vs, h1, h2, h3⟩, h4⟩ := h
  exact ⟨⟨vs, ownsRow_later h1 hb, h2, fun i hi => ownsRow_later (h3 i hi) hb⟩, h4⟩
theorem LogAt.nil (w : World) (base : Nat) : LogAt w base (.slice none 0 0) [] := ⟨⟨[], World.ownsRow_nil _ _ _ _, rfl, fun i hi => by simp at hi⟩, fun l hl => by cases hl⟩
theorem LogAt.form {w : World} {base : Nat} {u : Value} {L : List (List Nat)} (h : LogAt w base u L) : ∃ p n c, u = .slice p n c ∧ n = L.length := by
  obtain ⟨⟨vs, h1, _⟩, _⟩ := h
  exact ownsRow_form h1
/-- One more. -/
theorem LogAt.put {w w1 w2 : World} {base : Nat} {u u' x : Value} {L : List (List Nat)} {l : List Nat} (h : LogAt w base u L) (hx : Own w base x l) (h8 : W8 l) (hl : l.length ≤ 4096) (hb : Below w.heap.size w w1) (vs : List Value) (hvs : w.ownsRow base 31 1 u L.length vs) (hvl : vs.length = L.length) (hve : ∀ i, i < L.length → Own w base (vs.getD i undef) (L.getD i []))
    (ho : w2.ownsRow base 31 1 u' (L.length + 1) (vs ++ [x])) (hg : w1.grownBy w2 u.ownBlock) : LogAt w2 base u' (L ++ [l]) := by
  have keep : ∀ (y : Value) (m : List Nat), Own w base y m → Own w2 base y m := fun y m hy => by
    refine ownsRow_keep (ownsRow_later hy hb) fun k h1 h2 h3 => ?_
    refine hg.block k h2 (fun e => ?_)
    rcases own_own hy hvs (by decide) with h | h
    · rw [h] at h3; cases h3
    · exact h (h3.trans e)
  refine ⟨⟨vs ++ [x], by rw [List.length_append]; exact ho, by simp [hvl], fun i hi => ?_⟩, fun m hm => ?_⟩
  · rw [List.length_append, List.length_singleton] at hi
    rcases Nat.lt_or_ge i L.length with hlt | hge
    · have := keep _ _ (hve i hlt)
      simpa [List.getD, List.getElem?_append, hlt, hvl] using this
    · obtain rfl : i = L.length := by omega
      have := keep _ _ hx
      simpa [List.getD, List.getElem?_append, hvl] using this
  · rcases List.mem_append.1 hm with hm | hm
    · exact h.ok m hm
    · obtain rfl := List.mem_singleton.1 hm
      exact ⟨h8, hl⟩
theorem load_len {s : List Nat} (h : Sec s) : (load s).length = 56 := by unfold load; rw [List.length_take, List.length_drop, h.len]; rfl
theorem load_w8 {s : List Nat} (h : Sec s) : W8 (load s) := fun x hx => h.w8 x (List.mem_of_mem_drop (List.mem_of_mem_take hx))
theorem loadsOf_succ (Z : List (List Nat)) (e k : Nat) (h : e + k < Z.length) : loadsOf Z e (k + 1) = loadsOf Z e k ++ load (Z.getD (e + k) []) := by
  unfold loadsOf
  rw [List.take_succ_eq_append_getElem (by rw [List.length_drop]; omega), List.flatMap_append]
  simp [List.getD, h]
theorem loadsOf_len {Z : List (List Nat)} (hZ : ∀ s ∈ Z, Sec s) (e : Nat) : ∀ k, e + k ≤ Z.length → (loadsOf Z e k).length = 56 * k
  | 0, _ => by simp [loadsOf]
  | k + 1, h => by
    rw [loadsOf_succ Z e k (by omega), List.length_append, loadsOf_len hZ e k (by omega), load_len (hZ _ (by simp only [List.getD]; rw [List.getElem?_eq_getElem (show e + k < Z.length by omega)]; exact List.getElem_mem _))]
    omega
theorem loadsOf_w8 {Z : List (List Nat)} (hZ : ∀ s ∈ Z, Sec s) (e k : Nat) : W8 (loadsOf Z e k) := by
  intro x hx
  obtain ⟨s, hs, hx⟩ := List.mem_flatMap.1 hx
  exact load_w8 (hZ s (List.mem_of_mem_drop (List.mem_of_mem_take hs))) x hx
theorem secs_room (n : Nat) : 8 + n ≤ 56 * secs n := by unfold secs; omega
theorem secs_le (n : Nat) (h : n ≤ 4096) : secs n ≤ 74 := by unfold secs; omega
theorem info_bytes3 : (Try.prog.info? 31).map (fun i => (i.zero, i.size, i.bytes)) = some (some (.slice none 0 0), 1, 24) := by kernel_rfl
/-- What readLog's loop holds. -/
def RlR (w wr : World) (Z : List (List Nat)) (u : Value) (e : Nat) : Prop := ∃ L, LogAt wr w.heap.size u L ∧ Below w.heap.size w wr ∧ L.length ≤ e ∧ ∀ L' e', Rl Z L e L' e' → Rl Z [] 0 L' e'
/-- What readLog leaves. -/
def RlQ (w : World) (Z : List (List Nat)) (e : Ending) (w' : World) : Prop := ∃ u L n, e = .returned (.tuple #[u, .int .i64 (n : Nat)]) ∧ LogAt w' w.heap.size u L ∧ Below w.heap.size w w' ∧ n ≤ Z.length ∧ L.length ≤ n ∧ Rl Z [] 0 L n

/-- A piece of a row of the call's own. -/
theorem Own.piece {w : World} {base : Nat} {v : Value} {l : List Nat} (h : Own w base v l) (h8 : W8 l) (hl : l.length ≤ 1048576) (hpos : 0 < l.length) :
    ∃ g cap, v = .slice (some ⟨g, 0, none⟩) l.length cap ∧ l.length ≤ cap ∧ cap ≤ maxLen ∧ g < w.heap.size ∧ ∀ o n c, o + n ≤ l.length → BytesAt w (.slice (some ⟨g, o, none⟩) n c) ((l.drop o).take n) := by
  obtain ⟨_, ⟨rfl, h0⟩ | ⟨g, cap, cur, rfl, hb, hg, h1, h2, h3, h4⟩⟩ := id h
  · omega
  · refine ⟨g, cap, rfl, h1, h2, (Array.getElem?_eq_some_iff.1 hg).1, fun o n c hn => ?_⟩
    obtain ⟨_, _, p, c', e, hc⟩ := h.bytes h8 (by unfold maxLen; omega)
    cases e
    have e2 : ((l.drop o).take n).length = n := by rw [List.length_take, List.length_drop]; omega
    refine ⟨fun x hx => h8 x (List.mem_of_mem_drop (List.mem_of_mem_take hx)), by unfold maxLen; omega, _, _, by rw [e2], fun i hi => ?_⟩
    obtain ⟨b, off, e3, hb3, hcell⟩ := hc (o + i) (by omega)
    cases e3
    refine ⟨g, o, rfl, hb3, ?_⟩
    rw [getD_take _ _ _ (by omega), getD_drop, ← hcell, Nat.zero_add]
/-- What readLog's inner loop holds behind j sectors. -/
structure InR (w wr : World) (Z : List (List Nat)) (e j st : Nat) (v : Value) : Prop where
  own : Own wr w.heap.size v (loadsOf Z e j)
  below : Below w.heap.size w wr
  all : ∀ k, k < j → front (Z.getD (e + k) []) = st ∧ back (Z.getD (e + k) []) = st

set_option maxHeartbeats 8000000 in
theorem readLog_any (w : World) (base : Nat) (u : Value) (Z : List (Nat × List Nat)) (hZ : SecsAt w base u Z) (hl : Z.length ≤ 4096) :
    Calls Try.prog 30 #[u] w (RlQ w (Z.map (·.2))) := by
  obtain ⟨p, n, c, hu, hn⟩ := ownsRow_form hZ.own
  subst hu hn
  have hml : (Z.map (·.2)).length = Z.length := List.length_map _
  have n0 : (0 : Int) ≤ (Z.length : Int) := by omega
  have n1 : (Z.length : Int) ≤ 4096 := by omega
  have HML : Hid ((Z.map (·.2)).length = Z.length) := hml
  clear hml
  go_enter Try.func30, Try.ntmps30
  go_wp2
  go_step3
  go_wp2
  go_step3
  go_wp2
  go_loopg [4, 5] Z.length (fun g s4 s5 wx => ∃ e : Nat, e + g = Z.length ∧ s5 = .int .i64 e ∧ RlR w wx (Z.map (·.2)) s4 e)
  case atStart => exact ⟨0, by omega, rfl, [], LogAt.nil _ _, Below.refl _ _, Nat.zero_le _, fun _ _ h => h⟩
  case round =>
    obtain ⟨e, heg, rfl, L, hL, hb, hLe, hRl⟩ := hrel
    obtain ⟨pL, nL, cL, rfl, hnL⟩ := hL.form
    subst hnL
    cases gk with
    | zero =>
      obtain rfl : e = Z.length := by omega
      have HQ : ∀ x, RlQ w (Z.map (·.2)) (.returned (.tuple #[.slice pL L.length cL, .int .i64 (Z.length : Nat)])) x ∨ True := fun _ => Or.inr trivial
      clear HQ
      go_wp2
      try rw [Exit.noGoto_ret]
      go_ret2
      exact ⟨_, L, Z.length, rfl, hL, hb, by rw [HML.out]; exact Nat.le_refl _, hLe, hRl _ _ (.stop fun h => by have := h.lt; rw [HML.out] at this; omega)⟩
    | succ g =>
      have e1 : (e : Int) < (Z.length : Int) := by omega
      have e0 : (0 : Int) ≤ (e : Int) := by omega
      obtain ⟨G, cap, b, s, hv, hg, hzs, hrow, hsec, _, _, c0, c1, c2, c3⟩ := (hZ.later hb).cells (i := e) (by omega)
      cases hv
      have hse : Hid ((Z.map (·.2)).getD e [] = s) := by show _ = _; rw [map_getD Z _ (by omega), hzs.out]
      have hld := load_len hsec
      have hl8 := load_w8 hsec
      have hlb : BytesAt wr (.slice (some ⟨b, 4, none⟩) 56 60) (load s) := hrow.piece hsec.w8 4 56 60 (by have := hsec.len; omega) (by have := hsec.len; unfold maxLen; omega)
      have HN : Hid (be (rTake 4 (load s, false)) = wnum s) := by
        show _ = _
        rw [rTake_yes rfl (by dsimp only; omega)]; rfl
      have HN2 : Hid (be (rTake 4 (rDrop 4 (load s, false))) = wlen s) := by
        show _ = _
        rw [rDrop_yes rfl (by dsimp only; omega), rTake_yes rfl (by dsimp only; rw [List.length_drop]; omega)]; rfl
      have wl1 : wlen s < 4294967296 := be4 (fun x hx => hl8 x (List.mem_of_mem_drop hx)) 4 (by decide)
      have wl2 : (wlen s : Int) < 4294967296 := by omega
      have wl0 : (0 : Int) ≤ (wlen s : Int) := by omega
      have wn2 : (wnum s : Int) < 4294967296 := by have := be4 hl8 4 (by decide); unfold wnum; omega
      have wn0 : (0 : Int) ≤ (wnum s : Int) := by omega
      have fr2 : (front s : Int) < 4294967296 := by have := hsec.flt; omega
      have hLl : (L.length : Int) ≤ 4096 := by omega
      clear hld hl8 hrow c1 c3
      have hst : ∀ x, ¬ Whole (Z.map (·.2)) e (L.length + 1) → LogAt x w.heap.size (.slice pL L.length cL) L → Below w.heap.size w x → RlQ w (Z.map (·.2)) (.returned (.tuple #[.slice pL L.length cL, .int .i64 (e : Nat)])) x := fun x h1 h2 h3 => ⟨_, L, e, rfl, h2, h3, by rw [HML.out]; omega, hLe, hRl _ _ (.stop h1)⟩
      have hwh : Whole (Z.map (·.2)) e (L.length + 1) → front s ≠ 0 ∧ wnum s = L.length + 1 ∧ wlen s ≤ 4096 ∧ e + secs (wlen s) ≤ Z.length ∧ ∀ k, k < secs (wlen s) → front ((Z.map (·.2)).getD (e + k) []) = front s ∧ back ((Z.map (·.2)).getD (e + k) []) = front s := fun h => by
        obtain ⟨h1, h2, h3, h4, h5, h6⟩ := h
        rw [hse.out] at h2 h3 h4 h5 h6
        rw [HML.out] at h5
        exact ⟨h2, h3, h4, h5, h6⟩
      have HST := (show Hid _ from hst)
      have HWH := (show Hid _ from hwh)
      clear hst hwh
      go_wp2_with (go_at_call 27; refine stop ?_)
      refine (rdnew_any _ (load s) wr hlb (by rw [load_len hsec]; omega)).mono ?_
      rintro e2 w2 ⟨R2, D2, rfl, hR2, hD2, rd2, hb2⟩
      clear hD2 hlb
      go_wp2_with (go_at_call 43; refine stop ?_)
      refine (rint_any 4 (by decide) w2 R2 D2 _ rd2).mono ?_
      rintro e3 w3 ⟨rfl, rd3, he3⟩
      rw [HN.out]
      have hb3 : Below wr.heap.size wr w3 := hb2.trans (he3.below hb2.size hR2)
      clear rd2 he3
      go_wp2_with (go_at_call 43; refine stop ?_)
      refine (rint_any 4 (by decide) w3 R2 D2 _ rd3).mono ?_
      rintro e4 w4 ⟨rfl, _, he4⟩
      rw [HN2.out]
      have hb4 : Below wr.heap.size wr w4 := hb3.trans (he4.below hb3.size hR2)
      clear rd3 he4 hb2 hb3 HN HN2
      have hL4 := hL.later hb4
      have hB4 := hb.trans (hb4.mono hb.size)
      have hZ4 := hZ.later hB4
      by_cases q1 : front s = 0
      · have HQ := HST.out w4 (fun h => (HWH.out h).1 q1) hL4 hB4
        rw [q1]
        clear HST HWH
        go_wp2
        try rw [Exit.noGoto_ret]
        go_ret2
        exact HQ
      by_cases q2 : wnum s = L.length + 1
      rotate_left
      · have HQ := HST.out w4 (fun h => q2 (HWH.out h).2.1) hL4 hB4
        have q1' : ((front s : Int) == 0) = false := by simp; omega
        have q2' : ((wnum s : Int) != (L.length : Int) + 1) = true := by simp; omega
        clear HST HWH
        go_wp2
        try rw [Exit.noGoto_ret]
        go_ret2
        exact HQ
      by_cases q3 : wlen s ≤ 4096
      rotate_left
      · have HQ := HST.out w4 (fun h => q3 (HWH.out h).2.2.1) hL4 hB4
        have q1' : ((front s : Int) == 0) = false := by simp; omega
        have q2' : ((wnum s : Int) != (L.length : Int) + 1) = false := by simp; omega
        have q3' : (4096 : Int) < (wlen s : Int) := by omega
        clear HST HWH
        go_wp2
        try rw [Exit.noGoto_ret]
        go_ret2
        exact HQ
      have q1' : ((front s : Int) == 0) = false := by simp; omega
      have q2' : ((wnum s : Int) != (L.length : Int) + 1) = false := by simp; omega
      have q3' : decide ((4096 : Int) < (wlen s : Int)) = false := by simp; omega
      have q3i : (wlen s : Int) ≤ 4096 := by omega
      have Q3 : Hid (wlen s ≤ 4096) := q3
      have Q2 : Hid (wnum s = L.length + 1) := q2
      have Q1 : Hid (¬ front s = 0) := q1
      clear wl1 wl2 q3 q2 q1 wn2 wn0 fr2
      go_wp2_with (go_at_call 33; refine stop ?_)
      refine (secsOf_any (wlen s) (by have := Q3.out; omega) w4).mono ?_
      rintro e5 w5 ⟨rfl, hw5⟩
      obtain rfl := hw5.symm
      clear hw5
      have hsp := secs_pos (wlen s)
      have hsl := secs_le (wlen s) Q3.out
      have s0 : (1 : Int) ≤ (secs (wlen s) : Int) := by omega
      have s1 : (secs (wlen s) : Int) ≤ 74 := by omega
      by_cases q4 : e + secs (wlen s) ≤ Z.length
      rotate_left
      · have HQ := HST.out w4 (fun h => q4 (HWH.out h).2.2.2.1) hL4 hB4
        have q4' : (Z.length : Int) < (e : Int) + (secs (wlen s) : Int) := by omega
        clear HST HWH
        go_wp2
        try rw [Exit.noGoto_ret]
        go_ret2
        exact HQ
      have hcap : Z.length ≤ c ∧ c ≤ maxLen := by
        obtain ⟨_, ⟨h0, _⟩ | ⟨g9, cap9, cur9, hv9, _, _, h1, h2, _⟩⟩ := id hZ4.own
        · cases h0
        · cases hv9; exact ⟨h1, h2⟩
      obtain ⟨bh, hbh⟩ : ∃ bh : Nat, bh = e + secs (wlen s) := ⟨_, rfl⟩
      have hbi : (e : Int) + (secs (wlen s) : Int) = (bh : Int) := by omega
      have BH : Hid (bh = e + secs (wlen s)) := hbh
      have q4' : decide ((Z.length : Int) < (bh : Int)) = false := by simp; omega
      have b1 : (bh : Int) ≤ (c : Int) := by omega
      have b2 : (e : Int) ≤ (bh : Int) := by omega
      have b3 : bh ≤ c := by omega
      have b4 : e ≤ bh := by omega
      have b5 : ¬ c = e := by omega
      have b6 : (c : Int) ≤ 9223372036854775807 := by have := hcap.2; unfold maxLen at this; omega
      have b7 : (bh : Int) ≤ 4096 := by omega
      have b8 : ¬ Z.length < bh := by omega
      clear hbh hcap q4 s0 s1
      go_wp2
      have hbe : bh - e = secs (wlen s) := by have := BH.out; omega
      rw [hbe]
      clear hbe
      have HSP : Hid (1 ≤ secs (wlen s) ∧ secs (wlen s) ≤ 74) := ⟨hsp, hsl⟩
      clear hsp hsl
      have hZs : ∀ x ∈ Z.map (·.2), Sec x := fun x hx => by
        obtain ⟨y, hy, rfl⟩ := List.mem_map.1 hx
        exact (hZ.row y hy).2.2
      have HZS := (show Hid _ from hZs)
      clear hZs hL c0 c2 hb4 hzs
      generalize hns : secs (wlen s) = ns at *
      have NS : Hid (secs (wlen s) = ns) := hns
      clear hns
      have ns1 : (ns : Int) ≤ 74 := by have := HSP.out.2; omega
      generalize hst : front s = st at *
      have HF : Hid (front s = st) := hst
      clear hst
      go_loopg [59, 11] ns (fun g2 s59 s11 wx => ∃ j : Nat, j + g2 = ns ∧ s59 = .int .i64 j ∧ InR w4 wx (Z.map (·.2)) e j st s11)
      case atStart => exact ⟨0, by omega, rfl, World.ownsRow_nil _ _ _ _, Below.refl _ _, fun k hk => by omega⟩
      case round =>
        obtain ⟨j, hjg, rfl, hI⟩ := hrel
        have hBx := hB4.trans (hI.below.mono hB4.size)
        have hLx := hL4.later hI.below
        have hZx := hZ4.later hI.below
        have hlsl : ∀ k, e + k ≤ Z.length → (loadsOf (Z.map (·.2)) e k).length = 56 * k := fun k hk => loadsOf_len HZS.out e k (by rw [HML.out]; exact hk)
        have hls8 := loadsOf_w8 HZS.out e j
        cases gk with
        | zero =>
          obtain rfl : j = ns := by omega
          have hjz : ¬ (j : Int) < (j : Int) := by omega
          have hlen := hlsl j (by have := BH.out; omega)
          have hj1 : 1 ≤ j ∧ j ≤ 74 := HSP.out
          have hroom : 8 + wlen s ≤ 56 * j := by have := secs_room (wlen s); rw [NS.out] at this; exact this
          obtain ⟨gl, capl, hvl, hcl, hcm, hgl, hpc⟩ := hI.own.piece hls8 (by omega) (by omega)
          subst hvl
          have hwhole : Whole (Z.map (·.2)) e (L.length + 1) := by
            refine ⟨by rw [HML.out]; omega, by rw [hse.out, HF.out]; exact Q1.out, by rw [hse.out]; exact Q2.out, by rw [hse.out]; exact Q3.out, by rw [hse.out, NS.out, HML.out]; have := BH.out; omega, fun k hk => ?_⟩
            rw [hse.out, NS.out] at hk
            rw [hse.out, HF.out]
            exact hI.all k hk
          have hrec : recAt (Z.map (·.2)) e = ((loadsOf (Z.map (·.2)) e j).drop 8).take (wlen s) := by unfold recAt; rw [hse.out, NS.out]
          have hpiece := hpc 8 (wlen s) (capl - 8) (by omega)
          rw [← hrec] at hpiece
          have HW := (show Hid _ from hwhole)
          have HRec := (show Hid _ from hrec)
          have hrl : (recAt (Z.map (·.2)) e).length = wlen s := by rw [hrec, List.length_take, List.length_drop, hlen]; omega
          have m1 : (8 : Int) + (wlen s : Int) ≤ (capl : Int) := by omega
          have m2 : 8 + wlen s ≤ capl := by omega
          have m3 : ¬ capl = 8 := by omega
          have m4 : (capl : Int) ≤ 9223372036854775807 := by unfold maxLen at hcm; omega
          have HRL := (show Hid _ from hrl)
          have HLEN := (show Hid _ from hlen)
          clear hwhole hrec hrl hpc hroom hcm hcl hlsl hls8 hlen
          rw [HLEN.out]
          go_wp2_with (go_at_call 41; refine stop ?_)
          refine (clone_any _ _ wr hpiece (by rw [HRL.out]; have := Q3.out; omega)).mono ?_
          rintro e6 w6 ⟨v6, rfl, own6, hb6⟩
          have hr8 : W8 (recAt (Z.map (·.2)) e) := hpiece.1
          have hB6 := hBx.trans (hb6.mono hBx.size)
          have own6' : Own w6 w.heap.size v6 (recAt (Z.map (·.2)) e) := ⟨own6.1, own6.2.imp id fun ⟨g, cap, cur, e, h1, h2⟩ => ⟨g, cap, cur, e, Nat.le_trans hBx.size h1, h2⟩⟩
          have hL6 := hLx.later hb6
          obtain ⟨p6, n6, c6, hv6, hn6⟩ := own6.form
          subst hv6
          obtain ⟨vs, hvs, hvl, hve⟩ := hL6.ex
          obtain ⟨u7, w7, run7, own7, gr7, mv7⟩ := append_two Try.underlying27 info_bytes3 rfl (by decide) (by decide) w6 w.heap.size 27 _ _ _ hvs #[.slice p6 n6 c6] rfl (by simp [Value.oneCell']) (by omega) hB6.size _ rfl
          have hL7 := hL6.put own6' hr8 (by rw [HRL.out]; exact Q3.out) (below1 w6 _) vs hvs hvl hve own7 gr7
          have hB7 : Below w.heap.size w w7 := below_grown (chainA hB6 _) (by have := hB6.size; simp; omega) gr7 (fun k hk => (hvs.lt k hk).1)
          have HR : RlR w w7 (Z.map (·.2)) u7 bh := by
            refine ⟨_, hL7, hB7, by rw [List.length_append, List.length_singleton]; have := BH.out; omega, fun L' e' h => hRl _ _ (.step HW.out ?_)⟩
            rw [hse.out, NS.out, ← BH.out]
            exact h
          obtain ⟨p7, n7, c7, hv7, hn7⟩ := ownsRow_form own7
          subst hv7
          have hbl : bh ≤ Z.length := by omega
          have HBE : Hid (e < bh) := by show _ < _; have := BH.out; omega
          clear hn7 hn6 own7 gr7 mv7 hL7 hB7 own6 own6' hb6 hL6 hvs hve hvl hpiece hI hLx hZx hZ4 hL4
          go_wp2_with (at_builtin; refine Lib.wpList_append_run _ rfl _ _ _ _ rfl _ _ rfl rfl _ _ run7 ?_)
          go_roundg (Z.length - bh)
          case measure => have := HBE.out; omega
          case rel => exact ⟨bh, by omega, rfl, HR⟩
        | succ g2 =>
          have hj : e + j < Z.length := by have := BH.out; omega
          have j1 : (j : Int) < (ns : Int) := by omega
          have j2 : j < ns := by omega
          obtain ⟨G2, cap2, b2', s2, hv2, hg2, hzs2, hrow2, hsec2, _, _, d0, d1, d2, d3⟩ := hZx.cells (i := e + j) hj
          cases hv2
          rw [Nat.add_mul] at d0 d1 d2 d3
          have hse2 : Hid ((Z.map (·.2)).getD (e + j) [] = s2) := by show _ = _; rw [map_getD Z _ hj, hzs2.out]
          have HLS := (show Hid _ from hlsl j (by omega))
          have HS2 := (show Hid _ from hsec2)
          generalize hbl2 : blank s2 = bl2 at *
          clear hbl2 hlsl hzs2
          by_cases q5 : front s2 = st
          · by_cases q6 : back s2 = st
            · rw [q5] at d0
              rw [q6] at d1
              have hx : BytesAt wr (.slice (some ⟨b2', 4, none⟩) 56 60) (load s2) := hrow2.piece hsec2.w8 4 56 60 (by have := hsec2.len; omega) (by have := hsec2.len; unfold maxLen; omega)
              have hbA := below1 wr (.cells #[Value.int .i64 (st : Nat), Value.int .i64 (st : Nat), Value.slice (some ⟨b2', 4, none⟩) 56 60, Value.bool bl2] 89)
              have hsz : (loadsOf (Z.map (·.2)) e j).length + (load s2).length ≤ 1048576 := by rw [HLS.out, load_len HS2.out]; omega
              obtain ⟨v3, w3', run3, own3, gr3, _, mv3⟩ := append_bytes _ w4.heap.size 31 _ _ (ownsRow_later hI.own hbA) _ _ (hx.later hbA) hsz (Nat.le_trans hI.below.size hbA.size)
              have HI : InR w4 w3' (Z.map (·.2)) e (j + 1) st v3 := by
                refine ⟨by rw [loadsOf_succ _ e j (by rw [HML.out]; exact hj), hse2.out]; exact own3, below_grown (hI.below.trans (hbA.mono hI.below.size)) (Nat.le_trans hI.below.size hbA.size) gr3 (fun k hk => (hI.own.lt k hk).1), fun k hk => ?_⟩
                rcases Nat.lt_or_ge k j with h | h
                · exact hI.all k h
                · obtain rfl : k = j := by omega
                  rw [hse2.out]
                  exact ⟨q5, q6⟩
              obtain ⟨pv, nv, cv, hvv, hnv⟩ := hI.own.form
              obtain ⟨p3, n3, c3, hv3, hn3⟩ := own3.form
              subst hvv hv3
              clear hnv hn3 hx hbA hsz own3 gr3 mv3 hI hrow2 q5 q6
              go_wp2_with (at_builtin; refine Lib.wpList_append_run _ rfl _ _ _ _ rfl _ _ rfl rfl _ _ run3 ?_)
              go_roundg g2
              case measure => omega
              case rel => exact ⟨j + 1, by omega, by go_num, HI⟩
            · have q5' : ((front s2 : Int) != (st : Int)) = false := by simp; omega
              have q6' : ((back s2 : Int) != (st : Int)) = true := by simp; omega
              have HQ := fun x h => HST.out x (fun hw => q6 (by have := ((HWH.out hw).2.2.2.2 j j2).2; rwa [hse2.out] at this)) h
              have HQQ := (show Hid _ from HQ)
              clear HQ HST HWH q5 q6
              go_wp2
              try rw [Exit.noGoto_ret]
              go_ret2
              exact HQQ.out _ (hLx.later (below1 _ _)) (chainA hBx _)
          · have q5' : ((front s2 : Int) != (st : Int)) = true := by simp; omega
            have HQ := fun x h => HST.out x (fun hw => q5 (by have := ((HWH.out hw).2.2.2.2 j j2).1; rwa [hse2.out] at this)) h
            have HQQ := (show Hid _ from HQ)
            clear HQ HST HWH q5
            go_wp2
            try rw [Exit.noGoto_ret]
            go_ret2
            exact HQQ.out _ (hLx.later (below1 _ _)) (chainA hBx _)
end Go.Proofs.Ytfhaphbfbmpbiaa
