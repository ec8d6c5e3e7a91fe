/-
  The reference's Sum: for every message of at most a million bytes it is the hash of the plain reckoning.
-/
import Derived.Test.YtbbpihdebdknhaaDoorRfR
import Derived.Test.YtbbpihdebdknhaaDoorRfP
import Derived.Test.YtbbpihdebdknhaaDoorHeld
namespace Go.Proofs.YtbbpihdebdknhaaDoor
open Go.RowKit

theorem Own.mono {w : World} {b c : Nat} {v : Value} {l : List Nat} (h : Own w b v l) (hb : c ≤ b) : Own w c v l :=
  ⟨h.1, h.2.imp id fun ⟨g, cap, cur, e, h1, h2⟩ => ⟨g, cap, cur, e, Nat.le_trans hb h1, h2⟩⟩

theorem roots64 (w : World) : Calls Tryd.prog 16 #[.int .i64 64, .bool true] w fun e w' => ∃ v, e = .returned v ∧ OwnW w' w.heap.size v KW ∧ Below w.heap.size w w' := by
  have h := roots_any 64 310 true w cnt64.2 (fun j hj => by have := cnt_le (show j ≤ 309 by omega); rw [cnt64.1] at this; omega) (by omega)
  rw [words64] at h
  exact h
def s8L (s : S8) : List Nat := [s.a, s.b, s.c, s.d, s.e, s.f, s.g, s.h]
theorem roots8 (w : World) : Calls Tryd.prog 16 #[.int .i64 8, .bool false] w fun e w' => ∃ v, e = .returned v ∧ OwnW w' w.heap.size v (s8L start8) ∧ Below w.heap.size w w' := by
  have h := roots_any 8 18 false w cnt8.2 (fun j hj => by have := cnt_le (show j ≤ 17 by omega); rw [cnt8.1] at this; omega) (by omega)
  rw [words8] at h
  exact h
theorem s8L_at (s : S8) (i : Nat) (h : i < 8) : (s8L s).getD i 0 = s.at i := by
  match i, h with
  | 0, _ => rfl
  | 1, _ => rfl
  | 2, _ => rfl
  | 3, _ => rfl
  | 4, _ => rfl
  | 5, _ => rfl
  | 6, _ => rfl
  | 7, _ => rfl
theorem made_words (n : Nat) : madeCells (Value.int .u32 0).cells n = wordsL (List.replicate n 0) := by
  have e : ∀ x, (Value.int .u32 0).cells[x % (Value.int .u32 0).cells.size]! = .int .u32 0 := fun x => by show (#[Value.int .u32 0])[x % 1]! = _; rw [Nat.mod_one]; rfl
  unfold madeCells wordsL
  simp only [e]
  apply Array.ext
  · simp
  · intro i h1 h2; simp
def Z64 : List Nat := List.replicate 64 0
theorem make_words64 (w : World) : (Instr.makeSlice 44 (.int .i64 64) (.int .i64 64)).run Tryd.prog w = .ok (.slice (some ⟨w.heap.size, 0, none⟩) 64 64) (w.alloc (.cells (wordsL Z64) 46)) := by
  obtain ⟨i, hi, z0, z1, z2⟩ := info_u32'
  have e := run_makeSlice (P := Tryd.prog) w 44 46 i _ (by kernel_rfl) hi z0 .i64 .i64 64 64 (by omega) (by omega) (by rw [z1]; decide) (by rw [z2]; decide) (by omega)
  rw [z1] at e
  rw [show (64 : Int).toNat * 1 = 64 from rfl, made_words] at e
  exact e

theorem or_word (a b c d : Nat) (ha : a < 256) (hb : b < 256) (hc : c < 256) (hd : d < 256) :
    bits .or .u32 (bits .or .u32 (bits .or .u32 ((a : Int) * 16777216) ((b : Int) * 65536)) ((c : Int) * 256)) (d : Int) = ((a * 16777216 + b * 65536 + c * 256 + d : Nat) : Int) := by
  have e0 : (a : Int) * 16777216 = ((a * 16777216 : Nat) : Int) := by omega
  have e1 : (b : Int) * 65536 = ((b * 65536 : Nat) : Int) := by omega
  have e2 : (c : Int) * 256 = ((c * 256 : Nat) : Int) := by omega
  have o1 : a * 16777216 ||| b * 65536 = a * 16777216 + b * 65536 := by
    have := Nat.two_pow_add_eq_or_of_lt (i := 24) (b := b * 65536) (by omega) a
    rw [Nat.mul_comm a]; exact this.symm
  have o2 : (a * 16777216 + b * 65536) ||| c * 256 = a * 16777216 + b * 65536 + c * 256 := by
    have := Nat.two_pow_add_eq_or_of_lt (i := 16) (b := c * 256) (by omega) (a * 256 + b)
    rw [show a * 16777216 + b * 65536 = 2 ^ 16 * (a * 256 + b) from by omega]; exact this.symm
  have o3 : (a * 16777216 + b * 65536 + c * 256) ||| d = a * 16777216 + b * 65536 + c * 256 + d := by
    have := Nat.two_pow_add_eq_or_of_lt (i := 8) (b := d) (by omega) (a * 65536 + b * 256 + c)
    rw [show a * 16777216 + b * 65536 + c * 256 = 2 ^ 8 * (a * 65536 + b * 256 + c) from by omega]; exact this.symm
  rw [e0, e1, e2, u32_or_nat _ _ (by omega) (by omega), o1, u32_or_nat _ _ (by omega) (by omega), o2, u32_or_nat _ _ (by omega) (by omega), o3]

theorem cell_setCell_other (w : World) (a : Addr) (v : Value) {b : Nat} (j : Nat) (h : b ≠ a.block) : (w.setCell a v).cell? ⟨b, j, none⟩ = w.cell? ⟨b, j, none⟩ := World.cell?_of_block (a := ⟨b, j, none⟩) (heap_setCell_other w a b v h)
theorem frozen_setCell_other (w : World) (a : Addr) (v : Value) {b : Nat} (j : Nat) (h : b ≠ a.block) : (w.setCell a v).frozen? ⟨b, j, none⟩ = w.frozen? ⟨b, j, none⟩ := World.frozen?_of_block (a := ⟨b, j, none⟩) (heap_setCell_other w a b v h)
/-- What holds ahead of each block. -/
structure SmR (w wr : World) (gm gk gh : Nat) (P hs : List Nat) : Prop where
  rr : Row wr w.heap.size (bytesL (List.replicate 32 0)) 24
  pm : ∀ i, i < P.length → wr.cell? ⟨gm, i, none⟩ = some (.int .u8 (P.getD i 0 : Nat))
  pk : ∀ i, i < 64 → wr.cell? ⟨gk, i, none⟩ = some (.int .u32 (KW.getD i 0 : Nat))
  ph : ∀ i, i < 8 → wr.cell? ⟨gh, i, none⟩ = some (.int .u32 (hs.getD i 0 : Nat)) ∧ wr.frozen? ⟨gh, i, none⟩ = false
  lm : gm < wr.heap.size
  lk : gk < wr.heap.size
  lh : gh < wr.heap.size
  bel : Below w.heap.size w wr
theorem SmR.later {w wr w1 : World} {gm gk gh : Nat} {P hs : List Nat} (h : SmR w wr gm gk gh P hs) (hb : Below wr.heap.size wr w1) : SmR w w1 gm gk gh P hs :=
  ⟨h.rr.later hb, fun i hi => (hb.cell (p := ⟨gm, i, none⟩) h.lm).trans (h.pm i hi), fun i hi => (hb.cell (p := ⟨gk, i, none⟩) h.lk).trans (h.pk i hi),
   fun i hi => ⟨(hb.cell (p := ⟨gh, i, none⟩) h.lh).trans (h.ph i hi).1, (hb.frozen (p := ⟨gh, i, none⟩) h.lh).trans (h.ph i hi).2⟩,
   Nat.lt_of_lt_of_le h.lm hb.size, Nat.lt_of_lt_of_le h.lk hb.size, Nat.lt_of_lt_of_le h.lh hb.size, chain h.bel hb⟩
theorem SmR.drewN1 {w wr : World} {gm gk gh : Nat} {P hs : List Nat} (h : SmR w wr gm gk gh P hs) : SmR w wr.drew gm gk gh P hs := ⟨h.rr, h.pm, h.pk, h.ph, h.lm, h.lk, h.lh, h.bel.drew⟩
theorem SmR.drewN {w wr : World} {gm gk gh : Nat} {P hs : List Nat} (h : SmR w wr gm gk gh P hs) (n : Nat) : SmR w (wr.drewN n) gm gk gh P hs := ⟨h.rr, h.pm, h.pk, h.ph, h.lm, h.lk, h.lh, below_drewN h.bel n⟩
theorem SmR.setCell {w wr : World} {gm gk gh : Nat} {P hs : List Nat} (h : SmR w wr gm gk gh P hs) {b i : Nat} (hb : w.heap.size < b) (h1 : gm ≠ b) (h2 : gk ≠ b) (h3 : gh ≠ b) (v : Value) : SmR w (wr.setCell ⟨b, i, none⟩ v) gm gk gh P hs :=
  ⟨h.rr.setOther _ (by simp; omega), fun j hj => (cell_setCell_other _ _ _ _ h1).trans (h.pm j hj), fun j hj => (cell_setCell_other _ _ _ _ h2).trans (h.pk j hj),
   fun j hj => ⟨(cell_setCell_other _ _ _ _ h3).trans (h.ph j hj).1, (frozen_setCell_other _ _ _ _ h3).trans (h.ph j hj).2⟩, by simpa [World.setCell] using h.lm, by simpa [World.setCell] using h.lk, by simpa [World.setCell] using h.lh, h.bel.setCell (by simp; omega) _⟩
theorem Row.drewN {w : World} {b : Nat} {cs : Array Value} {t : TypeId} (h : Row w b cs t) (n : Nat) : Row (w.drewN n) b cs t := h
theorem s8L_ok {s : S8} (h : s.ok) : W32 (s8L s) := by
  obtain ⟨a, b, c, d, e, f, g, k⟩ := h
  intro x hx
  simp [s8L] at hx
  omega
def adL (a b : List Nat) : Nat → List Nat
  | 0 => a
  | i + 1 => (adL a b i).set i ((a.getD i 0 + b.getD i 0) % 4294967296)
theorem ad_mix (K W : List Nat) (st : S8) : adL (s8L st) (s8L (rnds K W st 64)) 8 = s8L (mixF K st W) := by
  unfold mixF
  generalize rnds K W st 64 = r
  rfl
theorem adL_ge (a b : List Nat) (j : Nat) : ∀ i, i ≤ j → (adL a b i).getD j 0 = a.getD j 0
  | 0, _ => rfl
  | i + 1, h => by
    rw [adL]
    simp only [List.getD, List.getElem?_set]
    rw [if_neg (by omega)]
    exact adL_ge a b j i (by omega)
theorem SmR.setH {w wr : World} {gm gk gh : Nat} {P hs : List Nat} (h : SmR w wr gm gk gh P hs) (i : Nat) (hl : i < hs.length) (hb : w.heap.size < gh) (h1 : gm ≠ gh) (h2 : gk ≠ gh) (hi8 : i < 8) (x : Nat) : SmR w (wr.setCell ⟨gh, i, none⟩ (.int .u32 (x : Nat))) gm gk gh P (hs.set i x) :=
  ⟨h.rr.setOther _ (by simp; omega), fun j hj => (cell_setCell_other _ _ _ _ h1).trans (h.pm j hj), fun j hj => (cell_setCell_other _ _ _ _ h2).trans (h.pk j hj),
   fun j hj => by
    obtain ⟨p1, p2⟩ := h.ph j hj
    obtain ⟨q1, _⟩ := h.ph i hi8
    refine ⟨?_, by simp [go_sem, p2]⟩
    by_cases e : j = i
    · subst e
      rw [getD_set_same _ _ _ hl]
      simp [go_sem, p1]
    · have ed : (hs.set i x).getD j 0 = hs.getD j 0 := by simp only [List.getD, List.getElem?_set]; rw [if_neg (fun hh => e hh.symm)]
      rw [ed]
      generalize hs.getD j 0 = y at *
      simp [go_sem, p1],
   by simpa [World.setCell] using h.lm, by simpa [World.setCell] using h.lk, by simpa [World.setCell] using h.lh, h.bel.setCell (by simp; omega) _⟩
theorem adL_len (a b : List Nat) : ∀ i, (adL a b i).length = a.length
  | 0 => rfl
  | i + 1 => by rw [adL, List.length_set]; exact adL_len a b i
theorem own_cells {w : World} {base : Nat} {v : Value} {l : List Nat} (h : Own w base v l) (hpos : 0 < l.length) : ∃ g c, v = .slice (some ⟨g, 0, none⟩) l.length c ∧ base ≤ g ∧ g < w.heap.size ∧ l.length ≤ c ∧ ∀ i, i < l.length → w.cell? ⟨g, i, none⟩ = some (.int .u8 (l.getD i 0 : Nat)) := by
  obtain ⟨_, ⟨rfl, h0⟩ | ⟨g, cap, cur, rfl, hb, hg, h1, h2, h3, h4⟩⟩ := h
  · omega
  · refine ⟨g, cap, rfl, hb, (Array.getElem?_eq_some_iff.1 hg).1, h1, fun i hi => ?_⟩
    rw [cell_of_row w g i cur _ _ hg]
    have e := congrArg (fun x : List Value => x[i]?) h4
    simp only [Nat.mul_one, List.getElem?_take, hi, if_true] at e
    rw [← Array.getElem?_toList, e]
    simp [hi]
theorem ownW_cells {w : World} {base : Nat} {v : Value} {l : List Nat} (h : OwnW w base v l) (hpos : 0 < l.length) : ∃ g c, v = .slice (some ⟨g, 0, none⟩) l.length c ∧ base ≤ g ∧ g < w.heap.size ∧ ∀ i, i < l.length → w.cell? ⟨g, i, none⟩ = some (.int .u32 (l.getD i 0 : Nat)) ∧ w.frozen? ⟨g, i, none⟩ = false := by
  obtain ⟨_, ⟨rfl, h0⟩ | ⟨g, cap, cur, rfl, hb, hg, h1, h2, h3, h4⟩⟩ := h
  · omega
  · refine ⟨g, cap, rfl, hb, (Array.getElem?_eq_some_iff.1 hg).1, fun i hi => ⟨?_, frozen_of_row w g i cur _ hg⟩⟩
    rw [cell_of_row w g i cur _ _ hg]
    have e := congrArg (fun x : List Value => x[i]?) h4
    simp only [Nat.mul_one, List.getElem?_take, hi, if_true] at e
    rw [← Array.getElem?_toList, e]
    simp [hi]

def lenV : Value → Nat
  | .slice _ n _ => n
  | _ => 0


structure BoxP (p : Prop) : Prop where
  out : p

structure SumCut (G : Prop) where
  p_l1 : Prop
  p_l2 : Prop
  p_l4a : Prop
  p_l4b : Prop
  p_l5 : Prop
  p_l6 : Prop
  p_l7 : Prop
  out : BoxP p_l1 → BoxP p_l2 → BoxP p_l4a → BoxP p_l4b → BoxP p_l5 → BoxP p_l6 → BoxP p_l7 → G

set_option maxHeartbeats 40000000 in
set_option maxRecDepth 100000 in
noncomputable def rfSPack : SumCut (∀ (mv : Value), ∀ (m : List Nat), ∀ (w : World), BytesAt w mv m → m.length ≤ 100000 → Calls Tryd.prog 10 #[mv] w fun e w' => e = .returned (.agg (bytesL (hashF KW m))) ∧ Below w.heap.size w w') := by
  apply SumCut.mk
  case out =>
    intro q_l1 q_l2 q_l4a q_l4b q_l5 q_l6 q_l7 mv m w hm hl
    obtain ⟨hw8, hmx, p, c, rfl, hc⟩ := id hm
    have HF : Hid (hashF KW m = tellF (blocks KW (padded m) start8 ((padded m).length / 64))) := show _ = _ from rfl
    have HPE := padded_eq m
    have hpl := padded_len m
    have hpm := padded_mod m
    have hp8 := padded_ok hw8
    have hpf := padFree_le m.length
    have hl0 : (0 : Int) ≤ (m.length : Int) := by omega
    have hl1 : (m.length : Int) ≤ 100000 := by omega
    generalize hn : m.length = n at *
    go_enter Tryd.func10, Tryd.ntmps10
    go_wp2_with (at_builtin; refine stop ?_)
    rw [zeros32b]
    have hb0 := below1 w (.cells (bytesL (List.replicate 32 0)) 24)
    have rr : Row (w.alloc (.cells (bytesL (List.replicate 32 0)) 24)) w.heap.size (bytesL (List.replicate 32 0)) 24 := Row.new _ _ _ rfl
    generalize w.alloc (.cells (bytesL (List.replicate 32 0)) 24) = w1 at *
    have hw1 : w.heap.size + 1 ≤ w1.heap.size := rr.lt
    obtain ⟨v1, u1, run1, own1, gr1, nil1⟩ := append_bytes w1 w1.heap.size 22 (.slice none 0 0) [] (World.ownsRow_nil _ _ _ _) _ m (hm.later hb0) (by simp; omega) (Nat.le_refl _)
    have hbu1 : Below w1.heap.size w1 u1 := below_grown (Below.refl _ _) (Nat.le_refl _) gr1 (fun k h => by cases h)
    unfold Stop
    go_wp2_with (at_builtin; refine Lib.wpList_append_run _ rfl _ _ _ _ rfl _ _ rfl rfl _ _ run1 ?_; refine stop ?_)
    unfold Stop
    rw [List.nil_append] at own1
    have own1' : Own (u1.alloc (.cells #[.int .u8 128] 5)) w1.heap.size v1 m := own1.later (below1 _ _)
    obtain ⟨v2, u2, run2, own2, gr2, nil2⟩ := append_bytes _ w1.heap.size 22 v1 m own1' _ [128] (BytesAt.new1 u1 128 (by decide)) (by simp; omega) (by simp; have := hbu1.size; omega)
    have hbu2 : Below w1.heap.size w1 u2 := below_grown (hbu1.alloc hbu1.size _) (by simp; have := hbu1.size; omega) gr2 (fun j hj => (own1'.lt j hj).1)
    go_wp2_with (at_builtin; refine Lib.wpList_append_run _ rfl _ _ _ _ rfl _ _ rfl rfl _ _ run2 ?_; refine stop ?_)
    unfold Stop
    have rr2 := rr.later hbu2
    have bel2 := chain hb0 hbu2
    have hu2 : w1.heap.size ≤ u2.heap.size := hbu2.size
    clear run1 own1 gr1 hbu1 own1' gr2 run2 hbu2 rr hb0 hc hm hmx nil1 nil2
    generalize w1.heap.size = B at *
    go_wp2
    go_loopw [4] (fun s wr => ∃ (k : Nat) (v : Value), k ≤ zc n ∧ v = s ∧ Own wr B v (m ++ [128] ++ List.replicate k 0) ∧ Row wr w.heap.size (bytesL (List.replicate 32 0)) 24 ∧ Below w.heap.size w wr ∧ B ≤ wr.heap.size) (fun s _ => n + 100 - lenV s)
    case atStart => exact ⟨0, _, Nat.zero_le _, rfl, by simpa using own2, rr2, bel2, hu2⟩
    case round =>
      obtain ⟨k, v, hk, hv, ho, hrr, hbel, hB⟩ := hrel
      subst hv
      clear own2 rr2 bel2 hu2
      obtain ⟨vp, vn, vc, rfl, hvn⟩ := ho.form
      have hvn' : vn = n + 1 + k := by rw [hvn]; simp [hn]; omega
      have hz64 : zc n < 64 := Nat.mod_lt _ (by decide)
      clear hvn
      have v0 : (0 : Int) ≤ (vn : Int) := by omega
      have v1 : (vn : Int) ≤ 100100 := by omega
      by_cases hlt : k < zc n
      ·
        rename_i iq1 iq2 iq3 iq4
        revert m w hw8 p c HF hpm hp8 n hn hl HPE hpl hpf hl0 hl1 iq1 w1 iq2 u1 v2 u2 B hw1 iq3 iq4 wr u34 u35 u36 u37 u38 u39 u40 k hk hrr hbel hB vp vn vc ho hvn' hz64 v0 v1 hlt
        exact q_l1.out
      · clear q_l1
        obtain rfl : k = zc n := by omega
        have hne : ((vn : Int) % 64 != 56) = false := by simp only [bne_eq_false_iff_eq]; unfold zc at hvn'; omega
        have HV : Hid (vn = n + 1 + zc n) := hvn'
        clear hvn' hlt hk
        have hP8 : W8 (m ++ [128] ++ List.replicate (zc n) 0) := fun x hx => hp8 x (by rw [← HPE]; exact List.mem_append_left _ hx)
        have hPl : (m ++ [128] ++ List.replicate (zc n) 0).length = n + 1 + zc n := by simp [hn]; omega
        generalize m ++ [128] ++ List.replicate (zc n) 0 = P1 at *
        go_wp2
        go_loopw [5, 4] (fun i s wr => ∃ (t : Nat) (v : Value), t ≤ 8 ∧ i = .int .i64 (7 - (t : Int)) ∧ v = s ∧ Own wr B v (P1 ++ (lenB n).take t) ∧ Row wr w.heap.size (bytesL (List.replicate 32 0)) 24 ∧ Below w.heap.size w wr ∧ B ≤ wr.heap.size) (fun i _ _ => (intOf i + 1).toNat)
        case atStart => exact ⟨0, _, by omega, rfl, rfl, by simpa using ho, hrr, hbel, hB⟩
        case round =>
          clear ho hrr hbel hB hne
          obtain ⟨t, v, ht, rfl, hv, ho, hrr, hbel, hB⟩ := hrel
          subst hv
          obtain ⟨vp, vn, vc, rfl, hvn⟩ := ho.form
          have hll : (lenB n).length = 8 := by simp [lenB]
          have hvn' : vn = n + 1 + zc n + t := by rw [hvn]; simp [hPl, hll]; omega
          clear hvn
          by_cases htl : t < 8
          ·
            rename_i iq1 iq2 iq3 iq4 iq5 iq6 iq7 iq8 iq9 iq10 iq11 iq12
            revert m w hw8 p c HF hpm hp8 n hn hl hpl hpf hl0 hl1 iq1 w1 iq2 u1 v2 u2 B hw1 iq3 iq4 u34 u35 u36 u37 u38 u39 u40 iq5 iq6 iq7 hz64 v0 v1 HV P1 HPE hP8 hPl iq8 iq9 iq10 iq11 iq12 wr u41 u42 u43 u44 u45 u46 u47 u48 u49 u50 u51 u52 u53 t ht hrr hbel hB vp vn vc ho hll hvn' htl
            exact q_l2.out
          · clear q_l2
            obtain rfl : t = 8 := by omega
            rw [show (7 : Int) - ((8 : Nat) : Int) = -1 from rfl]
            have eP : P1 ++ (lenB n).take 8 = padded m := by rw [List.take_of_length_le (by omega), HPE]
            rw [eP] at ho
            have hPn : vn = (padded m).length := by rw [hpl, hvn', zc_free]; omega
            clear eP HPE hvn' hP8 hPl hll htl ht
            generalize padded m = P at *
            obtain ⟨gm, cm, hgm, hgm1, hgm2, hcm, hpm2⟩ := own_cells ho (by omega)
            rw [← hPn] at hgm hcm
            obtain ⟨rfl, _, rfl⟩ : vp = some ⟨gm, 0, none⟩ ∧ vn = vn ∧ vc = cm := by cases hgm; exact ⟨rfl, rfl, rfl⟩
            clear hgm
            have hvm : vn % 64 = 0 ∧ 64 ≤ vn ∧ vn ≤ 100100 := by rw [hPn]; exact ⟨hpm.1, hpm.2, by omega⟩
            have HPN : Hid (vn = P.length) := hPn
            have HF1 : Hid (hashF KW m = tellF (blocks KW P start8 (vn / 64))) := show _ = _ from by rw [HF.out, ← hPn]
            clear hPn HF hpm hpl hpf
            go_wp2_with (go_at_call 16; refine stop ?_)
            refine (roots64 _).mono ?_
            rintro e w4 ⟨v4, rfl, ho4, hb4⟩
            obtain ⟨gk, ck, rfl, hgk1, hgk2, hk4⟩ := ownW_cells ho4 (by decide)
            go_wp2_with (go_at_call 16; refine stop ?_)
            refine (roots8 _).mono ?_
            rintro e w5 ⟨v5, rfl, ho5, hb5⟩
            obtain ⟨gh, ch, rfl, hgh1, hgh2, hh5⟩ := ownW_cells ho5 (by unfold s8L; decide)
            have hmk : gm < gk := Nat.lt_of_lt_of_le hgm2 hgk1
            have hkh : gk < gh := Nat.lt_of_lt_of_le hgk2 hgh1
            have hb6 := chain hb4 hb5
            have hS : SmR w w5 gm gk gh P (s8L start8) := ⟨hrr.later hb6, fun i hi => (hb6.cell (p := ⟨gm, i, none⟩) hgm2).trans (hpm2 i hi), fun i hi => (hb5.cell (p := ⟨gk, i, none⟩) hgk2).trans (hk4 i hi).1, fun i hi => hh5 i hi, Nat.lt_of_lt_of_le hgm2 hb6.size, Nat.lt_of_lt_of_le hgk2 hb5.size, hgh2, chain hbel hb6⟩
            have hwm : w.heap.size < gm := by omega
            clear ho4 ho5 hb4 hb5 hb6 hk4 hh5 hpm2 hrr hbel hB hgm1 hgm2 hgk1 hgk2 hgh1 hgh2 ho
            rw [show KW.length = 64 from rfl, show (s8L start8).length = 8 from rfl]
            obtain ⟨nb, hnb⟩ : ∃ nb, vn = 64 * nb := ⟨vn / 64, by omega⟩
            have q0 : (0 : Int) ≤ (vn : Int) := by omega
            have q1 : (vn : Int) ≤ 100100 := by omega
            have HNB : Hid (vn = 64 * nb) := hnb
            have HF2 : Hid (hashF KW m = tellF (blocks KW P start8 nb)) := show _ = _ from by rw [HF1.out, hnb]; congr 2; omega
            have c0 : (vn : Int) ≤ (vc : Int) := by omega
            clear hnb hvm HF1
            go_wp2
            go_loopw [8] (fun a wr => ∃ k : Nat, k ≤ nb ∧ a = .int .i64 ((64 * k : Nat) : Int) ∧ SmR w wr gm gk gh P (s8L (blocks KW P start8 k))) (fun a _ => vn - (intOf a).toNat)
            case atStart => exact ⟨0, Nat.zero_le _, rfl, hS⟩
            case round =>
              clear hS
              obtain ⟨k, hk, rfl, hr⟩ := hrel
              by_cases hlt : k < nb
              · obtain ⟨at_, hat⟩ : ∃ a, a = 64 * k := ⟨_, rfl⟩
                rw [← hat]
                have a0 : (at_ : Int) + 64 ≤ (vn : Int) := by have := HNB.out; omega
                have a1 : (0 : Int) ≤ (at_ : Int) := by omega
                have a2 : (at_ : Int) < (vn : Int) := by omega
                have a3 : at_ < vn := by omega
                have HAT : Hid (at_ = 64 * k) := hat
                have hmk64 := make_words64 wr
                have HR : Hid (SmR w wr gm gk gh P (s8L (blocks KW P start8 k))) := hr
                clear hr hat
                go_wp2
                have hbl := blk_len (P := P) (k := k) (nb := nb) (by have := HPN.out; have := HNB.out; omega) hlt
                have hb8 := blk_ok hp8 k
                have hbat : ∀ j, j < 64 → (blk P k).getD j 0 = P.getD (at_ + j) 0 := fun j hj => by rw [HAT.out]; unfold List.getD; rw [blk_at P k j hj, Nat.mul_comm k 64]
                have HBK : Hid (blocks KW P start8 (k + 1) = mixF KW (blocks KW P start8 k) (spreadF (blk P k))) := show _ = _ from rfl
                have hst := blocks_ok P k
                generalize blk P k = z at *
                generalize hgb : blocks KW P start8 k = st at *
                clear hgb
                have hr2 := HR.out.later (below1 wr (.cells (wordsL Z64) 46))
                have hwrow : Row (wr.alloc (.cells (wordsL Z64) 46)) wr.heap.size (wordsL Z64) 46 := Row.new _ _ _ rfl
                have hbb : gh < wr.heap.size := HR.out.lh
                generalize wr.alloc (.cells (wordsL Z64) 46) = wr1 at *
                generalize wr.heap.size = bb at *
                clear HR hmk64
                go_loopw [10] (fun a wr => ∃ i : Nat, i ≤ 64 ∧ a = .int .i64 i ∧ SmR w wr gm gk gh P (s8L st) ∧ Row wr bb (wordsL (rfL z i)) 46) (fun a _ => 64 - (intOf a).toNat)
                case atStart => exact ⟨0, by omega, rfl, hr2, hwrow⟩
                case round =>
                  clear hr2 hwrow
                  obtain ⟨i, hi, rfl, hr, hwrow⟩ := hrel
                  have hfl := rfL_len z i
                  have hfo := rfL_ok z hb8 i
                  have HFS : Hid (rfL z (i + 1) = (rfL z i).set i (if i < 16 then wd z i else exR (rfL z i) i)) := show _ = _ from rfl
                  have i0 : (0 : Int) ≤ (i : Int) := by omega
                  by_cases hi64 : i < 64
                  · have i1 : (i : Int) < 64 := by omega
                    have c5 := (hwrow.cell i).trans (wordsL_at _ i (by omega))
                    have f5 := hwrow.frozen i
                    have HRW : Hid (SmR w wr gm gk gh P (s8L st) ∧ Row wr bb (wordsL (rfL z i)) 46) := ⟨hr, hwrow⟩
                    by_cases hi16 : i < 16
                    ·
                      rename_i iq1 iq2 iq3 iq4 iq5 iq6 iq7 iq8 iq9 iq10 iq11 iq12 iq13 iq14 iq15 iq16 iq17 iq18 iq19 iq20 iq21 iq22 iq23 iq24 iq25 iq26 iq27 iq28 iq29 iq30 iq31 iq32 iq33 iq34 iq35 iq36 iq37 iq38 iq39 iq40 iq41 iq42 iq43 iq44 iq45 iq46 iq47 iq48 iq49 iq50 iq51 iq52 iq53 iq54 iq55 iq56 iq57 iq58 iq59 iq60 iq61 iq62 iq63 iq64 iq65 iq66 iq67 iq68 iq69 iq70 iq71 iq72 iq73 iq74 iq75 iq76 iq77 iq78 iq79 iq80 iq81 iq82 iq83 iq84 iq85 iq86 iq87 iq88 iq89 iq90 iq91 iq92 iq93 iq94 iq95 iq96 iq97 iq98 iq99 iq100 iq101 iq102 iq103 iq104 iq105 iq106 iq107 iq108 iq109 iq110 iq111 iq112 iq113 iq114 iq115 iq116 iq117 iq118 iq119 iq120 iq121
                      revert m w hw8 p c n hn hl hl0 hl1 iq1 w1 iq2 u1 v2 u2 B hw1 iq3 iq4 u34 u35 u36 u37 u38 u39 u40 vp iq5 iq6 hz64 v0 v1 HV P1 iq7 iq8 iq9 iq10 iq11 u41 u42 u43 u44 u45 u46 u47 u48 u49 u50 u51 u52 u53 vn vc P hp8 gm hcm HPN iq12 iq13 iq14 iq15 w4 gk ck w5 gh ch hmk hkh hwm nb q0 q1 HNB HF2 c0 iq16 iq17 iq18 u9 u10 iq19 iq20 iq21 u14 u15 u16 u17 u18 u19 u20 u21 u22 u56 u57 u58 u59 u60 u61 u62 iq22 iq23 iq24 iq25 iq26 iq27 iq28 iq29 iq30 iq31 iq32 iq33 iq34 iq35 iq36 iq37 iq38 iq39 iq40 iq41 iq42 iq43 iq44 iq45 iq46 iq47 iq48 iq49 iq50 iq51 iq52 iq53 iq54 iq55 iq56 iq57 iq58 iq59 iq60 iq61 iq62 iq63 iq64 iq65 iq66 iq67 iq68 iq69 iq70 iq71 iq72 iq73 iq74 iq75 iq76 iq77 iq78 iq79 iq80 iq81 iq82 iq83 iq84 iq85 iq86 iq87 iq88 iq89 iq90 iq91 iq92 iq93 iq94 iq95 iq96 iq97 iq98 iq99 iq100 iq101 iq102 iq103 iq104 iq105 iq106 iq107 iq108 iq109 iq110 iq111 iq112 iq113 iq114 iq115 iq116 u158 u159 u160 u161 u162 u163 u164 u165 u166 u167 u168 u169 u170 u171 u172 u173 u174 u175 u176 u177 u178 u179 u180 u181 u182 u183 u184 u185 u186 u187 u188 u189 u190 u191 u192 u193 u194 u195 u196 u197 u198 u199 u200 u201 u202 u203 u204 u205 u206 u207 u208 u209 u210 u211 u212 u213 u214 u215 u216 u217 u218 u219 u220 u221 u222 u223 u224 u225 u226 u227 u228 u229 u230 u231 u232 u233 u234 u235 u236 u237 u238 u239 u240 u241 u242 u243 u244 u245 u246 u247 u248 u249 u250 u251 u252 u253 u254 u255 u256 u257 u258 u259 u260 u261 u262 u263 u264 u265 u266 u267 u268 u269 u270 u271 u272 u273 u274 u275 u276 u277 u278 u279 u280 u281 u282 u283 u284 u285 u286 u287 u288 u289 u290 u291 k hk hlt at_ a0 a1 a2 a3 HAT iq117 iq118 iq119 iq120 iq121 z hbl hb8 hbat st hst HBK wr1 bb hbb wr u11 u12 u13 u63 u64 u65 u66 u67 u68 u69 u70 u71 u72 u73 u74 u75 u76 u77 u78 u79 u80 u81 u82 u83 u84 u85 u86 u87 u88 u89 u90 u91 u92 u93 u94 u95 u96 u97 u98 u99 u100 u101 u102 u103 u104 u105 u106 u107 u108 u109 u110 u111 u112 u113 u114 u115 u116 u117 u118 u119 u120 u121 u122 u123 u124 u125 u126 u127 u128 u129 u130 u131 u132 u133 u134 u135 u136 u137 u138 u139 u140 u141 u142 u143 u144 u145 u146 u147 u148 u149 u150 u151 u152 u153 u154 u155 u156 u157 i hi hr hwrow hfl hfo HFS i0 hi64 i1 c5 f5 HRW hi16
                      exact q_l4a.out
                    · clear q_l4a
                      rename_i iq1 iq2 iq3 iq4 iq5 iq6 iq7 iq8 iq9 iq10 iq11 iq12 iq13 iq14 iq15 iq16 iq17 iq18 iq19 iq20 iq21 iq22 iq23 iq24 iq25 iq26 iq27 iq28 iq29 iq30 iq31 iq32 iq33 iq34 iq35 iq36 iq37 iq38 iq39 iq40 iq41 iq42 iq43 iq44 iq45 iq46 iq47 iq48 iq49 iq50 iq51 iq52 iq53 iq54 iq55 iq56 iq57 iq58 iq59 iq60 iq61 iq62 iq63 iq64 iq65 iq66 iq67 iq68 iq69 iq70 iq71 iq72 iq73 iq74 iq75 iq76 iq77 iq78 iq79 iq80 iq81 iq82 iq83 iq84 iq85 iq86 iq87 iq88 iq89 iq90 iq91 iq92 iq93 iq94 iq95 iq96 iq97 iq98 iq99 iq100 iq101 iq102 iq103 iq104 iq105 iq106 iq107 iq108 iq109 iq110 iq111 iq112 iq113 iq114 iq115 iq116 iq117 iq118 iq119 iq120 iq121
                      revert m w hw8 p c n hn hl hl0 hl1 iq1 w1 iq2 u1 v2 u2 B hw1 iq3 iq4 u34 u35 u36 u37 u38 u39 u40 vp iq5 iq6 hz64 v0 v1 HV P1 iq7 iq8 iq9 iq10 iq11 u41 u42 u43 u44 u45 u46 u47 u48 u49 u50 u51 u52 u53 vn vc P hp8 gm hcm HPN iq12 iq13 iq14 iq15 w4 gk ck w5 gh ch hmk hkh hwm nb q0 q1 HNB HF2 c0 iq16 iq17 iq18 u9 u10 iq19 iq20 iq21 u14 u15 u16 u17 u18 u19 u20 u21 u22 u56 u57 u58 u59 u60 u61 u62 iq22 iq23 iq24 iq25 iq26 iq27 iq28 iq29 iq30 iq31 iq32 iq33 iq34 iq35 iq36 iq37 iq38 iq39 iq40 iq41 iq42 iq43 iq44 iq45 iq46 iq47 iq48 iq49 iq50 iq51 iq52 iq53 iq54 iq55 iq56 iq57 iq58 iq59 iq60 iq61 iq62 iq63 iq64 iq65 iq66 iq67 iq68 iq69 iq70 iq71 iq72 iq73 iq74 iq75 iq76 iq77 iq78 iq79 iq80 iq81 iq82 iq83 iq84 iq85 iq86 iq87 iq88 iq89 iq90 iq91 iq92 iq93 iq94 iq95 iq96 iq97 iq98 iq99 iq100 iq101 iq102 iq103 iq104 iq105 iq106 iq107 iq108 iq109 iq110 iq111 iq112 iq113 iq114 iq115 iq116 u158 u159 u160 u161 u162 u163 u164 u165 u166 u167 u168 u169 u170 u171 u172 u173 u174 u175 u176 u177 u178 u179 u180 u181 u182 u183 u184 u185 u186 u187 u188 u189 u190 u191 u192 u193 u194 u195 u196 u197 u198 u199 u200 u201 u202 u203 u204 u205 u206 u207 u208 u209 u210 u211 u212 u213 u214 u215 u216 u217 u218 u219 u220 u221 u222 u223 u224 u225 u226 u227 u228 u229 u230 u231 u232 u233 u234 u235 u236 u237 u238 u239 u240 u241 u242 u243 u244 u245 u246 u247 u248 u249 u250 u251 u252 u253 u254 u255 u256 u257 u258 u259 u260 u261 u262 u263 u264 u265 u266 u267 u268 u269 u270 u271 u272 u273 u274 u275 u276 u277 u278 u279 u280 u281 u282 u283 u284 u285 u286 u287 u288 u289 u290 u291 k hk hlt at_ a0 a1 a2 a3 HAT iq117 iq118 iq119 iq120 iq121 z hbl hb8 hbat st hst HBK wr1 bb hbb wr u11 u12 u13 u63 u64 u65 u66 u67 u68 u69 u70 u71 u72 u73 u74 u75 u76 u77 u78 u79 u80 u81 u82 u83 u84 u85 u86 u87 u88 u89 u90 u91 u92 u93 u94 u95 u96 u97 u98 u99 u100 u101 u102 u103 u104 u105 u106 u107 u108 u109 u110 u111 u112 u113 u114 u115 u116 u117 u118 u119 u120 u121 u122 u123 u124 u125 u126 u127 u128 u129 u130 u131 u132 u133 u134 u135 u136 u137 u138 u139 u140 u141 u142 u143 u144 u145 u146 u147 u148 u149 u150 u151 u152 u153 u154 u155 u156 u157 i hi hr hwrow hfl hfo HFS i0 hi64 i1 c5 f5 HRW hi16
                      exact q_l4b.out
                  · clear q_l4a q_l4b
                    obtain rfl : i = 64 := by omega
                    rw [spread_rf z hb8] at hwrow
                    rw [show ((64 : Nat) : Int) = 64 from rfl]
                    have hWl := spread_len z
                    have hWo := spread_ok z hb8
                    generalize spreadF z = W at *
                    have hsw : WordsAt wr (.slice (some ⟨gh, 0, none⟩) 8 ch) (s8L st) := ⟨s8L_ok hst, by simp [s8L, maxLen], _, _, rfl, fun j hj => ⟨gh, 0, rfl, hr.lh, by rw [Nat.zero_add]; exact (hr.ph j hj).1⟩⟩
                    obtain ⟨v7, u7, run7, own7, gr7, nil7⟩ := append_words wr wr.heap.size 44 (.slice none 0 0) [] (World.ownsRow_nil _ _ _ _) _ (s8L st) hsw (by simp [s8L]) (Nat.le_refl _)
                    have hbu7 : Below wr.heap.size wr u7 := below_grown (Below.refl _ _) (Nat.le_refl _) gr7 (fun k h => by cases h)
                    rw [List.nil_append] at own7
                    obtain ⟨gv, cv, rfl, hgv1, hgv2, hv7⟩ := ownW_cells own7 (by simp [s8L])
                    rw [show (s8L st).length = 8 from rfl] at run7 hv7
                    have hr7 := hr.later hbu7
                    have hw7 := hwrow.later hbu7
                    have hgvh : gh < gv := Nat.lt_of_lt_of_le hr.lh hgv1
                    clear hsw own7 gr7 nil7 hbu7 hr hwrow hfl hfo HFS i0 hi64 hi hgv1
                    go_wp2_with (at_builtin; refine Lib.wpList_append_run _ rfl _ _ _ _ rfl _ _ rfl rfl _ _ run7 ?_)
                    go_loopw [15, 14] (fun a sv wr => ∃ (j b c : Nat), j ≤ 64 ∧ a = .int .i64 j ∧ sv = .slice (some ⟨b, 0, none⟩) 8 c ∧ gh < b ∧ b < wr.heap.size ∧ (∀ i, i < 8 → wr.cell? ⟨b, i, none⟩ = some (.int .u32 ((s8L (rnds KW W st j)).getD i 0 : Nat))) ∧ SmR w wr gm gk gh P (s8L st) ∧ Row wr bb (wordsL W) 46) (fun a _ _ => 64 - (intOf a).toNat)
                    case atStart => exact ⟨0, gv, cv, by omega, rfl, rfl, hgvh, hgv2, fun i hi => (hv7 i hi).1, hr7, hw7⟩
                    case round =>
                      clear hr7 hw7 hv7 hgvh hgv2 run7
                      obtain ⟨j, b, c', hj, rfl, rfl, hghb, hbw, hcb, hr, hwrow⟩ := hrel
                      have ho := rnds_ok KW W hst j
                      have hn' : rnds KW W st (j + 1) = rnd (rnds KW W st j) (KW.getD j 0) (W.getD j 0) := rfl
                      by_cases hj64 : j < 64
                      ·
                        rename_i iq1 iq2 iq3 iq4 iq5 iq6 iq7 iq8 iq9 iq10 iq11 iq12 iq13 iq14 iq15 iq16 iq17 iq18 iq19 iq20 iq21 iq22 iq23 iq24 iq25 iq26 iq27 iq28 iq29 iq30 iq31 iq32 iq33 iq34 iq35 iq36 iq37 iq38 iq39 iq40 iq41 iq42 iq43 iq44 iq45 iq46 iq47 iq48 iq49 iq50 iq51 iq52 iq53 iq54 iq55 iq56 iq57 iq58 iq59 iq60 iq61 iq62 iq63 iq64 iq65 iq66 iq67 iq68 iq69 iq70 iq71 iq72 iq73 iq74 iq75 iq76 iq77 iq78 iq79 iq80 iq81 iq82 iq83 iq84 iq85 iq86 iq87 iq88 iq89 iq90 iq91 iq92 iq93 iq94 iq95 iq96 iq97 iq98 iq99 iq100 iq101 iq102 iq103 iq104 iq105 iq106 iq107 iq108 iq109 iq110 iq111 iq112 iq113 iq114 iq115 iq116 iq117 iq118 iq119 iq120 iq121 iq122 iq123 iq124 iq125 iq126 iq127 iq128 iq129 iq130 iq131 iq132 iq133 iq134 iq135 iq136 iq137 iq138 iq139 iq140 iq141 iq142 iq143 iq144 iq145 iq146 iq147 iq148 iq149 iq150 iq151 iq152 iq153 iq154 iq155 iq156 iq157 iq158 iq159 iq160 iq161 iq162 iq163 iq164 iq165 iq166 iq167 iq168 iq169 iq170 iq171 iq172 iq173 iq174 iq175 iq176 iq177 iq178 iq179 iq180 iq181 iq182 iq183 iq184 iq185 iq186 iq187 iq188 iq189 iq190 iq191 iq192 iq193 iq194 iq195 iq196 iq197 iq198 iq199 iq200 iq201 iq202 iq203 iq204 iq205 iq206 iq207 iq208 iq209 iq210 iq211 iq212 iq213 iq214 iq215 iq216 iq217 iq218 iq219 iq220 iq221 iq222 iq223 iq224 iq225 iq226 iq227 iq228 iq229 iq230 iq231 iq232 iq233 iq234 iq235 iq236 iq237 iq238 iq239 iq240 iq241 iq242 iq243 iq244 iq245 iq246 iq247 iq248 iq249 iq250
                        revert m w hw8 p c n hn hl hl0 hl1 iq1 w1 iq2 u1 v2 u2 B hw1 iq3 iq4 u34 u35 u36 u37 u38 u39 u40 vp iq5 iq6 hz64 v0 v1 HV P1 iq7 iq8 iq9 iq10 iq11 u41 u42 u43 u44 u45 u46 u47 u48 u49 u50 u51 u52 u53 vn vc P hp8 gm hcm HPN iq12 iq13 iq14 iq15 w4 gk ck w5 gh ch hmk hkh hwm nb q0 q1 HNB HF2 c0 iq16 iq17 iq18 u9 u10 iq19 iq20 iq21 u14 u15 iq22 iq23 iq24 iq25 iq26 iq27 u22 u56 u57 u58 u59 u60 u61 u62 iq28 iq29 iq30 iq31 iq32 iq33 iq34 iq35 iq36 iq37 iq38 iq39 iq40 iq41 iq42 iq43 iq44 iq45 iq46 iq47 iq48 iq49 iq50 iq51 iq52 iq53 iq54 iq55 iq56 iq57 iq58 iq59 iq60 iq61 iq62 iq63 iq64 iq65 iq66 iq67 iq68 iq69 iq70 iq71 iq72 iq73 iq74 iq75 iq76 iq77 iq78 iq79 iq80 iq81 iq82 iq83 iq84 iq85 iq86 iq87 iq88 iq89 iq90 iq91 iq92 iq93 iq94 iq95 iq96 iq97 iq98 iq99 iq100 iq101 iq102 iq103 iq104 iq105 iq106 iq107 iq108 iq109 iq110 iq111 iq112 iq113 iq114 iq115 iq116 iq117 iq118 iq119 iq120 iq121 iq122 u158 u159 iq123 iq124 iq125 iq126 iq127 iq128 iq129 iq130 iq131 iq132 iq133 iq134 iq135 iq136 iq137 iq138 iq139 iq140 iq141 iq142 iq143 iq144 iq145 iq146 iq147 iq148 iq149 iq150 iq151 iq152 iq153 iq154 iq155 iq156 iq157 iq158 iq159 iq160 iq161 iq162 iq163 iq164 iq165 iq166 iq167 iq168 iq169 iq170 iq171 iq172 iq173 iq174 iq175 iq176 iq177 iq178 iq179 iq180 iq181 iq182 iq183 iq184 iq185 iq186 iq187 iq188 iq189 iq190 iq191 iq192 iq193 iq194 iq195 iq196 iq197 iq198 iq199 iq200 iq201 iq202 iq203 iq204 iq205 iq206 iq207 iq208 iq209 iq210 iq211 iq212 iq213 iq214 iq215 iq216 iq217 iq218 iq219 iq220 iq221 iq222 iq223 iq224 iq225 iq226 iq227 iq228 iq229 iq230 iq231 iq232 iq233 iq234 iq235 iq236 iq237 iq238 iq239 iq240 u278 u279 u280 u281 u282 u283 u284 u285 u286 u287 u288 u289 u290 u291 k hk hlt at_ a0 a1 a2 a3 HAT iq241 iq242 iq243 iq244 z hbl hb8 hbat st hst wr1 bb hbb iq245 u11 u12 u13 u63 u64 u65 u66 u67 u68 u69 u70 u71 u72 u73 u74 u75 u76 u77 u78 u79 u80 u81 u82 u83 u84 u85 u86 u87 u88 u89 u90 u91 u92 u93 u94 u95 u96 u97 u98 u99 u100 u101 u102 u103 u104 u105 u106 u107 u108 u109 u110 u111 u112 u113 u114 u115 u116 u117 u118 u119 u120 u121 u122 u123 u124 u125 u126 u127 u128 u129 u130 u131 u132 u133 u134 u135 u136 u137 u138 u139 u140 u141 u142 u143 u144 u145 u146 u147 u148 u149 u150 u151 u152 u153 u154 u155 u156 u157 W HBK hWl hWo u7 gv cv iq246 iq247 iq248 iq249 iq250 wr u16 u17 u18 u19 u20 u21 u160 u161 u162 u163 u164 u165 u166 u167 u168 u169 u170 u171 u172 u173 u174 u175 u176 u177 u178 u179 u180 u181 u182 u183 u184 u185 u186 u187 u188 u189 u190 u191 u192 u193 u194 u195 u196 u197 u198 u199 u200 u201 u202 u203 u204 u205 u206 u207 u208 u209 u210 u211 u212 u213 u214 u215 u216 u217 u218 u219 u220 u221 u222 u223 u224 u225 u226 u227 u228 u229 u230 u231 u232 u233 u234 u235 u236 u237 u238 u239 u240 u241 u242 u243 u244 u245 u246 u247 u248 u249 u250 u251 u252 u253 u254 u255 u256 u257 u258 u259 u260 u261 u262 u263 u264 u265 u266 u267 u268 u269 u270 u271 u272 u273 u274 u275 u276 u277 j b c' hj hghb hbw hcb hr hwrow ho hn' hj64
                        exact q_l5.out
                      · clear q_l5
                        obtain rfl : j = 64 := by omega
                        rw [show ((64 : Nat) : Int) = 64 from rfl]
                        have HMX : Hid (adL (s8L st) (s8L (rnds KW W st 64)) 8 = s8L (mixF KW st W)) := ad_mix KW W st
                        clear hn' hj64 hj
                        generalize rnds KW W st 64 = rn at *
                        have hcr := fun i hi => hr.ph i hi
                        go_wp2
                        go_loopw [22] (fun a wr => ∃ i : Nat, i ≤ 8 ∧ a = .int .i64 i ∧ (∀ i, i < 8 → wr.cell? ⟨b, i, none⟩ = some (.int .u32 ((s8L rn).getD i 0 : Nat))) ∧ SmR w wr gm gk gh P (adL (s8L st) (s8L rn) i)) (fun a _ => 8 - (intOf a).toNat)
                        case atStart => exact ⟨0, by omega, rfl, hcb, hr⟩
                        case round =>
                          clear hcr hcb hr hwrow hbw
                          obtain ⟨i, hi, rfl, hcb, hr⟩ := hrel
                          by_cases hi8 : i < 8
                          ·
                            rename_i iq1 iq2 iq3 iq4 iq5 iq6 iq7 iq8 iq9 iq10 iq11 iq12 iq13 iq14 iq15 iq16 iq17 iq18 iq19 iq20 iq21 iq22 iq23 iq24 iq25 iq26 iq27 iq28 iq29 iq30 iq31 iq32 iq33 iq34 iq35 iq36 iq37 iq38 iq39 iq40 iq41 iq42 iq43 iq44 iq45 iq46 iq47 iq48 iq49 iq50 iq51 iq52 iq53 iq54 iq55 iq56 iq57 iq58 iq59 iq60 iq61 iq62 iq63 iq64 iq65 iq66 iq67 iq68 iq69 iq70 iq71 iq72 iq73 iq74 iq75 iq76 iq77 iq78 iq79 iq80 iq81 iq82 iq83 iq84 iq85 iq86 iq87 iq88 iq89 iq90 iq91 iq92 iq93 iq94 iq95 iq96 iq97 iq98 iq99 iq100 iq101 iq102 iq103 iq104 iq105 iq106 iq107 iq108 iq109 iq110 iq111 iq112 iq113 iq114 iq115 iq116 iq117 iq118 iq119 iq120 iq121 iq122 iq123 iq124 iq125 iq126 iq127 iq128 iq129 iq130 iq131 iq132 iq133 iq134 iq135 iq136 iq137 iq138 iq139 iq140 iq141 iq142 iq143 iq144 iq145 iq146 iq147 iq148 iq149 iq150 iq151 iq152 iq153 iq154 iq155 iq156 iq157 iq158 iq159 iq160 iq161 iq162 iq163 iq164 iq165 iq166 iq167 iq168 iq169 iq170 iq171 iq172 iq173 iq174 iq175 iq176 iq177 iq178 iq179 iq180 iq181 iq182 iq183 iq184 iq185 iq186 iq187 iq188 iq189 iq190 iq191 iq192 iq193 iq194 iq195 iq196 iq197 iq198 iq199 iq200 iq201 iq202 iq203 iq204 iq205 iq206 iq207 iq208 iq209 iq210 iq211 iq212 iq213 iq214 iq215 iq216 iq217 iq218 iq219 iq220 iq221 iq222 iq223 iq224 iq225 iq226 iq227 iq228 iq229 iq230 iq231 iq232 iq233 iq234 iq235 iq236 iq237 iq238 iq239 iq240 iq241 iq242 iq243 iq244 iq245 iq246 iq247 iq248 iq249 iq250 iq251 iq252 iq253 iq254 iq255 iq256 iq257 iq258 iq259 iq260 iq261 iq262 iq263 iq264 iq265 iq266 iq267
                            revert m w hw8 p c n hn hl hl0 hl1 iq1 w1 iq2 u1 v2 u2 B hw1 iq3 iq4 u34 u35 u36 u37 u38 u39 u40 vp iq5 iq6 hz64 v0 v1 HV P1 iq7 iq8 iq9 iq10 iq11 u41 u42 u43 u44 u45 u46 u47 u48 u49 u50 u51 u52 u53 vn vc P hp8 gm hcm HPN iq12 iq13 iq14 iq15 w4 gk ck w5 gh ch hmk hkh hwm nb q0 q1 HNB HF2 c0 iq16 iq17 iq18 u9 u10 iq19 iq20 iq21 u14 u15 iq22 iq23 iq24 iq25 iq26 iq27 u22 u56 u57 u58 u59 u60 u61 u62 iq28 iq29 iq30 iq31 iq32 iq33 iq34 iq35 iq36 iq37 iq38 iq39 iq40 iq41 iq42 iq43 iq44 iq45 iq46 iq47 iq48 iq49 iq50 iq51 iq52 iq53 iq54 iq55 iq56 iq57 iq58 iq59 iq60 iq61 iq62 iq63 iq64 iq65 iq66 iq67 iq68 iq69 iq70 iq71 iq72 iq73 iq74 iq75 iq76 iq77 iq78 iq79 iq80 iq81 iq82 iq83 iq84 iq85 iq86 iq87 iq88 iq89 iq90 iq91 iq92 iq93 iq94 iq95 iq96 iq97 iq98 iq99 iq100 iq101 iq102 iq103 iq104 iq105 iq106 iq107 iq108 iq109 iq110 iq111 iq112 iq113 iq114 iq115 iq116 iq117 iq118 iq119 iq120 iq121 iq122 u158 u159 iq123 iq124 iq125 iq126 iq127 iq128 iq129 iq130 iq131 iq132 iq133 iq134 iq135 iq136 iq137 iq138 iq139 iq140 iq141 iq142 iq143 iq144 iq145 iq146 iq147 iq148 iq149 iq150 iq151 iq152 iq153 iq154 iq155 iq156 iq157 iq158 iq159 iq160 iq161 iq162 iq163 iq164 iq165 iq166 iq167 iq168 iq169 iq170 iq171 iq172 iq173 iq174 iq175 iq176 iq177 iq178 iq179 iq180 iq181 iq182 iq183 iq184 iq185 iq186 iq187 iq188 iq189 iq190 iq191 iq192 iq193 iq194 iq195 iq196 iq197 iq198 iq199 iq200 iq201 iq202 iq203 iq204 iq205 iq206 iq207 iq208 iq209 iq210 iq211 iq212 iq213 iq214 iq215 iq216 iq217 iq218 iq219 iq220 iq221 iq222 iq223 iq224 iq225 iq226 iq227 iq228 iq229 iq230 iq231 iq232 iq233 iq234 iq235 iq236 iq237 iq238 iq239 iq240 iq241 iq242 iq243 iq244 iq245 iq246 iq247 iq248 iq249 iq250 iq251 iq252 iq253 iq254 k hk hlt at_ a0 a1 a2 a3 HAT iq255 iq256 iq257 iq258 z hbl hb8 hbat st hst wr1 bb hbb iq259 u11 u12 u13 u63 u64 u65 u66 u67 u68 u69 u70 u71 u72 u73 u74 u75 u76 u77 u78 u79 u80 u81 u82 u83 u84 u85 u86 u87 u88 u89 u90 u91 u92 u93 u94 u95 u96 u97 u98 u99 u100 u101 u102 u103 u104 u105 u106 u107 u108 u109 u110 u111 u112 u113 u114 u115 u116 u117 u118 u119 u120 u121 u122 u123 u124 u125 u126 u127 u128 u129 u130 u131 u132 u133 u134 u135 u136 u137 u138 u139 u140 u141 u142 u143 u144 u145 u146 u147 u148 u149 u150 u151 u152 u153 u154 u155 u156 u157 W HBK hWl hWo u7 gv cv iq260 iq261 iq262 iq263 iq264 u16 u17 u18 u19 u20 u21 u160 u161 u162 u163 u164 u165 u166 u167 u168 u169 u170 u171 u172 u173 u174 u175 u176 u177 u178 u179 u180 u181 u182 u183 u184 u185 u186 u187 u188 u189 u190 u191 u192 u193 u194 u195 u196 u197 u198 u199 u200 u201 u202 u203 u204 u205 u206 u207 u208 u209 u210 u211 u212 u213 u214 u215 u216 u217 u218 u219 u220 u221 u222 u223 u224 u225 u226 u227 u228 u229 u230 u231 u232 u233 u234 u235 u236 u237 u238 u239 u240 u241 u242 u243 u244 u245 u246 u247 u248 u249 u250 u251 u252 u253 u254 u255 u256 u257 u258 u259 u260 u261 u262 u263 u264 u265 u266 u267 u268 u269 u270 u271 u272 u273 u274 u275 u276 u277 b c' hghb rn ho HMX iq265 iq266 iq267 wr u278 u279 u280 u281 u282 u283 u284 u285 u286 u287 u288 u289 u290 u291 i hi hcb hr hi8
                            exact q_l6.out
                          · clear q_l6
                            obtain rfl : i = 8 := by omega
                            rw [show ((8 : Nat) : Int) = 8 from rfl]
                            rw [HMX.out, ← HBK.out] at hr
                            clear hcb
                            have g3 : ((at_ : Int) + 64) = ((64 * (k + 1) : Nat) : Int) := by have := HAT.out; omega
                            have HG3 : Hid ((at_ : Int) + 64 = ((64 * (k + 1) : Nat) : Int)) := g3
                            clear g3
                            have HRF : Hid (SmR w wr gm gk gh P (s8L (blocks KW P start8 (k + 1)))) := hr
                            clear hr
                            go_wp2
                            go_roundw
                            case rel => first | exact ⟨k + 1, by omega, val_i64 HG3.out, HRF.out⟩ | ((repeat apply Exists.intro); refine ⟨?_, rfl⟩; exact ⟨k + 1, by omega, val_i64 HG3.out, HRF.out⟩)
                            case measure => simp [intOf]; have := HNB.out; have := HAT.out; omega
              · clear q_l4a q_l4b q_l5 q_l6
                obtain rfl : k = nb := by omega
                have a4 : ¬ ((64 * k : Nat) : Int) < (vn : Int) := by have := HNB.out; omega
                obtain ⟨at_, hat⟩ : ∃ a, a = 64 * k := ⟨_, rfl⟩
                rw [← hat] at a4 ⊢
                have hst := blocks_ok P k
                generalize hgb : blocks KW P start8 k = st at *
                have HGB : Hid (blocks KW P start8 k = st) := hgb
                clear hgb hat
                have HR : Hid (SmR w wr gm gk gh P (s8L st)) := hr
                clear hr
                go_wp2
                rw [zeros32b]
                have hr2 := HR.out.later (below1 wr (.cells (bytesL (List.replicate 32 0)) 24))
                have hor : Row (wr.alloc (.cells (bytesL (List.replicate 32 0)) 24)) wr.heap.size (bytesL (List.replicate 32 0)) 24 := Row.new _ _ _ rfl
                have hbb : gh < wr.heap.size := HR.out.lh
                generalize wr.alloc (.cells (bytesL (List.replicate 32 0)) 24) = wr1 at *
                generalize wr.heap.size = bb at *
                clear HR
                have htl := tellF_len st
                go_loopw [24] (fun a wr => ∃ i : Nat, i ≤ 32 ∧ a = .int .i64 i ∧ SmR w wr gm gk gh P (s8L st) ∧ Row wr bb (bytesL ((tellF st).take i ++ List.replicate (32 - i) 0)) 24) (fun a _ => 32 - (intOf a).toNat)
                case atStart => exact ⟨0, by omega, rfl, hr2, by simpa using hor⟩
                case round =>
                  clear hr2 hor
                  obtain ⟨i, hi, rfl, hr, hor⟩ := hrel
                  by_cases hi32 : i < 32
                  ·
                    rename_i iq1 iq2 iq3 iq4 iq5 iq6 iq7 iq8 iq9 iq10 iq11 iq12 iq13 iq14 iq15 iq16 iq17 iq18 iq19 iq20 iq21 iq22
                    revert m w hw8 p c n hn hl hl0 hl1 iq1 w1 iq2 u1 v2 u2 B hw1 iq3 iq4 u34 u35 u36 u37 u38 u39 u40 vp iq5 iq6 hz64 v0 v1 HV P1 iq7 iq8 iq9 iq10 iq11 u41 u42 u43 u44 u45 u46 u47 u48 u49 u50 u51 u52 u53 vn vc P hp8 gm hcm HPN iq12 iq13 iq14 iq15 w4 gk ck w5 gh ch hmk hkh hwm q0 q1 c0 iq16 iq17 u9 u10 u11 u12 u13 u14 u15 u16 u17 u18 u19 u20 u21 u22 u56 u57 u58 u59 u60 u61 u62 u63 u64 u65 u66 u67 u68 u69 u70 u71 u72 u73 u74 u75 u76 u77 u78 u79 u80 u81 u82 u83 u84 u85 u86 u87 u88 u89 u90 u91 u92 u93 u94 u95 u96 u97 u98 u99 u100 u101 u102 u103 u104 u105 u106 u107 u108 u109 u110 u111 u112 u113 u114 u115 u116 u117 u118 u119 u120 u121 u122 u123 u124 u125 u126 u127 u128 u129 u130 u131 u132 u133 u134 u135 u136 u137 u138 u139 u140 u141 u142 u143 u144 u145 u146 u147 u148 u149 u150 u151 u152 u153 u154 u155 u156 u157 u158 u159 u160 u161 u162 u163 u164 u165 u166 u167 u168 u169 u170 u171 u172 u173 u174 u175 u176 u177 u178 u179 u180 u181 u182 u183 u184 u185 u186 u187 u188 u189 u190 u191 u192 u193 u194 u195 u196 u197 u198 u199 u200 u201 u202 u203 u204 u205 u206 u207 u208 u209 u210 u211 u212 u213 u214 u215 u216 u217 u218 u219 u220 u221 u222 u223 u224 u225 u226 u227 u228 u229 u230 u231 u232 u233 u234 u235 u236 u237 u238 u239 u240 u241 u242 u243 u244 u245 u246 u247 u248 u249 u250 u251 u252 u253 u254 u255 u256 u257 u258 u259 u260 u261 u262 u263 u264 u265 u266 u267 u268 u269 u270 u271 u272 u273 u274 u275 u276 u277 u278 u279 u280 u281 u282 u283 u284 u285 u286 u287 u288 u289 u290 u291 k HNB hk hlt at_ st HF2 hst HGB iq18 iq19 iq20 iq21 iq22 a4 wr1 bb hbb htl wr u292 u293 u294 u295 u296 u297 u298 u299 u300 u301 u302 u303 u304 u305 u306 u307 u308 u309 i hi hr hor hi32
                    exact q_l7.out
                  · clear q_l7
                    obtain rfl : i = 32 := by omega
                    rw [show ((32 : Nat) : Int) = 32 from rfl]
                    have e : (tellF st).take 32 ++ List.replicate (32 - 32) 0 = tellF st := by simp [List.take_of_length_le (Nat.le_of_eq htl)]
                    rw [e] at hor
                    have hsz : (Tryd.prog.info? 24).map (·.size) = some (bytesL (tellF st)).size := by rw [bytesL_size, htl]; kernel_rfl
                    have hrr := hr.rr
                    have hbel := hr.bel
                    clear hr e
                    generalize hL : tellF st = L at *
                    have HL : Hid (L = tellF st) := hL.symm
                    clear hL
                    go_wp2_with (first | refine wpList_load_row rfl 24 _ rfl bb rfl 24 (bytesL L) (0, 0) _ hor Tryd.underlying24 rfl hsz ?_ | refine wpList_store_row rfl 24 _ _ rfl w.heap.size (bytesL L) rfl rfl 24 _ hrr hsz (by simp [bytesL_size, htl]) (bytesL_one _) ?_)
                    refine bodyPost_ret (v := .agg (bytesL L)) (results_cell_row Tryd.results10 _ _ w.heap.size 24 (bytesL L) (0, 0) _ ?hp ?hg Tryd.underlying24 rfl hsz) rfl ⟨?he, Below.row hbel _ (Nat.le_refl _)⟩
                    case hp => rfl
                    case hg => exact hrr.setRow _
                    case he => rw [HF2.out]
  
end Go.Proofs.YtbbpihdebdknhaaDoor
