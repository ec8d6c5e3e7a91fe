
/-
  package wal: wipe. For disks within Dk.Ok's bounds (up to 4096 sectors, 1000 writes that wait); wipe and Open also ask that fewer than 1000 writes wait on the way.
-/
import Derived.Test.YtfhaphbfbmpbiaaWaB
namespace Go.Proofs.Ytfhaphbfbmpbiaa
open Go.RowKit
set_option maxRecDepth 100000
set_option linter.unusedVariables false
set_option linter.unusedSimpArgs false
/-- Behind k sectors from f on: what isn't zeros is written zeros. -/
def wipeN (Z : List (List Nat)) (d : Dk) (f : Nat) : Nat → Dk
  | 0 => d
  | k + 1 => if blank (Z.getD (f + k) []) then wipeN Z d f k else (wipeN Z d f k).put (f + k) []
def Dk.flushed (d : Dk) : Dk := { d with F := setl (fun _ => 64) d.F d.ws, ws := [] }
theorem wipeN_n (Z : List (List Nat)) (d : Dk) (f : Nat) : ∀ k, (wipeN Z d f k).n = d.n
  | 0 => rfl
  | k + 1 => by
    unfold wipeN
    split
    · exact wipeN_n Z d f k
    · exact wipeN_n Z d f k
theorem wipeN_yes {Z : List (List Nat)} {d : Dk} {f k : Nat} (h : blank (Z.getD (f + k) []) = true) : wipeN Z d f (k + 1) = wipeN Z d f k := by show (if _ then _ else _) = _; rw [if_pos h]
theorem wipeN_no {Z : List (List Nat)} {d : Dk} {f k : Nat} (h : blank (Z.getD (f + k) []) = false) : wipeN Z d f (k + 1) = (wipeN Z d f k).put (f + k) [] := by show (if _ then _ else _) = _; rw [if_neg (by rw [h]; decide)]
/-- Sectors in memory are left alone by what is done on a disk that lies elsewhere. -/
theorem SecsAt.step {w w' : World} {base R S : Nat} {v v' u : Value} {Z : List (Nat × List Nat)} (h : SecsAt w base u Z) (hs : DStep w w' R S v v') (hR : R < base) (hS : S < base) (hv : ∀ k, v.ownBlock = some k → k < base) : SecsAt w' base u Z := by
  have keep : ∀ k, base ≤ k → k < w.heap.size → w'.heap[k]? = w.heap[k]? := fun k h1 h2 => hs.block k h2 (by omega) (by omega) (fun e => by have := hv k e; omega)
  refine ⟨ownsRow_keep h.own fun k h1 h2 _ => keep k h1 h2, fun x hx => ?_⟩
  obtain ⟨h1, h2, h3⟩ := h.row x hx
  exact ⟨h1, (keep _ h1 h2.lt).trans h2, h3⟩
/-- What wipe's loop holds behind k sectors. -/
def WipeR (w wr : World) (R S : Nat) (v : Value) (Z : List (List Nat)) (d : Dk) (f k : Nat) : Prop := ∃ vk, DkAt wr R S vk (wipeN Z d f k) ∧ DStep w wr R S v vk
/-- What wipe leaves. -/
def WipeQ (w : World) (R S : Nat) (v : Value) (Z : List (List Nat)) (d : Dk) (f : Nat) (e : Ending) (w' : World) : Prop :=
  ∃ v' d', DkAt w' R S v' d' ∧ DStep w w' R S v v' ∧ (e = .returned (.int .i64 0) ∧ d' = (wipeN Z d f (d.n - f)).flushed ∧ (wipeN Z d f (d.n - f)).down = false ∨ e = .returned (.int .i64 4) ∧ d'.down = true ∧ ∃ k, k ≤ d.n - f ∧ d' = wipeN Z d f k)
theorem map_getD (Z : List (Nat × List Nat)) (i : Nat) (hi : i < Z.length) : (Z.map (·.2)).getD i [] = (Z.getD i (0, [])).2 := by simp [List.getD, hi]

set_option maxHeartbeats 4000000 in
theorem wipe_any (w : World) (R S base : Nat) (v u : Value) (d : Dk) (Z : List (Nat × List Nat)) (f : Nat) (h : DkAt w R S v d) (hZ : SecsAt w base u Z) (hl : Z.length = d.n) (hf : f ≤ d.n) (hR : R < base) (hS : S < base) (hv : ∀ k, v.ownBlock = some k → k < base)
    (hw : ∀ k, k ≤ d.n - f → (wipeN (Z.map (·.2)) d f k).ws.length < 1000 ∧ (wipeN (Z.map (·.2)) d f k).cnt < 1000000) :
    Calls Try.prog 31 #[.pointer (some ⟨R, 0, none⟩), u, .int .i64 f] w (WipeQ w R S v (Z.map (·.2)) d f) := by
  have hn2 := h.ok.n2
  have n0 : (0 : Int) ≤ (d.n : Int) := by omega
  have n1 : (d.n : Int) ≤ 4096 := by omega
  obtain ⟨p, n, c, hu, hn⟩ := ownsRow_form hZ.own
  have HL : Hid (Z.length = d.n) := hl
  have hn' : n = d.n := hn.trans hl
  subst hu hn'
  clear hn hl
  go_enter Try.func31, Try.ntmps31
  go_wp2
  go_loopw [7] (fun i wr => ∃ k : Nat, k ≤ d.n - f ∧ i = .int .i64 (f + k : Nat) ∧ WipeR w wr R S v (Z.map (·.2)) d f k) (fun i _ => d.n - (intOf i).toNat)
  case atStart => exact ⟨0, Nat.zero_le _, rfl, v, h, DStep.refl _ _ _ _⟩
  case round =>
    obtain ⟨k, hk, rfl, vk, hD, hs⟩ := hrel
    by_cases hlt : f + k < d.n
    · have k1 : ((f + k : Nat) : Int) < (d.n : Int) := by omega
      have k0 : (0 : Int) ≤ ((f + k : Nat) : Int) := by omega
      obtain ⟨g, cap, b, s, e, hg, hzs, hrow, hsec, _, _, c0, c1, c2, c3⟩ := (hZ.step hs hR hS hv).cells (i := f + k) (by rw [HL.out]; exact hlt)
      rw [HL.out] at e
      cases e
      have hbk : blank ((Z.map (·.2)).getD (f + k) []) = blank s := by rw [map_getD Z _ (by rw [HL.out]; exact hlt), hzs.out]
      obtain ⟨hw1, hw2⟩ := hw k hk
      clear hzs hrow hsec c0 c1 c2
      cases hbl : blank s with
      | true =>
        rw [hbl] at hbk c3
        have HR : WipeR w wr R S v (Z.map (·.2)) d f (k + 1) := ⟨vk, by rw [wipeN_yes hbk]; exact hD, hs⟩
        clear hbk hD hs
        generalize hfk : f + k = fk at *
        go_wp2
        go_roundw
        case rel => exact ⟨k + 1, by omega, by rw [show f + (k + 1) = fk + 1 by omega]; go_num, HR⟩
        case measure => simp [intOf]; omega
      | false =>
        rw [hbl] at hbk c3
        have hsu := wipeN_no (d := d) hbk
        have hnn : f + k < (wipeN (Z.map (·.2)) d f k).n := by rw [wipeN_n]; exact hlt
        have HS : Hid (wipeN (Z.map (·.2)) d f (k + 1) = (wipeN (Z.map (·.2)) d f k).put (f + k) []) := hsu
        have HK : Hid (k ≤ d.n - f) := hk
        clear hsu hbk
        generalize hfk : f + k = fk at *
        have HF : Hid (f + k = fk) := hfk
        clear hfk
        cases hdn : (wipeN (Z.map (·.2)) d f k).down with
        | true =>
          go_wp2_with (go_at_call 19; refine stop ?_)
          refine (write_down fk _ [] wr R S vk _ hD (BytesAt.nil _) hnn (by decide) hdn).mono ?_
          rintro e w1 ⟨rfl, hw1⟩
          obtain rfl := hw1.symm
          clear hw1
          go_wp2
          go_ret
          exact ⟨vk, _, hD, hs, Or.inr ⟨rfl, hdn, k, HK.out, rfl⟩⟩
        | false =>
          go_wp2_with (go_at_call 19; refine stop ?_)
          refine (write_any fk _ [] wr R S vk _ hD (BytesAt.nil _) hnn (by decide) hdn hw1 hw2).mono ?_
          rintro e w1 ⟨v1, rfl, hD1, hs1⟩
          have HR : WipeR w w1 R S v (Z.map (·.2)) d f (k + 1) := ⟨v1, by rw [HS.out]; exact hD1, hs.trans hs1⟩
          clear hD1 hs1 hD hs
          go_wp2
          go_roundw
          case rel => exact ⟨k + 1, by have := HF.out; omega, by rw [show f + (k + 1) = fk + 1 by have := HF.out; omega]; go_num, HR⟩
          case measure => simp [intOf]; omega
    · obtain ⟨rfl, hfk⟩ : k = d.n - f ∧ f + k = d.n := by omega
      rw [hfk]
      clear hfk
      cases hdn : (wipeN (Z.map (·.2)) d f (d.n - f)).down with
      | true =>
        go_wp2_with (go_at_call 20; refine stop ?_)
        refine (flush_down wr R S vk _ hD hdn).mono ?_
        rintro e w1 ⟨rfl, hw1⟩
        obtain rfl := hw1.symm
        clear hw1
        go_wp2
        go_ret
        exact ⟨vk, _, hD, hs, Or.inr ⟨rfl, hdn, _, Nat.le_refl _, rfl⟩⟩
      | false =>
        go_wp2_with (go_at_call 20; refine stop ?_)
        refine (flush_any wr R S vk _ hD hdn).mono ?_
        rintro e w1 ⟨rfl, hD1, hs1⟩
        go_wp2
        go_ret
        exact ⟨_, _, hD1, hs.trans hs1, Or.inl ⟨rfl, rfl, hdn⟩⟩
end Go.Proofs.Ytfhaphbfbmpbiaa
