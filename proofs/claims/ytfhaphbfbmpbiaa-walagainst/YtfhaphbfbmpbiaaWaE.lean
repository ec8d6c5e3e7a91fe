
/-
  package wal: Open, Len, End. For disks within Dk.Ok's bounds (up to 4096 sectors, 1000 writes that wait); wipe and Open also ask that fewer than 1000 writes wait on the way.
-/
import Derived.Test.YtfhaphbfbmpbiaaWaD
namespace Go.Proofs.Ytfhaphbfbmpbiaa
open Go.RowKit
set_option maxRecDepth 100000
set_option linter.unusedVariables false
set_option linter.unusedSimpArgs false

theorem LogAt.step {w w' : World} {base R S : Nat} {v v' u : Value} {L : List (List Nat)} (h : LogAt w base u L) (hs : DStep w w' R S v v') (hR : R < base) (hS : S < base) (hv : ∀ k, v.ownBlock = some k → k < base) : LogAt w' base u L := by
  have keep : ∀ k, base ≤ k → k < w.heap.size → w'.heap[k]? = w.heap[k]? := fun k h1 h2 => hs.block k h2 (by omega) (by omega) (fun e => by have := hv k e; omega)
  obtain ⟨⟨vs, h1, h2, h3⟩, h4⟩ := h
  exact ⟨⟨vs, ownsRow_keep h1 fun k h1 h2 _ => keep k h1 h2, h2, fun i hi => ownsRow_keep (h3 i hi) fun k h1 h2 _ => keep k h1 h2⟩, h4⟩
theorem LogAt.base {w : World} {base base' : Nat} {u : Value} {L : List (List Nat)} (h : LogAt w base u L) (hb : base' ≤ base) : LogAt w base' u L := by
  obtain ⟨⟨vs, h1, h2, h3⟩, h4⟩ := h
  have mono : ∀ (e : TypeId) (v : Value) (n : Nat) (xs : List Value), w.ownsRow base e 1 v n xs → w.ownsRow base' e 1 v n xs := fun e v n xs hx =>
    ⟨hx.1, hx.2.imp id fun ⟨g, cap, cur, e, h1, h2⟩ => ⟨g, cap, cur, e, Nat.le_trans hb h1, h2⟩⟩
  exact ⟨⟨vs, mono _ _ _ _ h1, h2, fun i hi => mono _ _ _ _ (h3 i hi)⟩, h4⟩
/-- A log in memory. -/
def walV (R cnt fin st : Nat) : Array Value := #[.pointer (some ⟨R, 0, none⟩), .int .i64 (cnt : Nat), .int .i64 (fin : Nat), .int .i64 (st : Nat)]
/-- What Open leaves. -/
def OpenQ (w : World) (R S : Nat) (v : Value) (d : Dk) (e : Ending) (w' : World) : Prop :=
  ∃ L n v' d', Rl (d.curs d.n) [] 0 L n ∧ n ≤ d.n ∧ DkAt w' R S v' d' ∧ DStep w w' R S v v' ∧
    ((∃ W u, e = .returned (.tuple #[.pointer (some ⟨W, 0, none⟩), u, .int .i64 0]) ∧ Row w' W (walV R L.length n (great (d.curs d.n))) 75 ∧ w.heap.size ≤ W ∧ LogAt w' w.heap.size u L ∧ d' = (wipeN (d.curs d.n) d n (d.n - n)).flushed ∧ (wipeN (d.curs d.n) d n (d.n - n)).down = false) ∨
     (e = .returned (.tuple #[.pointer none, .slice none 0 0, .int .i64 4]) ∧ d'.down = true ∧ ∃ k, k ≤ d.n - n ∧ d' = wipeN (d.curs d.n) d n k))

set_option maxHeartbeats 4000000 in
theorem open_any (w : World) (R S : Nat) (v : Value) (d : Dk) (h : DkAt w R S v d)
    (hw : ∀ L e, Rl (d.curs d.n) [] 0 L e → ∀ k, k ≤ d.n - e → (wipeN (d.curs d.n) d e k).ws.length < 1000 ∧ (wipeN (d.curs d.n) d e k).cnt < 1000000) :
    Calls Try.prog 12 #[.pointer (some ⟨R, 0, none⟩)] w (OpenQ w R S v d) := by
  have HW := (show Hid _ from hw)
  clear hw
  have hRl := h.row.lt
  have hSl := h.sure.lt
  have hvl : ∀ k, v.ownBlock = some k → k < w.heap.size := fun k hk => h.vlt hk
  have hn2 := h.ok.n2
  go_enter Try.func12, Try.ntmps12
  go_wp2_with (go_at_call 29; refine stop ?_)
  refine (readAll_any w R S v d h).mono ?_
  rintro e w1 ⟨u1, rfl, Z, hZ, hZd, hb1⟩
  have hZl : Z.length = d.n := by have := congrArg List.length hZd; rwa [List.length_map, Dk.curs_len] at this
  have h1 := h.later hb1
  go_wp2_with (go_at_call 30; refine stop ?_)
  refine (readLog_any w1 w.heap.size u1 Z hZ (by omega)).mono ?_
  rintro e w2 ⟨u2, L, n, rfl, hL, hb2, hn, hLn, hRL⟩
  rw [hZd] at hRL hn
  rw [Dk.curs_len] at hn
  have hZ2 := hZ.later hb2
  have h2 := h1.later hb2
  have hB2 := hb1.trans (hb2.mono hb1.size)
  clear h1 hZ hb2
  go_wp2_with (go_at_call 31; refine stop ?_)
  refine (wipe_any w2 R S w.heap.size v u1 d Z n h2 hZ2 hZl hn hRl hSl hvl (by rw [hZd]; exact HW.out L n hRL)).mono ?_
  rintro e w3 ⟨v3, d3, hD3, hs3, hcase⟩
  rw [hZd] at hcase
  have hs4 := (DStep.of hB2 R S v).trans hs3
  rcases hcase with ⟨rfl, hd3, hnd⟩ | ⟨rfl, hdn, k, hk, hd3⟩
  · have hZ3 := hZ2.step hs3 hRl hSl hvl
    have hL3 := (hL.step hs3 (Nat.lt_of_lt_of_le hRl hb1.size) (Nat.lt_of_lt_of_le hSl hb1.size) (fun k hk => Nat.lt_of_lt_of_le (hvl k hk) hb1.size)).base hb1.size
    obtain ⟨pu, nu, cu, hu2, hnu⟩ := hL.form
    subst hu2 hnu
    have l1 : (L.length : Int) ≤ 4096 := by omega
    have l0 : (0 : Int) ≤ (L.length : Int) := by omega
    clear hZ2 hL h2 hs3
    go_wp2_with (go_at_call 32; refine stop ?_)
    refine (greatest_any w3 w.heap.size u1 Z hZ3 (by omega)).mono ?_
    rintro e w5 ⟨rfl, hb5⟩
    rw [hZd]
    have hD5 := hD3.later hb5
    have hs5 := hs4.trans (DStep.of hb5 R S v3)
    have hL5 := hL3.later hb5
    generalize hgr : great (d.curs d.n) = gr at *
    have HGR := (show Hid _ from hgr)
    clear hgr hD3 hs4 hL3 hZ3
    have hbz := below1 w5 (.cells (walV R L.length n gr) 75)
    have hQ : OpenQ w R S v d (.returned (.tuple #[.pointer (some ⟨w5.heap.size, 0, none⟩), .slice pu L.length cu, .int .i64 0])) (w5.alloc (.cells (walV R L.length n gr) 75)) :=
      ⟨L, n, v3, d3, hRL, hn, hD5.later hbz, hs5.trans (DStep.of hbz R S v3), Or.inl ⟨w5.heap.size, _, rfl, by rw [HGR.out]; exact Row.new w5 _ _ rfl, hs5.size, hL5.later hbz, hd3, hnd⟩⟩
    unfold walV at hQ
    clear hbz hL5 hs5 hD5
    have HQ := (show Hid _ from hQ)
    clear hQ
    go_wp2
    exact bodyPost_ret (v := .tuple #[.pointer (some ⟨w5.heap.size, 0, none⟩), .slice pu L.length cu, .int .i64 0]) (by simp [results, Try.results12, go_sem]) rfl HQ.out
  · clear hZ2 hL h2 hs3
    go_wp2
    exact bodyPost_ret (v := .tuple #[.pointer none, .slice none 0 0, .int .i64 4]) (by simp [results, Try.results12, go_sem]) rfl ⟨L, n, v3, d3, hRL, hn, hD3, hs4, Or.inr ⟨rfl, hdn, k, hk, hd3⟩⟩
end Go.Proofs.Ytfhaphbfbmpbiaa
