
/-
  package disk: last, Read. For every disk and every number.
-/
import Derived.Test.YtfhaphbfbmpbiaaDkB
namespace Go.Proofs.Ytfhaphbfbmpbiaa
open Go.RowKit
set_option maxRecDepth 100000
set_option linter.unusedVariables false
set_option linter.unusedSimpArgs false

theorem wC_len {n : Nat} : ∀ (ws : List (Nat × List Nat)), (∀ x ∈ ws, WOk n x) → (wC ws).length = 65 * ws.length
  | [], _ => rfl
  | x :: ws, h => by
    have hx := h x (by simp)
    have := wC_len ws (fun y hy => h y (by simp [hy]))
    show ((wr1 x).toList ++ wC ws).length = _
    rw [List.length_append, this, List.length_cons, Array.length_toList, wr1_size hx.len]
    omega
theorem wC_at {n : Nat} : ∀ (ws : List (Nat × List Nat)) (i j : Nat), (∀ x ∈ ws, WOk n x) → i < ws.length → j < 65 → (wC ws)[65 * i + j]? = (wr1 (ws.getD i (0, [])))[j]?
  | [], i, j, _, hi, _ => by simp at hi
  | x :: ws, i, j, h, hi, hj => by
    have hx := h x (by simp)
    have hl : (wr1 x).toList.length = 65 := by rw [Array.length_toList, wr1_size hx.len]
    show ((wr1 x).toList ++ wC ws)[65 * i + j]? = _
    rw [List.getElem?_append, hl]
    cases i with
    | zero => rw [if_pos (by omega), show 65 * 0 + j = j by omega, Array.getElem?_toList]; rfl
    | succ i =>
      rw [if_neg (by omega), show 65 * (i + 1) + j - 65 = 65 * i + j by omega, wC_at ws i j (fun y hy => h y (by simp [hy])) (by simpa using hi) hj]
      rfl
/-- The i-th of what waits, in memory. -/
theorem DkAt.wait {w : World} {R S : Nat} {v : Value} {d : Dk} (h : DkAt w R S v d) {i : Nat} (hi : i < d.ws.length) :
    ∃ g cap, v = .slice (some ⟨g, 0, none⟩) d.ws.length cap ∧ g < w.heap.size ∧ w.rangeAt g (i * 65) (wr1 (d.ws.getD i (0, []))).toList := by
  rw [Nat.mul_comm i 65]
  obtain ⟨_, ⟨rfl, h0⟩ | ⟨g, cap, cur, rfl, hb, hg, h1, h2, h3, h4⟩⟩ := id h.own
  · omega
  · refine ⟨g, cap, rfl, (Array.getElem?_eq_some_iff.1 hg).1, fun j u hu => ?_⟩
    have hx := h.ok.wok (d.ws.getD i (0, [])) (by simp [List.getD, hi])
    have hj : j < 65 := by
      have := (List.getElem?_eq_some_iff.1 hu).1
      rwa [Array.length_toList, wr1_size hx.len] at this
    have hc := h.own.cells (g := g) rfl (65 * i + j) u (by rw [wC_at d.ws i j h.ok.wok hi hj, ← hu, Array.getElem?_toList])
    rwa [Addr.add_lit, Nat.zero_add] at hc
theorem range_head {w : World} {g o : Nat} {x : Nat × List Nat} (h : w.rangeAt g o (wr1 x).toList) : w.cell? ⟨g, o, none⟩ = some (.int .i64 x.1) := h 0 _ rfl
theorem range_data {w : World} {g o : Nat} {x : Nat × List Nat} (h : w.rangeAt g o (wr1 x).toList) : w.rangeAt g (o + 1) (bytesL x.2).toList := by
  intro j u hu
  rw [Nat.add_assoc, Nat.add_comm 1 j]
  exact h (j + 1) u (by simpa [wr1, bytesL] using hu)
theorem sure_sec {w : World} {R S : Nat} {v : Value} {d : Dk} (h : DkAt w R S v d) {k : Nat} (hk : k < d.n) : w.rangeAt S (k * 64) (bytesL (sec d.F k)).toList := by
  rw [Nat.mul_comm k 64]
  intro j u hu
  have hl := sec_len h.ok.fl hk
  have hj : j < 64 := by
    have := (List.getElem?_eq_some_iff.1 hu).1
    rwa [Array.length_toList, bytesL_size, hl] at this
  rw [Array.getElem?_toList, bytesL_at _ _ (by omega)] at hu
  have hF := h.ok.fl
  rw [h.sure.cell, bytesL_at _ _ (by omega), ← hu, sec_getD _ _ _ hj]
theorem curW_take (k : Nat) (s : List Nat) (ws : List (Nat × List Nat)) (i : Nat) (hi : i < ws.length) : curW k s (ws.take (i + 1)) = if (ws.getD i (0, [])).1 = k then (ws.getD i (0, [])).2 else curW k s (ws.take i) := by
  rw [List.take_succ_eq_append_getElem hi, curW_snoc]
  simp [List.getD, hi]
theorem sector_lit : (#[.int .u8 0, .int .u8 0, .int .u8 0, .int .u8 0, .int .u8 0, .int .u8 0, .int .u8 0, .int .u8 0, .int .u8 0, .int .u8 0, .int .u8 0, .int .u8 0, .int .u8 0, .int .u8 0, .int .u8 0, .int .u8 0, .int .u8 0, .int .u8 0, .int .u8 0, .int .u8 0, .int .u8 0, .int .u8 0, .int .u8 0, .int .u8 0, .int .u8 0, .int .u8 0, .int .u8 0, .int .u8 0, .int .u8 0, .int .u8 0, .int .u8 0, .int .u8 0, .int .u8 0, .int .u8 0, .int .u8 0, .int .u8 0, .int .u8 0, .int .u8 0, .int .u8 0, .int .u8 0, .int .u8 0, .int .u8 0, .int .u8 0, .int .u8 0, .int .u8 0, .int .u8 0, .int .u8 0, .int .u8 0, .int .u8 0, .int .u8 0, .int .u8 0, .int .u8 0, .int .u8 0, .int .u8 0, .int .u8 0, .int .u8 0, .int .u8 0, .int .u8 0, .int .u8 0, .int .u8 0, .int .u8 0, .int .u8 0, .int .u8 0, .int .u8 0] : Array Value) = bytesL (zs 64) := rfl
theorem info_sec' {t : List Nat} (h : t.length = 64) : (Try.prog.info? 79).map (·.size) = some (bytesL t).size := by rw [bytesL_size, h]; kernel_rfl
theorem info_sec2 {t : List Nat} (h : t.length = 64) : (Try.prog.info? 79).map (·.size) = some (bytesL t).toList.length := by rw [Array.length_toList]; exact info_sec' h

set_option maxHeartbeats 2000000 in
theorem last_any (k : Nat) (w : World) (R S : Nat) (v : Value) (d : Dk) (h : DkAt w R S v d) (hk : k < d.n) :
    Calls Try.prog 40 #[.pointer (some ⟨R, 0, none⟩), .int .i64 k] w fun e w' => e = .returned (.agg (bytesL (d.cur k))) ∧ Below w.heap.size w w' := by
  have hwl := h.ok.wl
  have hn2 := h.ok.n2
  have hR := h.row.lt
  have hS := h.sure.lt
  obtain ⟨p, nw, c, rfl, hnw⟩ := ownsRow_form h.own
  have w0 : (0 : Int) ≤ (nw : Int) := by omega
  have w1 : (nw : Int) ≤ 1000 := by omega
  have hsec := sec_len h.ok.fl hk
  have hcur := h.ok.cur hk
  go_enter Try.func40, Try.ntmps40
  obtain ⟨c0, c1, c2, c3, c4⟩ := h.cells
  go_wp2
  rw [sector_lit]
  have h1 := h.alloc (.cells (bytesL (zs 64)) 79)
  have r1 : Row (w.alloc (.cells (bytesL (zs 64)) 79)) w.heap.size (bytesL (zs 64)) 79 := Row.new w _ _ rfl
  have b1 := below1 w (.cells (bytesL (zs 64)) 79)
  generalize w.alloc (.cells (bytesL (zs 64)) 79) = wa at *
  clear c0 c1 c2 c3 c4
  obtain ⟨c0, c1, c2, c3, c4⟩ := h1.cells
  go_loopw [5] (fun i wr => ∃ j : Int, -1 ≤ j ∧ j < nw ∧ i = .int .i64 j ∧ wr = wa ∧ Hid (curW k (sec d.F k) (d.ws.take (j + 1).toNat) = d.cur k)) (fun i _ => (intOf i + 1).toNat)
  case atStart => exact ⟨(nw : Int) - 1, by omega, by omega, by rw [hnw], rfl, (show curW k (sec d.F k) (d.ws.take ((nw : Int) - 1 + 1).toNat) = d.cur k by rw [show ((nw : Int) - 1 + 1).toNat = d.ws.length by omega, List.take_length]; rfl)⟩
  case round =>
    obtain ⟨j, j0, j1, rfl, rfl, hj⟩ := hrel
    by_cases hlt : 0 ≤ j
    · obtain ⟨i, rfl⟩ : ∃ i : Nat, j = i := ⟨j.toNat, by omega⟩
      obtain ⟨g, cap, e, hg, hrange⟩ := h1.wait (i := i) (by omega)
      cases e
      have hh := range_head hrange
      have hd := range_data hrange
      have hx := h.ok.wok (d.ws.getD i (0, [])) (by simp only [List.getD]; rw [List.getElem?_eq_getElem (show i < d.ws.length by omega)]; exact List.getElem_mem _)
      rw [show ((i : Int) + 1).toNat = i + 1 by omega] at hj
      have hct := (curW_take k (sec d.F k) d.ws i (by omega)).symm.trans hj.out
      have hxi := info_sec2 hx.len
      have hxj := info_sec' hx.len
      have hxk : (bytesL (zs 64)).size = (bytesL (d.ws.getD i (0, [])).2).size := by rw [bytesL_size, bytesL_size, hx.len, zs_len]
      clear hj hrange hx hcur hsec
      by_cases hat : (d.ws.getD i (0, [])).1 = k
      · rw [if_pos hat] at hct
        rw [hat] at hh
        have HC : Hid ((d.ws.getD i (0, [])).2 = d.cur k) := hct
        clear hat hct
        generalize (d.ws.getD i (0, [])).2 = data at *
        go_wp2_with (first | refine wpList_load_mid rfl 79 _ rfl g (i * 65 + 1) rfl (bytesL data).toList _ hd Try.underlying79 rfl hxi ?_ | refine wpList_store_row rfl 79 _ _ rfl w.heap.size (bytesL data) rfl rfl 79 _ r1 hxj hxk (bytesL_one _) ?_)
        refine bodyPost_ret (v := .agg (bytesL data)) (results_cell_row Try.results40 _ _ w.heap.size 79 (bytesL data) (0, 0) _ ?hp ?hg Try.underlying79 rfl hxj) rfl ⟨by rw [HC.out], Below.row b1 _ (Nat.le_refl _)⟩
        case hp => rfl
        case hg => exact r1.setRow _
      · rw [if_neg hat] at hct
        have hne : ¬ ((d.ws.getD i (0, [])).1 : Int) = (k : Int) := by omega
        have HC : Hid (curW k (sec d.F k) (d.ws.take i) = d.cur k) := hct
        clear hat hct
        generalize (d.ws.getD i (0, [])).1 = at0 at *
        generalize (d.ws.getD i (0, [])).2 = data at *
        go_wp2
        go_roundw
        case rel => exact ⟨(i : Int) - 1, by omega, by omega, by go_num, trivial, by rw [show ((i : Int) - 1 + 1).toNat = i by omega]; exact HC⟩
        case measure => simp [intOf]
    · obtain rfl : j = -1 := by omega
      have HC : Hid (sec d.F k = d.cur k) := hj.out
      have hd := sure_sec h1 hk
      have hxi := info_sec2 hsec
      have hxj := info_sec' hsec
      have hxk : (bytesL (zs 64)).size = (bytesL (sec d.F k)).size := by rw [bytesL_size, bytesL_size, hsec, zs_len]
      have k0 : (0 : Int) ≤ (k : Int) := by omega
      have k1 : (k : Int) < (d.n : Int) := by omega
      clear hj hcur hsec
      generalize sec d.F k = data at *
      go_wp2_with (first | refine wpList_load_mid rfl 79 _ rfl S (k * 64) rfl (bytesL data).toList _ hd Try.underlying79 rfl hxi ?_ | refine wpList_store_row rfl 79 _ _ rfl w.heap.size (bytesL data) rfl rfl 79 _ r1 hxj hxk (bytesL_one _) ?_)
      refine bodyPost_ret (v := .agg (bytesL data)) (results_cell_row Try.results40 _ _ w.heap.size 79 (bytesL data) (0, 0) _ ?hp ?hg Try.underlying79 rfl hxj) rfl ⟨by rw [HC.out], Below.row b1 _ (Nat.le_refl _)⟩
      case hp => rfl
      case hg => exact r1.setRow _

set_option maxHeartbeats 2000000 in
theorem read_any (k : Nat) (w : World) (R S : Nat) (v : Value) (d : Dk) (h : DkAt w R S v d) (hk : k < d.n) :
    Calls Try.prog 21 #[.pointer (some ⟨R, 0, none⟩), .int .i64 k] w fun e w' => ∃ g, e = .returned (.tuple #[.slice (some ⟨g, 0, none⟩) 64 64, .int .i64 0]) ∧ Row w' g (bytesL (d.cur k)) 5 ∧ w.heap.size ≤ g ∧ Below w.heap.size w w' := by
  obtain ⟨hl, h8⟩ := h.ok.cur hk
  have hdec : (decide ((0 : Int) ≤ (k : Int) ∧ (k : Int) < (d.n : Int))) = true := by simp; omega
  go_enter Try.func21, Try.ntmps21
  go_wp2_with (go_at_call 38; refine stop ?_)
  refine (has_any k w R S v d h).mono ?_
  rintro e w' ⟨rfl, hw'⟩
  obtain rfl := hw'.symm
  rw [hdec]
  go_wp2_with (go_at_call 40; refine stop ?_)
  refine (last_any k _ R S v d h hk).mono ?_
  rintro e w1 ⟨rfl, b1⟩
  have hxi := info_sec' hl
  have hxk : (bytesL (zs 64)).size = (bytesL (d.cur k)).size := by rw [bytesL_size, bytesL_size, hl, zs_len]
  have HL : Hid ((d.cur k).length = 64) := hl
  clear hl h
  generalize hq : d.cur k = data at *
  have HD : Hid (d.cur k = data) := hq
  clear hq
  have hs := b1.size
  go_wp2_with (first | (refine wpList_store_row rfl 79 _ _ rfl w1.heap.size (bytesL data) rfl rfl 79 _ (heap_alloc_new w1 _) hxi hxk (bytesL_one _) ?_; refine stop ?_))
  rw [sector_lit]
  unfold Stop
  have rg := (Row.new w1 (bytesL (zs 64)) 79 rfl).setRow (bytesL data)
  have b2 : Below w1.heap.size w1 ((w1.alloc (.cells (bytesL (zs 64)) 79)).setRow w1.heap.size (bytesL data)) := Below.row (below1 w1 _) _ (Nat.le_refl _)
  generalize (w1.alloc (.cells (bytesL (zs 64)) 79)).setRow w1.heap.size (bytesL data) = w2 at *
  have hm : (Instr.makeSlice 31 (.int .i64 64) (.int .i64 64)).run Try.prog w2 = .ok (.slice (some ⟨w2.heap.size, 0, none⟩) 64 64) (w2.alloc (.cells (bytesL (zs 64)) 5)) := make_bytes 64 (by decide) w2
  have r3 : Row (w2.alloc (.cells (bytesL (zs 64)) 5)) w2.heap.size (bytesL (zs 64)) 5 := Row.new w2 _ _ rfl
  have rg3 := rg.alloc (.cells (bytesL (zs 64)) 5)
  have b3 := below1 w2 (.cells (bytesL (zs 64)) 5)
  have hs2 := b2.size
  have hcs : (data.map fun x : Nat => Value.int .u8 (x : Int)).length = 64 := by rw [List.length_map, HL.out]
  have hrun := run_copy_row (P := Try.prog) (w2.alloc (.cells (bytesL (zs 64)) 5)) 31 31 3 5 w2.heap.size 0 64 64 ⟨w1.heap.size, 0, none⟩ 64 64 (bytesL (zs 64)) 5 (data.map fun x : Nat => Value.int .u8 (x : Int)) under_bytes info_byte r3 (by rw [hcs]; rfl) (fun j v hj => by
      rw [Addr.add_lit, Nat.zero_add, rg3.cell, ← hj]
      simp [bytesL]) (by rw [hcs, bytesL_size, zs_len]; decide) (fun v hv => by
      obtain ⟨x, _, rfl⟩ := List.mem_map.1 hv
      rfl)
  have ecs : ((bytesL (zs 64)).toList.take 0 ++ (data.map fun x : Nat => Value.int .u8 (x : Int)) ++ (bytesL (zs 64)).toList.drop (0 + (data.map fun x : Nat => Value.int .u8 (x : Int)).length)).toArray = bytesL data := by
    rw [hcs, List.drop_of_length_le (by simp [bytesL, zs_len])]
    simp [bytesL]
  rw [ecs] at hrun
  have r4 := r3.setRow (bytesL data)
  have b4 : Below w2.heap.size w2 ((w2.alloc (.cells (bytesL (zs 64)) 5)).setRow w2.heap.size (bytesL data)) := Below.row b3 _ (Nat.le_refl _)
  have bb : Below w.heap.size w ((w2.alloc (.cells (bytesL (zs 64)) 5)).setRow w2.heap.size (bytesL data)) := (b1.trans (b2.mono hs)).trans (b4.mono (Nat.le_trans hs hs2))
  clear ecs b4 b3 b2 b1 r3 rg rg3 hcs hxi hxk
  go_wp2_with (at_builtin; refine Lib.wpList_copy_run _ rfl _ _ _ _ rfl _ _ rfl rfl hrun ?_)
  go_ret2
  exact ⟨_, rfl, by rw [HD.out]; exact r4, Nat.le_trans hs hs2, bb⟩

set_option maxHeartbeats 1000000 in
theorem read_bad (k : Int) (w : World) (R S : Nat) (v : Value) (d : Dk) (h : DkAt w R S v d) (hk : ¬ (0 ≤ k ∧ k < d.n)) :
    Calls Try.prog 21 #[.pointer (some ⟨R, 0, none⟩), .int .i64 k] w fun e w' => e = .returned (.tuple #[.slice none 0 0, .int .i64 5]) ∧ w' = w := by
  have hdec : (decide ((0 : Int) ≤ k ∧ k < (d.n : Int))) = false := by simp; omega
  go_enter Try.func21, Try.ntmps21
  go_wp2_with (go_at_call 38; refine stop ?_)
  refine (has_any k w R S v d h).mono ?_
  rintro e w' ⟨rfl, hw'⟩
  obtain rfl := hw'.symm
  rw [hdec]
  go_wp2
  go_ret2
  exact ⟨rfl, rfl⟩
end Go.Proofs.Ytfhaphbfbmpbiaa
