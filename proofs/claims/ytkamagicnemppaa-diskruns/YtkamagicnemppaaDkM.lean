
/-
  The walk of DiskReads.
-/
import Derived.Test.YtkamagicnemppaaDkK
namespace Go.Proofs.Ytkamagicnemppaa
open Go.RowKit
set_option maxRecDepth 100000
set_option linter.unusedVariables false
set_option linter.unusedSimpArgs false

/-- What DiskReads holds, behind k calls. -/
def ReadR (w wr : World) (R S R' S' k : Nat) : Prop := ∃ v d v' m, Two w wr R S v d R' S' v' m ∧ d.n = 4 ∧ m.n = 4 ∧ d.armed = false ∧ m.armed = false ∧ d.ws.length = k ∧ d.cnt = k ∧ m.ws.length ≤ k ∧ m.cnt = k ∧ ∀ j, j < 4 → m.cur j = d.cur j
theorem ReadR.later {w wr w' : World} {R S R' S' k : Nat} (h : ReadR w wr R S R' S' k) (hb : Below wr.heap.size wr w') : ReadR w w' R S R' S' k := by
  obtain ⟨v, d, v', m, h1, h2⟩ := h
  exact ⟨v, d, v', m, h1.later hb, h2⟩
set_option maxHeartbeats 4000000 in
theorem reads_walk (u : Value) (L : List CIn) (x : Int) (w : World) (hL : CallsAt w u L) (hx : -9223372036854775808 ≤ x ∧ x ≤ 9223372036854775807) :
    Calls Try.prog 8 #[u, .int .i64 x] w fun e w' => e = .returned (.bool true) ∧ Below w.heap.size w w' := by
  obtain ⟨hlm, pu, cu, rfl, hrows⟩ := id hL.rows
  clear hrows
  unfold maxLen at hlm
  have l0 : (0 : Int) ≤ (L.length : Int) := by omega
  have l1 : (L.length : Int) ≤ 9223372036854775807 := by omega
  go_enter Try.func8, Try.ntmps8
  go_wp2_with (go_at_call 9; refine stop ?_)
  refine (fit_any _).mono ?_
  rintro e w1 ⟨rfl, hb1⟩
  by_cases hlong : 60 < L.length
  · have hlong' : (60 : Int) < (L.length : Int) := by omega
    go_wp2
    go_ret
    exact ⟨rfl, hb1⟩
  · have hlong' : ¬ (60 : Int) < (L.length : Int) := by omega
    go_wp2_with (go_at_call 10; refine stop ?_)
    refine (new_any 4 (by decide) (by decide) w1).mono ?_
    rintro e w2 ⟨R, S, rfl, hd, hb, hR, hS⟩
    have m2 := Mine.new hb1 hd hb hR hS
    clear hd hb hR hS hb1
    go_wp2_with (go_at_call 10; refine stop ?_)
    refine (new_any 4 (by decide) (by decide) w2).mono ?_
    rintro e w3 ⟨R', S', rfl, hd, hb, hR, hS⟩
    have m3 : ReadR w w3 R S R' S' 0 := ⟨_, _, _, _, Two.new m2 hd hb hR hS, rfl, rfl, rfl, rfl, rfl, rfl, Nat.le_refl _, rfl, fun j hj => rfl⟩
    clear hd hb hR hS m2
    go_wp2
    go_loopw [23] (fun i wr => ∃ k : Nat, k ≤ L.length ∧ i = .int .i64 k ∧ ReadR w wr R S R' S' k) (fun i _ => L.length - (intOf i).toNat)
    case atStart => exact ⟨0, Nat.zero_le _, rfl, m3⟩
    case round =>
      clear m3
      obtain ⟨k, hk, rfl, v, d, v', m, hT, h1, h2, h3, h4, h5, h6, h7, h8, h9⟩ := hrel
      by_cases hlt : k < L.length
      · have hlt' : (k : Int) < (L.length : Int) := by omega
        have k0 : (0 : Int) ≤ (k : Int) := by omega
        have k1 : (k : Int) < 64 := by omega
        have hok0 : (L.getD k CIn.none).ok w := by
          obtain ⟨_, _, _, _, _, _, hh⟩ := hL.at hlt
          exact hh
        obtain ⟨b, off, cc, e, hb, hr, hok⟩ := (hL.later hT.a.below).at hlt
        cases e
        generalize L.getD k CIn.none = c at *
        have hci : (Try.prog.info? 32).map (·.size) = some c.cs.toList.length := by kernel_rfl
        have hcj : (Try.prog.info? 32).map (·.size) = some c.cs.size := by kernel_rfl
        have hone : c.cs.all (·.oneCell') = true := by
          obtain ⟨_, _, p, q, e, _⟩ := hok.data
          simp [CIn.cs, e, Value.oneCell']
        go_wp2_with (first | refine wpList_load_mid rfl 32 _ rfl b (off + k * 6) rfl c.cs.toList _ hr Try.underlying32 rfl hci ?_ | (refine wpList_store_row rfl 32 _ _ rfl wr.heap.size c.cs rfl rfl 32 _ (heap_alloc_new wr _) hcj rfl hone ?_; refine stop ?_))
        unfold Stop
        clear hr
        have rg := (Row.new wr #[.int .i64 0, .int .i64 0, .slice none 0 0, .int .u64 0, .int .i64 0, .int .i64 0] 32 rfl).setRow c.cs
        have b2 : Below wr.heap.size wr ((wr.alloc (.cells #[.int .i64 0, .int .i64 0, .slice none 0 0, .int .u64 0, .int .i64 0, .int .i64 0] 32)).setRow wr.heap.size c.cs) := Below.row (below1 wr _) _ (Nat.le_refl _)
        generalize (wr.alloc (.cells #[.int .i64 0, .int .i64 0, .slice none 0 0, .int .u64 0, .int .i64 0, .int .i64 0] 32)).setRow wr.heap.size c.cs = w4 at *
        have hT4 := hT.later b2
        have hdat := hok.data.later b2
        obtain ⟨hd8, hdm, pd, cd, hcv, _⟩ := id hdat
        obtain ⟨a, ha, hae⟩ := and3 c.at0
        have q1 : w4.cell? ⟨wr.heap.size, 1, none⟩ = some (.int .i64 c.at0) := rg.cell 1
        have q2 : w4.cell? ⟨wr.heap.size, 2, none⟩ = some c.v := rg.cell 2
        rw [hcv] at q2 hdat
        unfold maxLen at hdm
        have d0 : (0 : Int) ≤ (c.data.length : Int) := by omega
        have d1 : (c.data.length : Int) ≤ 9223372036854775807 := by omega
        clear hT hok hcj hci hone
        by_cases hbig : 64 < c.data.length
        · have hbig' : (64 : Int) < (c.data.length : Int) := by omega
          go_wp2
          go_ret
          exact ⟨rfl, hT4.a.below⟩
        · have hbig' : ¬ (64 : Int) < (c.data.length : Int) := by omega
          go_wp2_with (go_at_call 12; refine stop ?_)
          refine (write_any a _ c.data _ R S _ _ hT4.a.dk hdat (by omega) (by omega) (down_n h3) (by omega) (by omega)).mono ?_
          rintro e w5 ⟨v5, rfl, hd, hs⟩
          have hT5 := hT4.step hd hs
          have rg5 : Row w5 wr.heap.size c.cs 32 := (hs.far ⟨rg.ne hT4.a.dk.row (by decide), rg.ne hT4.a.dk.sure (by decide), ownN_ne hT4.a.dk.own rg (by decide)⟩ rg.lt).trans rg
          have hdat5 : BytesAt w5 (.slice pd c.data.length cd) c.data := by
            rw [← hcv]
            exact hok0.data.later hT5.a.below
          have q3 : w5.cell? ⟨wr.heap.size, 1, none⟩ = some (.int .i64 c.at0) := rg5.cell 1
          have q4 : w5.cell? ⟨wr.heap.size, 2, none⟩ = some (.slice pd c.data.length cd) := by rw [← hcv]; exact rg5.cell 2
          clear hd hs hT4
          go_wp2_with (go_at_call 12; refine stop ?_)
          refine (write_any a _ c.data _ R' S' _ _ hT5.b.dk hdat5 (by omega) (by omega) (down_n h4) (by omega) (by omega)).mono ?_
          rintro e w6 ⟨v6, rfl, hd6, hs6⟩
          have hT6 := (hT5.swap.step hd6 hs6).swap
          have h96 : ∀ j, j < 4 → (m.put a c.data).cur j = (d.put a c.data).cur j := fun j hj => by rw [put_cur, put_cur, h9 j hj]
          clear hd6 hs6 hT5 rg5 hdat5 q1 q2 q3 q4 rg hdat
          cases hbit : (bits BinOp.and IntKind.i64 (k : Int) 3 == bits BinOp.and IntKind.i64 x 3) with
          | false =>
            have hn : ReadR w w6 R S R' S' (k + 1) := ⟨_, _, _, _, hT6, h1, h2, h3, h4, by simp [Dk.put, h5], by simp [Dk.put, h6], by simp [Dk.put]; omega, by simp [Dk.put, h8], h96⟩
            clear hT6 h96 h1 h2 h3 h4 h5 h6 h7 h8 h9
            go_wp2
            go_loopw [53] (fun i wz => ∃ j : Nat, j ≤ 4 ∧ i = .int .i64 j ∧ ReadR w wz R S R' S' (k + 1)) (fun i _ => 4 - (intOf i).toNat)
            case atStart => exact ⟨0, Nat.zero_le _, rfl, hn⟩
            case round =>
              clear hn
              obtain ⟨j, hj4, rfl, v, d, v', m, hT, h1, h2, h3, h4, h5, h6, h7, h8, h9⟩ := hrel
              by_cases hlt4 : j < 4
              · have hlt4' : (j : Int) < 4 := by omega
                go_wp2_with (go_at_call 20; refine stop ?_)
                refine (read_any j _ R S _ _ hT.a.dk (by omega)).mono ?_
                rintro e w5 ⟨g, rfl, hg, hge, hb⟩
                have hT5 := hT.later hb
                rw [← h9 j hlt4] at hg
                go_wp2_with (go_at_call 20; refine stop ?_)
                refine (read_any j _ R' S' _ _ hT5.b.dk (by omega)).mono ?_
                rintro e w6 ⟨g2, rfl, hg2, hge2, hb2⟩
                have hT6 := hT5.later hb2
                obtain ⟨hl, h88⟩ := hT6.b.dk.ok.cur (k := j) (by omega)
                have hcv1 := conv_str ((hg.later hb2).bytes h88 (by rw [hl]; decide) 64 64 hl.symm)
                have hcv2 := conv_str (hg2.bytes h88 (by rw [hl]; decide) 64 64 hl.symm)
                have hn6 : ReadR w w6 R S R' S' (k + 1) := ⟨v, d, v', m, hT6, h1, h2, h3, h4, h5, h6, h7, h8, h9⟩
                clear hT hT5 hb hb2 hg hg2 hT6
                go_wp2
                go_roundw
                case rel => exact ⟨j + 1, by omega, by go_num, hn6⟩
                case measure => simp [intOf]; omega
              · obtain rfl : j = 4 := by omega
                have hn6 : ReadR w _ R S R' S' (k + 1) := ⟨v, d, v', m, hT, h1, h2, h3, h4, h5, h6, h7, h8, h9⟩
                clear hT h1 h2 h3 h4 h5 h6 h7 h8 h9
                go_wp2
                go_roundw
                case rel => exact ⟨k + 1, by omega, by go_num, hn6⟩
                case measure => simp [intOf]; omega
          | true =>
            go_wp2_with (go_at_call 13; refine stop ?_)
            refine (flush_any _ R' S' _ _ hT6.b.dk (down_n h4)).mono ?_
            rintro e w7 ⟨rfl, hd7, hs7⟩
            have hT7 := (hT6.swap.step hd7 hs7).swap
            have hn : ReadR w w7 R S R' S' (k + 1) := ⟨_, _, _, _, hT7, h1, h2, h3, h4, by simp [Dk.put, h5], by simp [Dk.put, h6], by simp, by simp [Dk.put, h8], fun j hj => (flush_cur hT6.b.dk.ok (show j < m.n by omega)).trans (h96 j hj)⟩
            clear hT6 hT7 hd7 hs7 h96 h1 h2 h3 h4 h5 h6 h7 h8 h9
            go_wp2
            go_loopw [53] (fun i wz => ∃ j : Nat, j ≤ 4 ∧ i = .int .i64 j ∧ ReadR w wz R S R' S' (k + 1)) (fun i _ => 4 - (intOf i).toNat)
            case atStart => exact ⟨0, Nat.zero_le _, rfl, hn⟩
            case round =>
              clear hn
              obtain ⟨j, hj4, rfl, v, d, v', m, hT, h1, h2, h3, h4, h5, h6, h7, h8, h9⟩ := hrel
              by_cases hlt4 : j < 4
              · have hlt4' : (j : Int) < 4 := by omega
                go_wp2_with (go_at_call 20; refine stop ?_)
                refine (read_any j _ R S _ _ hT.a.dk (by omega)).mono ?_
                rintro e w5 ⟨g, rfl, hg, hge, hb⟩
                have hT5 := hT.later hb
                rw [← h9 j hlt4] at hg
                go_wp2_with (go_at_call 20; refine stop ?_)
                refine (read_any j _ R' S' _ _ hT5.b.dk (by omega)).mono ?_
                rintro e w6 ⟨g2, rfl, hg2, hge2, hb2⟩
                have hT6 := hT5.later hb2
                obtain ⟨hl, h88⟩ := hT6.b.dk.ok.cur (k := j) (by omega)
                have hcv1 := conv_str ((hg.later hb2).bytes h88 (by rw [hl]; decide) 64 64 hl.symm)
                have hcv2 := conv_str (hg2.bytes h88 (by rw [hl]; decide) 64 64 hl.symm)
                have hn6 : ReadR w w6 R S R' S' (k + 1) := ⟨v, d, v', m, hT6, h1, h2, h3, h4, h5, h6, h7, h8, h9⟩
                clear hT hT5 hb hb2 hg hg2 hT6
                go_wp2
                go_roundw
                case rel => exact ⟨j + 1, by omega, by go_num, hn6⟩
                case measure => simp [intOf]; omega
              · obtain rfl : j = 4 := by omega
                have hn6 : ReadR w _ R S R' S' (k + 1) := ⟨v, d, v', m, hT, h1, h2, h3, h4, h5, h6, h7, h8, h9⟩
                clear hT h1 h2 h3 h4 h5 h6 h7 h8 h9
                go_wp2
                go_roundw
                case rel => exact ⟨k + 1, by omega, by go_num, hn6⟩
                case measure => simp [intOf]; omega
      · obtain rfl : k = L.length := by omega
        have hnl : ¬ (L.length : Int) < (L.length : Int) := by omega
        go_wp2_with (go_at_call 16; refine stop ?_)
        refine (waits_any _ R S _ _ hT.a.dk).mono ?_
        rintro e w' ⟨rfl, hw'⟩
        obtain rfl := hw'.symm
        rw [h5]
        clear hw'
        go_wp2_with (go_at_call 17; refine stop ?_)
        refine (writes_any _ R S _ _ hT.a.dk).mono ?_
        rintro e w' ⟨rfl, hw'⟩
        obtain rfl := hw'.symm
        rw [h6]
        clear hw'
        go_wp2_with (go_at_call 17; refine stop ?_)
        refine (writes_any _ R' S' _ _ hT.b.dk).mono ?_
        rintro e w' ⟨rfl, hw'⟩
        obtain rfl := hw'.symm
        rw [h8]
        clear hw'
        go_wp2
        go_ret
        exact ⟨rfl, hT.a.below⟩
end Go.Proofs.Ytkamagicnemppaa
