
/-
  Two disks beside one another; the walk of DiskLost.
-/
import Derived.Test.YtkamagicnemppaaDkJ
import Derived.Test.YtkamagicnemppaaDkCa
namespace Go.Proofs.Ytkamagicnemppaa
open Go.RowKit
set_option maxRecDepth 100000
set_option linter.unusedVariables false
set_option linter.unusedSimpArgs false

/-- Two disks that the call made. -/
structure Two (w0 w : World) (R S : Nat) (v : Value) (d : Dk) (R' S' : Nat) (v' : Value) (d' : Dk) : Prop where
  a : Mine w0 w R S v d
  b : Mine w0 w R' S' v' d'
  r : R ≠ R'
  s : S ≠ S'
  v : ∀ k, v.ownBlock = some k → v'.ownBlock ≠ some k
theorem Two.swap {w0 w : World} {R S : Nat} {v : Value} {d : Dk} {R' S' : Nat} {v' : Value} {d' : Dk} (h : Two w0 w R S v d R' S' v' d') : Two w0 w R' S' v' d' R S v d := ⟨h.b, h.a, h.r.symm, h.s.symm, fun k h1 h2 => h.v k h2 h1⟩
theorem Two.step {w0 w w' : World} {R S : Nat} {v v1 : Value} {d d1 : Dk} {R' S' : Nat} {v' : Value} {d' : Dk} (h : Two w0 w R S v d R' S' v' d') (hd : DkAt w' R S v1 d1) (hs : DStep w w' R S v v1) : Two w0 w' R S v1 d1 R' S' v' d' := by
  have f1 : DFar R S v R' := ⟨h.r.symm, h.b.dk.row.ne h.a.dk.sure (by decide), ownN_ne h.a.dk.own h.b.dk.row (by decide)⟩
  have f2 : DFar R S v S' := ⟨h.b.dk.sure.ne h.a.dk.row (by decide), h.s.symm, ownN_ne h.a.dk.own h.b.dk.sure (by decide)⟩
  have f3 : ∀ k, v'.ownBlock = some k → DFar R S v k := fun k hk => ⟨fun e => ownN_ne h.b.dk.own h.a.dk.row (by decide) (e ▸ hk), fun e => ownN_ne h.b.dk.own h.a.dk.sure (by decide) (e ▸ hk), fun e => h.v k e hk⟩
  have hm := h.a.step hd hs
  refine ⟨hm, ⟨h.b.dk.keep (hs.far f1 h.b.dk.row.lt) (hs.far f2 h.b.dk.sure.lt) (fun k hk => hs.far (f3 k hk) (h.b.dk.vlt hk)), hm.below, h.b.hR, h.b.hS, h.b.hv⟩, h.r, h.s, fun k h1 h2 => ?_⟩
  rcases hs.moved k h1 with e | e
  · exact h.v k e h2
  · have := h.b.dk.vlt h2; omega
theorem Two.later {w0 w w' : World} {R S : Nat} {v : Value} {d : Dk} {R' S' : Nat} {v' : Value} {d' : Dk} (h : Two w0 w R S v d R' S' v' d') (hb : Below w.heap.size w w') : Two w0 w' R S v d R' S' v' d' := ⟨h.a.later hb, h.b.later hb, h.r, h.s, h.v⟩
theorem Two.new {w0 w w' : World} {R S n : Nat} {d : Dk} {v : Value} {R' S' : Nat} (h : Mine w0 w R S v d) (hd : DkAt w' R' S' (.slice none 0 0) (Dk.new n)) (hb : Below w.heap.size w w') (hR : w.heap.size ≤ R') (hS : w.heap.size ≤ S') : Two w0 w' R S v d R' S' (.slice none 0 0) (Dk.new n) :=
  ⟨h.later hb, Mine.new h.below hd hb hR hS, by have := h.dk.row.lt; omega, by have := h.dk.sure.lt; omega, fun k _ h2 => by cases h2⟩

theorem setl_snoc (f : Nat → Nat) (F : List Nat) (ws : List (Nat × List Nat)) (x : Nat × List Nat) : setl f F (ws ++ [x]) = settle (setl f F ws) x.1 x.2 (f ws.length) := by
  unfold setl
  rw [List.zipIdx_append, List.foldl_append]
  simp
theorem setl_len {n : Nat} (f : Nat → Nat) (hf : ∀ i, f i ≤ 64) {F : List Nat} (hF : F.length = 64 * n) {ws : List (Nat × List Nat)} (hw : ∀ x ∈ ws, WOk n x) : (setl f F ws).length = 64 * n := by
  have : ∀ (ws : List (Nat × List Nat)) (i : Nat) (F : List Nat), F.length = 64 * n → (∀ x ∈ ws, WOk n x) → ((ws.zipIdx i).foldl (fun F x => settle F x.1.1 x.1.2 (f x.2)) F).length = 64 * n := by
    intro ws
    induction ws with
    | nil => intro i F h _; exact h
    | cons x ws ih =>
      intro i F h hw
      have hx := hw x (by simp)
      rw [List.zipIdx_cons, List.foldl_cons]
      exact ih _ _ (settle_len h hx.lt hx.len (hf _)) (fun y hy => hw y (by simp [hy]))
  exact this ws 0 F hF hw
/-- What DiskLost holds, behind k calls. -/
def LostR (w wr : World) (mask : Nat) (R S R' S' k : Nat) : Prop := ∃ v d v' m, Two w wr R S v d R' S' v' m ∧ d.n = 8 ∧ m.n = 8 ∧ d.armed = false ∧ m.armed = false ∧ d.ws.length = k ∧ d.cnt = k ∧ m.ws.length ≤ k ∧ m.cnt ≤ k ∧ ∀ j, j < 8 → m.cur j = sec (setl (kept mask (-1) 0) d.F d.ws) j
theorem LostR.later {w wr w' : World} {mask R S R' S' k : Nat} (h : LostR w wr mask R S R' S' k) (hb : Below wr.heap.size wr w') : LostR w w' mask R S R' S' k := by
  obtain ⟨v, d, v', m, h1, h2⟩ := h
  exact ⟨v, d, v', m, h1.later hb, h2⟩
/-- One more call, whose bit is 1. -/
theorem lost_one {mask k : Nat} {d m : Dk} (hd : d.Ok) (hm : m.Ok) (h8 : d.n = 8) (hk : d.ws.length = k) (hk6 : k < 64) (hbit : ¬ mask / 2 ^ k % 2 = 0) {a : Nat} (ha : a < 8) {b : List Nat} (hb : b.length ≤ 64) (h : ∀ j, j < 8 → m.cur j = sec (setl (kept mask (-1) 0) d.F d.ws) j) :
    ∀ j, j < 8 → (m.put a b).cur j = sec (setl (kept mask (-1) 0) (d.put a b).F (d.put a b).ws) j := by
  intro j hj
  show _ = sec (setl (kept mask (-1) 0) d.F (d.ws ++ [(a, pad b)])) j
  have hl : (setl (kept mask (-1) 0) d.F d.ws).length = 64 * 8 := setl_len _ (fun i => kept_le _ _ _ i) (h8 ▸ hd.fl) (fun x hx => h8 ▸ hd.wok x hx)
  have hkp : kept mask (-1) 0 d.ws.length = 64 := by
    unfold kept
    rw [hk, Nat.mod_eq_of_lt hk6, if_neg hbit, if_neg (by omega)]
  rw [setl_snoc, hkp, sec_settle (n := 8) hl ha (pad_len hb) (Nat.le_refl 64) j hj, put_cur, h j hj]
  by_cases e : j = a
  · rw [if_pos e, if_pos e.symm, List.take_of_length_le (Nat.le_of_eq (pad_len hb)), List.drop_of_length_le (Nat.le_of_eq (sec_len (n := 8) hl ha)), List.append_nil]
  · rw [if_neg e, if_neg (fun x => e x.symm)]
theorem lost_none {mask k : Nat} {d m : Dk} (hk : d.ws.length = k) (hk6 : k < 64) (hbit : mask / 2 ^ k % 2 = 0) {a : Nat} {b : List Nat} (h : ∀ j, j < 8 → m.cur j = sec (setl (kept mask (-1) 0) d.F d.ws) j) :
    ∀ j, j < 8 → m.cur j = sec (setl (kept mask (-1) 0) (d.put a b).F (d.put a b).ws) j := by
  intro j hj
  show _ = sec (setl (kept mask (-1) 0) d.F (d.ws ++ [(a, pad b)])) j
  have hkp : kept mask (-1) 0 d.ws.length = 0 := by
    unfold kept
    rw [hk, Nat.mod_eq_of_lt hk6, if_pos hbit]
  rw [setl_snoc, hkp, settle_zero]
  exact h j hj

set_option maxHeartbeats 4000000 in
theorem lost_walk (u : Value) (L : List CIn) (mask : Nat) (w : World) (hL : CallsAt w u L) (hmask : mask < 2 ^ 64) :
    Calls Try.prog 6 #[u, .int .u64 mask] w fun e w' => e = .returned (.bool true) ∧ Below w.heap.size w w' := by
  obtain ⟨hlm, pu, cu, rfl, hrows⟩ := id hL.rows
  clear hrows
  unfold maxLen at hlm
  have l0 : (0 : Int) ≤ (L.length : Int) := by omega
  have l1 : (L.length : Int) ≤ 9223372036854775807 := by omega
  go_enter Try.func6, Try.ntmps6
  go_wp2_with (go_at_call 9; refine stop ?_)
  refine (fit_any _).mono ?_
  rintro e w1 ⟨rfl, hb1⟩
  by_cases hlong : 64 < L.length
  · have hlong' : (64 : Int) < (L.length : Int) := by omega
    go_wp2
    go_ret
    exact ⟨rfl, hb1⟩
  · have hlong' : ¬ (64 : Int) < (L.length : Int) := by omega
    go_wp2_with (go_at_call 10; refine stop ?_)
    refine (new_any 8 (by decide) (by decide) w1).mono ?_
    rintro e w2 ⟨R, S, rfl, hd, hb, hR, hS⟩
    have m2 := Mine.new hb1 hd hb hR hS
    clear hd hb hR hS hb1
    go_wp2_with (go_at_call 10; refine stop ?_)
    refine (new_any 8 (by decide) (by decide) w2).mono ?_
    rintro e w3 ⟨R', S', rfl, hd, hb, hR, hS⟩
    have m3 : LostR w w3 mask R S R' S' 0 := ⟨_, _, _, _, Two.new m2 hd hb hR hS, rfl, rfl, rfl, rfl, rfl, rfl, Nat.le_refl _, Nat.le_refl _, fun j hj => rfl⟩
    clear hd hb hR hS m2
    go_wp2
    go_loopw [23] (fun i wr => ∃ k : Nat, k ≤ L.length ∧ i = .int .i64 k ∧ LostR w wr mask R S R' S' k) (fun i _ => L.length - (intOf i).toNat)
    case atStart => exact ⟨0, Nat.zero_le _, rfl, m3⟩
    case round =>
      clear m3
      obtain ⟨k, hk, rfl, v, d, v', m, hT, h1, h2, h3, h4, h5, h6, h7, h8, h9⟩ := hrel
      by_cases hlt : k < L.length
      · have hlt' : (k : Int) < (L.length : Int) := by omega
        have k0 : (0 : Int) ≤ (k : Int) := by omega
        have k1 : (k : Int) < 64 := by omega
        have hok0 : (L.getD k CIn.none).ok w := by
          obtain ⟨_, _, _, _, _, _, hh⟩ := hL.at hlt
          exact hh
        obtain ⟨b, off, cc, e, hb, hr, hok⟩ := (hL.later hT.a.below).at hlt
        cases e
        generalize L.getD k CIn.none = c at *
        have hci : (Try.prog.info? 32).map (·.size) = some c.cs.toList.length := by kernel_rfl
        have hcj : (Try.prog.info? 32).map (·.size) = some c.cs.size := by kernel_rfl
        have hone : c.cs.all (·.oneCell') = true := by
          obtain ⟨_, _, p, q, e, _⟩ := hok.data
          simp [CIn.cs, e, Value.oneCell']
        go_wp2_with (first | refine wpList_load_mid rfl 32 _ rfl b (off + k * 6) rfl c.cs.toList _ hr Try.underlying32 rfl hci ?_ | (refine wpList_store_row rfl 32 _ _ rfl wr.heap.size c.cs rfl rfl 32 _ (heap_alloc_new wr _) hcj rfl hone ?_; refine stop ?_))
        unfold Stop
        clear hr
        have rg := (Row.new wr #[.int .i64 0, .int .i64 0, .slice none 0 0, .int .u64 0, .int .i64 0, .int .i64 0] 32 rfl).setRow c.cs
        have b2 : Below wr.heap.size wr ((wr.alloc (.cells #[.int .i64 0, .int .i64 0, .slice none 0 0, .int .u64 0, .int .i64 0, .int .i64 0] 32)).setRow wr.heap.size c.cs) := Below.row (below1 wr _) _ (Nat.le_refl _)
        generalize (wr.alloc (.cells #[.int .i64 0, .int .i64 0, .slice none 0 0, .int .u64 0, .int .i64 0, .int .i64 0] 32)).setRow wr.heap.size c.cs = w4 at *
        have hT4 := hT.later b2
        have hdat := hok.data.later b2
        obtain ⟨hd8, hdm, pd, cd, hcv, _⟩ := id hdat
        obtain ⟨a, ha, hae⟩ := and7 c.at0
        have q1 : w4.cell? ⟨wr.heap.size, 1, none⟩ = some (.int .i64 c.at0) := rg.cell 1
        have q2 : w4.cell? ⟨wr.heap.size, 2, none⟩ = some c.v := rg.cell 2
        rw [hcv] at q2 hdat
        unfold maxLen at hdm
        have d0 : (0 : Int) ≤ (c.data.length : Int) := by omega
        have d1 : (c.data.length : Int) ≤ 9223372036854775807 := by omega
        clear hT hok hcj hci hone
        by_cases hbig : 64 < c.data.length
        · have hbig' : (64 : Int) < (c.data.length : Int) := by omega
          go_wp2
          go_ret
          exact ⟨rfl, hT4.a.below⟩
        · have hbig' : ¬ (64 : Int) < (c.data.length : Int) := by omega
          go_wp2_with (go_at_call 12; refine stop ?_)
          refine (write_any a _ c.data _ R S _ _ hT4.a.dk hdat (by omega) (by omega) (down_n h3) (by omega) (by omega)).mono ?_
          rintro e w5 ⟨v5, rfl, hd, hs⟩
          have hT5 := hT4.step hd hs
          have rg5 : Row w5 wr.heap.size c.cs 32 := (hs.far ⟨by have := rg.ne hT4.a.dk.row (by decide); exact this, rg.ne hT4.a.dk.sure (by decide), ownN_ne hT4.a.dk.own rg (by decide)⟩ rg.lt).trans rg
          have hdat5 : BytesAt w5 (.slice pd c.data.length cd) c.data := by
            rw [← hcv]
            exact hok0.data.later hT5.a.below
          have q3 : w5.cell? ⟨wr.heap.size, 1, none⟩ = some (.int .i64 c.at0) := rg5.cell 1
          have q4 : w5.cell? ⟨wr.heap.size, 2, none⟩ = some (.slice pd c.data.length cd) := by rw [← hcv]; exact rg5.cell 2
          have hmb := mask_bit mask k hmask
          by_cases hz0 : mask / 2 ^ k % 2 = 0
          · have hbit : (bits BinOp.and IntKind.u64 ((mask : Int) / 2 ^ k) 1 == 1) = false := by rw [hmb, hz0]; rfl
            have hn : LostR w w5 mask R S R' S' (k + 1) := ⟨_, _, _, _, hT5, h1, h2, h3, h4, by simp [Dk.put, h5], by simp [Dk.put, h6], by omega, by omega, lost_none h5 (by omega) hz0 h9⟩
            clear hT5 rg5 hdat5 hmb hz0 hT4 hd hs
            go_wp2
            go_roundw
            case rel => exact ⟨k + 1, by omega, by go_num, hn⟩
            case measure => simp [intOf]; omega
          · have hbit : (bits BinOp.and IntKind.u64 ((mask : Int) / 2 ^ k) 1 == 1) = true := by rw [hmb, show mask / 2 ^ k % 2 = 1 by omega]; rfl
            clear hmb
            go_wp2_with (go_at_call 12; refine stop ?_)
            refine (write_any a _ c.data _ R' S' _ _ hT5.b.dk hdat5 (by omega) (by omega) (down_n h4) (by omega) (by omega)).mono ?_
            rintro e w6 ⟨v6, rfl, hd6, hs6⟩
            have hT6 := (hT5.swap.step hd6 hs6).swap
            have hn : LostR w w6 mask R S R' S' (k + 1) := ⟨_, _, _, _, hT6, h1, h2, h3, h4, by simp [Dk.put, h5], by simp [Dk.put, h6], by simp [Dk.put]; omega, by simp [Dk.put]; omega, lost_one hT4.a.dk.ok hT4.b.dk.ok h1 h5 (by omega) hz0 (by omega) (by omega) h9⟩
            clear hT5 rg5 hdat5 hz0 hT4 hd hs hT6 hd6 hs6
            go_wp2
            go_roundw
            case rel => exact ⟨k + 1, by omega, by go_num, hn⟩
            case measure => simp [intOf]; omega
      · obtain rfl : k = L.length := by omega
        have hnl : ¬ (L.length : Int) < (L.length : Int) := by omega
        go_wp2_with (go_at_call 14; refine stop ?_)
        refine (crash_any mask hmask (-1) 0 _ R S _ _ hT.a.dk).mono ?_
        rintro e w4 ⟨rfl, hd, hs⟩
        have hT4 := hT.step hd hs
        have hc4 : ∀ j, j < 8 → ({ d with F := setl (kept mask (-1) 0) d.F d.ws, ws := [], armed := false, left := 0 } : Dk).cur j = m.cur j := fun j hj => (h9 j hj).symm
        have hn4 : ({ d with F := setl (kept mask (-1) 0) d.F d.ws, ws := [], armed := false, left := 0 } : Dk).n = 8 := h1
        have hw4 : ({ d with F := setl (kept mask (-1) 0) d.F d.ws, ws := [], armed := false, left := 0 } : Dk).ws.length = 0 := rfl
        have hk4 : ({ d with F := setl (kept mask (-1) 0) d.F d.ws, ws := [], armed := false, left := 0 } : Dk).cnt = L.length := h6
        clear hd hs hT h9
        generalize ({ d with F := setl (kept mask (-1) 0) d.F d.ws, ws := [], armed := false, left := 0 } : Dk) = d4 at *
        go_wp2
        go_loopw [55] (fun i wz => ∃ k : Nat, k ≤ 8 ∧ i = .int .i64 k ∧ Two w wz R S (.slice none 0 0) d4 R' S' v' m) (fun i _ => 8 - (intOf i).toNat)
        case atStart => exact ⟨0, Nat.zero_le _, rfl, hT4⟩
        case round =>
          clear hT4
          obtain ⟨k, hk8, rfl, hT⟩ := hrel
          by_cases hlt8 : k < 8
          · have hlt8' : (k : Int) < 8 := by omega
            go_wp2_with (go_at_call 20; refine stop ?_)
            refine (read_any k _ R S _ _ hT.a.dk (by omega)).mono ?_
            rintro e w5 ⟨g, rfl, hg, hge, hb⟩
            have hT5 := hT.later hb
            rw [hc4 k hlt8] at hg
            go_wp2_with (go_at_call 20; refine stop ?_)
            refine (read_any k _ R' S' _ _ hT5.b.dk (by omega)).mono ?_
            rintro e w6 ⟨g2, rfl, hg2, hge2, hb2⟩
            have hT6 := hT5.later hb2
            obtain ⟨hl, h8⟩ := hT6.b.dk.ok.cur (k := k) (by omega)
            have hcv1 := conv_str ((hg.later hb2).bytes h8 (by rw [hl]; decide) 64 64 hl.symm)
            have hcv2 := conv_str (hg2.bytes h8 (by rw [hl]; decide) 64 64 hl.symm)
            clear hT hT5 hb hb2 hg hg2
            go_wp2
            go_roundw
            case rel => exact ⟨k + 1, by omega, by go_num, hT6⟩
            case measure => simp [intOf]; omega
          · obtain rfl : k = 8 := by omega
            go_wp2_with (go_at_call 16; refine stop ?_)
            refine (waits_any _ R S _ _ hT.a.dk).mono ?_
            rintro e w' ⟨rfl, hw'⟩
            obtain rfl := hw'.symm
            rw [hw4]
            clear hw'
            go_wp2_with (go_at_call 17; refine stop ?_)
            refine (writes_any _ R S _ _ hT.a.dk).mono ?_
            rintro e w' ⟨rfl, hw'⟩
            obtain rfl := hw'.symm
            rw [hk4]
            clear hw'
            go_wp2
            go_ret
            exact ⟨rfl, hT.a.below⟩
end Go.Proofs.Ytkamagicnemppaa
