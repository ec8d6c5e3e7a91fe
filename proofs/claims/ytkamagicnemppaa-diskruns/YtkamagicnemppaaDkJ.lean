
/-
  The walk of DiskCopies.
-/
import Derived.Test.YtkamagicnemppaaDkI
namespace Go.Proofs.Ytkamagicnemppaa
open Go.RowKit
set_option maxRecDepth 100000
set_option linter.unusedVariables false
set_option linter.unusedSimpArgs false

theorem curW_setl {n k : Nat} (hk : k < n) : ∀ (ws : List (Nat × List Nat)) (F : List Nat) (i : Nat), F.length = 64 * n → (∀ x ∈ ws, WOk n x) →
    sec ((ws.zipIdx i).foldl (fun F x => settle F x.1.1 x.1.2 64) F) k = curW k (sec F k) ws
  | [], F, i, _, _ => rfl
  | x :: ws, F, i, hF, hw => by
    have hx := hw x (by simp)
    have h1 := settle_len hF hx.lt hx.len (Nat.le_refl 64)
    have ih := curW_setl hk ws (settle F x.1 x.2 64) (i + 1) h1 (fun y hy => hw y (by simp [hy]))
    rw [List.zipIdx_cons, List.foldl_cons]
    refine ih.trans ?_
    show curW k (sec (settle F x.1 x.2 64) k) ws = curW k (if x.1 = k then x.2 else sec F k) ws
    rw [sec_settle hF hx.lt hx.len (Nat.le_refl 64) k hk]
    by_cases h : k = x.1
    · rw [if_pos h, if_pos h.symm, List.take_of_length_le (Nat.le_of_eq hx.len), List.drop_of_length_le (Nat.le_of_eq (sec_len hF hx.lt)), List.append_nil]
    · rw [if_neg h, if_neg (fun e => h e.symm)]
/-- Flush changes no sector that is read. -/
theorem flush_cur {d : Dk} (h : d.Ok) {k : Nat} (hk : k < d.n) : ({ d with F := setl (fun _ => 64) d.F d.ws, ws := [] } : Dk).cur k = d.cur k := curW_setl hk d.ws d.F 0 h.fl h.wok

theorem Own.row {w : World} {B : Nat} {u : Value} {l : List Nat} (h : Own w B u l) {k : Nat} (hk : u.ownBlock = some k) : ∃ cs, Row w k cs 5 ∧ B ≤ k := by
  obtain ⟨_, ⟨rfl, _⟩ | ⟨g, cap, cur, rfl, hb, hg, _⟩⟩ := h
  · cases hk
  · simp [Value.ownBlock] at hk
    subst hk
    exact ⟨cur, hg, hb⟩
theorem DkAt.farRow {w : World} {R S : Nat} {v : Value} {d : Dk} (h : DkAt w R S v d) {k : Nat} {cs : Array Value} (hr : Row w k cs 5) : DFar R S v k :=
  ⟨hr.ne h.row (by decide), hr.ne h.sure (by decide), ownN_ne h.own hr (by decide)⟩
/-- A cell in a block beside the disk. -/
theorem Mine.setCell {w0 w : World} {R S : Nat} {v : Value} {d : Dk} (h : Mine w0 w R S v d) {k : Nat} (hf : DFar R S v k) (hk : w0.heap.size ≤ k) (i : Nat) (u : Value) : Mine w0 (w.setCell ⟨k, i, none⟩ u) R S v d :=
  ⟨h.dk.keep (heap_setCell_other w ⟨k, i, none⟩ R u (fun e => hf.1 e.symm)) (heap_setCell_other w ⟨k, i, none⟩ S u (fun e => hf.2.1 e.symm)) (fun j hj => heap_setCell_other w ⟨k, i, none⟩ j u (fun e => hf.2.2 (by rw [← show j = k from e]; exact hj))), h.below.setCell (p := ⟨k, i, none⟩) hk u, h.hR, h.hS, h.hv⟩
theorem Own.setAt {w : World} {B g n c : Nat} {l : List Nat} (h : Own w B (.slice (some ⟨g, 0, none⟩) n c) l) (k : Nat) (hk : k < l.length) (y : Nat) : Own (w.setCell ⟨g, k, none⟩ (.int .u8 (y : Nat))) B (.slice (some ⟨g, 0, none⟩) n c) (l.set k y) := by
  obtain ⟨hl, ⟨e, _⟩ | ⟨g', cap, cur, e, hb, hg, h1, h2, h3, h4⟩⟩ := h
  · cases e
  · cases e
    refine ⟨by simp, .inr ⟨g, c, cur.setIfInBounds k (.int .u8 (y : Nat)), by simp, hb, heap_setCell_same w g k cur _ _ hg, by simpa using h1, h2, by simpa using h3, ?_⟩⟩
    rw [List.map_set, List.length_set, Array.toList_setIfInBounds, List.take_set, h4]
/-- The disk, and a row of bytes of the call's own beside it. -/
def CopR (w wr : World) (R S : Nat) (v : Value) (d : Dk) (B : Nat) (u : Value) (n : Nat) : Prop := Mine w wr R S v d ∧ ∃ l, l.length = n ∧ W8 l ∧ Own wr B u l
theorem Own.cell_at {w : World} {B g n c : Nat} {l : List Nat} (h : Own w B (.slice (some ⟨g, 0, none⟩) n c) l) (_ : True) (k : Nat) (hk : k < l.length) : w.cell? ⟨g, k, none⟩ = some (.int .u8 (l.getD k 0 : Nat)) := by
  have := h.cells (g := g) rfl k (.int .u8 (l.getD k 0 : Nat)) (by simp [List.getD, hk])
  rwa [Addr.add_lit, Nat.zero_add] at this

set_option maxHeartbeats 4000000 in
theorem copies_walk (ua : Value) (a : List Nat) (x : Int) (w : World) (hua0 : BytesAt w ua a ∧ ∀ q n c, ua = .slice q n c → n ≤ c) (hx : -9223372036854775808 ≤ x ∧ x ≤ 9223372036854775807) :
    Calls Try.prog 4 #[ua, .int .i64 x] w fun e w' => e = .returned (.bool true) ∧ Below w.heap.size w w' := by
  obtain ⟨n, hn, hnx⟩ := and7 x
  obtain ⟨hua, hcapa⟩ := hua0
  obtain ⟨hua8, huam, pa, ca, rfl, hc1⟩ := id hua
  have hla := hcapa _ _ _ rfl
  clear hcapa hc1
  unfold maxLen at huam
  have la0 : (0 : Int) ≤ (a.length : Int) := by omega
  have la1 : (a.length : Int) ≤ 9223372036854775807 := by omega
  obtain ⟨m, hm, hm1, hm2⟩ : ∃ m : Nat, min (a.length : Int) 64 = (m : Int) ∧ m ≤ 64 ∧ m ≤ a.length := ⟨min a.length 64, by omega, by omega, by omega⟩
  have m0 : (0 : Int) ≤ (m : Int) := by omega
  have m1 : (m : Int) ≤ (a.length : Int) := by omega
  have m2 : m ≤ ca := by omega
  have n0 : (0 : Int) ≤ (n : Int) := by omega
  have n1 : (n : Int) ≤ 7 := by omega
  have hba := BytesAt.take (m := 0) hua m hm2 ca
  have hlm : (a.take m).length = m := by rw [List.length_take]; omega
  have h8 := hua8.take m
  go_enter Try.func4, Try.ntmps4
  go_wp2_with (go_at_call 9; refine stop ?_)
  refine (fit_any _).mono ?_
  rintro e w1 ⟨rfl, hb1⟩
  go_wp2_with (go_at_call 10; refine stop ?_)
  rw [show (1 : Int) + (n : Int) = ((1 + n : Nat) : Int) by omega]
  refine (new_any (1 + n) (by omega) (by omega) w1).mono ?_
  rintro e w2 ⟨R, S, rfl, hd, hb, hR, hS⟩
  have m2' := Mine.new hb1 hd hb hR hS
  clear hd hb hR hS hb1
  generalize a.take m = l at *
  obtain ⟨v3, w3, run3, own3, gr3, hnil, mv3⟩ := append_bytes w2 w2.heap.size 28 (.slice none 0 0) [] (World.ownsRow_nil _ _ _ _) _ l (hba.later m2'.below) (by simp; omega) (Nat.le_refl _)
  have b3 : Below w2.heap.size w2 w3 := ⟨gr3.os, gr3.tape, gr3.output, gr3.size, fun k hk => gr3.block k hk (fun e => by cases e)⟩
  have m3 := m2'.later b3
  have hs3 := b3.size
  rw [List.nil_append] at own3
  have hu3 : BytesAt w3 v3 l := own3.bytes h8 (by unfold maxLen; omega)
  obtain ⟨p3, n3, c3, rfl, hn3⟩ := own3.form
  obtain rfl : n3 = m := hn3.trans hlm
  clear hnil gr3 hn3
  go_wp2_with (first | (at_builtin; refine Lib.wpList_append_run _ rfl _ _ _ _ rfl _ _ rfl rfl _ _ run3 ?_) | (go_at_call 12; refine stop ?_))
  refine (write_any 0 _ l _ R S _ _ m3.dk hu3 (show 0 < 1 + n by omega) (by omega) rfl (show (0 : Nat) < 1000 by decide) (show (0 : Nat) < 1000000 by decide)).mono ?_
  rintro e w4 ⟨v4, rfl, hd, hs⟩
  have m4 := m3.step hd hs
  have HBA : Hid (BytesAt w (.slice pa n3 ca) l) := hba
  have HB : Hid (w.heap.size ≤ w2.heap.size) := m2'.below.size
  clear run3 hba
  have hcur : (((Dk.new (1 + n)).put 0 l).cur 0) = pad l := by rw [put_cur, if_pos rfl]
  have hd4n : ((Dk.new (1 + n)).put 0 l).n = 1 + n := rfl
  have hd4d : ((Dk.new (1 + n)).put 0 l).down = false := rfl
  have own4 : Own w4 w2.heap.size (.slice p3 n3 c3) l := ownsRow_keep own3 fun k h1 h2 h3 => by
    obtain ⟨cs, hr, _⟩ := own3.row h3
    exact hs.far (m3.dk.farRow hr) h2
  generalize (Dk.new (1 + n)).put 0 l = d4 at *
  have hM : CopR w w4 R S v4 d4 w2.heap.size (.slice p3 n3 c3) n3 := ⟨m4, l, hlm, h8, own4⟩
  clear m4 own4 own3 hu3 m2' b3 hd hs m3
  go_wp2
  go_loopw [33] (fun i wr => ∃ k : Nat, k ≤ n3 ∧ i = .int .i64 k ∧ CopR w wr R S v4 d4 w2.heap.size (.slice p3 n3 c3) n3) (fun i _ => n3 - (intOf i).toNat)
  case atStart => exact ⟨0, Nat.zero_le _, rfl, hM⟩
  case round =>
    clear hM
    obtain ⟨k, hk, rfl, hM, l', hl', h8', ho'⟩ := hrel
    by_cases hlt : k < n3
    · have hlt' : (k : Int) < (n3 : Int) := by omega
      have k0 : (0 : Int) ≤ (k : Int) := by omega
      obtain ⟨_, ⟨e, h0⟩ | ⟨g, cap, cur, e, hbg, hg, q1, q2, q3, q4⟩⟩ := id ho'
      · omega
      · rw [hl'] at e
        cases e
        obtain ⟨y, hy, hcell⟩ : ∃ y : Nat, y < 256 ∧ wr.cell? ⟨g, k, none⟩ = some (.int .u8 (y : Nat)) := ⟨_, h8'.at k, Own.cell_at ho' trivial k (by omega)⟩
        have hfro : wr.frozen? ⟨g, k, none⟩ = false := frozen_of_row wr g k cur _ hg
        have hn : CopR w (wr.setCell ⟨g, k, none⟩ (.int .u8 (((y + 1) % 256 : Nat) : Int))) R S v4 d4 w2.heap.size (.slice (some ⟨g, 0, none⟩) n3 c3) n3 :=
          ⟨hM.setCell (hM.dk.farRow hg) (Nat.le_trans HB.out hbg) _ _, l'.set k ((y + 1) % 256), by rw [List.length_set]; exact hl', h8'.set k (Nat.mod_lt _ (by decide)), Own.setAt ho' k (by omega) _⟩
        rw [show (((y + 1) % 256 : Nat) : Int) = ((y : Int) + 1) % 256 by omega] at hn
        have y0 : (0 : Int) ≤ (y : Int) := by omega
        have y1 : (y : Int) < 256 := by omega
        clear hM ho' hg q1 q2 q3 q4 h8' hl' hbg
        go_wp2
        go_roundw
        case rel => exact ⟨k + 1, by omega, by go_num, hn⟩
        case measure => simp [intOf]; omega
    · obtain rfl : k = n3 := by omega
      clear ho' h8' hl'
      go_wp2_with (go_at_call 20; refine stop ?_)
      refine (read_any 0 _ R S _ _ hM.dk (by omega)).mono ?_
      rintro e w5 ⟨g, rfl, hg, hge, hb⟩
      have m5 := hM.later hb
      rw [hcur] at hg
      have hg5 : w.heap.size ≤ g := Nat.le_trans hM.below.size hge
      have hba5 := HBA.out.later m5.below
      clear hM hb hge
      go_wp2_with fail
      refine wp_region_D (fun _ => true) (fun w' : World => BytesAt w' (.slice pa k ca) l) (by kernel_rfl) ?_
      have hS : (fun w' : World => BytesAt w' (.slice pa k ca) l) w5.drew := hba5.later (Below.refl _ w5).drew
      have hg6 : Row w5.drew g (bytesL (pad l)) 5 := hg
      have m6 : Mine w w5.drew R S v4 d4 := m5.drew
      clear hg m5 hba5
      generalize w5.drew = w6 at *
      refine' wpAnyD_take (i := 0) (v := _) rfl (by kernel_rfl) (by kernel_rfl) (by kernel_rfl) (by kernel_rfl) (fun _ _ _ h => h) (Or.inl ⟨by rfl, ?hy1⟩) hS ?re1
      case hy1 => (intro w hSw; (try dsimp only at hSw); go_simp; (try with_reducible rfl))
      simp only [Act.put, List.setIfInBounds_toArray, List.set_cons_zero, List.set_cons_succ]
      refine wpAnyD_take (i := 1) rfl (by kernel_rfl) (by kernel_rfl) (by kernel_rfl) (by kernel_rfl) (fun _ _ _ h => h) (yields_conv (by rfl) _ rfl (.slice pa k ca) rfl l (fun _ h => h)) hS ?_
      simp only [Act.put, List.setIfInBounds_toArray, List.set_cons_zero, List.set_cons_succ]
      have k64 : (k : Int) ≤ 64 := by omega
      have hwr : IntKind.i64.wrap (64 - (k : Int)) = 64 - (k : Int) := by rw [IntKind.wrap_i64]; omega
      refine' wpAnyD_take (i := 2) (v := _) rfl (by kernel_rfl) (by kernel_rfl) (by kernel_rfl) (by kernel_rfl) (fun _ _ _ h => h) (Or.inl ⟨by rfl, ?hy2⟩) hS ?re2
      case hy2 => (intro w hSw; (try dsimp only at hSw); go_simp; (try with_reducible rfl))
      simp only [Act.put, List.setIfInBounds_toArray, List.set_cons_zero, List.set_cons_succ]
      refine' wpAnyD_take (i := 3) (v := _) rfl (by kernel_rfl) (by kernel_rfl) (by kernel_rfl) (by kernel_rfl) (fun _ _ _ h => h) (Or.inl ⟨by rfl, ?hy3⟩) hS ?re3
      case hy3 => (intro w hSw; (try dsimp only at hSw); go_simp; (try with_reducible rfl))
      simp only [Act.put, List.setIfInBounds_toArray, List.set_cons_zero, List.set_cons_succ]
      refine' wpAnyD_take (i := 4) (v := _) rfl (by kernel_rfl) (by kernel_rfl) (by kernel_rfl) (by kernel_rfl) (fun _ _ _ h => h) (Or.inl ⟨by rfl, ?hy4⟩) hS ?re4
      case hy4 => (intro w hSw; (try dsimp only at hSw); go_simp; (try with_reducible rfl))
      simp only [Act.put, List.setIfInBounds_toArray, List.set_cons_zero, List.set_cons_succ]
      have hmk : (Instr.makeSlice 28 (.int .i64 (64 - (k : Int))) (.int .i64 (64 - (k : Int)))).run Try.prog w6 = .ok (.slice (some ⟨w6.heap.size, 0, none⟩) (64 - k) (64 - k)) (w6.alloc (.cells (bytesL (zs (64 - k))) 5)) := by rw [show 64 - (k : Int) = ((64 - k : Nat) : Int) by omega]; exact make_bytes (64 - k) (by omega) w6
      refine wpAnyD_only (i := 5) rfl (by kernel_rfl) (by rfl) (fun K hK => ?_)
      go_simp
      have r7 : Row (w6.alloc (.cells (bytesL (zs (64 - k))) 5)) w6.heap.size (bytesL (zs (64 - k))) 5 := Row.new w6 _ _ rfl
      have b7 := below1 w6 (.cells (bytesL (zs (64 - k))) 5)
      try dsimp only
      have hSn := (hS.later b7 : (fun w' : World => BytesAt w' (.slice pa k ca) l) (w6.alloc (.cells (bytesL (zs (64 - k))) 5)))
      refine hK.out _ _ (fun _ => hSn) ?_
      clear hK K hS
      have hS := hSn
      clear hSn
      try simp only [Act.put, List.setIfInBounds_toArray, List.set_cons_zero, List.set_cons_succ]
      have m7 := m6.later b7
      have hg7 := hg6.later b7
      have hz7 : BytesAt (w6.alloc (.cells (bytesL (zs (64 - k))) 5)) (.slice (some ⟨w6.heap.size, 0, none⟩) (64 - k) (64 - k)) (zs (64 - k)) := r7.bytes (zs_w8 _) (by rw [zs_len]; unfold maxLen; omega) _ _ (zs_len _).symm
      clear r7 b7 m6 hg6 hmk
      generalize w6.alloc (.cells (bytesL (zs (64 - k))) 5) = w7 at *
      have hcv := conv_str hz7
      refine wpAnyD_only (i := 6) rfl (by kernel_rfl) (by rfl) (fun K hK => ?_)
      go_simp
      try dsimp only
      have hSn := hS
      refine hK.out _ _ (fun _ => hSn) ?_
      clear hK K hS
      have hS := hSn
      clear hSn
      try simp only [Act.put, List.setIfInBounds_toArray, List.set_cons_zero, List.set_cons_succ]
      have hsz : ¬ 9223372036854775807 < (strL l).size + (strL (zs (64 - k))).size := by rw [strL_size, strL_size, zs_len]; omega
      have hcat : strL l ++ strL (zs (64 - k)) = strL (pad l) := by rw [strL_cat, pad, hlm]
      refine' wpAnyD_take (i := 7) (v := _) rfl (by kernel_rfl) (by kernel_rfl) (by kernel_rfl) (by kernel_rfl) (fun _ _ _ h => h) (Or.inl ⟨by rfl, ?hy5⟩) hS ?re5
      case hy5 => (intro w hSw; (try dsimp only at hSw); go_simp; (try with_reducible rfl))
      simp only [Act.put, List.setIfInBounds_toArray, List.set_cons_zero, List.set_cons_succ]
      refine' wpAnyD_take (i := 8) (v := _) rfl (by kernel_rfl) (by kernel_rfl) (by kernel_rfl) (by kernel_rfl) (fun _ _ _ h => h) (Or.inl ⟨by rfl, ?hy6⟩) hS ?re6
      case hy6 => (intro w hSw; (try dsimp only at hSw); go_simp; (try with_reducible rfl))
      simp only [Act.put, List.setIfInBounds_toArray, List.set_cons_zero, List.set_cons_succ]
      refine wpAnyD_done (by kernel_rfl) ?_ _
      have hpl : (pad l).length = 64 := pad_len (by omega)
      have hp8 := pad_w8 h8
      have hcv8 := conv_str (hg7.bytes hp8 (by rw [hpl]; decide) 64 64 hpl.symm)
      obtain ⟨y, hy, hc0⟩ : ∃ y : Nat, y < 256 ∧ w7.cell? ⟨g, 0, none⟩ = some (.int .u8 (y : Nat)) := ⟨_, hp8.at 0, by rw [hg7.cell, bytesL_at _ _ (by omega)]⟩
      have hf0 := hg7.frozen 0
      have y0 : (0 : Int) ≤ (y : Int) := by omega
      have y1 : (y : Int) < 256 := by omega
      have m8 : ∀ u, Mine w (w7.setCell ⟨g, 0, none⟩ u) R S v4 d4 := fun u => m7.setCell (m7.dk.farRow hg7) hg5 0 u
      clear hcv hz7 hS m7 hg7 hsz hcat hwr
      generalize hpd : pad l = P at *
      go_wp2_with (go_at_call 13; refine stop ?_)
      have m9 := m8 (.int .u8 (((y : Int) + 1) % 256))
      clear m8 hcv8 hc0 hf0
      refine (flush_any _ R S _ _ m9.dk hd4d).mono ?_
      rintro e w10 ⟨rfl, hd, hs⟩
      have hcur2 := flush_cur m9.dk.ok (k := 0) (by omega)
      have m10 := m9.step hd hs
      have hn10 : ({ d4 with F := setl (fun _ => 64) d4.F d4.ws, ws := [] } : Dk).n = 1 + n := hd4n
      rw [hcur] at hcur2
      clear hd hs m9
      generalize ({ d4 with F := setl (fun _ => 64) d4.F d4.ws, ws := [] } : Dk) = d5 at *
      go_wp2_with (go_at_call 20; refine stop ?_)
      refine (read_any 0 _ R S _ _ m10.dk (by omega)).mono ?_
      rintro e w11 ⟨g2, rfl, hg2, hge2, hb⟩
      have m11 := m10.later hb
      have hgg2 : w.heap.size ≤ g2 := Nat.le_trans m10.below.size hge2
      rw [hcur2] at hg2
      obtain ⟨z, hz, hc1⟩ : ∃ y : Nat, y < 256 ∧ w11.cell? ⟨g2, 1, none⟩ = some (.int .u8 (y : Nat)) := ⟨_, hp8.at 1, by rw [hg2.cell, bytesL_at _ _ (by omega)]⟩
      have hf1 := hg2.frozen 1
      have z0 : (0 : Int) ≤ (z : Int) := by omega
      have z1 : (z : Int) < 256 := by omega
      have m12 : ∀ u, Mine w (w11.setCell ⟨g2, 1, none⟩ u) R S (.slice none 0 0) d5 := fun u => m11.setCell (m11.dk.farRow hg2) hgg2 1 u
      clear hb m11 hg2 m10
      go_wp2_with (go_at_call 20; refine stop ?_)
      have m13 := m12 (.int .u8 (((z : Int) + 1) % 256))
      clear m12 hc1 hf1
      refine (read_any 0 _ R S _ _ m13.dk (by omega)).mono ?_
      rintro e w14 ⟨g3, rfl, hg3, hge3, hb⟩
      have m14 := m13.later hb
      rw [hcur2] at hg3
      have hcv14 := conv_str (hg3.bytes hp8 (by rw [hpl]; decide) 64 64 hpl.symm)
      clear hb m13
      go_wp2_with (go_at_call 10; refine stop ?_)
      refine (new_none 0 (Or.inl (by decide)) _).mono ?_
      rintro e w' ⟨rfl, hw'⟩
      obtain rfl := hw'.symm
      clear hw'
      go_wp2_with (go_at_call 10; refine stop ?_)
      refine (new_none 4097 (Or.inr (by decide)) _).mono ?_
      rintro e w' ⟨rfl, hw'⟩
      obtain rfl := hw'.symm
      clear hw'
      go_wp2_with (go_at_call 19; refine stop ?_)
      refine (len_any _ R S _ _ m14.dk).mono ?_
      rintro e w' ⟨rfl, hw'⟩
      obtain rfl := hw'.symm
      clear hw'
      rw [hn10, show ((1 + n : Nat) : Int) = 1 + (n : Int) by omega]
      go_wp2
      go_ret
      exact ⟨rfl, m14.below⟩
end Go.Proofs.Ytkamagicnemppaa
