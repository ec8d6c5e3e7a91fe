
/-
  The walk of DiskTorn.
-/
import Derived.Test.YtkamagicnemppaaDkH
import Derived.BigQuiet
import Derived.Deep.DeepCutAuto
import Derived.BigRegion
namespace Go.Proofs.Ytkamagicnemppaa
open Go.RowKit
set_option maxRecDepth 100000
set_option linter.unusedVariables false
set_option linter.unusedSimpArgs false

theorem setl_one (f : Nat → Nat) (F : List Nat) (x : Nat × List Nat) : setl f F [x] = settle F x.1 x.2 (f 0) := rfl
/-- What is read behind a write of a, a flush, a write of b, and a crash. -/
theorem torn_cur {a b : List Nat} (ha : a.length ≤ 64) (hb : b.length ≤ 64) (m : Nat) (hm : m ≤ 64) :
    sec (settle (settle (zs (64 * 1)) 0 (pad a) 64) 0 (pad b) m) 0 = (pad b).take m ++ (pad a).drop m := by
  have h0 : (zs (64 * 1)).length = 64 * 1 := zs_len _
  have h1 := settle_len (n := 1) (k := 0) (m := 64) h0 (by decide) (pad_len ha) (by decide)
  rw [sec_settle (n := 1) h1 (by decide) (pad_len hb) hm 0 (by decide), if_pos rfl, sec_settle (n := 1) h0 (by decide) (pad_len ha) (by decide) 0 (by decide), if_pos rfl]
  rw [List.take_of_length_le (Nat.le_of_eq (pad_len ha)), List.drop_of_length_le (Nat.le_of_eq (sec_len (n := 1) h0 (by decide))), List.append_nil]
/-- copy(x, b), x sixty-four zeros. -/
theorem run_copy_zs (w : World) (g : Nat) (u : Value) (b : List Nat) (hg : Row w g (bytesL (zs 64)) 5) (hu : BytesAt w u b) (hb : b.length ≤ 64) (ty : TypeId) :
    ∃ n w', (Builtin.copy_ #[28, 28] ty #[.slice (some ⟨g, 0, none⟩) 64 64, u]).run Try.prog w = .ok n w' ∧ Row w' g (bytesL (pad b)) 5 ∧ Else g w w' := by
  obtain ⟨h8, hm, p, c, rfl, hc⟩ := hu
  by_cases h0 : b = []
  · subst h0
    exact ⟨_, w, run_copy_none (P := Try.prog) w _ _ _ 5 _ _ _ _ _ _ under_bytes info_byte rfl, hg, Else.refl _ _⟩
  · have hpos : 0 < b.length := List.length_pos_iff.2 h0
    obtain ⟨bb, off, rfl, _, _⟩ := hc 0 hpos
    have hcs : (b.map fun x : Nat => Value.int .u8 (x : Int)).length = b.length := by rw [List.length_map]
    have hrun := run_copy_row (P := Try.prog) w 28 28 ty 5 g 0 64 64 ⟨bb, off, none⟩ b.length c (bytesL (zs 64)) 5 (b.map fun x : Nat => Value.int .u8 (x : Int)) under_bytes info_byte hg (by rw [hcs]; exact (Nat.min_eq_left hb).symm) (fun j v hj => by
      have hj' : j < b.length := by
        have := (List.getElem?_eq_some_iff.1 hj).1
        simpa using this
      obtain ⟨b', off', e, _, hcell⟩ := hc j hj'
      cases e
      rw [Addr.add_lit, hcell, ← hj]
      simp [hj']) (by rw [hcs, bytesL_size, zs_len]; omega) (fun v hv => by
      obtain ⟨x, _, rfl⟩ := List.mem_map.1 hv
      rfl)
    refine ⟨_, _, hrun, ?_, ?_⟩
    · have e : ((bytesL (zs 64)).toList.take 0 ++ (b.map fun x : Nat => Value.int .u8 (x : Int)) ++ (bytesL (zs 64)).toList.drop (0 + (b.map fun x : Nat => Value.int .u8 (x : Int)).length)).toArray = bytesL (pad b) := by
        rw [hcs]
        simp only [bytesL, pad, zs, List.map_append, List.map_replicate, List.drop_replicate, Nat.zero_add, List.take_zero, List.nil_append]
      rw [e]
      exact hg.setRow _
    · exact ⟨rfl, rfl, rfl, by simp [World.setRow], fun k _ hk => setRow_other w g k _ hk⟩
theorem strL_cat (a b : List Nat) : strL a ++ strL b = strL (a ++ b) := by
  have h : (strL a ++ strL b).data = (strL (a ++ b)).data := by
    simp [strL, strOfNums, ByteArray.data_append]
  generalize strL a ++ strL b = x at *
  generalize strL (a ++ b) = y at *
  cases x; cases y; simp_all
theorem strL_size (a : List Nat) : (strL a).size = a.length := by
  have h : (strL a).data.toList.length = a.length := by simp [strL, strOfNums_data]
  rw [← h]
  rfl
theorem row_head {w : World} {Y : Nat} {B : List Nat} {t : TypeId} (h : Row w Y (bytesL B) t) (h8 : W8 B) (hl : B.length = 64) (c : Nat) (hc : c ≤ 64) (cc : Nat) : BytesAt w (.slice (some ⟨Y, 0, none⟩) c cc) (B.take c) := by
  have h1 := h.bytes h8 (by rw [hl]; decide) B.length 64 rfl
  exact BytesAt.take (m := 0) h1 c (by omega) cc
theorem W8.drop {l : List Nat} (h : W8 l) (n : Nat) : W8 (l.drop n) := fun x hx => h x (List.mem_of_mem_drop hx)
theorem row_tail {w : World} {X : Nat} {A : List Nat} {t : TypeId} (h : Row w X (bytesL A) t) (h8 : W8 A) (hl : A.length = 64) (c : Nat) (hc : c ≤ 64) : BytesAt w (.slice (if 64 = c then some ⟨X, 0, none⟩ else some ⟨X, c, none⟩) (64 - c) (64 - c)) (A.drop c) := by
  refine ⟨h8.drop c, by rw [List.length_drop, hl]; unfold maxLen; omega, _, 64 - c, by rw [List.length_drop, hl], fun i hi => ?_⟩
  rw [List.length_drop, hl] at hi
  refine ⟨X, c, by rw [if_neg (by omega)], h.lt, ?_⟩
  rw [h.cell, bytesL_at _ _ (by omega)]
  simp [List.getD, List.getElem?_drop]
/-- Two rows of zeros, made. -/
def TornC (w8 : World) (X Y : Value) (wc : World) : Prop := ∃ x y, X = .slice (some ⟨x, 0, none⟩) 64 64 ∧ Y = .slice (some ⟨y, 0, none⟩) 64 64 ∧ Row wc x (bytesL (zs 64)) 5 ∧ Row wc y (bytesL (zs 64)) 5 ∧ x ≠ y ∧ w8.heap.size ≤ x ∧ w8.heap.size ≤ y ∧ Below w8.heap.size w8 wc
set_option maxHeartbeats 4000000 in
theorem torn_walk (ua : Value) (a : List Nat) (ub : Value) (b : List Nat) (x : Int) (w : World) (hua0 : BytesAt w ua a ∧ ∀ q n c, ua = .slice q n c → n ≤ c) (hub0 : BytesAt w ub b ∧ ∀ q n c, ub = .slice q n c → n ≤ c) (hx : -9223372036854775808 ≤ x ∧ x ≤ 9223372036854775807) :
    Calls Try.prog 5 #[ua, ub, .int .i64 x] w fun e w' => e = .returned (.bool true) ∧ Below w.heap.size w w' := by
  obtain ⟨hua, hcapa⟩ := hua0
  obtain ⟨hua8, huam, pa, ca, rfl, hc1⟩ := id hua
  obtain ⟨hub, hcapb⟩ := hub0
  obtain ⟨hub8, hubm, pb, cb, rfl, hc2⟩ := id hub
  have hla := hcapa _ _ _ rfl
  have hlb := hcapb _ _ _ rfl
  clear hcapa hcapb hc1 hc2
  unfold maxLen at huam hubm
  have la0 : (0 : Int) ≤ (a.length : Int) := by omega
  have la1 : (a.length : Int) ≤ 9223372036854775807 := by omega
  have lb0 : (0 : Int) ≤ (b.length : Int) := by omega
  have lb1 : (b.length : Int) ≤ 9223372036854775807 := by omega
  obtain ⟨m, hm, hm1, hm2⟩ : ∃ m : Nat, min (a.length : Int) 64 = (m : Int) ∧ m ≤ 64 ∧ m ≤ a.length := ⟨min a.length 64, by omega, by omega, by omega⟩
  obtain ⟨k, hk, hk1, hk2⟩ : ∃ m : Nat, min (b.length : Int) 64 = (m : Int) ∧ m ≤ 64 ∧ m ≤ b.length := ⟨min b.length 64, by omega, by omega, by omega⟩
  obtain ⟨c, hcx, hc1⟩ : ∃ c : Nat, min (max x 0) 64 = (c : Int) ∧ c ≤ 64 := ⟨(min (max x 0) 64).toNat, by omega, by omega⟩
  have m0 : (0 : Int) ≤ (m : Int) := by omega
  have m1 : (m : Int) ≤ (a.length : Int) := by omega
  have m2 : m ≤ ca := by omega
  have k0 : (0 : Int) ≤ (k : Int) := by omega
  have k1 : (k : Int) ≤ (b.length : Int) := by omega
  have k2 : k ≤ cb := by omega
  have hba := BytesAt.take (m := 0) hua m hm2 ca
  have hbb := BytesAt.take (m := 0) hub k hk2 cb
  have hlam : (a.take m).length ≤ 64 := by rw [List.length_take]; omega
  have hlbm : (b.take k).length ≤ 64 := by rw [List.length_take]; omega
  go_enter Try.func5, Try.ntmps5
  go_wp2_with (go_at_call 9; refine stop ?_)
  refine (fit_any _).mono ?_
  rintro e w1 ⟨rfl, hb1⟩
  go_wp2_with fail
  refine wp_region_D (fun _ => true) (fun _ : World => True) (by kernel_rfl) ?_
  have hS : (fun _ : World => True) w1.drew := trivial
  have hb2 : Below w.heap.size w w1.drew := hb1.drew
  clear hb1
  generalize w1.drew = w2 at *
  refine' wpAnyD_take (i := 0) (v := _) rfl (by kernel_rfl) (by kernel_rfl) (by kernel_rfl) (by kernel_rfl) (fun _ _ _ h => h) (Or.inl ⟨by rfl, ?hy1⟩) hS ?re1
  case hy1 => (intro w hSw; (try dsimp only at hSw); go_simp; (try with_reducible rfl))
  simp only [Act.put, List.setIfInBounds_toArray, List.set_cons_zero, List.set_cons_succ]
  refine' wpAnyD_take (i := 1) (v := _) rfl (by kernel_rfl) (by kernel_rfl) (by kernel_rfl) (by kernel_rfl) (fun _ _ _ h => h) (Or.inl ⟨by rfl, ?hy2⟩) hS ?re2
  case hy2 => (intro w hSw; (try dsimp only at hSw); go_simp; (try with_reducible rfl))
  simp only [Act.put, List.setIfInBounds_toArray, List.set_cons_zero, List.set_cons_succ]
  refine' wpAnyD_take (i := 2) (v := _) rfl (by kernel_rfl) (by kernel_rfl) (by kernel_rfl) (by kernel_rfl) (fun _ _ _ h => h) (Or.inl ⟨by rfl, ?hy3⟩) hS ?re3
  case hy3 => (intro w hSw; (try dsimp only at hSw); go_simp; (try with_reducible rfl))
  simp only [Act.put, List.setIfInBounds_toArray, List.set_cons_zero, List.set_cons_succ]
  refine' wpAnyD_take (i := 3) (v := _) rfl (by kernel_rfl) (by kernel_rfl) (by kernel_rfl) (by kernel_rfl) (fun _ _ _ h => h) (Or.inl ⟨by rfl, ?hy4⟩) hS ?re4
  case hy4 => (intro w hSw; (try dsimp only at hSw); go_simp; (try with_reducible rfl))
  simp only [Act.put, List.setIfInBounds_toArray, List.set_cons_zero, List.set_cons_succ]
  refine' wpAnyD_take (i := 4) (v := _) rfl (by kernel_rfl) (by kernel_rfl) (by kernel_rfl) (by kernel_rfl) (fun _ _ _ h => h) (Or.inl ⟨by rfl, ?hy5⟩) hS ?re5
  case hy5 => (intro w hSw; (try dsimp only at hSw); go_simp; (try with_reducible rfl))
  simp only [Act.put, List.setIfInBounds_toArray, List.set_cons_zero, List.set_cons_succ]
  refine' wpAnyD_take (i := 5) (v := _) rfl (by kernel_rfl) (by kernel_rfl) (by kernel_rfl) (by kernel_rfl) (fun _ _ _ h => h) (Or.inl ⟨by rfl, ?hy6⟩) hS ?re6
  case hy6 => (intro w hSw; (try dsimp only at hSw); go_simp; (try with_reducible rfl))
  simp only [Act.put, List.setIfInBounds_toArray, List.set_cons_zero, List.set_cons_succ]
  refine' wpAnyD_take (i := 6) (v := _) rfl (by kernel_rfl) (by kernel_rfl) (by kernel_rfl) (by kernel_rfl) (fun _ _ _ h => h) (Or.inl ⟨by rfl, ?hy7⟩) hS ?re7
  case hy7 => (intro w hSw; (try dsimp only at hSw); go_simp; (try with_reducible rfl))
  simp only [Act.put, List.setIfInBounds_toArray, List.set_cons_zero, List.set_cons_succ]
  refine' wpAnyD_take (i := 7) (v := _) rfl (by kernel_rfl) (by kernel_rfl) (by kernel_rfl) (by kernel_rfl) (fun _ _ _ h => h) (Or.inl ⟨by rfl, ?hy8⟩) hS ?re8
  case hy8 => (intro w hSw; (try dsimp only at hSw); go_simp; (try with_reducible rfl))
  simp only [Act.put, List.setIfInBounds_toArray, List.set_cons_zero, List.set_cons_succ]
  refine' wpAnyD_take (i := 8) (v := _) rfl (by kernel_rfl) (by kernel_rfl) (by kernel_rfl) (by kernel_rfl) (fun _ _ _ h => h) (Or.inl ⟨by rfl, ?hy9⟩) hS ?re9
  case hy9 => (intro w hSw; (try dsimp only at hSw); go_simp; (try with_reducible rfl))
  simp only [Act.put, List.setIfInBounds_toArray, List.set_cons_zero, List.set_cons_succ]
  refine' wpAnyD_take (i := 9) (v := _) rfl (by kernel_rfl) (by kernel_rfl) (by kernel_rfl) (by kernel_rfl) (fun _ _ _ h => h) (Or.inl ⟨by rfl, ?hy10⟩) hS ?re10
  case hy10 => (intro w hSw; (try dsimp only at hSw); go_simp; (try with_reducible rfl))
  simp only [Act.put, List.setIfInBounds_toArray, List.set_cons_zero, List.set_cons_succ]
  refine' wpAnyD_take (i := 10) (v := _) rfl (by kernel_rfl) (by kernel_rfl) (by kernel_rfl) (by kernel_rfl) (fun _ _ _ h => h) (Or.inl ⟨by rfl, ?hy11⟩) hS ?re11
  case hy11 => (intro w hSw; (try dsimp only at hSw); go_simp; (try with_reducible rfl))
  simp only [Act.put, List.setIfInBounds_toArray, List.set_cons_zero, List.set_cons_succ]
  refine' wpAnyD_take (i := 11) (v := _) rfl (by kernel_rfl) (by kernel_rfl) (by kernel_rfl) (by kernel_rfl) (fun _ _ _ h => h) (Or.inl ⟨by rfl, ?hy12⟩) hS ?re12
  case hy12 => (intro w hSw; (try dsimp only at hSw); go_simp; (try with_reducible rfl))
  simp only [Act.put, List.setIfInBounds_toArray, List.set_cons_zero, List.set_cons_succ]
  refine wpAnyD_done (by kernel_rfl) ?_ _
  go_wp2_with (go_at_call 10; refine stop ?_)
  refine (new_any 1 (by decide) (by decide) w2).mono ?_
  rintro e w3 ⟨R, S, rfl, hd, hb, hR, hS⟩
  have m3 := Mine.new hb2 hd hb hR hS
  clear hd hb hR hS hb2
  go_wp2_with (go_at_call 12; refine stop ?_)
  refine (write_any 0 _ (a.take m) _ R S _ _ m3.dk (hba.later m3.below) (by decide) hlam rfl (by decide) (by decide)).mono ?_
  rintro e w4 ⟨v4, rfl, hd, hs⟩
  have m4 := m3.step hd hs
  clear hd hs m3
  go_wp2_with (go_at_call 13; refine stop ?_)
  refine (flush_any _ R S _ _ m4.dk rfl).mono ?_
  rintro e w5 ⟨rfl, hd, hs⟩
  have m5 := m4.step hd hs
  clear hd hs m4
  go_wp2_with (go_at_call 12; refine stop ?_)
  refine (write_any 0 _ (b.take k) _ R S _ _ m5.dk (hbb.later m5.below) (show (0 : Nat) < 1 by decide) hlbm rfl (show (0 : Nat) < 1000 by decide) (show (1 : Nat) < 1000000 by decide)).mono ?_
  rintro e w6 ⟨v6, rfl, hd, hs⟩
  have m6 := m5.step hd hs
  clear hd hs m5
  go_wp2_with (go_at_call 14; refine stop ?_)
  refine (crash_any 1 (by decide) 0 x _ R S _ _ m6.dk).mono ?_
  rintro e w7 ⟨rfl, hd, hs⟩
  have m7 := m6.step hd hs
  clear hd hs m6
  go_wp2_with (go_at_call 20; refine stop ?_)
  refine (read_any 0 _ R S _ _ m7.dk (show (0 : Nat) < 1 by decide)).mono ?_
  rintro e w8 ⟨g, rfl, hg, hge, hb⟩
  have hcu : ∀ y, y = kept 1 0 x 0 → y = c := fun y hy => by
    rw [hy]
    show (if (1 : Nat) / 2 ^ (0 % 64) % 2 = 0 then 0 else if ((0 : Nat) : Int) = 0 then (min (max x 0) 64).toNat else 64) = c
    rw [if_neg (by decide), if_pos (by decide), hcx]
    omega
  have hkc := hcu _ rfl
  have b8 := (m7.later hb).below
  have hcur : Row w8 g (bytesL ((pad (b.take k)).take c ++ (pad (a.take m)).drop c)) 5 := by
    rw [← torn_cur hlam hlbm c hc1, ← hkc]
    exact hg
  have hg8 : w.heap.size ≤ g := Nat.le_trans m7.below.size hge
  have hpa := (hba.later b8)
  have hpb := (hbb.later b8)
  clear hb m7 hg hcu hkc
  have hmk : ∀ w : World, (Instr.makeSlice 28 (.int .i64 64) (.int .i64 64)).run Try.prog w = .ok (.slice (some ⟨w.heap.size, 0, none⟩) 64 64) (w.alloc (.cells (bytesL (zs 64)) 5)) := fun w => make_bytes 64 (by decide) w
  go_wp2_with fail
  go_cut [10, 11] (fun X Y wc => TornC w8 X Y wc)
  case first =>
    go_region
    all_goals (
      go_wp2
      go_meet
      case rel =>
        have r0 : Row ((w8.alloc (.cells (bytesL (zs 64)) 5)).alloc (.cells (bytesL (zs 64)) 5)).drew w8.heap.size (bytesL (zs 64)) 5 := (Row.new w8 _ _ rfl).alloc _
        have r1 : Row ((w8.alloc (.cells (bytesL (zs 64)) 5)).alloc (.cells (bytesL (zs 64)) 5)).drew (w8.heap.size + 1) (bytesL (zs 64)) 5 := Row.new _ _ _ (by simp)
        first
        | exact ⟨_, _, rfl, rfl, r0, r1, by omega, by omega, by omega, (below2 _ _ _).drew⟩
        | exact ⟨_, _, rfl, rfl, r1, r0, by omega, by omega, by omega, (below2 _ _ _).drew⟩)
  case rest =>
    obtain ⟨X, Y, rfl, rfl, rX, rY, hne, hX, hY, b9⟩ := hcut
    obtain ⟨n10, w10, run10, rX10, e10⟩ := run_copy_zs wc X _ (a.take m) rX (hpa.later b9) hlam 3
    have b10 : Below w8.heap.size w8 w10 := b9.trans (e10.below b9.size hX)
    obtain ⟨n11, w11, run11, rY11, e11⟩ := run_copy_zs w10 Y _ (b.take k) (rY.else e10 (fun e => hne e.symm)) (hpb.later b10) hlbm 3
    have b11 : Below w8.heap.size w8 w11 := b10.trans (e11.below b10.size hY)
    have rX11 := rX10.else e11 hne
    have rg11 := hcur.later b11
    have B11 : Below w.heap.size w w11 := b8.trans (b11.mono b8.size)
    have c0 : (0 : Int) ≤ (c : Int) := by omega
    have c1 : (c : Int) ≤ 64 := by omega
    have P1 := pad_len hlam
    have P2 := pad_len hlbm
    have Q1 := pad_w8 (hua8.take m)
    have Q2 := pad_w8 (hub8.take k)
    clear rX rY hpa hpb hcur b9 b10 b11 e10 e11 rX10 hmk hba hbb hlam hlbm
    generalize pad (a.take m) = A at *
    generalize pad (b.take k) = B at *
    go_wp2_with (first | (at_builtin; refine Lib.wpList_copy_run _ rfl _ _ _ _ rfl _ _ rfl rfl run10 ?_) | (at_builtin; refine Lib.wpList_copy_run _ rfl _ _ _ _ rfl _ _ rfl rfl run11 ?_))
    refine wp_region_D (fun _ => true) (fun w' : World => Row w' g (bytesL (B.take c ++ A.drop c)) 5 ∧ Row w' X (bytesL A) 5 ∧ Row w' Y (bytesL B) 5) (by kernel_rfl) ?_
    have hS : (fun w' : World => Row w' g (bytesL (B.take c ++ A.drop c)) 5 ∧ Row w' X (bytesL A) 5 ∧ Row w' Y (bytesL B) 5) w11.drew := ⟨rg11, rX11, rY11⟩
    have B12 : Below w.heap.size w w11.drew := B11.drew
    clear run10 run11 rg11 rX11 rY11 B11
    generalize w11.drew = w12 at *
    have hl1 : (B.take c ++ A.drop c).length = 64 := by rw [List.length_append, List.length_take, List.length_drop]; omega
    have hw1 : W8 (B.take c ++ A.drop c) := by
      intro y hy
      rcases List.mem_append.1 hy with hy | hy
      · exact Q2 y (List.mem_of_mem_take hy)
      · exact Q1 y (List.mem_of_mem_drop hy)
    refine' wpAnyD_take (i := 0) (v := _) rfl (by kernel_rfl) (by kernel_rfl) (by kernel_rfl) (by kernel_rfl) (fun _ _ _ h => h) (Or.inl ⟨by rfl, ?hy13⟩) hS ?re13
    case hy13 => (intro w hSw; (try dsimp only at hSw); go_simp; (try with_reducible rfl))
    simp only [Act.put, List.setIfInBounds_toArray, List.set_cons_zero, List.set_cons_succ]
    refine' wpAnyD_take (i := 1) (v := _) rfl (by kernel_rfl) (by kernel_rfl) (by kernel_rfl) (by kernel_rfl) (fun _ _ _ h => h) (Or.inl ⟨by rfl, ?hy14⟩) hS ?re14
    case hy14 => (intro w hSw; (try dsimp only at hSw); go_simp; (try with_reducible rfl))
    simp only [Act.put, List.setIfInBounds_toArray, List.set_cons_zero, List.set_cons_succ]
    refine' wpAnyD_take (i := 2) (v := _) rfl (by kernel_rfl) (by kernel_rfl) (by kernel_rfl) (by kernel_rfl) (fun _ _ _ h => h) (Or.inl ⟨by rfl, ?hy15⟩) hS ?re15
    case hy15 => (intro w hSw; (try dsimp only at hSw); go_simp; (try with_reducible rfl))
    simp only [Act.put, List.setIfInBounds_toArray, List.set_cons_zero, List.set_cons_succ]
    refine' wpAnyD_take (i := 3) (v := _) rfl (by kernel_rfl) (by kernel_rfl) (by kernel_rfl) (by kernel_rfl) (fun _ _ _ h => h) (Or.inl ⟨by rfl, ?hy16⟩) hS ?re16
    case hy16 => (intro w hSw; (try dsimp only at hSw); go_simp; (try with_reducible rfl))
    simp only [Act.put, List.setIfInBounds_toArray, List.set_cons_zero, List.set_cons_succ]
    refine wpAnyD_take (i := 4) rfl (by kernel_rfl) (by kernel_rfl) (by kernel_rfl) (by kernel_rfl) (fun _ _ _ h => h) (yields_conv (by rfl) _ rfl (.slice (some ⟨g, 0, none⟩) 64 64) rfl (B.take c ++ A.drop c) (fun _ h => h.1.bytes hw1 (by rw [hl1]; decide) 64 64 hl1.symm)) hS ?_
    simp only [Act.put, List.setIfInBounds_toArray, List.set_cons_zero, List.set_cons_succ]
    refine' wpAnyD_take (i := 5) (v := _) rfl (by kernel_rfl) (by kernel_rfl) (by kernel_rfl) (by kernel_rfl) (fun _ _ _ h => h) (Or.inl ⟨by rfl, ?hy17⟩) hS ?re17
    case hy17 => (intro w hSw; (try dsimp only at hSw); go_simp; (try with_reducible rfl))
    simp only [Act.put, List.setIfInBounds_toArray, List.set_cons_zero, List.set_cons_succ]
    refine' wpAnyD_take (i := 6) (v := _) rfl (by kernel_rfl) (by kernel_rfl) (by kernel_rfl) (by kernel_rfl) (fun _ _ _ h => h) (Or.inl ⟨by rfl, ?hy18⟩) hS ?re18
    case hy18 => (intro w hSw; (try dsimp only at hSw); go_simp; (try with_reducible rfl))
    simp only [Act.put, List.setIfInBounds_toArray, List.set_cons_zero, List.set_cons_succ]
    refine' wpAnyD_take (i := 7) (v := _) rfl (by kernel_rfl) (by kernel_rfl) (by kernel_rfl) (by kernel_rfl) (fun _ _ _ h => h) (Or.inl ⟨by rfl, ?hy19⟩) hS ?re19
    case hy19 => (intro w hSw; (try dsimp only at hSw); go_simp; (try with_reducible rfl))
    simp only [Act.put, List.setIfInBounds_toArray, List.set_cons_zero, List.set_cons_succ]
    refine' wpAnyD_take (i := 9) (v := _) rfl (by kernel_rfl) (by kernel_rfl) (by kernel_rfl) (by kernel_rfl) (fun _ _ _ h => h) (Or.inl ⟨by rfl, ?hy20⟩) hS ?re20
    case hy20 => (intro w hSw; (try dsimp only at hSw); go_simp; (try with_reducible rfl))
    simp only [Act.put, List.setIfInBounds_toArray, List.set_cons_zero, List.set_cons_succ]
    refine' wpAnyD_take (i := 10) (v := _) rfl (by kernel_rfl) (by kernel_rfl) (by kernel_rfl) (by kernel_rfl) (fun _ _ _ h => h) (Or.inl ⟨by rfl, ?hy21⟩) hS ?re21
    case hy21 => (intro w hSw; (try dsimp only at hSw); go_simp; (try with_reducible rfl))
    simp only [Act.put, List.setIfInBounds_toArray, List.set_cons_zero, List.set_cons_succ]
    refine' wpAnyD_take (i := 11) (v := _) rfl (by kernel_rfl) (by kernel_rfl) (by kernel_rfl) (by kernel_rfl) (fun _ _ _ h => h) (Or.inl ⟨by rfl, ?hy22⟩) hS ?re22
    case hy22 => (intro w hSw; (try dsimp only at hSw); go_simp; (try with_reducible rfl))
    simp only [Act.put, List.setIfInBounds_toArray, List.set_cons_zero, List.set_cons_succ]
    refine wpAnyD_take (i := 8) rfl (by kernel_rfl) (by kernel_rfl) (by kernel_rfl) (by kernel_rfl) (fun _ _ _ h => h) (yields_conv (by rfl) _ rfl (.slice (some ⟨Y, 0, none⟩) c 64) rfl (B.take c) (fun _ h => row_head h.2.2 Q2 P2 c hc1 64)) hS ?_
    simp only [Act.put, List.setIfInBounds_toArray, List.set_cons_zero, List.set_cons_succ]
    refine wpAnyD_take (i := 12) rfl (by kernel_rfl) (by kernel_rfl) (by kernel_rfl) (by kernel_rfl) (fun _ _ _ h => h) (yields_conv (by rfl) _ rfl (.slice (if 64 = c then some ⟨X, 0, none⟩ else some ⟨X, c, none⟩) (64 - c) (64 - c)) rfl (A.drop c) (fun _ h => row_tail h.2.1 Q1 P1 c hc1)) hS ?_
    simp only [Act.put, List.setIfInBounds_toArray, List.set_cons_zero, List.set_cons_succ]
    have hsz : ¬ 9223372036854775807 < (strL (B.take c)).size + (strL (A.drop c)).size := by rw [strL_size, strL_size, List.length_take, List.length_drop]; omega
    have hcat := strL_cat (B.take c) (A.drop c)
    refine' wpAnyD_take (i := 13) (v := _) rfl (by kernel_rfl) (by kernel_rfl) (by kernel_rfl) (by kernel_rfl) (fun _ _ _ h => h) (Or.inl ⟨by rfl, ?hy23⟩) hS ?re23
    case hy23 => (intro w hSw; (try dsimp only at hSw); go_simp; (try with_reducible rfl))
    simp only [Act.put, List.setIfInBounds_toArray, List.set_cons_zero, List.set_cons_succ]
    refine' wpAnyD_take (i := 14) (v := _) rfl (by kernel_rfl) (by kernel_rfl) (by kernel_rfl) (by kernel_rfl) (fun _ _ _ h => h) (Or.inl ⟨by rfl, ?hy24⟩) hS ?re24
    case hy24 => (intro w hSw; (try dsimp only at hSw); go_simp; (try with_reducible rfl))
    simp only [Act.put, List.setIfInBounds_toArray, List.set_cons_zero, List.set_cons_succ]
    refine' wpAnyD_take (i := 15) (v := _) rfl (by kernel_rfl) (by kernel_rfl) (by kernel_rfl) (by kernel_rfl) (fun _ _ _ h => h) (Or.inl ⟨by rfl, ?hy25⟩) hS ?re25
    case hy25 => (intro w hSw; (try dsimp only at hSw); go_simp; (try with_reducible rfl))
    simp only [Act.put, List.setIfInBounds_toArray, List.set_cons_zero, List.set_cons_succ]
    refine' wpAnyD_take (i := 16) (v := _) rfl (by kernel_rfl) (by kernel_rfl) (by kernel_rfl) (by kernel_rfl) (fun _ _ _ h => h) (Or.inl ⟨by rfl, ?hy26⟩) hS ?re26
    case hy26 => (intro w hSw; (try dsimp only at hSw); go_simp; (try with_reducible rfl))
    simp only [Act.put, List.setIfInBounds_toArray, List.set_cons_zero, List.set_cons_succ]
    refine wpAnyD_done (by kernel_rfl) ?_ _
    go_wp2
    all_goals (go_ret; exact ⟨rfl, B12⟩)
end Go.Proofs.Ytkamagicnemppaa
