
/-
  package disk: Write. For every disk, every number and all bytes.
-/
import Derived.Test.YtfhaphbfbmpbiaaDkY
namespace Go.Proofs.Ytfhaphbfbmpbiaa
open Go.RowKit
set_option maxRecDepth 100000
set_option linter.unusedVariables false
set_option linter.unusedSimpArgs false

/-- One more write. -/
def Dk.put (d : Dk) (at0 : Nat) (b : List Nat) : Dk := { d with ws := d.ws ++ [(at0, pad b)], cnt := d.cnt + 1, left := if d.armed then d.left - 1 else d.left }
theorem Dk.Ok.put {d : Dk} (h : d.Ok) {at0 : Nat} {b : List Nat} (ha : at0 < d.n) (hb : b.length ≤ 64) (h8 : W8 b) (hw : d.ws.length < 1000) (hc : d.cnt < 1000000) : (d.put at0 b).Ok := by
  refine ⟨h.f8, h.fl, h.n1, h.n2, ?_, ?_, ?_, ?_⟩
  · simp [Dk.put]; omega
  · simp [Dk.put]; omega
  · have := h.ll
    simp only [Dk.put]
    split <;> omega
  · intro x hx
    rcases List.mem_append.1 hx with hx | hx
    · exact h.wok x hx
    · obtain rfl := List.mem_singleton.1 hx
      exact ⟨ha, pad_len hb, pad_w8 h8⟩
theorem put_cur (d : Dk) (at0 : Nat) (b : List Nat) (k : Nat) : (d.put at0 b).cur k = if at0 = k then pad b else d.cur k := curW_snoc k _ d.ws (at0, pad b)

theorem zero_write (w : World) : (zeroValue 81).run Try.prog w = .ok (.agg (wr1 (0, zs 64))) w := by
  obtain ⟨i, hi, z0, z1, z2⟩ := info_some info_write3
  simp [zeroValue, typeInfo, hi, z0]
theorem wr1_set (a b : Nat) (l : List Nat) : (wr1 (a, l)).setIfInBounds 0 (.int .i64 (b : Nat)) = wr1 (b, l) := by simp [wr1]
theorem wr1_ne (x : Nat × List Nat) : ¬ wr1 x = #[] := by simp [wr1]

set_option maxHeartbeats 4000000 in
theorem write_any (at0 : Nat) (u : Value) (b : List Nat) (w : World) (R S : Nat) (v : Value) (d : Dk) (h : DkAt w R S v d) (hu : BytesAt w u b) (ha : at0 < d.n) (hb : b.length ≤ 64) (hdn : d.down = false) (hw : d.ws.length < 1000) (hc : d.cnt < 1000000) :
    Calls Try.prog 19 #[.pointer (some ⟨R, 0, none⟩), .int .i64 at0, u] w fun e w' => ∃ v', e = .returned (.int .i64 0) ∧ DkAt w' R S v' (d.put at0 b) ∧ DStep w w' R S v v' := by
  have hok := h.ok.put ha hb hu.1 hw hc
  have hdec : (decide ((0 : Int) ≤ (at0 : Int) ∧ (at0 : Int) < (d.n : Int))) = true := by simp; omega
  have hR := h.row.lt
  have hS0 := h.sure.lt
  obtain ⟨hu8, hum, pu, cu, rfl, hucells⟩ := id hu
  have hb' : (b.length : Int) ≤ 64 := by omega
  have hb0 : (0 : Int) ≤ (b.length : Int) := by omega
  have hb1 : ¬ (64 : Int) < (b.length : Int) := by omega
  clear hucells hum
  go_enter Try.func19, Try.ntmps19
  go_wp2_with (go_at_call 38; refine stop ?_)
  refine (has_any at0 w R S v d h).mono ?_
  rintro e w' ⟨rfl, hw'⟩
  obtain rfl := hw'.symm
  rw [hdec]
  clear hw' hdec
  go_wp2_with (go_at_call 39; refine stop ?_)
  refine (down_any _ R S v d h).mono ?_
  rintro e w' ⟨rfl, hw'⟩
  obtain rfl := hw'.symm
  rw [hdn]
  clear hw'
  have hz := zero_write w
  have hst := wr1_set 0 at0 (zs 64)
  have hne := wr1_ne (0, zs 64)
  have hxi := info_wr' (x := (at0, zs 64)) (zs_len 64)
  go_wp2_with (refine wpList_store_row rfl 81 _ _ rfl w.heap.size (wr1 (at0, zs 64)) rfl rfl 81 _ (heap_alloc_new w _) hxi (by rw [wr1_size (zs_len 64)]; first | rfl | rw [wr1_size (zs_len 64)]) (wr1_one _) ?_; refine stop ?_)
  unfold Stop
  clear hz hst hne
  have rg := (Row.new w (wr1 (0, zs 64)) 81 rfl).setRow (wr1 (at0, zs 64))
  have b2 : Below w.heap.size w ((w.alloc (.cells (wr1 (0, zs 64)) 81)).setRow w.heap.size (wr1 (at0, zs 64))) := Below.row (below1 w _) _ (Nat.le_refl _)
  have hs2 : w.heap.size < ((w.alloc (.cells (wr1 (0, zs 64)) 81)).setRow w.heap.size (wr1 (at0, zs 64))).heap.size := rg.lt
  generalize (w.alloc (.cells (wr1 (0, zs 64)) 81)).setRow w.heap.size (wr1 (at0, zs 64)) = w2 at *
  obtain ⟨nn, w3, hrun, rg3, e3⟩ := run_copy_pad w2 w.heap.size at0 _ b rg (hu.later b2) hb 3
  have b3 : Below w.heap.size w w3 := b2.trans (e3.below b2.size (Nat.le_refl _))
  have hs3 : w.heap.size < w3.heap.size := rg3.lt
  have h3 := h.later b3
  have hxi := info_wr' (x := (at0, pad b)) (pad_len hb)
  have hcs : (wr1 (at0, pad b)).size = 65 := wr1_size (pad_len hb)
  obtain ⟨pv, nv, cv, hv, hnv⟩ := ownsRow_form h.own
  subst hv hnv
  clear rg b2 hs2 hu e3
  go_wp2_with (first | (at_builtin; refine Lib.wpList_copy_run _ rfl _ _ _ _ rfl _ _ rfl rfl hrun ?_))
  clear hrun
  refine wp_region_D (fun i => i != 10) (fun w' : World => w'.cell? ⟨R, 1, none⟩ = some (.slice pv d.ws.length cv) ∧ Row w' w.heap.size (wr1 (at0, pad b)) 81) (by kernel_rfl) ?_
  have hS : (fun w' : World => w'.cell? ⟨R, 1, none⟩ = some (.slice pv d.ws.length cv) ∧ Row w' w.heap.size (wr1 (at0, pad b)) 81) w3.drew := ⟨h3.cells.2.1, rg3⟩
  have h4 : DkAt w3.drew R S (.slice pv d.ws.length cv) d := h3.drew
  have b4 : Below w.heap.size w w3.drew := b3.drew
  have hs4 : w.heap.size < w3.drew.heap.size := hs3
  clear h3 b3 hs3 rg3
  generalize w3.drew = w4 at *
  refine' wpAnyD_take (i := 0) (v := _) rfl (by kernel_rfl) (by kernel_rfl) (by kernel_rfl) (by kernel_rfl) (fun _ _ _ h => h) (Or.inl ⟨by rfl, ?hy1⟩) hS ?re1
  case hy1 => (intro w hSw; (try dsimp only at hSw); go_simp; (try with_reducible rfl))
  simp only [Act.put, List.setIfInBounds_toArray, List.set_cons_zero, List.set_cons_succ]
  refine' wpAnyD_take (i := 1) (v := _) rfl (by kernel_rfl) (by kernel_rfl) (by kernel_rfl) (by kernel_rfl) (fun _ _ _ h => h) (Or.inl ⟨by rfl, ?hy2⟩) hS ?re2
  case hy2 => (intro w hSw; (try dsimp only at hSw); go_simp; (try with_reducible rfl))
  simp only [Act.put, List.setIfInBounds_toArray, List.set_cons_zero, List.set_cons_succ]
  refine' wpAnyD_take (i := 2) (v := _) rfl (by kernel_rfl) (by kernel_rfl) (by kernel_rfl) (by kernel_rfl) (fun _ _ _ h => h) (Or.inl ⟨by rfl, ?hy3⟩) hS ?re3
  case hy3 => (intro w hSw; (try dsimp only at hSw); go_simp; (try with_reducible rfl))
  simp only [Act.put, List.setIfInBounds_toArray, List.set_cons_zero, List.set_cons_succ]
  refine' wpAnyD_take (i := 3) (v := _) rfl (by kernel_rfl) (by kernel_rfl) (by kernel_rfl) (by kernel_rfl) (fun _ _ _ h => h) (Or.inl ⟨by rfl, ?hy4⟩) hS ?re4
  case hy4 => (intro w hSw; (try dsimp only at hSw); go_simp; (try with_reducible rfl))
  simp only [Act.put, List.setIfInBounds_toArray, List.set_cons_zero, List.set_cons_succ]
  refine' wpAnyD_take (i := 4) (v := _) rfl (by kernel_rfl) (by kernel_rfl) (by kernel_rfl) (by kernel_rfl) (fun _ _ _ h => h) (Or.inl ⟨by rfl, ?hy5⟩) hS ?re5
  case hy5 => (intro w hSw; (try dsimp only at hSw); go_simp; (try with_reducible rfl))
  simp only [Act.put, List.setIfInBounds_toArray, List.set_cons_zero, List.set_cons_succ]
  refine wpAnyD_take (i := 5) rfl (by kernel_rfl) (by kernel_rfl) (by kernel_rfl) (by kernel_rfl) (fun _ _ _ h => h) (yields_row (by rfl) 81 _ rfl w.heap.size rfl 81 (wr1 (at0, pad b)) _ (fun _ h => h.2) Try.underlying81 rfl hxi) hS ?_
  simp only [Act.put, List.setIfInBounds_toArray, List.set_cons_zero, List.set_cons_succ]
  obtain ⟨v5, w5, run5, own5, gr5, mv5⟩ := append_one Try.underlying64 info_write3 rfl (by decide) (by decide) w4 0 64 _ _ _ h4.own (wr1 (at0, pad b)) hcs (wr1_one _) (by omega) (Nat.zero_le _) _ rfl
  generalize hq : wr1 (at0, pad b) = cs at *
  have HQ : Hid (wr1 (at0, pad b) = cs) := hq
  clear hq
  have hz := zero_write w4
  refine wpAnyD_only (i := 6) rfl (by kernel_rfl) (by rfl) (fun K hK => ?_)
  go_simp
  rw [lay_all _ cs _ hcs rfl]
  clear hz
  try dsimp only
  have hSn := (⟨(World.cell?_of_block (a := ⟨R, 1, none⟩) (heap_alloc_old w4 _ h4.row.lt)).trans hS.1, hS.2.alloc _⟩ : (fun w' : World => w'.cell? ⟨R, 1, none⟩ = some (.slice pv d.ws.length cv) ∧ Row w' w.heap.size cs 81) (w4.alloc (.cells cs 81)))
  refine hK.out _ _ (fun _ => hSn) ?_
  clear hK K hS
  have hS := hSn
  clear hSn
  try simp only [Act.put, List.setIfInBounds_toArray, List.set_cons_zero, List.set_cons_succ]
  have hv4 : ∀ k, (Value.slice pv d.ws.length cv).ownBlock = some k → k < w.heap.size := fun k hk => h.vlt hk
  have hRv : (Value.slice pv d.ws.length cv).ownBlock ≠ some R := h.vr
  have hSv : (Value.slice pv d.ws.length cv).ownBlock ≠ some S := h.vs
  have blk : ∀ j, j < w4.heap.size → (Value.slice pv d.ws.length cv).ownBlock ≠ some j → w5.heap[j]? = w4.heap[j]? := fun j hj hne => (gr5.block j (by simp; omega) (fun e => hne e.symm)).trans (heap_alloc_old w4 _ hj)
  have hsz5 : w4.heap.size ≤ w5.heap.size := by have := gr5.size; simp at this; omega
  refine wpAnyD_only (i := 7) rfl (by kernel_rfl) (by rfl) (fun K hK => ?_)
  refine Lib.wp_append_run _ _ _ _ _ rfl _ _ rfl rfl _ _ run5 ?_
  have c5 : w5.cell? ⟨R, 1, none⟩ = some (.slice pv d.ws.length cv) := (World.cell?_of_block (a := ⟨R, 1, none⟩) (blk R (by have := h4.row.lt; omega) hRv)).trans h4.cells.2.1
  try dsimp only
  have hSn := (⟨c5, (blk w.heap.size hs4 (fun e => by have := hv4 _ e; omega)).trans ((heap_alloc_old w4 _ hs4).symm.trans hS.2)⟩ : (fun w' : World => w'.cell? ⟨R, 1, none⟩ = some (.slice pv d.ws.length cv) ∧ Row w' w.heap.size cs 81) w5)
  refine hK.out _ _ (fun _ => hSn) ?_
  clear hK K hS
  have hS := hSn
  clear hSn
  try simp only [Act.put, List.setIfInBounds_toArray, List.set_cons_zero, List.set_cons_succ]
  refine' wpAnyD_take (i := 8) (v := _) rfl (by kernel_rfl) (by kernel_rfl) (by kernel_rfl) (by kernel_rfl) (fun _ _ _ h => h) (Or.inl ⟨by rfl, ?hy6⟩) hS ?re6
  case hy6 => (intro w hSw; (try dsimp only at hSw); go_simp; (try with_reducible rfl))
  simp only [Act.put, List.setIfInBounds_toArray, List.set_cons_zero, List.set_cons_succ]
  refine' wpAnyD_take (i := 9) (v := _) rfl (by kernel_rfl) (by kernel_rfl) (by kernel_rfl) (by kernel_rfl) (fun _ _ _ h => h) (Or.inl ⟨by rfl, ?hy7⟩) hS ?re7
  case hy7 => (intro w hSw; (try dsimp only at hSw); go_simp; (try with_reducible rfl))
  simp only [Act.put, List.setIfInBounds_toArray, List.set_cons_zero, List.set_cons_succ]
  have r5 : Row w5 R #[.slice (some ⟨S, 0, none⟩) d.n d.n, .slice pv d.ws.length cv, .int .i64 d.cnt, .bool d.armed, .int .i64 d.left] 66 := (blk R (by have := h4.row.lt; omega) hRv).trans h4.row
  have f5 := r5.frozen 1
  obtain ⟨p5, n5, cc5, rfl, hn5⟩ := ownsRow_form own5
  clear hn5
  refine wpAnyD_only (i := 10) rfl (by kernel_rfl) (by rfl) (fun K hK => ?_)
  go_simp
  refine hK.out _ _ (fun hh => by cases hh) ?_
  clear hK K
  try simp only [Act.put, List.setIfInBounds_toArray, List.set_cons_zero, List.set_cons_succ]
  refine wpAnyD_done (by kernel_rfl) ?_ _
  have fin : ∀ w' : World, (∀ j, j ≠ R → w'.heap[j]? = w5.heap[j]?) → w'.os = w5.os → w'.tape = w5.tape → w'.output = w5.output → w'.heap.size = w5.heap.size →
      Row w' R #[.slice (some ⟨S, 0, none⟩) d.n d.n, .slice p5 n5 cc5, .int .i64 (d.put at0 b).cnt, .bool d.armed, .int .i64 (d.put at0 b).left] 66 →
      DkAt w' R S (.slice p5 n5 cc5) (d.put at0 b) ∧ DStep w w' R S (.slice pv d.ws.length cv) (.slice p5 n5 cc5) := by
    intro w' ho e1 e2 e3 e4 hrow
    have hm : ∀ k, (Value.slice p5 n5 cc5).ownBlock = some k → (Value.slice pv d.ws.length cv).ownBlock = some k ∨ w4.heap.size < k := fun k hk => by
      rcases mv5 with e | e
      · exact Or.inl (e ▸ hk)
      · rw [e] at hk; simp at hk; exact Or.inr (by omega)
    have hR5 : (Value.slice p5 n5 cc5).ownBlock ≠ some R := fun e => by
      rcases hm R e with e | e
      · exact hRv e
      · have := h4.row.lt; omega
    refine ⟨⟨hok, hrow, ?_, ?_⟩, ⟨?_, ?_, ?_, ?_, ?_, ?_⟩⟩
    · exact (ho S h.rs.symm).trans ((blk S (by have := h4.sure.lt; omega) hSv).trans h4.sure)
    · have e6 : (d.put at0 b).ws = d.ws ++ [(at0, pad b)] := rfl
      rw [e6, wC_snoc, List.length_append, HQ.out]
      exact ownsRow_keep own5 fun k _ _ hk => ho k (fun e => hR5 (e ▸ hk))
    · exact e1.trans (gr5.os.trans b4.os)
    · exact e2.trans (gr5.tape.trans b4.tape)
    · exact e3.trans (gr5.output.trans b4.output)
    · rw [e4]; exact Nat.le_trans b4.size hsz5
    · intro k hk h1 h2 h3
      exact (ho k h1).trans ((blk k (Nat.lt_of_lt_of_le hk b4.size) h3).trans (b4.block k hk))
    · intro g hg
      rcases hm g hg with e | e
      · exact Or.inl e
      · exact Or.inr (by omega)
  have r6 := r5.set 1 (.slice p5 n5 cc5)
  have ho6 : ∀ j, j ≠ R → (w5.setCell ⟨R, 1, none⟩ (.slice p5 n5 cc5)).heap[j]? = w5.heap[j]? := fun j hj => heap_setCell_other w5 ⟨R, 1, none⟩ j _ hj
  have hs6 : (w5.setCell ⟨R, 1, none⟩ (.slice p5 n5 cc5)).heap.size = w5.heap.size := by simp [World.setCell]
  have he6 : (w5.setCell ⟨R, 1, none⟩ (.slice p5 n5 cc5)).os = w5.os ∧ (w5.setCell ⟨R, 1, none⟩ (.slice p5 n5 cc5)).tape = w5.tape ∧ (w5.setCell ⟨R, 1, none⟩ (.slice p5 n5 cc5)).output = w5.output := ⟨rfl, rfl, rfl⟩
  simp only [List.setIfInBounds_toArray, List.set_cons_zero, List.set_cons_succ] at r6
  clear hS f5 c5 r5 run5 hcs hxi
  have FIN : Hid _ := fin
  have HO : Hid _ := ho6
  have HS : Hid _ := hs6
  have HE : Hid _ := he6
  clear fin ho6 hs6 he6 own5 gr5 mv5 blk
  generalize w5.setCell ⟨R, 1, none⟩ (.slice p5 n5 cc5) = w6 at *
  have q2 := r6.cell 2
  have q3 := r6.cell 3
  have q4 := r6.cell 4
  have f2 := r6.frozen 2
  have f4 := r6.frozen 4
  simp only [List.getElem?_toArray, List.getElem?_cons_zero, List.getElem?_cons_succ] at q2 q3 q4
  have hcl : (d.cnt : Int) < 1000000 := by omega
  have hc0 : (0 : Int) ≤ (d.cnt : Int) := by omega
  have hll : (d.left : Int) ≤ 9223372036854775807 := by have := h.ok.ll; omega
  have hl0 : (0 : Int) ≤ (d.left : Int) := by omega
  cases har : d.armed with
  | false =>
    rw [har] at q3
    go_wp2
    go_ret
    have r7 := r6.set 2 (.int .i64 ((d.cnt : Int) + 1))
    simp only [List.setIfInBounds_toArray, List.set_cons_zero, List.set_cons_succ] at r7
    obtain ⟨x1, x2⟩ := FIN.out (w6.setCell ⟨R, 2, none⟩ (.int .i64 ((d.cnt : Int) + 1))) (fun j hj => (heap_setCell_other w6 ⟨R, 2, none⟩ j _ hj).trans (HO.out j hj)) HE.out.1 HE.out.2.1 HE.out.2.2 ((by simp [World.setCell] : (w6.setCell ⟨R, 2, none⟩ (.int .i64 ((d.cnt : Int) + 1))).heap.size = w6.heap.size).trans HS.out) (by
      have e1 : ((d.put at0 b).cnt : Int) = (d.cnt : Int) + 1 := by simp [Dk.put]
      have e2 : (d.put at0 b).left = d.left := by simp [Dk.put, har]
      rw [e1, e2]
      exact r7)
    exact ⟨_, rfl, x1, x2⟩
  | true =>
    rw [har] at q3
    have hlp : 0 < d.left := by
      rcases Nat.eq_zero_or_pos d.left with e | e
      · simp [Dk.down, har, e] at hdn
      · exact e
    go_wp2
    go_ret
    have r7 := (r6.set 2 (.int .i64 ((d.cnt : Int) + 1))).set 4 (.int .i64 ((d.left : Int) - 1))
    simp only [List.setIfInBounds_toArray, List.set_cons_zero, List.set_cons_succ] at r7
    obtain ⟨x1, x2⟩ := FIN.out ((w6.setCell ⟨R, 2, none⟩ (.int .i64 ((d.cnt : Int) + 1))).setCell ⟨R, 4, none⟩ (.int .i64 ((d.left : Int) - 1))) (fun j hj => (heap_setCell_other _ ⟨R, 4, none⟩ j _ hj).trans ((heap_setCell_other w6 ⟨R, 2, none⟩ j _ hj).trans (HO.out j hj))) HE.out.1 HE.out.2.1 HE.out.2.2 ((by simp [World.setCell] : ((w6.setCell ⟨R, 2, none⟩ (.int .i64 ((d.cnt : Int) + 1))).setCell ⟨R, 4, none⟩ (.int .i64 ((d.left : Int) - 1))).heap.size = w6.heap.size).trans HS.out) (by
      have e1 : ((d.put at0 b).cnt : Int) = (d.cnt : Int) + 1 := by simp [Dk.put]
      have e2 : ((d.put at0 b).left : Int) = (d.left : Int) - 1 := by simp [Dk.put, har]; omega
      rw [e1, e2]
      exact r7)
    exact ⟨_, rfl, x1, x2⟩

set_option maxHeartbeats 1000000 in
theorem write_bad (at0 : Int) (u : Value) (b : List Nat) (w : World) (R S : Nat) (v : Value) (d : Dk) (h : DkAt w R S v d) (hu : BytesAt w u b) (ha : ¬ (0 ≤ at0 ∧ at0 < d.n) ∨ 64 < b.length) :
    Calls Try.prog 19 #[.pointer (some ⟨R, 0, none⟩), .int .i64 at0, u] w fun e w' => e = .returned (.int .i64 5) ∧ w' = w := by
  obtain ⟨hu8, hum, pu, cu, rfl, hucells⟩ := hu
  unfold maxLen at hum
  have hb0 : (0 : Int) ≤ (b.length : Int) := by omega
  have hb1 : (b.length : Int) ≤ 9223372036854775807 := by omega
  clear hucells
  go_enter Try.func19, Try.ntmps19
  go_wp2_with (go_at_call 38; refine stop ?_)
  refine (has_any at0 w R S v d h).mono ?_
  rintro e w' ⟨rfl, hw'⟩
  obtain rfl := hw'.symm
  by_cases hin : 0 ≤ at0 ∧ at0 < d.n
  · have hb2 : (64 : Int) < (b.length : Int) := by
      rcases ha with e | e
      · exact absurd hin e
      · omega
    rw [show decide (0 ≤ at0 ∧ at0 < (d.n : Int)) = true by simp; omega]
    clear hin ha hw'
    go_wp2
    go_ret
    exact ⟨rfl, rfl⟩
  · rw [show decide (0 ≤ at0 ∧ at0 < (d.n : Int)) = false by simp; omega]
    clear hin ha hw'
    go_wp2
    go_ret
    exact ⟨rfl, rfl⟩

set_option maxHeartbeats 1000000 in
theorem write_down (at0 : Nat) (u : Value) (b : List Nat) (w : World) (R S : Nat) (v : Value) (d : Dk) (h : DkAt w R S v d) (hu : BytesAt w u b) (ha : at0 < d.n) (hb : b.length ≤ 64) (hdn : d.down = true) :
    Calls Try.prog 19 #[.pointer (some ⟨R, 0, none⟩), .int .i64 at0, u] w fun e w' => e = .returned (.int .i64 4) ∧ w' = w := by
  have hdec : (decide ((0 : Int) ≤ (at0 : Int) ∧ (at0 : Int) < (d.n : Int))) = true := by simp; omega
  obtain ⟨hu8, hum, pu, cu, rfl, hucells⟩ := hu
  have hb0 : (0 : Int) ≤ (b.length : Int) := by omega
  have hb1 : (b.length : Int) ≤ 64 := by omega
  clear hucells hum
  go_enter Try.func19, Try.ntmps19
  go_wp2_with (go_at_call 38; refine stop ?_)
  refine (has_any at0 w R S v d h).mono ?_
  rintro e w' ⟨rfl, hw'⟩
  obtain rfl := hw'.symm
  rw [hdec]
  clear hw' hdec
  go_wp2_with (go_at_call 39; refine stop ?_)
  refine (down_any _ R S v d h).mono ?_
  rintro e w' ⟨rfl, hw'⟩
  obtain rfl := hw'.symm
  rw [hdn]
  clear hw'
  go_wp2
  go_ret
  exact ⟨rfl, rfl⟩
end Go.Proofs.Ytfhaphbfbmpbiaa
