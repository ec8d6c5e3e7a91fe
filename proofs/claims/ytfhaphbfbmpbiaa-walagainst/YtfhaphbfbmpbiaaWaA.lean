
/-
  package wal: small functions; a sector's parts; a log on sectors, as plain lists.
-/
import Derived.Test.YtfhaphbfbmpbiaaDkG
import Derived.Test.YtfhaphbfbmpbiaaWiI
namespace Go.Proofs.Ytfhaphbfbmpbiaa
open Go.RowKit
set_option maxRecDepth 100000
set_option linter.unusedVariables false
set_option linter.unusedSimpArgs false

/-- How many sectors a record of so many bytes has. -/
def secs (n : Nat) : Nat := (n + 63) / 56
theorem secs_int (n : Nat) : ((secs n : Nat) : Int) = (8 + (n : Int) + 56 - 1) / 56 := by unfold secs; omega
theorem secs_int2 (n : Nat) : ((secs n : Nat) : Int) = ((n : Int) + 8 + 55) / 56 := by unfold secs; omega
theorem secs_pos (n : Nat) : 1 ≤ secs n := by unfold secs; omega

set_option maxHeartbeats 1000000 in
theorem secsOf_any (n : Nat) (hn : n ≤ 1048576) (w : World) : Calls Try.prog 33 #[.int .i64 n] w fun e w' => e = .returned (.int .i64 (secs n : Nat)) ∧ w' = w := by
  have n0 : (0 : Int) ≤ (n : Int) := by omega
  have n1 : (n : Int) ≤ 1048576 := by omega
  rw [secs_int]
  go_enter Try.func33, Try.ntmps33
  go_wp2
  go_ret
  exact ⟨rfl, rfl⟩

set_option maxHeartbeats 1000000 in
theorem nextStamp_any (n : Nat) (hn : n ≤ 1000000) (w : World) : Calls Try.prog 35 #[.int .i64 n] w fun e w' => e = .returned (.int .i64 (n + 1 : Nat)) ∧ w' = w := by
  have n0 : (0 : Int) ≤ (n : Int) := by omega
  have n1 : (n : Int) ≤ 1000000 := by omega
  have n2 : decide ((4294967295 : Int) ≤ (n : Int)) = false := by simp; omega
  clear hn
  rw [show ((n + 1 : Nat) : Int) = (n : Int) + 1 by omega]
  generalize (n : Int) = x at *
  go_enter Try.func35, Try.ntmps35
  go_wp2
  go_ret
  exact ⟨rfl, rfl⟩

set_option maxHeartbeats 1000000 in
theorem size_any (v : Value) (l : List Nat) (w : World) (h : BytesAt w v l) (hl : l.length ≤ 1048576) : Calls Try.prog 14 #[v] w fun e w' => e = .returned (.int .i64 (secs l.length : Nat)) ∧ w' = w := by
  obtain ⟨_, _, p, c, rfl, _⟩ := h
  rw [secs_int2]
  generalize l.length = n at *
  have n0 : (0 : Int) ≤ (n : Int) := by omega
  have n1 : (n : Int) ≤ 1048576 := by omega
  go_enter Try.func14, Try.ntmps14
  go_wp2
  go_ret
  exact ⟨rfl, rfl⟩

theorem str_beq {l m : List Nat} (hl : W8 l) (hm : W8 m) : ((strL l).toList == (strL m).toList) = decide (l = m) := by
  by_cases h : l = m
  · subst h; simp
  · rw [decide_eq_false h]
    exact beq_eq_false_iff_ne.2 (strL_ne hl hm h)
set_option maxHeartbeats 1000000 in
theorem equal_any (v u : Value) (l m : List Nat) (w : World) (h : BytesAt w v l) (k : BytesAt w u m) : Calls Try.prog 44 #[v, u] w fun e w' => e = .returned (.bool (decide (l = m))) ∧ w' = w := by
  have h1 := conv_str h
  have h2 := conv_str k
  rw [← str_beq h.1 k.1]
  go_enter Try.func44, Try.ntmps44
  go_wp2
  go_ret
  exact ⟨rfl, rfl⟩

/-- A sector's stamps, and what is between them. -/
def front (s : List Nat) : Nat := be (s.take 4)
def back (s : List Nat) : Nat := be ((s.drop 60).take 4)
def load (s : List Nat) : List Nat := (s.drop 4).take 56
def blank (s : List Nat) : Bool := decide (s = zs 64)
/-- A sector is 64 bytes. -/
structure Sec (s : List Nat) : Prop where
  len : s.length = 64
  w8 : W8 s
def secV (g : Nat) (s : List Nat) : Array Value := #[.int .i64 (front s : Nat), .int .i64 (back s : Nat), .slice (some ⟨g, 4, none⟩) 56 60, .bool (blank s)]

theorem secV_one (g : Nat) (s : List Nat) : (secV g s).all (·.oneCell') = true := by simp [secV, Value.oneCell']
theorem Row.piece {w : World} {b : Nat} {l : List Nat} (h : Row w b (bytesL l) 5) (hw : W8 l) (o n c : Nat) (hn : o + n ≤ l.length) (hl : l.length ≤ maxLen) : BytesAt w (.slice (some ⟨b, o, none⟩) n c) ((l.drop o).take n) := by
  have e : ((l.drop o).take n).length = n := by rw [List.length_take, List.length_drop]; omega
  refine ⟨fun x hx => hw x (List.mem_of_mem_drop (List.mem_of_mem_take hx)), by omega, _, _, by rw [e], fun i hi => ⟨b, o, rfl, h.lt, ?_⟩⟩
  rw [h.cell, bytesL_at _ _ (by omega), getD_take _ _ _ (by omega), getD_drop]
theorem Sec.frontT {s : List Nat} (h : Sec s) : be (rTake 4 (s, false)) = front s := by rw [rTake_yes rfl (by have := h.len; dsimp only; omega)]; rfl
theorem Sec.backT {s : List Nat} (h : Sec s) : be (rTake 4 ((s.drop 60).take 4, false)) = back s := by
  rw [rTake_yes rfl (by have := h.len; dsimp only; rw [List.length_take, List.length_drop]; omega)]
  dsimp only
  rw [List.take_take]
  rfl

set_option maxHeartbeats 4000000 in
theorem cut_any (g : Nat) (s : List Nat) (hs : Sec s) (w : World) (h : Row w g (bytesL s) 5) :
    Calls Try.prog 42 #[.slice (some ⟨g, 0, none⟩) 64 64] w fun e w' => e = .returned (.agg (secV g s)) ∧ Below w.heap.size w w' := by
  have hlen := hs.len
  have hsl : s.length ≤ 1048576 := by omega
  have hsm : s.length ≤ maxLen := by unfold maxLen; omega
  go_enter Try.func42, Try.ntmps42
  go_wp2_with fail
  have h1 := h.alloc (.cells #[Value.int IntKind.i64 0, Value.int IntKind.i64 0, Value.slice none 0 0, Value.bool false] 89)
  have hr1 := Row.new w #[Value.int IntKind.i64 0, Value.int IntKind.i64 0, Value.slice none 0 0, Value.bool false] 89 rfl
  have hb0 := below1 w (.cells #[Value.int IntKind.i64 0, Value.int IntKind.i64 0, Value.slice none 0 0, Value.bool false] 89)
  have hz0 : w.heap.size < (w.alloc (.cells #[Value.int IntKind.i64 0, Value.int IntKind.i64 0, Value.slice none 0 0, Value.bool false] 89)).heap.size := hr1.lt
  generalize w.alloc (.cells #[Value.int IntKind.i64 0, Value.int IntKind.i64 0, Value.slice none 0 0, Value.bool false] 89) = w1 at *
  refine wp_region_D (fun _ => true) (fun _ => True) (by kernel_rfl) ?_
  have hS : (fun _ : World => True) w1.drew := trivial
  refine' wpAnyD_take (i := 0) (v := _) rfl (by kernel_rfl) (by kernel_rfl) (by kernel_rfl) (by kernel_rfl) (fun _ _ _ h => h) (Or.inl ⟨by rfl, ?hy1⟩) hS ?re1
  case hy1 => (intro w hSw; (try dsimp only at hSw); go_simp; (try with_reducible rfl))
  simp only [Act.put, List.setIfInBounds_toArray, List.set_cons_zero, List.set_cons_succ]
  refine' wpAnyD_take (i := 1) (v := _) rfl (by kernel_rfl) (by kernel_rfl) (by kernel_rfl) (by kernel_rfl) (fun _ _ _ h => h) (Or.inl ⟨by rfl, ?hy2⟩) hS ?re2
  case hy2 => (intro w hSw; (try dsimp only at hSw); go_simp; (try with_reducible rfl))
  simp only [Act.put, List.setIfInBounds_toArray, List.set_cons_zero, List.set_cons_succ]
  refine' wpAnyD_take (i := 2) (v := _) rfl (by kernel_rfl) (by kernel_rfl) (by kernel_rfl) (by kernel_rfl) (fun _ _ _ h => h) (Or.inl ⟨by rfl, ?hy3⟩) hS ?re3
  case hy3 => (intro w hSw; (try dsimp only at hSw); go_simp; (try with_reducible rfl))
  simp only [Act.put, List.setIfInBounds_toArray, List.set_cons_zero, List.set_cons_succ]
  refine' wpAnyD_take (i := 3) (v := _) rfl (by kernel_rfl) (by kernel_rfl) (by kernel_rfl) (by kernel_rfl) (fun _ _ _ h => h) (Or.inl ⟨by rfl, ?hy4⟩) hS ?re4
  case hy4 => (intro w hSw; (try dsimp only at hSw); go_simp; (try with_reducible rfl))
  simp only [Act.put, List.setIfInBounds_toArray, List.set_cons_zero, List.set_cons_succ]
  refine' wpAnyD_take (i := 4) (v := _) rfl (by kernel_rfl) (by kernel_rfl) (by kernel_rfl) (by kernel_rfl) (fun _ _ _ h => h) (Or.inl ⟨by rfl, ?hy5⟩) hS ?re5
  case hy5 => (intro w hSw; (try dsimp only at hSw); go_simp; (try with_reducible rfl))
  simp only [Act.put, List.setIfInBounds_toArray, List.set_cons_zero, List.set_cons_succ]
  refine' wpAnyD_take (i := 5) (v := _) rfl (by kernel_rfl) (by kernel_rfl) (by kernel_rfl) (by kernel_rfl) (fun _ _ _ h => h) (Or.inl ⟨by rfl, ?hy6⟩) hS ?re6
  case hy6 => (intro w hSw; (try dsimp only at hSw); go_simp; (try with_reducible rfl))
  simp only [Act.put, List.setIfInBounds_toArray, List.set_cons_zero, List.set_cons_succ]
  refine wpAnyD_done (by kernel_rfl) ?_ _
  go_wp2_with fail
  refine wp_region_D (fun _ => true) (fun _ => True) (by kernel_rfl) ?_
  have hS : (fun _ : World => True) w1.drew := trivial
  refine' wpAnyD_take (i := 0) (v := _) rfl (by kernel_rfl) (by kernel_rfl) (by kernel_rfl) (by kernel_rfl) (fun _ _ _ h => h) (Or.inl ⟨by rfl, ?hy7⟩) hS ?re7
  case hy7 => (intro w hSw; (try dsimp only at hSw); go_simp; (try with_reducible rfl))
  simp only [Act.put, List.setIfInBounds_toArray, List.set_cons_zero, List.set_cons_succ]
  refine' wpAnyD_take (i := 3) (v := _) rfl (by kernel_rfl) (by kernel_rfl) (by kernel_rfl) (by kernel_rfl) (fun _ _ _ h => h) (Or.inl ⟨by rfl, ?hy8⟩) hS ?re8
  case hy8 => (intro w hSw; (try dsimp only at hSw); go_simp; (try with_reducible rfl))
  simp only [Act.put, List.setIfInBounds_toArray, List.set_cons_zero, List.set_cons_succ]
  refine' wpAnyD_take (i := 6) (v := _) rfl (by kernel_rfl) (by kernel_rfl) (by kernel_rfl) (by kernel_rfl) (fun _ _ _ h => h) (Or.inl ⟨by rfl, ?hy9⟩) hS ?re9
  case hy9 => (intro w hSw; (try dsimp only at hSw); go_simp; (try with_reducible rfl))
  simp only [Act.put, List.setIfInBounds_toArray, List.set_cons_zero, List.set_cons_succ]
  refine' wpAnyD_take (i := 7) (v := _) rfl (by kernel_rfl) (by kernel_rfl) (by kernel_rfl) (by kernel_rfl) (fun _ _ _ h => h) (Or.inl ⟨by rfl, ?hy10⟩) hS ?re10
  case hy10 => (intro w hSw; (try dsimp only at hSw); go_simp; (try with_reducible rfl))
  simp only [Act.put, List.setIfInBounds_toArray, List.set_cons_zero, List.set_cons_succ]
  refine' wpAnyD_take (i := 8) (v := _) rfl (by kernel_rfl) (by kernel_rfl) (by kernel_rfl) (by kernel_rfl) (fun _ _ _ h => h) (Or.inl ⟨by rfl, ?hy11⟩) hS ?re11
  case hy11 => (intro w hSw; (try dsimp only at hSw); go_simp; (try with_reducible rfl))
  simp only [Act.put, List.setIfInBounds_toArray, List.set_cons_zero, List.set_cons_succ]
  have hbw0 : Below w1.heap.size w1 w1.drew.drew := (Below.refl _ w1).drew.drew
  have hgb : ∀ wc, Below w1.heap.size w1 wc → BytesAt wc (.slice (some ⟨g, 0, none⟩) 64 64) s := fun wc hbc => (h1.later hbc).bytes hs.w8 hsm 64 64 hlen.symm
  have hgc : ∀ wc, Below w1.heap.size w1 wc → BytesAt wc (.slice (some ⟨g, 60, none⟩) 4 4) ((s.drop 60).take 4) := fun wc hbc => (h1.later hbc).piece hs.w8 60 4 4 (by omega) hsm
  have hcl : ((s.drop 60).take 4).length ≤ 1048576 := by rw [List.length_take]; omega
  generalize w1.drew.drew = w0 at *
  refine wpAnyD_all (rs := [1, 9]) (by kernel_rfl) (by simp) ?_
  refine AllD.cons (i := 1) rfl (by rfl) (fun K hK => ?_) ?_
  · go_simp
    refine (rdnew_any _ s w0 (hgb w0 hbw0) hsl).mono ?_
    rintro e w2 ⟨Rw2, Dw2, rfl, hRw2, hDw2, rdw2, hq⟩
    have hbw2 : Below w1.heap.size w1 w2 := hbw0.trans (hq.mono hbw0.size)
    have hzw2 : w1.heap.size ≤ Rw2 := Nat.le_trans hbw0.size hRw2
    try have hmw2 := hmw0.later hq
    clear hq hRw2 hDw2
    try dsimp only
    have hSn := trivial
    refine hK.out _ _ (fun _ => hSn) ?_
    clear hK K hS
    have hS := hSn
    clear hSn
    try simp only [Act.put, List.setIfInBounds_toArray, List.set_cons_zero, List.set_cons_succ]
    refine wpAnyD_all (rs := [2, 9]) (by kernel_rfl) (by simp) ?_
    refine AllD.cons (i := 2) rfl (by rfl) (fun K hK => ?_) ?_
    · go_simp
      refine (rint_any 4 (by decide) w2 Rw2 Dw2 _ rdw2).mono ?_
      rintro e w3 ⟨rfl, _, he⟩
      have hbw3 : Below w1.heap.size w1 w3 := hbw2.trans (he.below hbw2.size hzw2)
      try have hmw3 := hmw2.else he (by obtain ⟨_, _, rr, _⟩ := rdw2.ex; exact hmw2.ne rr (by decide))
      rw [hs.frontT]
      clear he
      try dsimp only
      have hSn := trivial
      refine hK.out _ _ (fun _ => hSn) ?_
      clear hK K hS
      have hS := hSn
      clear hSn
      try simp only [Act.put, List.setIfInBounds_toArray, List.set_cons_zero, List.set_cons_succ]
      refine wpAnyD_all (rs := [4, 9]) (by kernel_rfl) (by simp) ?_
      refine AllD.cons (i := 4) rfl (by rfl) (fun K hK => ?_) ?_
      · go_simp
        refine (rdnew_any _ ((s.drop 60).take 4) w3 (hgc w3 hbw3) hcl).mono ?_
        rintro e w4 ⟨Rw4, Dw4, rfl, hRw4, hDw4, rdw4, hq⟩
        have hbw4 : Below w1.heap.size w1 w4 := hbw3.trans (hq.mono hbw3.size)
        have hzw4 : w1.heap.size ≤ Rw4 := Nat.le_trans hbw3.size hRw4
        try have hmw4 := hmw3.later hq
        clear hq hRw4 hDw4
        try dsimp only
        have hSn := trivial
        refine hK.out _ _ (fun _ => hSn) ?_
        clear hK K hS
        have hS := hSn
        clear hSn
        try simp only [Act.put, List.setIfInBounds_toArray, List.set_cons_zero, List.set_cons_succ]
        refine wpAnyD_all (rs := [5, 9]) (by kernel_rfl) (by simp) ?_
        refine AllD.cons (i := 5) rfl (by rfl) (fun K hK => ?_) ?_
        · go_simp
          refine (rint_any 4 (by decide) w4 Rw4 Dw4 _ rdw4).mono ?_
          rintro e w5 ⟨rfl, _, he⟩
          have hbw5 : Below w1.heap.size w1 w5 := hbw4.trans (he.below hbw4.size hzw4)
          try have hmw5 := hmw4.else he (by obtain ⟨_, _, rr, _⟩ := rdw4.ex; exact hmw4.ne rr (by decide))
          rw [hs.backT]
          clear he
          try dsimp only
          have hSn := trivial
          refine hK.out _ _ (fun _ => hSn) ?_
          clear hK K hS
          have hS := hSn
          clear hSn
          try simp only [Act.put, List.setIfInBounds_toArray, List.set_cons_zero, List.set_cons_succ]
          refine wpAnyD_only (i := 9) rfl (by kernel_rfl) (by rfl) (fun K hK => ?_)
          go_simp
          have hmk : (Instr.makeSlice 31 (.int .i64 64) (.int .i64 64)).run Try.prog w5 = .ok (.slice (some ⟨(w5 : World).heap.size, 0, none⟩) 64 64) ((w5 : World).alloc (.cells (bytesL (zs 64)) 5)) := make_bytes 64 (by decide) w5
          rw [hmk]
          go_simp
          have hmw6 := Row.new w5 (bytesL (zs 64)) 5 rfl
          have hbw6 : Below w1.heap.size w1 ((w5 : World).alloc (.cells (bytesL (zs 64)) 5)) := hbw5.trans ((below1 w5 _).mono hbw5.size)
          try have rdw6 := rdw5.alloc (.cells (bytesL (zs 64)) 5)
          clear hmk
          try dsimp only
          have hSn := trivial
          refine hK.out _ _ (fun _ => hSn) ?_
          clear hK K hS
          have hS := hSn
          clear hSn
          try simp only [Act.put, List.setIfInBounds_toArray, List.set_cons_zero, List.set_cons_succ]
          generalize (w5 : World).alloc (.cells (bytesL (zs 64)) 5) = w6 at *
          refine wpAnyD_only (i := 10) rfl (by kernel_rfl) (by rfl) (fun K hK => ?_)
          go_simp
          refine (equal_any _ _ s (zs 64) w6 (hgb w6 hbw6) (hmw6.bytes (zs_w8 64) (by rw [zs_len]; unfold maxLen; omega) 64 64 rfl)).mono ?_
          rintro e w9 ⟨rfl, hw9⟩
          obtain rfl := hw9.symm
          clear hw9
          try dsimp only
          have hSn := trivial
          refine hK.out _ _ (fun _ => hSn) ?_
          clear hK K hS
          have hS := hSn
          clear hSn
          try simp only [Act.put, List.setIfInBounds_toArray, List.set_cons_zero, List.set_cons_succ]
          refine' wpAnyD_take (i := 11) (v := _) rfl (by kernel_rfl) (by kernel_rfl) (by kernel_rfl) (by kernel_rfl) (fun _ _ _ h => h) (Or.inl ⟨by rfl, ?hy12⟩) hS ?re12
          case hy12 => (intro w hSw; (try dsimp only at hSw); go_simp; (try with_reducible rfl))
          simp only [Act.put, List.setIfInBounds_toArray, List.set_cons_zero, List.set_cons_succ]
          have hr9 := hr1.later hbw6
          have c0 := hr9.cell 0
          have c1 := hr9.cell 1
          have c2 := hr9.cell 2
          have c3 := hr9.cell 3
          have hsz9 : w.heap.size < (w6 : World).heap.size := hr9.lt
          refine wpAnyD_only (i := 12) rfl (by kernel_rfl) (by rfl) (fun K hK => ?_)
          refine wp_store_row 89 _ _ rfl w.heap.size (secV g s) rfl rfl 89 _ hr9 (by kernel_rfl) rfl (secV_one g s) ?_
          try dsimp only
          have hSn := trivial
          refine hK.out _ _ (fun _ => hSn) ?_
          clear hK K hS
          have hS := hSn
          clear hSn
          try simp only [Act.put, List.setIfInBounds_toArray, List.set_cons_zero, List.set_cons_succ]
          refine wpAnyD_done (by kernel_rfl) ?_ _
          go_wp2
          refine bodyPost_ret (v := .agg (secV g s)) (results_cell_row Try.results42 _ _ w.heap.size 89 (secV g s) (0, 0) _ ?hp ?hg Try.underlying89 rfl (by kernel_rfl)) rfl ⟨rfl, ?hbb⟩
          case hp => rfl
          case hg => exact hr9.setRow _
          case hbb => exact Below.row (hb0.trans (hbw6.mono (Nat.le_of_lt hz0))) _ (Nat.le_refl _)
        · refine AllD.cons (i := 9) rfl (by rfl) (fun K hK => ?_) AllD.nil
          go_simp
          have hmk : (Instr.makeSlice 31 (.int .i64 64) (.int .i64 64)).run Try.prog w4 = .ok (.slice (some ⟨(w4 : World).heap.size, 0, none⟩) 64 64) ((w4 : World).alloc (.cells (bytesL (zs 64)) 5)) := make_bytes 64 (by decide) w4
          rw [hmk]
          go_simp
          have hmw5 := Row.new w4 (bytesL (zs 64)) 5 rfl
          have hbw5 : Below w1.heap.size w1 ((w4 : World).alloc (.cells (bytesL (zs 64)) 5)) := hbw4.trans ((below1 w4 _).mono hbw4.size)
          try have rdw5 := rdw4.alloc (.cells (bytesL (zs 64)) 5)
          clear hmk
          try dsimp only
          have hSn := trivial
          refine hK.out _ _ (fun _ => hSn) ?_
          clear hK K hS
          have hS := hSn
          clear hSn
          try simp only [Act.put, List.setIfInBounds_toArray, List.set_cons_zero, List.set_cons_succ]
          generalize (w4 : World).alloc (.cells (bytesL (zs 64)) 5) = w5 at *
          refine wpAnyD_only (i := 5) rfl (by kernel_rfl) (by rfl) (fun K hK => ?_)
          go_simp
          refine (rint_any 4 (by decide) w5 Rw4 Dw4 _ rdw5).mono ?_
          rintro e w6 ⟨rfl, _, he⟩
          have hbw6 : Below w1.heap.size w1 w6 := hbw5.trans (he.below hbw5.size hzw4)
          try have hmw6 := hmw5.else he (by obtain ⟨_, _, rr, _⟩ := rdw5.ex; exact hmw5.ne rr (by decide))
          rw [hs.backT]
          clear he
          try dsimp only
          have hSn := trivial
          refine hK.out _ _ (fun _ => hSn) ?_
          clear hK K hS
          have hS := hSn
          clear hSn
          try simp only [Act.put, List.setIfInBounds_toArray, List.set_cons_zero, List.set_cons_succ]
          refine wpAnyD_only (i := 10) rfl (by kernel_rfl) (by rfl) (fun K hK => ?_)
          go_simp
          refine (equal_any _ _ s (zs 64) w6 (hgb w6 hbw6) (hmw6.bytes (zs_w8 64) (by rw [zs_len]; unfold maxLen; omega) 64 64 rfl)).mono ?_
          rintro e w9 ⟨rfl, hw9⟩
          obtain rfl := hw9.symm
          clear hw9
          try dsimp only
          have hSn := trivial
          refine hK.out _ _ (fun _ => hSn) ?_
          clear hK K hS
          have hS := hSn
          clear hSn
          try simp only [Act.put, List.setIfInBounds_toArray, List.set_cons_zero, List.set_cons_succ]
          refine' wpAnyD_take (i := 11) (v := _) rfl (by kernel_rfl) (by kernel_rfl) (by kernel_rfl) (by kernel_rfl) (fun _ _ _ h => h) (Or.inl ⟨by rfl, ?hy13⟩) hS ?re13
          case hy13 => (intro w hSw; (try dsimp only at hSw); go_simp; (try with_reducible rfl))
          simp only [Act.put, List.setIfInBounds_toArray, List.set_cons_zero, List.set_cons_succ]
          have hr9 := hr1.later hbw6
          have c0 := hr9.cell 0
          have c1 := hr9.cell 1
          have c2 := hr9.cell 2
          have c3 := hr9.cell 3
          have hsz9 : w.heap.size < (w6 : World).heap.size := hr9.lt
          refine wpAnyD_only (i := 12) rfl (by kernel_rfl) (by rfl) (fun K hK => ?_)
          refine wp_store_row 89 _ _ rfl w.heap.size (secV g s) rfl rfl 89 _ hr9 (by kernel_rfl) rfl (secV_one g s) ?_
          try dsimp only
          have hSn := trivial
          refine hK.out _ _ (fun _ => hSn) ?_
          clear hK K hS
          have hS := hSn
          clear hSn
          try simp only [Act.put, List.setIfInBounds_toArray, List.set_cons_zero, List.set_cons_succ]
          refine wpAnyD_done (by kernel_rfl) ?_ _
          go_wp2
          refine bodyPost_ret (v := .agg (secV g s)) (results_cell_row Try.results42 _ _ w.heap.size 89 (secV g s) (0, 0) _ ?hp ?hg Try.underlying89 rfl (by kernel_rfl)) rfl ⟨rfl, ?hbb⟩
          case hp => rfl
          case hg => exact hr9.setRow _
          case hbb => exact Below.row (hb0.trans (hbw6.mono (Nat.le_of_lt hz0))) _ (Nat.le_refl _)
      · refine AllD.cons (i := 9) rfl (by rfl) (fun K hK => ?_) AllD.nil
        go_simp
        have hmk : (Instr.makeSlice 31 (.int .i64 64) (.int .i64 64)).run Try.prog w3 = .ok (.slice (some ⟨(w3 : World).heap.size, 0, none⟩) 64 64) ((w3 : World).alloc (.cells (bytesL (zs 64)) 5)) := make_bytes 64 (by decide) w3
        rw [hmk]
        go_simp
        have hmw4 := Row.new w3 (bytesL (zs 64)) 5 rfl
        have hbw4 : Below w1.heap.size w1 ((w3 : World).alloc (.cells (bytesL (zs 64)) 5)) := hbw3.trans ((below1 w3 _).mono hbw3.size)
        try have rdw4 := rdw3.alloc (.cells (bytesL (zs 64)) 5)
        clear hmk
        try dsimp only
        have hSn := trivial
        refine hK.out _ _ (fun _ => hSn) ?_
        clear hK K hS
        have hS := hSn
        clear hSn
        try simp only [Act.put, List.setIfInBounds_toArray, List.set_cons_zero, List.set_cons_succ]
        generalize (w3 : World).alloc (.cells (bytesL (zs 64)) 5) = w4 at *
        refine wpAnyD_only (i := 4) rfl (by kernel_rfl) (by rfl) (fun K hK => ?_)
        go_simp
        refine (rdnew_any _ ((s.drop 60).take 4) w4 (hgc w4 hbw4) hcl).mono ?_
        rintro e w5 ⟨Rw5, Dw5, rfl, hRw5, hDw5, rdw5, hq⟩
        have hbw5 : Below w1.heap.size w1 w5 := hbw4.trans (hq.mono hbw4.size)
        have hzw5 : w1.heap.size ≤ Rw5 := Nat.le_trans hbw4.size hRw5
        try have hmw5 := hmw4.later hq
        clear hq hRw5 hDw5
        try dsimp only
        have hSn := trivial
        refine hK.out _ _ (fun _ => hSn) ?_
        clear hK K hS
        have hS := hSn
        clear hSn
        try simp only [Act.put, List.setIfInBounds_toArray, List.set_cons_zero, List.set_cons_succ]
        refine wpAnyD_only (i := 5) rfl (by kernel_rfl) (by rfl) (fun K hK => ?_)
        go_simp
        refine (rint_any 4 (by decide) w5 Rw5 Dw5 _ rdw5).mono ?_
        rintro e w6 ⟨rfl, _, he⟩
        have hbw6 : Below w1.heap.size w1 w6 := hbw5.trans (he.below hbw5.size hzw5)
        try have hmw6 := hmw5.else he (by obtain ⟨_, _, rr, _⟩ := rdw5.ex; exact hmw5.ne rr (by decide))
        rw [hs.backT]
        clear he
        try dsimp only
        have hSn := trivial
        refine hK.out _ _ (fun _ => hSn) ?_
        clear hK K hS
        have hS := hSn
        clear hSn
        try simp only [Act.put, List.setIfInBounds_toArray, List.set_cons_zero, List.set_cons_succ]
        refine wpAnyD_only (i := 10) rfl (by kernel_rfl) (by rfl) (fun K hK => ?_)
        go_simp
        refine (equal_any _ _ s (zs 64) w6 (hgb w6 hbw6) (hmw6.bytes (zs_w8 64) (by rw [zs_len]; unfold maxLen; omega) 64 64 rfl)).mono ?_
        rintro e w9 ⟨rfl, hw9⟩
        obtain rfl := hw9.symm
        clear hw9
        try dsimp only
        have hSn := trivial
        refine hK.out _ _ (fun _ => hSn) ?_
        clear hK K hS
        have hS := hSn
        clear hSn
        try simp only [Act.put, List.setIfInBounds_toArray, List.set_cons_zero, List.set_cons_succ]
        refine' wpAnyD_take (i := 11) (v := _) rfl (by kernel_rfl) (by kernel_rfl) (by kernel_rfl) (by kernel_rfl) (fun _ _ _ h => h) (Or.inl ⟨by rfl, ?hy14⟩) hS ?re14
        case hy14 => (intro w hSw; (try dsimp only at hSw); go_simp; (try with_reducible rfl))
        simp only [Act.put, List.setIfInBounds_toArray, List.set_cons_zero, List.set_cons_succ]
        have hr9 := hr1.later hbw6
        have c0 := hr9.cell 0
        have c1 := hr9.cell 1
        have c2 := hr9.cell 2
        have c3 := hr9.cell 3
        have hsz9 : w.heap.size < (w6 : World).heap.size := hr9.lt
        refine wpAnyD_only (i := 12) rfl (by kernel_rfl) (by rfl) (fun K hK => ?_)
        refine wp_store_row 89 _ _ rfl w.heap.size (secV g s) rfl rfl 89 _ hr9 (by kernel_rfl) rfl (secV_one g s) ?_
        try dsimp only
        have hSn := trivial
        refine hK.out _ _ (fun _ => hSn) ?_
        clear hK K hS
        have hS := hSn
        clear hSn
        try simp only [Act.put, List.setIfInBounds_toArray, List.set_cons_zero, List.set_cons_succ]
        refine wpAnyD_done (by kernel_rfl) ?_ _
        go_wp2
        refine bodyPost_ret (v := .agg (secV g s)) (results_cell_row Try.results42 _ _ w.heap.size 89 (secV g s) (0, 0) _ ?hp ?hg Try.underlying89 rfl (by kernel_rfl)) rfl ⟨rfl, ?hbb⟩
        case hp => rfl
        case hg => exact hr9.setRow _
        case hbb => exact Below.row (hb0.trans (hbw6.mono (Nat.le_of_lt hz0))) _ (Nat.le_refl _)
    · refine AllD.cons (i := 9) rfl (by rfl) (fun K hK => ?_) AllD.nil
      go_simp
      have hmk : (Instr.makeSlice 31 (.int .i64 64) (.int .i64 64)).run Try.prog w2 = .ok (.slice (some ⟨(w2 : World).heap.size, 0, none⟩) 64 64) ((w2 : World).alloc (.cells (bytesL (zs 64)) 5)) := make_bytes 64 (by decide) w2
      rw [hmk]
      go_simp
      have hmw3 := Row.new w2 (bytesL (zs 64)) 5 rfl
      have hbw3 : Below w1.heap.size w1 ((w2 : World).alloc (.cells (bytesL (zs 64)) 5)) := hbw2.trans ((below1 w2 _).mono hbw2.size)
      try have rdw3 := rdw2.alloc (.cells (bytesL (zs 64)) 5)
      clear hmk
      try dsimp only
      have hSn := trivial
      refine hK.out _ _ (fun _ => hSn) ?_
      clear hK K hS
      have hS := hSn
      clear hSn
      try simp only [Act.put, List.setIfInBounds_toArray, List.set_cons_zero, List.set_cons_succ]
      generalize (w2 : World).alloc (.cells (bytesL (zs 64)) 5) = w3 at *
      refine wpAnyD_only (i := 2) rfl (by kernel_rfl) (by rfl) (fun K hK => ?_)
      go_simp
      refine (rint_any 4 (by decide) w3 Rw2 Dw2 _ rdw3).mono ?_
      rintro e w4 ⟨rfl, _, he⟩
      have hbw4 : Below w1.heap.size w1 w4 := hbw3.trans (he.below hbw3.size hzw2)
      try have hmw4 := hmw3.else he (by obtain ⟨_, _, rr, _⟩ := rdw3.ex; exact hmw3.ne rr (by decide))
      rw [hs.frontT]
      clear he
      try dsimp only
      have hSn := trivial
      refine hK.out _ _ (fun _ => hSn) ?_
      clear hK K hS
      have hS := hSn
      clear hSn
      try simp only [Act.put, List.setIfInBounds_toArray, List.set_cons_zero, List.set_cons_succ]
      refine wpAnyD_only (i := 4) rfl (by kernel_rfl) (by rfl) (fun K hK => ?_)
      go_simp
      refine (rdnew_any _ ((s.drop 60).take 4) w4 (hgc w4 hbw4) hcl).mono ?_
      rintro e w5 ⟨Rw5, Dw5, rfl, hRw5, hDw5, rdw5, hq⟩
      have hbw5 : Below w1.heap.size w1 w5 := hbw4.trans (hq.mono hbw4.size)
      have hzw5 : w1.heap.size ≤ Rw5 := Nat.le_trans hbw4.size hRw5
      try have hmw5 := hmw4.later hq
      clear hq hRw5 hDw5
      try dsimp only
      have hSn := trivial
      refine hK.out _ _ (fun _ => hSn) ?_
      clear hK K hS
      have hS := hSn
      clear hSn
      try simp only [Act.put, List.setIfInBounds_toArray, List.set_cons_zero, List.set_cons_succ]
      refine wpAnyD_only (i := 5) rfl (by kernel_rfl) (by rfl) (fun K hK => ?_)
      go_simp
      refine (rint_any 4 (by decide) w5 Rw5 Dw5 _ rdw5).mono ?_
      rintro e w6 ⟨rfl, _, he⟩
      have hbw6 : Below w1.heap.size w1 w6 := hbw5.trans (he.below hbw5.size hzw5)
      try have hmw6 := hmw5.else he (by obtain ⟨_, _, rr, _⟩ := rdw5.ex; exact hmw5.ne rr (by decide))
      rw [hs.backT]
      clear he
      try dsimp only
      have hSn := trivial
      refine hK.out _ _ (fun _ => hSn) ?_
      clear hK K hS
      have hS := hSn
      clear hSn
      try simp only [Act.put, List.setIfInBounds_toArray, List.set_cons_zero, List.set_cons_succ]
      refine wpAnyD_only (i := 10) rfl (by kernel_rfl) (by rfl) (fun K hK => ?_)
      go_simp
      refine (equal_any _ _ s (zs 64) w6 (hgb w6 hbw6) (hmw6.bytes (zs_w8 64) (by rw [zs_len]; unfold maxLen; omega) 64 64 rfl)).mono ?_
      rintro e w9 ⟨rfl, hw9⟩
      obtain rfl := hw9.symm
      clear hw9
      try dsimp only
      have hSn := trivial
      refine hK.out _ _ (fun _ => hSn) ?_
      clear hK K hS
      have hS := hSn
      clear hSn
      try simp only [Act.put, List.setIfInBounds_toArray, List.set_cons_zero, List.set_cons_succ]
      refine' wpAnyD_take (i := 11) (v := _) rfl (by kernel_rfl) (by kernel_rfl) (by kernel_rfl) (by kernel_rfl) (fun _ _ _ h => h) (Or.inl ⟨by rfl, ?hy15⟩) hS ?re15
      case hy15 => (intro w hSw; (try dsimp only at hSw); go_simp; (try with_reducible rfl))
      simp only [Act.put, List.setIfInBounds_toArray, List.set_cons_zero, List.set_cons_succ]
      have hr9 := hr1.later hbw6
      have c0 := hr9.cell 0
      have c1 := hr9.cell 1
      have c2 := hr9.cell 2
      have c3 := hr9.cell 3
      have hsz9 : w.heap.size < (w6 : World).heap.size := hr9.lt
      refine wpAnyD_only (i := 12) rfl (by kernel_rfl) (by rfl) (fun K hK => ?_)
      refine wp_store_row 89 _ _ rfl w.heap.size (secV g s) rfl rfl 89 _ hr9 (by kernel_rfl) rfl (secV_one g s) ?_
      try dsimp only
      have hSn := trivial
      refine hK.out _ _ (fun _ => hSn) ?_
      clear hK K hS
      have hS := hSn
      clear hSn
      try simp only [Act.put, List.setIfInBounds_toArray, List.set_cons_zero, List.set_cons_succ]
      refine wpAnyD_done (by kernel_rfl) ?_ _
      go_wp2
      refine bodyPost_ret (v := .agg (secV g s)) (results_cell_row Try.results42 _ _ w.heap.size 89 (secV g s) (0, 0) _ ?hp ?hg Try.underlying89 rfl (by kernel_rfl)) rfl ⟨rfl, ?hbb⟩
      case hp => rfl
      case hg => exact hr9.setRow _
      case hbb => exact Below.row (hb0.trans (hbw6.mono (Nat.le_of_lt hz0))) _ (Nat.le_refl _)
  · refine AllD.cons (i := 9) rfl (by rfl) (fun K hK => ?_) AllD.nil
    go_simp
    have hmk : (Instr.makeSlice 31 (.int .i64 64) (.int .i64 64)).run Try.prog w0 = .ok (.slice (some ⟨(w0 : World).heap.size, 0, none⟩) 64 64) ((w0 : World).alloc (.cells (bytesL (zs 64)) 5)) := make_bytes 64 (by decide) w0
    rw [hmk]
    go_simp
    have hmw2 := Row.new w0 (bytesL (zs 64)) 5 rfl
    have hbw2 : Below w1.heap.size w1 ((w0 : World).alloc (.cells (bytesL (zs 64)) 5)) := hbw0.trans ((below1 w0 _).mono hbw0.size)
    try have rdw2 := rdw0.alloc (.cells (bytesL (zs 64)) 5)
    clear hmk
    try dsimp only
    have hSn := trivial
    refine hK.out _ _ (fun _ => hSn) ?_
    clear hK K hS
    have hS := hSn
    clear hSn
    try simp only [Act.put, List.setIfInBounds_toArray, List.set_cons_zero, List.set_cons_succ]
    generalize (w0 : World).alloc (.cells (bytesL (zs 64)) 5) = w2 at *
    refine wpAnyD_only (i := 1) rfl (by kernel_rfl) (by rfl) (fun K hK => ?_)
    go_simp
    refine (rdnew_any _ s w2 (hgb w2 hbw2) hsl).mono ?_
    rintro e w3 ⟨Rw3, Dw3, rfl, hRw3, hDw3, rdw3, hq⟩
    have hbw3 : Below w1.heap.size w1 w3 := hbw2.trans (hq.mono hbw2.size)
    have hzw3 : w1.heap.size ≤ Rw3 := Nat.le_trans hbw2.size hRw3
    try have hmw3 := hmw2.later hq
    clear hq hRw3 hDw3
    try dsimp only
    have hSn := trivial
    refine hK.out _ _ (fun _ => hSn) ?_
    clear hK K hS
    have hS := hSn
    clear hSn
    try simp only [Act.put, List.setIfInBounds_toArray, List.set_cons_zero, List.set_cons_succ]
    refine wpAnyD_only (i := 2) rfl (by kernel_rfl) (by rfl) (fun K hK => ?_)
    go_simp
    refine (rint_any 4 (by decide) w3 Rw3 Dw3 _ rdw3).mono ?_
    rintro e w4 ⟨rfl, _, he⟩
    have hbw4 : Below w1.heap.size w1 w4 := hbw3.trans (he.below hbw3.size hzw3)
    try have hmw4 := hmw3.else he (by obtain ⟨_, _, rr, _⟩ := rdw3.ex; exact hmw3.ne rr (by decide))
    rw [hs.frontT]
    clear he
    try dsimp only
    have hSn := trivial
    refine hK.out _ _ (fun _ => hSn) ?_
    clear hK K hS
    have hS := hSn
    clear hSn
    try simp only [Act.put, List.setIfInBounds_toArray, List.set_cons_zero, List.set_cons_succ]
    refine wpAnyD_only (i := 4) rfl (by kernel_rfl) (by rfl) (fun K hK => ?_)
    go_simp
    refine (rdnew_any _ ((s.drop 60).take 4) w4 (hgc w4 hbw4) hcl).mono ?_
    rintro e w5 ⟨Rw5, Dw5, rfl, hRw5, hDw5, rdw5, hq⟩
    have hbw5 : Below w1.heap.size w1 w5 := hbw4.trans (hq.mono hbw4.size)
    have hzw5 : w1.heap.size ≤ Rw5 := Nat.le_trans hbw4.size hRw5
    try have hmw5 := hmw4.later hq
    clear hq hRw5 hDw5
    try dsimp only
    have hSn := trivial
    refine hK.out _ _ (fun _ => hSn) ?_
    clear hK K hS
    have hS := hSn
    clear hSn
    try simp only [Act.put, List.setIfInBounds_toArray, List.set_cons_zero, List.set_cons_succ]
    refine wpAnyD_only (i := 5) rfl (by kernel_rfl) (by rfl) (fun K hK => ?_)
    go_simp
    refine (rint_any 4 (by decide) w5 Rw5 Dw5 _ rdw5).mono ?_
    rintro e w6 ⟨rfl, _, he⟩
    have hbw6 : Below w1.heap.size w1 w6 := hbw5.trans (he.below hbw5.size hzw5)
    try have hmw6 := hmw5.else he (by obtain ⟨_, _, rr, _⟩ := rdw5.ex; exact hmw5.ne rr (by decide))
    rw [hs.backT]
    clear he
    try dsimp only
    have hSn := trivial
    refine hK.out _ _ (fun _ => hSn) ?_
    clear hK K hS
    have hS := hSn
    clear hSn
    try simp only [Act.put, List.setIfInBounds_toArray, List.set_cons_zero, List.set_cons_succ]
    refine wpAnyD_only (i := 10) rfl (by kernel_rfl) (by rfl) (fun K hK => ?_)
    go_simp
    refine (equal_any _ _ s (zs 64) w6 (hgb w6 hbw6) (hmw6.bytes (zs_w8 64) (by rw [zs_len]; unfold maxLen; omega) 64 64 rfl)).mono ?_
    rintro e w9 ⟨rfl, hw9⟩
    obtain rfl := hw9.symm
    clear hw9
    try dsimp only
    have hSn := trivial
    refine hK.out _ _ (fun _ => hSn) ?_
    clear hK K hS
    have hS := hSn
    clear hSn
    try simp only [Act.put, List.setIfInBounds_toArray, List.set_cons_zero, List.set_cons_succ]
    refine' wpAnyD_take (i := 11) (v := _) rfl (by kernel_rfl) (by kernel_rfl) (by kernel_rfl) (by kernel_rfl) (fun _ _ _ h => h) (Or.inl ⟨by rfl, ?hy16⟩) hS ?re16
    case hy16 => (intro w hSw; (try dsimp only at hSw); go_simp; (try with_reducible rfl))
    simp only [Act.put, List.setIfInBounds_toArray, List.set_cons_zero, List.set_cons_succ]
    have hr9 := hr1.later hbw6
    have c0 := hr9.cell 0
    have c1 := hr9.cell 1
    have c2 := hr9.cell 2
    have c3 := hr9.cell 3
    have hsz9 : w.heap.size < (w6 : World).heap.size := hr9.lt
    refine wpAnyD_only (i := 12) rfl (by kernel_rfl) (by rfl) (fun K hK => ?_)
    refine wp_store_row 89 _ _ rfl w.heap.size (secV g s) rfl rfl 89 _ hr9 (by kernel_rfl) rfl (secV_one g s) ?_
    try dsimp only
    have hSn := trivial
    refine hK.out _ _ (fun _ => hSn) ?_
    clear hK K hS
    have hS := hSn
    clear hSn
    try simp only [Act.put, List.setIfInBounds_toArray, List.set_cons_zero, List.set_cons_succ]
    refine wpAnyD_done (by kernel_rfl) ?_ _
    go_wp2
    refine bodyPost_ret (v := .agg (secV g s)) (results_cell_row Try.results42 _ _ w.heap.size 89 (secV g s) (0, 0) _ ?hp ?hg Try.underlying89 rfl (by kernel_rfl)) rfl ⟨rfl, ?hbb⟩
    case hp => rfl
    case hg => exact hr9.setRow _
    case hbb => exact Below.row (hb0.trans (hbw6.mono (Nat.le_of_lt hz0))) _ (Nat.le_refl _)
end Go.Proofs.Ytfhaphbfbmpbiaa
