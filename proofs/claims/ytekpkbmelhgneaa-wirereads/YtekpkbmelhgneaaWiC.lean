
/-
  package wire: Request of the kinds that have a span (its writer's calls stand in one region that draws its order).
-/
import Derived.Test.YtekpkbmelhgneaaWiB
namespace Go.Proofs.Ytekpkbmelhgneaa
open Go.RowKit
set_option maxRecDepth 100000
set_option linter.unusedSimpArgs false
set_option linter.unusedVariables false

theorem nums_row {w : World} {b : Nat} {v : Value} {l : List Nat} (h : WrAt w b v l) {g : Nat} {x y : Nat} (r : Row w g #[.int .u64 (x : Nat), .int .u64 (y : Nat)] 26) (hw : Word64 (x, y)) : NumsOff w (Far b v) (.slice (some ⟨g, 0, none⟩) 1 1) [(x, y)] := by
  refine ⟨by simp, _, _, rfl, fun i hi => ⟨g, 0, rfl, far_of_block h r (by decide) (by decide), r.lt, ?_, ?_, ?_⟩⟩
  all_goals obtain rfl : i = 0 := by simpa using hi
  · exact r.cell 0
  · exact r.cell 1
  · exact hw
theorem ints_row {w : World} {b : Nat} {v : Value} {l : List Nat} (h : WrAt w b v l) {g : Nat} (L : List Int) (hL : L.length ≤ 1000) {n c : Nat} (hn : n = L.length) {cs : Array Value} (r : Row w g cs 3) (hcs : cs = (L.map fun x => Value.int .i64 x).toArray) : IntsOff w (Far b v) (.slice (some ⟨g, 0, none⟩) n c) L := by
  subst hn hcs
  refine ⟨hL, _, _, rfl, fun i hi => ⟨g, 0, rfl, far_of_block h r (by decide) (by decide), r.lt, ?_⟩⟩
  rw [Nat.zero_add, r.cell]
  simp [hi]

set_option maxHeartbeats 4000000 in
theorem reqB_span6 (K : Nat) (hk : K = 6) (va vt : Value) (hi lo fr to lim : Nat) (w : World) (base : Nat) (hwhi : Word64 (hi, lo)) (h1a : va.oneCell' = true) (h1t : vt.oneCell' = true) :
    Calls Try.prog 14 #[.agg (rqC K va vt hi lo fr to lim)] w fun e w' => ∃ v', e = .returned v' ∧ Own w' w.heap.size v' (intB 1 (K : Nat) ++ numB (hi, lo) ++ (intB 6 (fr : Nat) ++ intB 6 (to : Nat)) ++ intB 1 (lim : Nat)) ∧ Below w.heap.size w w' := by
  subst hk
  have b0 := below2 w (.cells (rqC 6 va vt hi lo fr to lim) 28) (.cells #[.slice none 0 0] 54)
  have r0 : Row ((w.alloc (.cells (rqC 6 va vt hi lo fr to lim) 28)).alloc (.cells #[.slice none 0 0] 54)) w.heap.size (rqC 6 va vt hi lo fr to lim) 28 := (Row.new w (rqC 6 va vt hi lo fr to lim) 28 rfl).alloc _
  have h0 : WrAt ((w.alloc (.cells (rqC 6 va vt hi lo fr to lim) 28)).alloc (.cells #[.slice none 0 0] 54)) (w.heap.size + 1) (.slice none 0 0) [] := by have := wr_new (w.alloc (.cells (rqC 6 va vt hi lo fr to lim) 28)); simpa using this
  have k0 : (rqC 6 va vt hi lo fr to lim)[0]? = some (.int .i64 (6 : Nat)) := rfl
  have k1 : (rqC 6 va vt hi lo fr to lim)[1]? = some va := rfl
  have k2 : (rqC 6 va vt hi lo fr to lim)[2]? = some vt := rfl
  have k3 : (rqC 6 va vt hi lo fr to lim)[3]? = some (.int .u64 (hi : Nat)) := rfl
  have k4 : (rqC 6 va vt hi lo fr to lim)[4]? = some (.int .u64 (lo : Nat)) := rfl
  have k5 : (rqC 6 va vt hi lo fr to lim)[5]? = some (.int .i64 (fr : Nat)) := rfl
  have k6 : (rqC 6 va vt hi lo fr to lim)[6]? = some (.int .i64 (to : Nat)) := rfl
  have k7 : (rqC 6 va vt hi lo fr to lim)[7]? = some (.int .i64 (lim : Nat)) := rfl
  have hcs : (rqC 6 va vt hi lo fr to lim).size = 8 := rfl
  obtain ⟨b, hb⟩ : ∃ b, w.heap.size + 1 = b := ⟨_, rfl⟩
  have hAb : w.heap.size ≠ b := by omega
  have z0 : Hid (b + 1 = ((w.alloc (.cells (rqC 6 va vt hi lo fr to lim) 28)).alloc (.cells #[.slice none 0 0] 54)).heap.size) := by show _ = _; rw [← hb]; simp
  have HB : Hid (w.heap.size + 1 = b) := hb
  rw [hb] at h0
  have s0 : WStep ((w.alloc (.cells (rqC 6 va vt hi lo fr to lim) 28)).alloc (.cells #[.slice none 0 0] 54)) ((w.alloc (.cells (rqC 6 va vt hi lo fr to lim) 28)).alloc (.cells #[.slice none 0 0] 54)) b (.slice none 0 0) (.slice none 0 0) := WStep.refl _ _ _
  generalize (rqC 6 va vt hi lo fr to lim) = cs at *
  have ce0 := (r0.cell 0).trans k0
  go_enter Try.func14, Try.ntmps14
  have c0_0 := (r0.cell 0).trans k0
  go_wp2_with (go_at_call 24; refine stop ?_)
  clear hb
  generalize (w.alloc (.cells cs 28)).alloc (.cells #[.slice none 0 0] 54) = u0 at *
  have hp0 := ints_new h0 [6] (by simp) _ 1 1 z0.out rfl _ rfl 3
  have ha0 := h0.alloc (.cells #[.int .i64 6] 3)
  have ra0 := r0.alloc (.cells #[.int .i64 6] 3)
  have sa0 := s0.alloc (.cells #[.int .i64 6] 3)
  have hf0 : Far b _ w.heap.size := ⟨hAb, own_ne ha0.own ra0 (by decide)⟩
  refine (wint' 1 (by decide) _ rfl _ [6] _ b _ _ ha0 hp0 (by first | omega | (simp [numB_len, intB_len]; omega) | simp [numB_len, intB_len])).mono ?_
  rintro e u1 ⟨v1, rfl, h1, q0⟩
  have r1 : Row u1 w.heap.size cs 28 := (q0.far hf0 ra0.lt).trans ra0
  have s1 := sa0.trans q0
  have c0 := (r1.cell 0).trans k0
  simp only [List.flatMap_cons, List.flatMap_nil, List.append_nil] at h1
  clear hp0 ha0 ra0 sa0 hf0 q0 r0 s0 h0 z0 c0_0
  go_wp2_with fail
  refine wp_region_D (fun _ => true) (fun w' : World => w'.cell? ⟨w.heap.size, 3, none⟩ = some (.int .u64 (hi : Nat)) ∧ w'.cell? ⟨w.heap.size, 4, none⟩ = some (.int .u64 (lo : Nat)) ∧ w'.cell? ⟨w.heap.size, 5, none⟩ = some (.int .i64 (fr : Nat)) ∧ w'.cell? ⟨w.heap.size, 6, none⟩ = some (.int .i64 (to : Nat)) ∧ w'.cell? ⟨w.heap.size, 7, none⟩ = some (.int .i64 (lim : Nat))) (by kernel_rfl) ?_
  have h2 : WrAt u1.drew b v1 _ := h1.later (Below.refl _ _).drew
  have rA2 : Row u1.drew w.heap.size cs 28 := r1
  have sw2 := s1.trans (WStep.of (Below.refl u1.heap.size u1).drew b v1)
  have hS : (fun w' : World => w'.cell? ⟨w.heap.size, 3, none⟩ = some (.int .u64 (hi : Nat)) ∧ w'.cell? ⟨w.heap.size, 4, none⟩ = some (.int .u64 (lo : Nat)) ∧ w'.cell? ⟨w.heap.size, 5, none⟩ = some (.int .i64 (fr : Nat)) ∧ w'.cell? ⟨w.heap.size, 6, none⟩ = some (.int .i64 (to : Nat)) ∧ w'.cell? ⟨w.heap.size, 7, none⟩ = some (.int .i64 (lim : Nat))) u1.drew := ⟨(rA2.cell 3).trans k3, (rA2.cell 4).trans k4, (rA2.cell 5).trans k5, (rA2.cell 6).trans k6, (rA2.cell 7).trans k7⟩
  clear h1 r1 s1 c0
  refine' wpAnyD_take (i := 0) (v := _) rfl (by kernel_rfl) (by kernel_rfl) (by kernel_rfl) (by kernel_rfl) (fun _ _ _ h => h) (Or.inl ⟨by rfl, ?hy1⟩) hS ?re1
  case hy1 => (intro w hSw; (try dsimp only at hSw); go_simp; (try with_reducible rfl))
  simp only [Act.put, List.setIfInBounds_toArray, List.set_cons_zero, List.set_cons_succ]
  refine' wpAnyD_take (i := 1) (v := _) rfl (by kernel_rfl) (by kernel_rfl) (by kernel_rfl) (by kernel_rfl) (fun _ _ _ h => h) (Or.inl ⟨by rfl, ?hy2⟩) hS ?re2
  case hy2 => (intro w hSw; (try dsimp only at hSw); go_simp; (try with_reducible rfl))
  simp only [Act.put, List.setIfInBounds_toArray, List.set_cons_zero, List.set_cons_succ]
  refine' wpAnyD_take (i := 2) (v := _) rfl (by kernel_rfl) (by kernel_rfl) (by kernel_rfl) (by kernel_rfl) (fun _ _ _ h => h) (Or.inl ⟨by rfl, ?hy3⟩) hS ?re3
  case hy3 => (intro w hSw; (try dsimp only at hSw); go_simp; (try with_reducible rfl))
  simp only [Act.put, List.setIfInBounds_toArray, List.set_cons_zero, List.set_cons_succ]
  refine' wpAnyD_take (i := 5) (v := _) rfl (by kernel_rfl) (by kernel_rfl) (by kernel_rfl) (by kernel_rfl) (fun _ _ _ h => h) (Or.inl ⟨by rfl, ?hy4⟩) hS ?re4
  case hy4 => (intro w hSw; (try dsimp only at hSw); go_simp; (try with_reducible rfl))
  simp only [Act.put, List.setIfInBounds_toArray, List.set_cons_zero, List.set_cons_succ]
  refine' wpAnyD_take (i := 6) (v := _) rfl (by kernel_rfl) (by kernel_rfl) (by kernel_rfl) (by kernel_rfl) (fun _ _ _ h => h) (Or.inl ⟨by rfl, ?hy5⟩) hS ?re5
  case hy5 => (intro w hSw; (try dsimp only at hSw); go_simp; (try with_reducible rfl))
  simp only [Act.put, List.setIfInBounds_toArray, List.set_cons_zero, List.set_cons_succ]
  refine' wpAnyD_take (i := 7) (v := _) rfl (by kernel_rfl) (by kernel_rfl) (by kernel_rfl) (by kernel_rfl) (fun _ _ _ h => h) (Or.inl ⟨by rfl, ?hy6⟩) hS ?re6
  case hy6 => (intro w hSw; (try dsimp only at hSw); go_simp; (try with_reducible rfl))
  simp only [Act.put, List.setIfInBounds_toArray, List.set_cons_zero, List.set_cons_succ]
  refine' wpAnyD_take (i := 8) (v := _) rfl (by kernel_rfl) (by kernel_rfl) (by kernel_rfl) (by kernel_rfl) (fun _ _ _ h => h) (Or.inl ⟨by rfl, ?hy7⟩) hS ?re7
  case hy7 => (intro w hSw; (try dsimp only at hSw); go_simp; (try with_reducible rfl))
  simp only [Act.put, List.setIfInBounds_toArray, List.set_cons_zero, List.set_cons_succ]
  refine' wpAnyD_take (i := 11) (v := _) rfl (by kernel_rfl) (by kernel_rfl) (by kernel_rfl) (by kernel_rfl) (fun _ _ _ h => h) (Or.inl ⟨by rfl, ?hy8⟩) hS ?re8
  case hy8 => (intro w hSw; (try dsimp only at hSw); go_simp; (try with_reducible rfl))
  simp only [Act.put, List.setIfInBounds_toArray, List.set_cons_zero, List.set_cons_succ]
  refine' wpAnyD_take (i := 12) (v := _) rfl (by kernel_rfl) (by kernel_rfl) (by kernel_rfl) (by kernel_rfl) (fun _ _ _ h => h) (Or.inl ⟨by rfl, ?hy9⟩) hS ?re9
  case hy9 => (intro w hSw; (try dsimp only at hSw); go_simp; (try with_reducible rfl))
  simp only [Act.put, List.setIfInBounds_toArray, List.set_cons_zero, List.set_cons_succ]
  generalize u1.drew = W2 at *
  refine wpAnyD_all (rs := [3, 9, 13]) (by kernel_rfl) (by simp) ?_
  refine AllD.cons (i := 3) rfl (by rfl) (fun K hK => ?_) ?_
  · go_simp
    have h3 := h2.alloc (.cells #[.int .u64 (hi : Nat), .int .u64 (lo : Nat)] 26)
    have rA3 := rA2.alloc (.cells #[.int .u64 (hi : Nat), .int .u64 (lo : Nat)] 26)
    have sw3 := sw2.alloc (.cells #[.int .u64 (hi : Nat), .int .u64 (lo : Nat)] 26)
    have R3_3 := Row.new W2 #[.int .u64 (hi : Nat), .int .u64 (lo : Nat)] 26 rfl
    try dsimp only
    have hSn : (fun w' : World => w'.cell? ⟨w.heap.size, 3, none⟩ = some (.int .u64 (hi : Nat)) ∧ w'.cell? ⟨w.heap.size, 4, none⟩ = some (.int .u64 (lo : Nat)) ∧ w'.cell? ⟨w.heap.size, 5, none⟩ = some (.int .i64 (fr : Nat)) ∧ w'.cell? ⟨w.heap.size, 6, none⟩ = some (.int .i64 (to : Nat)) ∧ w'.cell? ⟨w.heap.size, 7, none⟩ = some (.int .i64 (lim : Nat))) (W2.alloc (.cells #[.int .u64 (hi : Nat), .int .u64 (lo : Nat)] 26)) := ⟨(rA3.cell 3).trans k3, (rA3.cell 4).trans k4, (rA3.cell 5).trans k5, (rA3.cell 6).trans k6, (rA3.cell 7).trans k7⟩
    refine hK.out _ _ (fun _ => hSn) ?_
    clear hK K hSn hS
    generalize W2.alloc (.cells #[.int .u64 (hi : Nat), .int .u64 (lo : Nat)] 26) = W3 at *
    have hS : (fun w' : World => w'.cell? ⟨w.heap.size, 3, none⟩ = some (.int .u64 (hi : Nat)) ∧ w'.cell? ⟨w.heap.size, 4, none⟩ = some (.int .u64 (lo : Nat)) ∧ w'.cell? ⟨w.heap.size, 5, none⟩ = some (.int .i64 (fr : Nat)) ∧ w'.cell? ⟨w.heap.size, 6, none⟩ = some (.int .i64 (to : Nat)) ∧ w'.cell? ⟨w.heap.size, 7, none⟩ = some (.int .i64 (lim : Nat))) W3 := ⟨(rA3.cell 3).trans k3, (rA3.cell 4).trans k4, (rA3.cell 5).trans k5, (rA3.cell 6).trans k6, (rA3.cell 7).trans k7⟩
    try simp only [Act.put, List.setIfInBounds_toArray, List.set_cons_zero, List.set_cons_succ]
    refine wpAnyD_all (rs := [4, 9, 13]) (by kernel_rfl) (by simp) ?_
    refine AllD.cons (i := 4) rfl (by rfl) (fun K hK => ?_) ?_
    · go_simp
      refine (wnum_any _ [(hi, lo)] W3 b _ _ h3 (nums_row h3 R3_3 hwhi) (by simp [numB_len, intB_len])).mono ?_
      rintro e W4 ⟨V4, rfl, h4, q4⟩
      simp only [List.flatMap_cons, List.flatMap_nil, List.append_nil] at h4
      have rA4 : Row W4 w.heap.size cs 28 := (q4.far (far_of_block h3 rA3 (by decide) (by decide)) rA3.lt).trans rA3
      have sw4 := sw3.trans q4
      have R3_4 : Row W4 _ _ _ := (q4.far (far_of_block h3 R3_3 (by decide) (by decide)) R3_3.lt).trans R3_3
      try dsimp only
      have hSn : (fun w' : World => w'.cell? ⟨w.heap.size, 3, none⟩ = some (.int .u64 (hi : Nat)) ∧ w'.cell? ⟨w.heap.size, 4, none⟩ = some (.int .u64 (lo : Nat)) ∧ w'.cell? ⟨w.heap.size, 5, none⟩ = some (.int .i64 (fr : Nat)) ∧ w'.cell? ⟨w.heap.size, 6, none⟩ = some (.int .i64 (to : Nat)) ∧ w'.cell? ⟨w.heap.size, 7, none⟩ = some (.int .i64 (lim : Nat))) W4 := ⟨(rA4.cell 3).trans k3, (rA4.cell 4).trans k4, (rA4.cell 5).trans k5, (rA4.cell 6).trans k6, (rA4.cell 7).trans k7⟩
      refine hK.out _ _ (fun _ => hSn) ?_
      clear hK K hSn hS
      have hS : (fun w' : World => w'.cell? ⟨w.heap.size, 3, none⟩ = some (.int .u64 (hi : Nat)) ∧ w'.cell? ⟨w.heap.size, 4, none⟩ = some (.int .u64 (lo : Nat)) ∧ w'.cell? ⟨w.heap.size, 5, none⟩ = some (.int .i64 (fr : Nat)) ∧ w'.cell? ⟨w.heap.size, 6, none⟩ = some (.int .i64 (to : Nat)) ∧ w'.cell? ⟨w.heap.size, 7, none⟩ = some (.int .i64 (lim : Nat))) W4 := ⟨(rA4.cell 3).trans k3, (rA4.cell 4).trans k4, (rA4.cell 5).trans k5, (rA4.cell 6).trans k6, (rA4.cell 7).trans k7⟩
      try simp only [Act.put, List.setIfInBounds_toArray, List.set_cons_zero, List.set_cons_succ]
      refine wpAnyD_all (rs := [9, 13]) (by kernel_rfl) (by simp) ?_
      refine AllD.cons (i := 9) rfl (by rfl) (fun K hK => ?_) ?_
      · go_simp
        have h5 := h4.alloc (.cells #[.int .i64 (fr : Nat), .int .i64 (to : Nat)] 3)
        have rA5 := rA4.alloc (.cells #[.int .i64 (fr : Nat), .int .i64 (to : Nat)] 3)
        have sw5 := sw4.alloc (.cells #[.int .i64 (fr : Nat), .int .i64 (to : Nat)] 3)
        have R9_5 := Row.new W4 #[.int .i64 (fr : Nat), .int .i64 (to : Nat)] 3 rfl
        have R3_5 := R3_4.alloc (.cells #[.int .i64 (fr : Nat), .int .i64 (to : Nat)] 3)
        try dsimp only
        have hSn : (fun w' : World => w'.cell? ⟨w.heap.size, 3, none⟩ = some (.int .u64 (hi : Nat)) ∧ w'.cell? ⟨w.heap.size, 4, none⟩ = some (.int .u64 (lo : Nat)) ∧ w'.cell? ⟨w.heap.size, 5, none⟩ = some (.int .i64 (fr : Nat)) ∧ w'.cell? ⟨w.heap.size, 6, none⟩ = some (.int .i64 (to : Nat)) ∧ w'.cell? ⟨w.heap.size, 7, none⟩ = some (.int .i64 (lim : Nat))) (W4.alloc (.cells #[.int .i64 (fr : Nat), .int .i64 (to : Nat)] 3)) := ⟨(rA5.cell 3).trans k3, (rA5.cell 4).trans k4, (rA5.cell 5).trans k5, (rA5.cell 6).trans k6, (rA5.cell 7).trans k7⟩
        refine hK.out _ _ (fun _ => hSn) ?_
        clear hK K hSn hS
        generalize W4.alloc (.cells #[.int .i64 (fr : Nat), .int .i64 (to : Nat)] 3) = W5 at *
        have hS : (fun w' : World => w'.cell? ⟨w.heap.size, 3, none⟩ = some (.int .u64 (hi : Nat)) ∧ w'.cell? ⟨w.heap.size, 4, none⟩ = some (.int .u64 (lo : Nat)) ∧ w'.cell? ⟨w.heap.size, 5, none⟩ = some (.int .i64 (fr : Nat)) ∧ w'.cell? ⟨w.heap.size, 6, none⟩ = some (.int .i64 (to : Nat)) ∧ w'.cell? ⟨w.heap.size, 7, none⟩ = some (.int .i64 (lim : Nat))) W5 := ⟨(rA5.cell 3).trans k3, (rA5.cell 4).trans k4, (rA5.cell 5).trans k5, (rA5.cell 6).trans k6, (rA5.cell 7).trans k7⟩
        try simp only [Act.put, List.setIfInBounds_toArray, List.set_cons_zero, List.set_cons_succ]
        refine wpAnyD_all (rs := [10, 13]) (by kernel_rfl) (by simp) ?_
        refine AllD.cons (i := 10) rfl (by rfl) (fun K hK => ?_) ?_
        · go_simp
          refine (wint' 6 (by decide) _ rfl _ [((fr : Nat) : Int), ((to : Nat) : Int)] W5 b _ _ h5 (ints_row h5 [((fr : Nat) : Int), ((to : Nat) : Int)] (by simp) rfl R9_5 rfl) (by simp [numB_len, intB_len])).mono ?_
          rintro e W6 ⟨V6, rfl, h6, q6⟩
          simp only [List.flatMap_cons, List.flatMap_nil, List.append_nil] at h6
          have rA6 : Row W6 w.heap.size cs 28 := (q6.far (far_of_block h5 rA5 (by decide) (by decide)) rA5.lt).trans rA5
          have sw6 := sw5.trans q6
          have R3_6 : Row W6 _ _ _ := (q6.far (far_of_block h5 R3_5 (by decide) (by decide)) R3_5.lt).trans R3_5
          have R9_6 : Row W6 _ _ _ := (q6.far (far_of_block h5 R9_5 (by decide) (by decide)) R9_5.lt).trans R9_5
          try dsimp only
          have hSn : (fun w' : World => w'.cell? ⟨w.heap.size, 3, none⟩ = some (.int .u64 (hi : Nat)) ∧ w'.cell? ⟨w.heap.size, 4, none⟩ = some (.int .u64 (lo : Nat)) ∧ w'.cell? ⟨w.heap.size, 5, none⟩ = some (.int .i64 (fr : Nat)) ∧ w'.cell? ⟨w.heap.size, 6, none⟩ = some (.int .i64 (to : Nat)) ∧ w'.cell? ⟨w.heap.size, 7, none⟩ = some (.int .i64 (lim : Nat))) W6 := ⟨(rA6.cell 3).trans k3, (rA6.cell 4).trans k4, (rA6.cell 5).trans k5, (rA6.cell 6).trans k6, (rA6.cell 7).trans k7⟩
          refine hK.out _ _ (fun _ => hSn) ?_
          clear hK K hSn hS
          have hS : (fun w' : World => w'.cell? ⟨w.heap.size, 3, none⟩ = some (.int .u64 (hi : Nat)) ∧ w'.cell? ⟨w.heap.size, 4, none⟩ = some (.int .u64 (lo : Nat)) ∧ w'.cell? ⟨w.heap.size, 5, none⟩ = some (.int .i64 (fr : Nat)) ∧ w'.cell? ⟨w.heap.size, 6, none⟩ = some (.int .i64 (to : Nat)) ∧ w'.cell? ⟨w.heap.size, 7, none⟩ = some (.int .i64 (lim : Nat))) W6 := ⟨(rA6.cell 3).trans k3, (rA6.cell 4).trans k4, (rA6.cell 5).trans k5, (rA6.cell 6).trans k6, (rA6.cell 7).trans k7⟩
          try simp only [Act.put, List.setIfInBounds_toArray, List.set_cons_zero, List.set_cons_succ]
          refine wpAnyD_all (rs := [13]) (by kernel_rfl) (by simp) ?_
          refine AllD.cons (i := 13) rfl (by rfl) (fun K hK => ?_) ?_
          · go_simp
            have h7 := h6.alloc (.cells #[.int .i64 (lim : Nat)] 3)
            have rA7 := rA6.alloc (.cells #[.int .i64 (lim : Nat)] 3)
            have sw7 := sw6.alloc (.cells #[.int .i64 (lim : Nat)] 3)
            have R13_7 := Row.new W6 #[.int .i64 (lim : Nat)] 3 rfl
            have R3_7 := R3_6.alloc (.cells #[.int .i64 (lim : Nat)] 3)
            have R9_7 := R9_6.alloc (.cells #[.int .i64 (lim : Nat)] 3)
            try dsimp only
            have hSn : (fun w' : World => w'.cell? ⟨w.heap.size, 3, none⟩ = some (.int .u64 (hi : Nat)) ∧ w'.cell? ⟨w.heap.size, 4, none⟩ = some (.int .u64 (lo : Nat)) ∧ w'.cell? ⟨w.heap.size, 5, none⟩ = some (.int .i64 (fr : Nat)) ∧ w'.cell? ⟨w.heap.size, 6, none⟩ = some (.int .i64 (to : Nat)) ∧ w'.cell? ⟨w.heap.size, 7, none⟩ = some (.int .i64 (lim : Nat))) (W6.alloc (.cells #[.int .i64 (lim : Nat)] 3)) := ⟨(rA7.cell 3).trans k3, (rA7.cell 4).trans k4, (rA7.cell 5).trans k5, (rA7.cell 6).trans k6, (rA7.cell 7).trans k7⟩
            refine hK.out _ _ (fun _ => hSn) ?_
            clear hK K hSn hS
            generalize W6.alloc (.cells #[.int .i64 (lim : Nat)] 3) = W7 at *
            have hS : (fun w' : World => w'.cell? ⟨w.heap.size, 3, none⟩ = some (.int .u64 (hi : Nat)) ∧ w'.cell? ⟨w.heap.size, 4, none⟩ = some (.int .u64 (lo : Nat)) ∧ w'.cell? ⟨w.heap.size, 5, none⟩ = some (.int .i64 (fr : Nat)) ∧ w'.cell? ⟨w.heap.size, 6, none⟩ = some (.int .i64 (to : Nat)) ∧ w'.cell? ⟨w.heap.size, 7, none⟩ = some (.int .i64 (lim : Nat))) W7 := ⟨(rA7.cell 3).trans k3, (rA7.cell 4).trans k4, (rA7.cell 5).trans k5, (rA7.cell 6).trans k6, (rA7.cell 7).trans k7⟩
            try simp only [Act.put, List.setIfInBounds_toArray, List.set_cons_zero, List.set_cons_succ]
            refine wpAnyD_all (rs := [14]) (by kernel_rfl) (by simp) ?_
            refine AllD.cons (i := 14) rfl (by rfl) (fun K hK => ?_) ?_
            · go_simp
              refine (wint' 1 (by decide) _ rfl _ [((lim : Nat) : Int)] W7 b _ _ h7 (ints_row h7 [((lim : Nat) : Int)] (by simp) rfl R13_7 rfl) (by simp [numB_len, intB_len])).mono ?_
              rintro e W8 ⟨V8, rfl, h8, q8⟩
              simp only [List.flatMap_cons, List.flatMap_nil, List.append_nil] at h8
              have rA8 : Row W8 w.heap.size cs 28 := (q8.far (far_of_block h7 rA7 (by decide) (by decide)) rA7.lt).trans rA7
              have sw8 := sw7.trans q8
              have R3_8 : Row W8 _ _ _ := (q8.far (far_of_block h7 R3_7 (by decide) (by decide)) R3_7.lt).trans R3_7
              have R9_8 : Row W8 _ _ _ := (q8.far (far_of_block h7 R9_7 (by decide) (by decide)) R9_7.lt).trans R9_7
              have R13_8 : Row W8 _ _ _ := (q8.far (far_of_block h7 R13_7 (by decide) (by decide)) R13_7.lt).trans R13_7
              try dsimp only
              have hSn : (fun w' : World => w'.cell? ⟨w.heap.size, 3, none⟩ = some (.int .u64 (hi : Nat)) ∧ w'.cell? ⟨w.heap.size, 4, none⟩ = some (.int .u64 (lo : Nat)) ∧ w'.cell? ⟨w.heap.size, 5, none⟩ = some (.int .i64 (fr : Nat)) ∧ w'.cell? ⟨w.heap.size, 6, none⟩ = some (.int .i64 (to : Nat)) ∧ w'.cell? ⟨w.heap.size, 7, none⟩ = some (.int .i64 (lim : Nat))) W8 := ⟨(rA8.cell 3).trans k3, (rA8.cell 4).trans k4, (rA8.cell 5).trans k5, (rA8.cell 6).trans k6, (rA8.cell 7).trans k7⟩
              refine hK.out _ _ (fun _ => hSn) ?_
              clear hK K hSn hS
              have hS : (fun w' : World => w'.cell? ⟨w.heap.size, 3, none⟩ = some (.int .u64 (hi : Nat)) ∧ w'.cell? ⟨w.heap.size, 4, none⟩ = some (.int .u64 (lo : Nat)) ∧ w'.cell? ⟨w.heap.size, 5, none⟩ = some (.int .i64 (fr : Nat)) ∧ w'.cell? ⟨w.heap.size, 6, none⟩ = some (.int .i64 (to : Nat)) ∧ w'.cell? ⟨w.heap.size, 7, none⟩ = some (.int .i64 (lim : Nat))) W8 := ⟨(rA8.cell 3).trans k3, (rA8.cell 4).trans k4, (rA8.cell 5).trans k5, (rA8.cell 6).trans k6, (rA8.cell 7).trans k7⟩
              try simp only [Act.put, List.setIfInBounds_toArray, List.set_cons_zero, List.set_cons_succ]
              refine wpAnyD_done (by kernel_rfl) ?_ _
              go_wp2_with (go_at_call 28; refine stop ?_)
              refine (wbytes_any _ b _ _ h8 (by simp [numB_len, intB_len])).mono ?_
              rintro e uz ⟨vz, rfl, oz, bz⟩
              have bf : Below w.heap.size w W8 := below_of_wstep b0 sw8 (by have := HB.out; omega) (fun g hg => by cases hg)
              obtain ⟨pz, nz, cz, rfl, hz⟩ := oz.form
              clear hz
              have oz2 : Own uz w.heap.size (.slice pz nz cz) _ := ⟨oz.1, oz.2.imp id fun ⟨g, cap, cur, e, h1, h2⟩ => ⟨g, cap, cur, e, Nat.le_trans bf.size h1, h2⟩⟩
              clear oz
              go_wp2
              go_ret
              refine ⟨_, rfl, ?_, chain bf bz⟩
              simpa [List.append_assoc] using oz2
            exact AllD.nil
          exact AllD.nil
        refine AllD.cons (i := 13) rfl (by rfl) (fun K hK => ?_) ?_
        · go_simp
          have h6 := h5.alloc (.cells #[.int .i64 (lim : Nat)] 3)
          have rA6 := rA5.alloc (.cells #[.int .i64 (lim : Nat)] 3)
          have sw6 := sw5.alloc (.cells #[.int .i64 (lim : Nat)] 3)
          have R13_6 := Row.new W5 #[.int .i64 (lim : Nat)] 3 rfl
          have R3_6 := R3_5.alloc (.cells #[.int .i64 (lim : Nat)] 3)
          have R9_6 := R9_5.alloc (.cells #[.int .i64 (lim : Nat)] 3)
          try dsimp only
          have hSn : (fun w' : World => w'.cell? ⟨w.heap.size, 3, none⟩ = some (.int .u64 (hi : Nat)) ∧ w'.cell? ⟨w.heap.size, 4, none⟩ = some (.int .u64 (lo : Nat)) ∧ w'.cell? ⟨w.heap.size, 5, none⟩ = some (.int .i64 (fr : Nat)) ∧ w'.cell? ⟨w.heap.size, 6, none⟩ = some (.int .i64 (to : Nat)) ∧ w'.cell? ⟨w.heap.size, 7, none⟩ = some (.int .i64 (lim : Nat))) (W5.alloc (.cells #[.int .i64 (lim : Nat)] 3)) := ⟨(rA6.cell 3).trans k3, (rA6.cell 4).trans k4, (rA6.cell 5).trans k5, (rA6.cell 6).trans k6, (rA6.cell 7).trans k7⟩
          refine hK.out _ _ (fun _ => hSn) ?_
          clear hK K hSn hS
          generalize W5.alloc (.cells #[.int .i64 (lim : Nat)] 3) = W6 at *
          have hS : (fun w' : World => w'.cell? ⟨w.heap.size, 3, none⟩ = some (.int .u64 (hi : Nat)) ∧ w'.cell? ⟨w.heap.size, 4, none⟩ = some (.int .u64 (lo : Nat)) ∧ w'.cell? ⟨w.heap.size, 5, none⟩ = some (.int .i64 (fr : Nat)) ∧ w'.cell? ⟨w.heap.size, 6, none⟩ = some (.int .i64 (to : Nat)) ∧ w'.cell? ⟨w.heap.size, 7, none⟩ = some (.int .i64 (lim : Nat))) W6 := ⟨(rA6.cell 3).trans k3, (rA6.cell 4).trans k4, (rA6.cell 5).trans k5, (rA6.cell 6).trans k6, (rA6.cell 7).trans k7⟩
          try simp only [Act.put, List.setIfInBounds_toArray, List.set_cons_zero, List.set_cons_succ]
          refine wpAnyD_all (rs := [10]) (by kernel_rfl) (by simp) ?_
          refine AllD.cons (i := 10) rfl (by rfl) (fun K hK => ?_) ?_
          · go_simp
            refine (wint' 6 (by decide) _ rfl _ [((fr : Nat) : Int), ((to : Nat) : Int)] W6 b _ _ h6 (ints_row h6 [((fr : Nat) : Int), ((to : Nat) : Int)] (by simp) rfl R9_6 rfl) (by simp [numB_len, intB_len])).mono ?_
            rintro e W7 ⟨V7, rfl, h7, q7⟩
            simp only [List.flatMap_cons, List.flatMap_nil, List.append_nil] at h7
            have rA7 : Row W7 w.heap.size cs 28 := (q7.far (far_of_block h6 rA6 (by decide) (by decide)) rA6.lt).trans rA6
            have sw7 := sw6.trans q7
            have R3_7 : Row W7 _ _ _ := (q7.far (far_of_block h6 R3_6 (by decide) (by decide)) R3_6.lt).trans R3_6
            have R9_7 : Row W7 _ _ _ := (q7.far (far_of_block h6 R9_6 (by decide) (by decide)) R9_6.lt).trans R9_6
            have R13_7 : Row W7 _ _ _ := (q7.far (far_of_block h6 R13_6 (by decide) (by decide)) R13_6.lt).trans R13_6
            try dsimp only
            have hSn : (fun w' : World => w'.cell? ⟨w.heap.size, 3, none⟩ = some (.int .u64 (hi : Nat)) ∧ w'.cell? ⟨w.heap.size, 4, none⟩ = some (.int .u64 (lo : Nat)) ∧ w'.cell? ⟨w.heap.size, 5, none⟩ = some (.int .i64 (fr : Nat)) ∧ w'.cell? ⟨w.heap.size, 6, none⟩ = some (.int .i64 (to : Nat)) ∧ w'.cell? ⟨w.heap.size, 7, none⟩ = some (.int .i64 (lim : Nat))) W7 := ⟨(rA7.cell 3).trans k3, (rA7.cell 4).trans k4, (rA7.cell 5).trans k5, (rA7.cell 6).trans k6, (rA7.cell 7).trans k7⟩
            refine hK.out _ _ (fun _ => hSn) ?_
            clear hK K hSn hS
            have hS : (fun w' : World => w'.cell? ⟨w.heap.size, 3, none⟩ = some (.int .u64 (hi : Nat)) ∧ w'.cell? ⟨w.heap.size, 4, none⟩ = some (.int .u64 (lo : Nat)) ∧ w'.cell? ⟨w.heap.size, 5, none⟩ = some (.int .i64 (fr : Nat)) ∧ w'.cell? ⟨w.heap.size, 6, none⟩ = some (.int .i64 (to : Nat)) ∧ w'.cell? ⟨w.heap.size, 7, none⟩ = some (.int .i64 (lim : Nat))) W7 := ⟨(rA7.cell 3).trans k3, (rA7.cell 4).trans k4, (rA7.cell 5).trans k5, (rA7.cell 6).trans k6, (rA7.cell 7).trans k7⟩
            try simp only [Act.put, List.setIfInBounds_toArray, List.set_cons_zero, List.set_cons_succ]
            refine wpAnyD_all (rs := [14]) (by kernel_rfl) (by simp) ?_
            refine AllD.cons (i := 14) rfl (by rfl) (fun K hK => ?_) ?_
            · go_simp
              refine (wint' 1 (by decide) _ rfl _ [((lim : Nat) : Int)] W7 b _ _ h7 (ints_row h7 [((lim : Nat) : Int)] (by simp) rfl R13_7 rfl) (by simp [numB_len, intB_len])).mono ?_
              rintro e W8 ⟨V8, rfl, h8, q8⟩
              simp only [List.flatMap_cons, List.flatMap_nil, List.append_nil] at h8
              have rA8 : Row W8 w.heap.size cs 28 := (q8.far (far_of_block h7 rA7 (by decide) (by decide)) rA7.lt).trans rA7
              have sw8 := sw7.trans q8
              have R3_8 : Row W8 _ _ _ := (q8.far (far_of_block h7 R3_7 (by decide) (by decide)) R3_7.lt).trans R3_7
              have R9_8 : Row W8 _ _ _ := (q8.far (far_of_block h7 R9_7 (by decide) (by decide)) R9_7.lt).trans R9_7
              have R13_8 : Row W8 _ _ _ := (q8.far (far_of_block h7 R13_7 (by decide) (by decide)) R13_7.lt).trans R13_7
              try dsimp only
              have hSn : (fun w' : World => w'.cell? ⟨w.heap.size, 3, none⟩ = some (.int .u64 (hi : Nat)) ∧ w'.cell? ⟨w.heap.size, 4, none⟩ = some (.int .u64 (lo : Nat)) ∧ w'.cell? ⟨w.heap.size, 5, none⟩ = some (.int .i64 (fr : Nat)) ∧ w'.cell? ⟨w.heap.size, 6, none⟩ = some (.int .i64 (to : Nat)) ∧ w'.cell? ⟨w.heap.size, 7, none⟩ = some (.int .i64 (lim : Nat))) W8 := ⟨(rA8.cell 3).trans k3, (rA8.cell 4).trans k4, (rA8.cell 5).trans k5, (rA8.cell 6).trans k6, (rA8.cell 7).trans k7⟩
              refine hK.out _ _ (fun _ => hSn) ?_
              clear hK K hSn hS
              have hS : (fun w' : World => w'.cell? ⟨w.heap.size, 3, none⟩ = some (.int .u64 (hi : Nat)) ∧ w'.cell? ⟨w.heap.size, 4, none⟩ = some (.int .u64 (lo : Nat)) ∧ w'.cell? ⟨w.heap.size, 5, none⟩ = some (.int .i64 (fr : Nat)) ∧ w'.cell? ⟨w.heap.size, 6, none⟩ = some (.int .i64 (to : Nat)) ∧ w'.cell? ⟨w.heap.size, 7, none⟩ = some (.int .i64 (lim : Nat))) W8 := ⟨(rA8.cell 3).trans k3, (rA8.cell 4).trans k4, (rA8.cell 5).trans k5, (rA8.cell 6).trans k6, (rA8.cell 7).trans k7⟩
              try simp only [Act.put, List.setIfInBounds_toArray, List.set_cons_zero, List.set_cons_succ]
              refine wpAnyD_done (by kernel_rfl) ?_ _
              go_wp2_with (go_at_call 28; refine stop ?_)
              refine (wbytes_any _ b _ _ h8 (by simp [numB_len, intB_len])).mono ?_
              rintro e uz ⟨vz, rfl, oz, bz⟩
              have bf : Below w.heap.size w W8 := below_of_wstep b0 sw8 (by have := HB.out; omega) (fun g hg => by cases hg)
              obtain ⟨pz, nz, cz, rfl, hz⟩ := oz.form
              clear hz
              have oz2 : Own uz w.heap.size (.slice pz nz cz) _ := ⟨oz.1, oz.2.imp id fun ⟨g, cap, cur, e, h1, h2⟩ => ⟨g, cap, cur, e, Nat.le_trans bf.size h1, h2⟩⟩
              clear oz
              go_wp2
              go_ret
              refine ⟨_, rfl, ?_, chain bf bz⟩
              simpa [List.append_assoc] using oz2
            exact AllD.nil
          exact AllD.nil
        exact AllD.nil
      refine AllD.cons (i := 13) rfl (by rfl) (fun K hK => ?_) ?_
      · go_simp
        have h5 := h4.alloc (.cells #[.int .i64 (lim : Nat)] 3)
        have rA5 := rA4.alloc (.cells #[.int .i64 (lim : Nat)] 3)
        have sw5 := sw4.alloc (.cells #[.int .i64 (lim : Nat)] 3)
        have R13_5 := Row.new W4 #[.int .i64 (lim : Nat)] 3 rfl
        have R3_5 := R3_4.alloc (.cells #[.int .i64 (lim : Nat)] 3)
        try dsimp only
        have hSn : (fun w' : World => w'.cell? ⟨w.heap.size, 3, none⟩ = some (.int .u64 (hi : Nat)) ∧ w'.cell? ⟨w.heap.size, 4, none⟩ = some (.int .u64 (lo : Nat)) ∧ w'.cell? ⟨w.heap.size, 5, none⟩ = some (.int .i64 (fr : Nat)) ∧ w'.cell? ⟨w.heap.size, 6, none⟩ = some (.int .i64 (to : Nat)) ∧ w'.cell? ⟨w.heap.size, 7, none⟩ = some (.int .i64 (lim : Nat))) (W4.alloc (.cells #[.int .i64 (lim : Nat)] 3)) := ⟨(rA5.cell 3).trans k3, (rA5.cell 4).trans k4, (rA5.cell 5).trans k5, (rA5.cell 6).trans k6, (rA5.cell 7).trans k7⟩
        refine hK.out _ _ (fun _ => hSn) ?_
        clear hK K hSn hS
        generalize W4.alloc (.cells #[.int .i64 (lim : Nat)] 3) = W5 at *
        have hS : (fun w' : World => w'.cell? ⟨w.heap.size, 3, none⟩ = some (.int .u64 (hi : Nat)) ∧ w'.cell? ⟨w.heap.size, 4, none⟩ = some (.int .u64 (lo : Nat)) ∧ w'.cell? ⟨w.heap.size, 5, none⟩ = some (.int .i64 (fr : Nat)) ∧ w'.cell? ⟨w.heap.size, 6, none⟩ = some (.int .i64 (to : Nat)) ∧ w'.cell? ⟨w.heap.size, 7, none⟩ = some (.int .i64 (lim : Nat))) W5 := ⟨(rA5.cell 3).trans k3, (rA5.cell 4).trans k4, (rA5.cell 5).trans k5, (rA5.cell 6).trans k6, (rA5.cell 7).trans k7⟩
        try simp only [Act.put, List.setIfInBounds_toArray, List.set_cons_zero, List.set_cons_succ]
        refine wpAnyD_all (rs := [9]) (by kernel_rfl) (by simp) ?_
        refine AllD.cons (i := 9) rfl (by rfl) (fun K hK => ?_) ?_
        · go_simp
          have h6 := h5.alloc (.cells #[.int .i64 (fr : Nat), .int .i64 (to : Nat)] 3)
          have rA6 := rA5.alloc (.cells #[.int .i64 (fr : Nat), .int .i64 (to : Nat)] 3)
          have sw6 := sw5.alloc (.cells #[.int .i64 (fr : Nat), .int .i64 (to : Nat)] 3)
          have R9_6 := Row.new W5 #[.int .i64 (fr : Nat), .int .i64 (to : Nat)] 3 rfl
          have R3_6 := R3_5.alloc (.cells #[.int .i64 (fr : Nat), .int .i64 (to : Nat)] 3)
          have R13_6 := R13_5.alloc (.cells #[.int .i64 (fr : Nat), .int .i64 (to : Nat)] 3)
          try dsimp only
          have hSn : (fun w' : World => w'.cell? ⟨w.heap.size, 3, none⟩ = some (.int .u64 (hi : Nat)) ∧ w'.cell? ⟨w.heap.size, 4, none⟩ = some (.int .u64 (lo : Nat)) ∧ w'.cell? ⟨w.heap.size, 5, none⟩ = some (.int .i64 (fr : Nat)) ∧ w'.cell? ⟨w.heap.size, 6, none⟩ = some (.int .i64 (to : Nat)) ∧ w'.cell? ⟨w.heap.size, 7, none⟩ = some (.int .i64 (lim : Nat))) (W5.alloc (.cells #[.int .i64 (fr : Nat), .int .i64 (to : Nat)] 3)) := ⟨(rA6.cell 3).trans k3, (rA6.cell 4).trans k4, (rA6.cell 5).trans k5, (rA6.cell 6).trans k6, (rA6.cell 7).trans k7⟩
          refine hK.out _ _ (fun _ => hSn) ?_
          clear hK K hSn hS
          generalize W5.alloc (.cells #[.int .i64 (fr : Nat), .int .i64 (to : Nat)] 3) = W6 at *
          have hS : (fun w' : World => w'.cell? ⟨w.heap.size, 3, none⟩ = some (.int .u64 (hi : Nat)) ∧ w'.cell? ⟨w.heap.size, 4, none⟩ = some (.int .u64 (lo : Nat)) ∧ w'.cell? ⟨w.heap.size, 5, none⟩ = some (.int .i64 (fr : Nat)) ∧ w'.cell? ⟨w.heap.size, 6, none⟩ = some (.int .i64 (to : Nat)) ∧ w'.cell? ⟨w.heap.size, 7, none⟩ = some (.int .i64 (lim : Nat))) W6 := ⟨(rA6.cell 3).trans k3, (rA6.cell 4).trans k4, (rA6.cell 5).trans k5, (rA6.cell 6).trans k6, (rA6.cell 7).trans k7⟩
          try simp only [Act.put, List.setIfInBounds_toArray, List.set_cons_zero, List.set_cons_succ]
          refine wpAnyD_all (rs := [10]) (by kernel_rfl) (by simp) ?_
          refine AllD.cons (i := 10) rfl (by rfl) (fun K hK => ?_) ?_
          · go_simp
            refine (wint' 6 (by decide) _ rfl _ [((fr : Nat) : Int), ((to : Nat) : Int)] W6 b _ _ h6 (ints_row h6 [((fr : Nat) : Int), ((to : Nat) : Int)] (by simp) rfl R9_6 rfl) (by simp [numB_len, intB_len])).mono ?_
            rintro e W7 ⟨V7, rfl, h7, q7⟩
            simp only [List.flatMap_cons, List.flatMap_nil, List.append_nil] at h7
            have rA7 : Row W7 w.heap.size cs 28 := (q7.far (far_of_block h6 rA6 (by decide) (by decide)) rA6.lt).trans rA6
            have sw7 := sw6.trans q7
            have R3_7 : Row W7 _ _ _ := (q7.far (far_of_block h6 R3_6 (by decide) (by decide)) R3_6.lt).trans R3_6
            have R13_7 : Row W7 _ _ _ := (q7.far (far_of_block h6 R13_6 (by decide) (by decide)) R13_6.lt).trans R13_6
            have R9_7 : Row W7 _ _ _ := (q7.far (far_of_block h6 R9_6 (by decide) (by decide)) R9_6.lt).trans R9_6
            try dsimp only
            have hSn : (fun w' : World => w'.cell? ⟨w.heap.size, 3, none⟩ = some (.int .u64 (hi : Nat)) ∧ w'.cell? ⟨w.heap.size, 4, none⟩ = some (.int .u64 (lo : Nat)) ∧ w'.cell? ⟨w.heap.size, 5, none⟩ = some (.int .i64 (fr : Nat)) ∧ w'.cell? ⟨w.heap.size, 6, none⟩ = some (.int .i64 (to : Nat)) ∧ w'.cell? ⟨w.heap.size, 7, none⟩ = some (.int .i64 (lim : Nat))) W7 := ⟨(rA7.cell 3).trans k3, (rA7.cell 4).trans k4, (rA7.cell 5).trans k5, (rA7.cell 6).trans k6, (rA7.cell 7).trans k7⟩
            refine hK.out _ _ (fun _ => hSn) ?_
            clear hK K hSn hS
            have hS : (fun w' : World => w'.cell? ⟨w.heap.size, 3, none⟩ = some (.int .u64 (hi : Nat)) ∧ w'.cell? ⟨w.heap.size, 4, none⟩ = some (.int .u64 (lo : Nat)) ∧ w'.cell? ⟨w.heap.size, 5, none⟩ = some (.int .i64 (fr : Nat)) ∧ w'.cell? ⟨w.heap.size, 6, none⟩ = some (.int .i64 (to : Nat)) ∧ w'.cell? ⟨w.heap.size, 7, none⟩ = some (.int .i64 (lim : Nat))) W7 := ⟨(rA7.cell 3).trans k3, (rA7.cell 4).trans k4, (rA7.cell 5).trans k5, (rA7.cell 6).trans k6, (rA7.cell 7).trans k7⟩
            try simp only [Act.put, List.setIfInBounds_toArray, List.set_cons_zero, List.set_cons_succ]
            refine wpAnyD_all (rs := [14]) (by kernel_rfl) (by simp) ?_
            refine AllD.cons (i := 14) rfl (by rfl) (fun K hK => ?_) ?_
            · go_simp
              refine (wint' 1 (by decide) _ rfl _ [((lim : Nat) : Int)] W7 b _ _ h7 (ints_row h7 [((lim : Nat) : Int)] (by simp) rfl R13_7 rfl) (by simp [numB_len, intB_len])).mono ?_
              rintro e W8 ⟨V8, rfl, h8, q8⟩
              simp only [List.flatMap_cons, List.flatMap_nil, List.append_nil] at h8
              have rA8 : Row W8 w.heap.size cs 28 := (q8.far (far_of_block h7 rA7 (by decide) (by decide)) rA7.lt).trans rA7
              have sw8 := sw7.trans q8
              have R3_8 : Row W8 _ _ _ := (q8.far (far_of_block h7 R3_7 (by decide) (by decide)) R3_7.lt).trans R3_7
              have R13_8 : Row W8 _ _ _ := (q8.far (far_of_block h7 R13_7 (by decide) (by decide)) R13_7.lt).trans R13_7
              have R9_8 : Row W8 _ _ _ := (q8.far (far_of_block h7 R9_7 (by decide) (by decide)) R9_7.lt).trans R9_7
              try dsimp only
              have hSn : (fun w' : World => w'.cell? ⟨w.heap.size, 3, none⟩ = some (.int .u64 (hi : Nat)) ∧ w'.cell? ⟨w.heap.size, 4, none⟩ = some (.int .u64 (lo : Nat)) ∧ w'.cell? ⟨w.heap.size, 5, none⟩ = some (.int .i64 (fr : Nat)) ∧ w'.cell? ⟨w.heap.size, 6, none⟩ = some (.int .i64 (to : Nat)) ∧ w'.cell? ⟨w.heap.size, 7, none⟩ = some (.int .i64 (lim : Nat))) W8 := ⟨(rA8.cell 3).trans k3, (rA8.cell 4).trans k4, (rA8.cell 5).trans k5, (rA8.cell 6).trans k6, (rA8.cell 7).trans k7⟩
              refine hK.out _ _ (fun _ => hSn) ?_
              clear hK K hSn hS
              have hS : (fun w' : World => w'.cell? ⟨w.heap.size, 3, none⟩ = some (.int .u64 (hi : Nat)) ∧ w'.cell? ⟨w.heap.size, 4, none⟩ = some (.int .u64 (lo : Nat)) ∧ w'.cell? ⟨w.heap.size, 5, none⟩ = some (.int .i64 (fr : Nat)) ∧ w'.cell? ⟨w.heap.size, 6, none⟩ = some (.int .i64 (to : Nat)) ∧ w'.cell? ⟨w.heap.size, 7, none⟩ = some (.int .i64 (lim : Nat))) W8 := ⟨(rA8.cell 3).trans k3, (rA8.cell 4).trans k4, (rA8.cell 5).trans k5, (rA8.cell 6).trans k6, (rA8.cell 7).trans k7⟩
              try simp only [Act.put, List.setIfInBounds_toArray, List.set_cons_zero, List.set_cons_succ]
              refine wpAnyD_done (by kernel_rfl) ?_ _
              go_wp2_with (go_at_call 28; refine stop ?_)
              refine (wbytes_any _ b _ _ h8 (by simp [numB_len, intB_len])).mono ?_
              rintro e uz ⟨vz, rfl, oz, bz⟩
              have bf : Below w.heap.size w W8 := below_of_wstep b0 sw8 (by have := HB.out; omega) (fun g hg => by cases hg)
              obtain ⟨pz, nz, cz, rfl, hz⟩ := oz.form
              clear hz
              have oz2 : Own uz w.heap.size (.slice pz nz cz) _ := ⟨oz.1, oz.2.imp id fun ⟨g, cap, cur, e, h1, h2⟩ => ⟨g, cap, cur, e, Nat.le_trans bf.size h1, h2⟩⟩
              clear oz
              go_wp2
              go_ret
              refine ⟨_, rfl, ?_, chain bf bz⟩
              simpa [List.append_assoc] using oz2
            exact AllD.nil
          exact AllD.nil
        exact AllD.nil
      exact AllD.nil
    refine AllD.cons (i := 9) rfl (by rfl) (fun K hK => ?_) ?_
    · go_simp
      have h4 := h3.alloc (.cells #[.int .i64 (fr : Nat), .int .i64 (to : Nat)] 3)
      have rA4 := rA3.alloc (.cells #[.int .i64 (fr : Nat), .int .i64 (to : Nat)] 3)
      have sw4 := sw3.alloc (.cells #[.int .i64 (fr : Nat), .int .i64 (to : Nat)] 3)
      have R9_4 := Row.new W3 #[.int .i64 (fr : Nat), .int .i64 (to : Nat)] 3 rfl
      have R3_4 := R3_3.alloc (.cells #[.int .i64 (fr : Nat), .int .i64 (to : Nat)] 3)
      try dsimp only
      have hSn : (fun w' : World => w'.cell? ⟨w.heap.size, 3, none⟩ = some (.int .u64 (hi : Nat)) ∧ w'.cell? ⟨w.heap.size, 4, none⟩ = some (.int .u64 (lo : Nat)) ∧ w'.cell? ⟨w.heap.size, 5, none⟩ = some (.int .i64 (fr : Nat)) ∧ w'.cell? ⟨w.heap.size, 6, none⟩ = some (.int .i64 (to : Nat)) ∧ w'.cell? ⟨w.heap.size, 7, none⟩ = some (.int .i64 (lim : Nat))) (W3.alloc (.cells #[.int .i64 (fr : Nat), .int .i64 (to : Nat)] 3)) := ⟨(rA4.cell 3).trans k3, (rA4.cell 4).trans k4, (rA4.cell 5).trans k5, (rA4.cell 6).trans k6, (rA4.cell 7).trans k7⟩
      refine hK.out _ _ (fun _ => hSn) ?_
      clear hK K hSn hS
      generalize W3.alloc (.cells #[.int .i64 (fr : Nat), .int .i64 (to : Nat)] 3) = W4 at *
      have hS : (fun w' : World => w'.cell? ⟨w.heap.size, 3, none⟩ = some (.int .u64 (hi : Nat)) ∧ w'.cell? ⟨w.heap.size, 4, none⟩ = some (.int .u64 (lo : Nat)) ∧ w'.cell? ⟨w.heap.size, 5, none⟩ = some (.int .i64 (fr : Nat)) ∧ w'.cell? ⟨w.heap.size, 6, none⟩ = some (.int .i64 (to : Nat)) ∧ w'.cell? ⟨w.heap.size, 7, none⟩ = some (.int .i64 (lim : Nat))) W4 := ⟨(rA4.cell 3).trans k3, (rA4.cell 4).trans k4, (rA4.cell 5).trans k5, (rA4.cell 6).trans k6, (rA4.cell 7).trans k7⟩
      try simp only [Act.put, List.setIfInBounds_toArray, List.set_cons_zero, List.set_cons_succ]
      refine wpAnyD_all (rs := [4, 13]) (by kernel_rfl) (by simp) ?_
      refine AllD.cons (i := 4) rfl (by rfl) (fun K hK => ?_) ?_
      · go_simp
        refine (wnum_any _ [(hi, lo)] W4 b _ _ h4 (nums_row h4 R3_4 hwhi) (by simp [numB_len, intB_len])).mono ?_
        rintro e W5 ⟨V5, rfl, h5, q5⟩
        simp only [List.flatMap_cons, List.flatMap_nil, List.append_nil] at h5
        have rA5 : Row W5 w.heap.size cs 28 := (q5.far (far_of_block h4 rA4 (by decide) (by decide)) rA4.lt).trans rA4
        have sw5 := sw4.trans q5
        have R3_5 : Row W5 _ _ _ := (q5.far (far_of_block h4 R3_4 (by decide) (by decide)) R3_4.lt).trans R3_4
        have R9_5 : Row W5 _ _ _ := (q5.far (far_of_block h4 R9_4 (by decide) (by decide)) R9_4.lt).trans R9_4
        try dsimp only
        have hSn : (fun w' : World => w'.cell? ⟨w.heap.size, 3, none⟩ = some (.int .u64 (hi : Nat)) ∧ w'.cell? ⟨w.heap.size, 4, none⟩ = some (.int .u64 (lo : Nat)) ∧ w'.cell? ⟨w.heap.size, 5, none⟩ = some (.int .i64 (fr : Nat)) ∧ w'.cell? ⟨w.heap.size, 6, none⟩ = some (.int .i64 (to : Nat)) ∧ w'.cell? ⟨w.heap.size, 7, none⟩ = some (.int .i64 (lim : Nat))) W5 := ⟨(rA5.cell 3).trans k3, (rA5.cell 4).trans k4, (rA5.cell 5).trans k5, (rA5.cell 6).trans k6, (rA5.cell 7).trans k7⟩
        refine hK.out _ _ (fun _ => hSn) ?_
        clear hK K hSn hS
        have hS : (fun w' : World => w'.cell? ⟨w.heap.size, 3, none⟩ = some (.int .u64 (hi : Nat)) ∧ w'.cell? ⟨w.heap.size, 4, none⟩ = some (.int .u64 (lo : Nat)) ∧ w'.cell? ⟨w.heap.size, 5, none⟩ = some (.int .i64 (fr : Nat)) ∧ w'.cell? ⟨w.heap.size, 6, none⟩ = some (.int .i64 (to : Nat)) ∧ w'.cell? ⟨w.heap.size, 7, none⟩ = some (.int .i64 (lim : Nat))) W5 := ⟨(rA5.cell 3).trans k3, (rA5.cell 4).trans k4, (rA5.cell 5).trans k5, (rA5.cell 6).trans k6, (rA5.cell 7).trans k7⟩
        try simp only [Act.put, List.setIfInBounds_toArray, List.set_cons_zero, List.set_cons_succ]
        refine wpAnyD_all (rs := [10, 13]) (by kernel_rfl) (by simp) ?_
        refine AllD.cons (i := 10) rfl (by rfl) (fun K hK => ?_) ?_
        · go_simp
          refine (wint' 6 (by decide) _ rfl _ [((fr : Nat) : Int), ((to : Nat) : Int)] W5 b _ _ h5 (ints_row h5 [((fr : Nat) : Int), ((to : Nat) : Int)] (by simp) rfl R9_5 rfl) (by simp [numB_len, intB_len])).mono ?_
          rintro e W6 ⟨V6, rfl, h6, q6⟩
          simp only [List.flatMap_cons, List.flatMap_nil, List.append_nil] at h6
          have rA6 : Row W6 w.heap.size cs 28 := (q6.far (far_of_block h5 rA5 (by decide) (by decide)) rA5.lt).trans rA5
          have sw6 := sw5.trans q6
          have R3_6 : Row W6 _ _ _ := (q6.far (far_of_block h5 R3_5 (by decide) (by decide)) R3_5.lt).trans R3_5
          have R9_6 : Row W6 _ _ _ := (q6.far (far_of_block h5 R9_5 (by decide) (by decide)) R9_5.lt).trans R9_5
          try dsimp only
          have hSn : (fun w' : World => w'.cell? ⟨w.heap.size, 3, none⟩ = some (.int .u64 (hi : Nat)) ∧ w'.cell? ⟨w.heap.size, 4, none⟩ = some (.int .u64 (lo : Nat)) ∧ w'.cell? ⟨w.heap.size, 5, none⟩ = some (.int .i64 (fr : Nat)) ∧ w'.cell? ⟨w.heap.size, 6, none⟩ = some (.int .i64 (to : Nat)) ∧ w'.cell? ⟨w.heap.size, 7, none⟩ = some (.int .i64 (lim : Nat))) W6 := ⟨(rA6.cell 3).trans k3, (rA6.cell 4).trans k4, (rA6.cell 5).trans k5, (rA6.cell 6).trans k6, (rA6.cell 7).trans k7⟩
          refine hK.out _ _ (fun _ => hSn) ?_
          clear hK K hSn hS
          have hS : (fun w' : World => w'.cell? ⟨w.heap.size, 3, none⟩ = some (.int .u64 (hi : Nat)) ∧ w'.cell? ⟨w.heap.size, 4, none⟩ = some (.int .u64 (lo : Nat)) ∧ w'.cell? ⟨w.heap.size, 5, none⟩ = some (.int .i64 (fr : Nat)) ∧ w'.cell? ⟨w.heap.size, 6, none⟩ = some (.int .i64 (to : Nat)) ∧ w'.cell? ⟨w.heap.size, 7, none⟩ = some (.int .i64 (lim : Nat))) W6 := ⟨(rA6.cell 3).trans k3, (rA6.cell 4).trans k4, (rA6.cell 5).trans k5, (rA6.cell 6).trans k6, (rA6.cell 7).trans k7⟩
          try simp only [Act.put, List.setIfInBounds_toArray, List.set_cons_zero, List.set_cons_succ]
          refine wpAnyD_all (rs := [13]) (by kernel_rfl) (by simp) ?_
          refine AllD.cons (i := 13) rfl (by rfl) (fun K hK => ?_) ?_
          · go_simp
            have h7 := h6.alloc (.cells #[.int .i64 (lim : Nat)] 3)
            have rA7 := rA6.alloc (.cells #[.int .i64 (lim : Nat)] 3)
            have sw7 := sw6.alloc (.cells #[.int .i64 (lim : Nat)] 3)
            have R13_7 := Row.new W6 #[.int .i64 (lim : Nat)] 3 rfl
            have R3_7 := R3_6.alloc (.cells #[.int .i64 (lim : Nat)] 3)
            have R9_7 := R9_6.alloc (.cells #[.int .i64 (lim : Nat)] 3)
            try dsimp only
            have hSn : (fun w' : World => w'.cell? ⟨w.heap.size, 3, none⟩ = some (.int .u64 (hi : Nat)) ∧ w'.cell? ⟨w.heap.size, 4, none⟩ = some (.int .u64 (lo : Nat)) ∧ w'.cell? ⟨w.heap.size, 5, none⟩ = some (.int .i64 (fr : Nat)) ∧ w'.cell? ⟨w.heap.size, 6, none⟩ = some (.int .i64 (to : Nat)) ∧ w'.cell? ⟨w.heap.size, 7, none⟩ = some (.int .i64 (lim : Nat))) (W6.alloc (.cells #[.int .i64 (lim : Nat)] 3)) := ⟨(rA7.cell 3).trans k3, (rA7.cell 4).trans k4, (rA7.cell 5).trans k5, (rA7.cell 6).trans k6, (rA7.cell 7).trans k7⟩
            refine hK.out _ _ (fun _ => hSn) ?_
            clear hK K hSn hS
            generalize W6.alloc (.cells #[.int .i64 (lim : Nat)] 3) = W7 at *
            have hS : (fun w' : World => w'.cell? ⟨w.heap.size, 3, none⟩ = some (.int .u64 (hi : Nat)) ∧ w'.cell? ⟨w.heap.size, 4, none⟩ = some (.int .u64 (lo : Nat)) ∧ w'.cell? ⟨w.heap.size, 5, none⟩ = some (.int .i64 (fr : Nat)) ∧ w'.cell? ⟨w.heap.size, 6, none⟩ = some (.int .i64 (to : Nat)) ∧ w'.cell? ⟨w.heap.size, 7, none⟩ = some (.int .i64 (lim : Nat))) W7 := ⟨(rA7.cell 3).trans k3, (rA7.cell 4).trans k4, (rA7.cell 5).trans k5, (rA7.cell 6).trans k6, (rA7.cell 7).trans k7⟩
            try simp only [Act.put, List.setIfInBounds_toArray, List.set_cons_zero, List.set_cons_succ]
            refine wpAnyD_all (rs := [14]) (by kernel_rfl) (by simp) ?_
            refine AllD.cons (i := 14) rfl (by rfl) (fun K hK => ?_) ?_
            · go_simp
              refine (wint' 1 (by decide) _ rfl _ [((lim : Nat) : Int)] W7 b _ _ h7 (ints_row h7 [((lim : Nat) : Int)] (by simp) rfl R13_7 rfl) (by simp [numB_len, intB_len])).mono ?_
              rintro e W8 ⟨V8, rfl, h8, q8⟩
              simp only [List.flatMap_cons, List.flatMap_nil, List.append_nil] at h8
              have rA8 : Row W8 w.heap.size cs 28 := (q8.far (far_of_block h7 rA7 (by decide) (by decide)) rA7.lt).trans rA7
              have sw8 := sw7.trans q8
              have R3_8 : Row W8 _ _ _ := (q8.far (far_of_block h7 R3_7 (by decide) (by decide)) R3_7.lt).trans R3_7
              have R9_8 : Row W8 _ _ _ := (q8.far (far_of_block h7 R9_7 (by decide) (by decide)) R9_7.lt).trans R9_7
              have R13_8 : Row W8 _ _ _ := (q8.far (far_of_block h7 R13_7 (by decide) (by decide)) R13_7.lt).trans R13_7
              try dsimp only
              have hSn : (fun w' : World => w'.cell? ⟨w.heap.size, 3, none⟩ = some (.int .u64 (hi : Nat)) ∧ w'.cell? ⟨w.heap.size, 4, none⟩ = some (.int .u64 (lo : Nat)) ∧ w'.cell? ⟨w.heap.size, 5, none⟩ = some (.int .i64 (fr : Nat)) ∧ w'.cell? ⟨w.heap.size, 6, none⟩ = some (.int .i64 (to : Nat)) ∧ w'.cell? ⟨w.heap.size, 7, none⟩ = some (.int .i64 (lim : Nat))) W8 := ⟨(rA8.cell 3).trans k3, (rA8.cell 4).trans k4, (rA8.cell 5).trans k5, (rA8.cell 6).trans k6, (rA8.cell 7).trans k7⟩
              refine hK.out _ _ (fun _ => hSn) ?_
              clear hK K hSn hS
              have hS : (fun w' : World => w'.cell? ⟨w.heap.size, 3, none⟩ = some (.int .u64 (hi : Nat)) ∧ w'.cell? ⟨w.heap.size, 4, none⟩ = some (.int .u64 (lo : Nat)) ∧ w'.cell? ⟨w.heap.size, 5, none⟩ = some (.int .i64 (fr : Nat)) ∧ w'.cell? ⟨w.heap.size, 6, none⟩ = some (.int .i64 (to : Nat)) ∧ w'.cell? ⟨w.heap.size, 7, none⟩ = some (.int .i64 (lim : Nat))) W8 := ⟨(rA8.cell 3).trans k3, (rA8.cell 4).trans k4, (rA8.cell 5).trans k5, (rA8.cell 6).trans k6, (rA8.cell 7).trans k7⟩
              try simp only [Act.put, List.setIfInBounds_toArray, List.set_cons_zero, List.set_cons_succ]
              refine wpAnyD_done (by kernel_rfl) ?_ _
              go_wp2_with (go_at_call 28; refine stop ?_)
              refine (wbytes_any _ b _ _ h8 (by simp [numB_len, intB_len])).mono ?_
              rintro e uz ⟨vz, rfl, oz, bz⟩
              have bf : Below w.heap.size w W8 := below_of_wstep b0 sw8 (by have := HB.out; omega) (fun g hg => by cases hg)
              obtain ⟨pz, nz, cz, rfl, hz⟩ := oz.form
              clear hz
              have oz2 : Own uz w.heap.size (.slice pz nz cz) _ := ⟨oz.1, oz.2.imp id fun ⟨g, cap, cur, e, h1, h2⟩ => ⟨g, cap, cur, e, Nat.le_trans bf.size h1, h2⟩⟩
              clear oz
              go_wp2
              go_ret
              refine ⟨_, rfl, ?_, chain bf bz⟩
              simpa [List.append_assoc] using oz2
            exact AllD.nil
          exact AllD.nil
        refine AllD.cons (i := 13) rfl (by rfl) (fun K hK => ?_) ?_
        · go_simp
          have h6 := h5.alloc (.cells #[.int .i64 (lim : Nat)] 3)
          have rA6 := rA5.alloc (.cells #[.int .i64 (lim : Nat)] 3)
          have sw6 := sw5.alloc (.cells #[.int .i64 (lim : Nat)] 3)
          have R13_6 := Row.new W5 #[.int .i64 (lim : Nat)] 3 rfl
          have R3_6 := R3_5.alloc (.cells #[.int .i64 (lim : Nat)] 3)
          have R9_6 := R9_5.alloc (.cells #[.int .i64 (lim : Nat)] 3)
          try dsimp only
          have hSn : (fun w' : World => w'.cell? ⟨w.heap.size, 3, none⟩ = some (.int .u64 (hi : Nat)) ∧ w'.cell? ⟨w.heap.size, 4, none⟩ = some (.int .u64 (lo : Nat)) ∧ w'.cell? ⟨w.heap.size, 5, none⟩ = some (.int .i64 (fr : Nat)) ∧ w'.cell? ⟨w.heap.size, 6, none⟩ = some (.int .i64 (to : Nat)) ∧ w'.cell? ⟨w.heap.size, 7, none⟩ = some (.int .i64 (lim : Nat))) (W5.alloc (.cells #[.int .i64 (lim : Nat)] 3)) := ⟨(rA6.cell 3).trans k3, (rA6.cell 4).trans k4, (rA6.cell 5).trans k5, (rA6.cell 6).trans k6, (rA6.cell 7).trans k7⟩
          refine hK.out _ _ (fun _ => hSn) ?_
          clear hK K hSn hS
          generalize W5.alloc (.cells #[.int .i64 (lim : Nat)] 3) = W6 at *
          have hS : (fun w' : World => w'.cell? ⟨w.heap.size, 3, none⟩ = some (.int .u64 (hi : Nat)) ∧ w'.cell? ⟨w.heap.size, 4, none⟩ = some (.int .u64 (lo : Nat)) ∧ w'.cell? ⟨w.heap.size, 5, none⟩ = some (.int .i64 (fr : Nat)) ∧ w'.cell? ⟨w.heap.size, 6, none⟩ = some (.int .i64 (to : Nat)) ∧ w'.cell? ⟨w.heap.size, 7, none⟩ = some (.int .i64 (lim : Nat))) W6 := ⟨(rA6.cell 3).trans k3, (rA6.cell 4).trans k4, (rA6.cell 5).trans k5, (rA6.cell 6).trans k6, (rA6.cell 7).trans k7⟩
          try simp only [Act.put, List.setIfInBounds_toArray, List.set_cons_zero, List.set_cons_succ]
          refine wpAnyD_all (rs := [10]) (by kernel_rfl) (by simp) ?_
          refine AllD.cons (i := 10) rfl (by rfl) (fun K hK => ?_) ?_
          · go_simp
            refine (wint' 6 (by decide) _ rfl _ [((fr : Nat) : Int), ((to : Nat) : Int)] W6 b _ _ h6 (ints_row h6 [((fr : Nat) : Int), ((to : Nat) : Int)] (by simp) rfl R9_6 rfl) (by simp [numB_len, intB_len])).mono ?_
            rintro e W7 ⟨V7, rfl, h7, q7⟩
            simp only [List.flatMap_cons, List.flatMap_nil, List.append_nil] at h7
            have rA7 : Row W7 w.heap.size cs 28 := (q7.far (far_of_block h6 rA6 (by decide) (by decide)) rA6.lt).trans rA6
            have sw7 := sw6.trans q7
            have R3_7 : Row W7 _ _ _ := (q7.far (far_of_block h6 R3_6 (by decide) (by decide)) R3_6.lt).trans R3_6
            have R9_7 : Row W7 _ _ _ := (q7.far (far_of_block h6 R9_6 (by decide) (by decide)) R9_6.lt).trans R9_6
            have R13_7 : Row W7 _ _ _ := (q7.far (far_of_block h6 R13_6 (by decide) (by decide)) R13_6.lt).trans R13_6
            try dsimp only
            have hSn : (fun w' : World => w'.cell? ⟨w.heap.size, 3, none⟩ = some (.int .u64 (hi : Nat)) ∧ w'.cell? ⟨w.heap.size, 4, none⟩ = some (.int .u64 (lo : Nat)) ∧ w'.cell? ⟨w.heap.size, 5, none⟩ = some (.int .i64 (fr : Nat)) ∧ w'.cell? ⟨w.heap.size, 6, none⟩ = some (.int .i64 (to : Nat)) ∧ w'.cell? ⟨w.heap.size, 7, none⟩ = some (.int .i64 (lim : Nat))) W7 := ⟨(rA7.cell 3).trans k3, (rA7.cell 4).trans k4, (rA7.cell 5).trans k5, (rA7.cell 6).trans k6, (rA7.cell 7).trans k7⟩
            refine hK.out _ _ (fun _ => hSn) ?_
            clear hK K hSn hS
            have hS : (fun w' : World => w'.cell? ⟨w.heap.size, 3, none⟩ = some (.int .u64 (hi : Nat)) ∧ w'.cell? ⟨w.heap.size, 4, none⟩ = some (.int .u64 (lo : Nat)) ∧ w'.cell? ⟨w.heap.size, 5, none⟩ = some (.int .i64 (fr : Nat)) ∧ w'.cell? ⟨w.heap.size, 6, none⟩ = some (.int .i64 (to : Nat)) ∧ w'.cell? ⟨w.heap.size, 7, none⟩ = some (.int .i64 (lim : Nat))) W7 := ⟨(rA7.cell 3).trans k3, (rA7.cell 4).trans k4, (rA7.cell 5).trans k5, (rA7.cell 6).trans k6, (rA7.cell 7).trans k7⟩
            try simp only [Act.put, List.setIfInBounds_toArray, List.set_cons_zero, List.set_cons_succ]
            refine wpAnyD_all (rs := [14]) (by kernel_rfl) (by simp) ?_
            refine AllD.cons (i := 14) rfl (by rfl) (fun K hK => ?_) ?_
            · go_simp
              refine (wint' 1 (by decide) _ rfl _ [((lim : Nat) : Int)] W7 b _ _ h7 (ints_row h7 [((lim : Nat) : Int)] (by simp) rfl R13_7 rfl) (by simp [numB_len, intB_len])).mono ?_
              rintro e W8 ⟨V8, rfl, h8, q8⟩
              simp only [List.flatMap_cons, List.flatMap_nil, List.append_nil] at h8
              have rA8 : Row W8 w.heap.size cs 28 := (q8.far (far_of_block h7 rA7 (by decide) (by decide)) rA7.lt).trans rA7
              have sw8 := sw7.trans q8
              have R3_8 : Row W8 _ _ _ := (q8.far (far_of_block h7 R3_7 (by decide) (by decide)) R3_7.lt).trans R3_7
              have R9_8 : Row W8 _ _ _ := (q8.far (far_of_block h7 R9_7 (by decide) (by decide)) R9_7.lt).trans R9_7
              have R13_8 : Row W8 _ _ _ := (q8.far (far_of_block h7 R13_7 (by decide) (by decide)) R13_7.lt).trans R13_7
              try dsimp only
              have hSn : (fun w' : World => w'.cell? ⟨w.heap.size, 3, none⟩ = some (.int .u64 (hi : Nat)) ∧ w'.cell? ⟨w.heap.size, 4, none⟩ = some (.int .u64 (lo : Nat)) ∧ w'.cell? ⟨w.heap.size, 5, none⟩ = some (.int .i64 (fr : Nat)) ∧ w'.cell? ⟨w.heap.size, 6, none⟩ = some (.int .i64 (to : Nat)) ∧ w'.cell? ⟨w.heap.size, 7, none⟩ = some (.int .i64 (lim : Nat))) W8 := ⟨(rA8.cell 3).trans k3, (rA8.cell 4).trans k4, (rA8.cell 5).trans k5, (rA8.cell 6).trans k6, (rA8.cell 7).trans k7⟩
              refine hK.out _ _ (fun _ => hSn) ?_
              clear hK K hSn hS
              have hS : (fun w' : World => w'.cell? ⟨w.heap.size, 3, none⟩ = some (.int .u64 (hi : Nat)) ∧ w'.cell? ⟨w.heap.size, 4, none⟩ = some (.int .u64 (lo : Nat)) ∧ w'.cell? ⟨w.heap.size, 5, none⟩ = some (.int .i64 (fr : Nat)) ∧ w'.cell? ⟨w.heap.size, 6, none⟩ = some (.int .i64 (to : Nat)) ∧ w'.cell? ⟨w.heap.size, 7, none⟩ = some (.int .i64 (lim : Nat))) W8 := ⟨(rA8.cell 3).trans k3, (rA8.cell 4).trans k4, (rA8.cell 5).trans k5, (rA8.cell 6).trans k6, (rA8.cell 7).trans k7⟩
              try simp only [Act.put, List.setIfInBounds_toArray, List.set_cons_zero, List.set_cons_succ]
              refine wpAnyD_done (by kernel_rfl) ?_ _
              go_wp2_with (go_at_call 28; refine stop ?_)
              refine (wbytes_any _ b _ _ h8 (by simp [numB_len, intB_len])).mono ?_
              rintro e uz ⟨vz, rfl, oz, bz⟩
              have bf : Below w.heap.size w W8 := below_of_wstep b0 sw8 (by have := HB.out; omega) (fun g hg => by cases hg)
              obtain ⟨pz, nz, cz, rfl, hz⟩ := oz.form
              clear hz
              have oz2 : Own uz w.heap.size (.slice pz nz cz) _ := ⟨oz.1, oz.2.imp id fun ⟨g, cap, cur, e, h1, h2⟩ => ⟨g, cap, cur, e, Nat.le_trans bf.size h1, h2⟩⟩
              clear oz
              go_wp2
              go_ret
              refine ⟨_, rfl, ?_, chain bf bz⟩
              simpa [List.append_assoc] using oz2
            exact AllD.nil
          exact AllD.nil
        exact AllD.nil
      refine AllD.cons (i := 13) rfl (by rfl) (fun K hK => ?_) ?_
      · go_simp
        have h5 := h4.alloc (.cells #[.int .i64 (lim : Nat)] 3)
        have rA5 := rA4.alloc (.cells #[.int .i64 (lim : Nat)] 3)
        have sw5 := sw4.alloc (.cells #[.int .i64 (lim : Nat)] 3)
        have R13_5 := Row.new W4 #[.int .i64 (lim : Nat)] 3 rfl
        have R3_5 := R3_4.alloc (.cells #[.int .i64 (lim : Nat)] 3)
        have R9_5 := R9_4.alloc (.cells #[.int .i64 (lim : Nat)] 3)
        try dsimp only
        have hSn : (fun w' : World => w'.cell? ⟨w.heap.size, 3, none⟩ = some (.int .u64 (hi : Nat)) ∧ w'.cell? ⟨w.heap.size, 4, none⟩ = some (.int .u64 (lo : Nat)) ∧ w'.cell? ⟨w.heap.size, 5, none⟩ = some (.int .i64 (fr : Nat)) ∧ w'.cell? ⟨w.heap.size, 6, none⟩ = some (.int .i64 (to : Nat)) ∧ w'.cell? ⟨w.heap.size, 7, none⟩ = some (.int .i64 (lim : Nat))) (W4.alloc (.cells #[.int .i64 (lim : Nat)] 3)) := ⟨(rA5.cell 3).trans k3, (rA5.cell 4).trans k4, (rA5.cell 5).trans k5, (rA5.cell 6).trans k6, (rA5.cell 7).trans k7⟩
        refine hK.out _ _ (fun _ => hSn) ?_
        clear hK K hSn hS
        generalize W4.alloc (.cells #[.int .i64 (lim : Nat)] 3) = W5 at *
        have hS : (fun w' : World => w'.cell? ⟨w.heap.size, 3, none⟩ = some (.int .u64 (hi : Nat)) ∧ w'.cell? ⟨w.heap.size, 4, none⟩ = some (.int .u64 (lo : Nat)) ∧ w'.cell? ⟨w.heap.size, 5, none⟩ = some (.int .i64 (fr : Nat)) ∧ w'.cell? ⟨w.heap.size, 6, none⟩ = some (.int .i64 (to : Nat)) ∧ w'.cell? ⟨w.heap.size, 7, none⟩ = some (.int .i64 (lim : Nat))) W5 := ⟨(rA5.cell 3).trans k3, (rA5.cell 4).trans k4, (rA5.cell 5).trans k5, (rA5.cell 6).trans k6, (rA5.cell 7).trans k7⟩
        try simp only [Act.put, List.setIfInBounds_toArray, List.set_cons_zero, List.set_cons_succ]
        refine wpAnyD_all (rs := [4]) (by kernel_rfl) (by simp) ?_
        refine AllD.cons (i := 4) rfl (by rfl) (fun K hK => ?_) ?_
        · go_simp
          refine (wnum_any _ [(hi, lo)] W5 b _ _ h5 (nums_row h5 R3_5 hwhi) (by simp [numB_len, intB_len])).mono ?_
          rintro e W6 ⟨V6, rfl, h6, q6⟩
          simp only [List.flatMap_cons, List.flatMap_nil, List.append_nil] at h6
          have rA6 : Row W6 w.heap.size cs 28 := (q6.far (far_of_block h5 rA5 (by decide) (by decide)) rA5.lt).trans rA5
          have sw6 := sw5.trans q6
          have R3_6 : Row W6 _ _ _ := (q6.far (far_of_block h5 R3_5 (by decide) (by decide)) R3_5.lt).trans R3_5
          have R9_6 : Row W6 _ _ _ := (q6.far (far_of_block h5 R9_5 (by decide) (by decide)) R9_5.lt).trans R9_5
          have R13_6 : Row W6 _ _ _ := (q6.far (far_of_block h5 R13_5 (by decide) (by decide)) R13_5.lt).trans R13_5
          try dsimp only
          have hSn : (fun w' : World => w'.cell? ⟨w.heap.size, 3, none⟩ = some (.int .u64 (hi : Nat)) ∧ w'.cell? ⟨w.heap.size, 4, none⟩ = some (.int .u64 (lo : Nat)) ∧ w'.cell? ⟨w.heap.size, 5, none⟩ = some (.int .i64 (fr : Nat)) ∧ w'.cell? ⟨w.heap.size, 6, none⟩ = some (.int .i64 (to : Nat)) ∧ w'.cell? ⟨w.heap.size, 7, none⟩ = some (.int .i64 (lim : Nat))) W6 := ⟨(rA6.cell 3).trans k3, (rA6.cell 4).trans k4, (rA6.cell 5).trans k5, (rA6.cell 6).trans k6, (rA6.cell 7).trans k7⟩
          refine hK.out _ _ (fun _ => hSn) ?_
          clear hK K hSn hS
          have hS : (fun w' : World => w'.cell? ⟨w.heap.size, 3, none⟩ = some (.int .u64 (hi : Nat)) ∧ w'.cell? ⟨w.heap.size, 4, none⟩ = some (.int .u64 (lo : Nat)) ∧ w'.cell? ⟨w.heap.size, 5, none⟩ = some (.int .i64 (fr : Nat)) ∧ w'.cell? ⟨w.heap.size, 6, none⟩ = some (.int .i64 (to : Nat)) ∧ w'.cell? ⟨w.heap.size, 7, none⟩ = some (.int .i64 (lim : Nat))) W6 := ⟨(rA6.cell 3).trans k3, (rA6.cell 4).trans k4, (rA6.cell 5).trans k5, (rA6.cell 6).trans k6, (rA6.cell 7).trans k7⟩
          try simp only [Act.put, List.setIfInBounds_toArray, List.set_cons_zero, List.set_cons_succ]
          refine wpAnyD_all (rs := [10]) (by kernel_rfl) (by simp) ?_
          refine AllD.cons (i := 10) rfl (by rfl) (fun K hK => ?_) ?_
          · go_simp
            refine (wint' 6 (by decide) _ rfl _ [((fr : Nat) : Int), ((to : Nat) : Int)] W6 b _ _ h6 (ints_row h6 [((fr : Nat) : Int), ((to : Nat) : Int)] (by simp) rfl R9_6 rfl) (by simp [numB_len, intB_len])).mono ?_
            rintro e W7 ⟨V7, rfl, h7, q7⟩
            simp only [List.flatMap_cons, List.flatMap_nil, List.append_nil] at h7
            have rA7 : Row W7 w.heap.size cs 28 := (q7.far (far_of_block h6 rA6 (by decide) (by decide)) rA6.lt).trans rA6
            have sw7 := sw6.trans q7
            have R3_7 : Row W7 _ _ _ := (q7.far (far_of_block h6 R3_6 (by decide) (by decide)) R3_6.lt).trans R3_6
            have R9_7 : Row W7 _ _ _ := (q7.far (far_of_block h6 R9_6 (by decide) (by decide)) R9_6.lt).trans R9_6
            have R13_7 : Row W7 _ _ _ := (q7.far (far_of_block h6 R13_6 (by decide) (by decide)) R13_6.lt).trans R13_6
            try dsimp only
            have hSn : (fun w' : World => w'.cell? ⟨w.heap.size, 3, none⟩ = some (.int .u64 (hi : Nat)) ∧ w'.cell? ⟨w.heap.size, 4, none⟩ = some (.int .u64 (lo : Nat)) ∧ w'.cell? ⟨w.heap.size, 5, none⟩ = some (.int .i64 (fr : Nat)) ∧ w'.cell? ⟨w.heap.size, 6, none⟩ = some (.int .i64 (to : Nat)) ∧ w'.cell? ⟨w.heap.size, 7, none⟩ = some (.int .i64 (lim : Nat))) W7 := ⟨(rA7.cell 3).trans k3, (rA7.cell 4).trans k4, (rA7.cell 5).trans k5, (rA7.cell 6).trans k6, (rA7.cell 7).trans k7⟩
            refine hK.out _ _ (fun _ => hSn) ?_
            clear hK K hSn hS
            have hS : (fun w' : World => w'.cell? ⟨w.heap.size, 3, none⟩ = some (.int .u64 (hi : Nat)) ∧ w'.cell? ⟨w.heap.size, 4, none⟩ = some (.int .u64 (lo : Nat)) ∧ w'.cell? ⟨w.heap.size, 5, none⟩ = some (.int .i64 (fr : Nat)) ∧ w'.cell? ⟨w.heap.size, 6, none⟩ = some (.int .i64 (to : Nat)) ∧ w'.cell? ⟨w.heap.size, 7, none⟩ = some (.int .i64 (lim : Nat))) W7 := ⟨(rA7.cell 3).trans k3, (rA7.cell 4).trans k4, (rA7.cell 5).trans k5, (rA7.cell 6).trans k6, (rA7.cell 7).trans k7⟩
            try simp only [Act.put, List.setIfInBounds_toArray, List.set_cons_zero, List.set_cons_succ]
            refine wpAnyD_all (rs := [14]) (by kernel_rfl) (by simp) ?_
            refine AllD.cons (i := 14) rfl (by rfl) (fun K hK => ?_) ?_
            · go_simp
              refine (wint' 1 (by decide) _ rfl _ [((lim : Nat) : Int)] W7 b _ _ h7 (ints_row h7 [((lim : Nat) : Int)] (by simp) rfl R13_7 rfl) (by simp [numB_len, intB_len])).mono ?_
              rintro e W8 ⟨V8, rfl, h8, q8⟩
              simp only [List.flatMap_cons, List.flatMap_nil, List.append_nil] at h8
              have rA8 : Row W8 w.heap.size cs 28 := (q8.far (far_of_block h7 rA7 (by decide) (by decide)) rA7.lt).trans rA7
              have sw8 := sw7.trans q8
              have R3_8 : Row W8 _ _ _ := (q8.far (far_of_block h7 R3_7 (by decide) (by decide)) R3_7.lt).trans R3_7
              have R9_8 : Row W8 _ _ _ := (q8.far (far_of_block h7 R9_7 (by decide) (by decide)) R9_7.lt).trans R9_7
              have R13_8 : Row W8 _ _ _ := (q8.far (far_of_block h7 R13_7 (by decide) (by decide)) R13_7.lt).trans R13_7
              try dsimp only
              have hSn : (fun w' : World => w'.cell? ⟨w.heap.size, 3, none⟩ = some (.int .u64 (hi : Nat)) ∧ w'.cell? ⟨w.heap.size, 4, none⟩ = some (.int .u64 (lo : Nat)) ∧ w'.cell? ⟨w.heap.size, 5, none⟩ = some (.int .i64 (fr : Nat)) ∧ w'.cell? ⟨w.heap.size, 6, none⟩ = some (.int .i64 (to : Nat)) ∧ w'.cell? ⟨w.heap.size, 7, none⟩ = some (.int .i64 (lim : Nat))) W8 := ⟨(rA8.cell 3).trans k3, (rA8.cell 4).trans k4, (rA8.cell 5).trans k5, (rA8.cell 6).trans k6, (rA8.cell 7).trans k7⟩
              refine hK.out _ _ (fun _ => hSn) ?_
              clear hK K hSn hS
              have hS : (fun w' : World => w'.cell? ⟨w.heap.size, 3, none⟩ = some (.int .u64 (hi : Nat)) ∧ w'.cell? ⟨w.heap.size, 4, none⟩ = some (.int .u64 (lo : Nat)) ∧ w'.cell? ⟨w.heap.size, 5, none⟩ = some (.int .i64 (fr : Nat)) ∧ w'.cell? ⟨w.heap.size, 6, none⟩ = some (.int .i64 (to : Nat)) ∧ w'.cell? ⟨w.heap.size, 7, none⟩ = some (.int .i64 (lim : Nat))) W8 := ⟨(rA8.cell 3).trans k3, (rA8.cell 4).trans k4, (rA8.cell 5).trans k5, (rA8.cell 6).trans k6, (rA8.cell 7).trans k7⟩
              try simp only [Act.put, List.setIfInBounds_toArray, List.set_cons_zero, List.set_cons_succ]
              refine wpAnyD_done (by kernel_rfl) ?_ _
              go_wp2_with (go_at_call 28; refine stop ?_)
              refine (wbytes_any _ b _ _ h8 (by simp [numB_len, intB_len])).mono ?_
              rintro e uz ⟨vz, rfl, oz, bz⟩
              have bf : Below w.heap.size w W8 := below_of_wstep b0 sw8 (by have := HB.out; omega) (fun g hg => by cases hg)
              obtain ⟨pz, nz, cz, rfl, hz⟩ := oz.form
              clear hz
              have oz2 : Own uz w.heap.size (.slice pz nz cz) _ := ⟨oz.1, oz.2.imp id fun ⟨g, cap, cur, e, h1, h2⟩ => ⟨g, cap, cur, e, Nat.le_trans bf.size h1, h2⟩⟩
              clear oz
              go_wp2
              go_ret
              refine ⟨_, rfl, ?_, chain bf bz⟩
              simpa [List.append_assoc] using oz2
            exact AllD.nil
          exact AllD.nil
        exact AllD.nil
      exact AllD.nil
    refine AllD.cons (i := 13) rfl (by rfl) (fun K hK => ?_) ?_
    · go_simp
      have h4 := h3.alloc (.cells #[.int .i64 (lim : Nat)] 3)
      have rA4 := rA3.alloc (.cells #[.int .i64 (lim : Nat)] 3)
      have sw4 := sw3.alloc (.cells #[.int .i64 (lim : Nat)] 3)
      have R13_4 := Row.new W3 #[.int .i64 (lim : Nat)] 3 rfl
      have R3_4 := R3_3.alloc (.cells #[.int .i64 (lim : Nat)] 3)
      try dsimp only
      have hSn : (fun w' : World => w'.cell? ⟨w.heap.size, 3, none⟩ = some (.int .u64 (hi : Nat)) ∧ w'.cell? ⟨w.heap.size, 4, none⟩ = some (.int .u64 (lo : Nat)) ∧ w'.cell? ⟨w.heap.size, 5, none⟩ = some (.int .i64 (fr : Nat)) ∧ w'.cell? ⟨w.heap.size, 6, none⟩ = some (.int .i64 (to : Nat)) ∧ w'.cell? ⟨w.heap.size, 7, none⟩ = some (.int .i64 (lim : Nat))) (W3.alloc (.cells #[.int .i64 (lim : Nat)] 3)) := ⟨(rA4.cell 3).trans k3, (rA4.cell 4).trans k4, (rA4.cell 5).trans k5, (rA4.cell 6).trans k6, (rA4.cell 7).trans k7⟩
      refine hK.out _ _ (fun _ => hSn) ?_
      clear hK K hSn hS
      generalize W3.alloc (.cells #[.int .i64 (lim : Nat)] 3) = W4 at *
      have hS : (fun w' : World => w'.cell? ⟨w.heap.size, 3, none⟩ = some (.int .u64 (hi : Nat)) ∧ w'.cell? ⟨w.heap.size, 4, none⟩ = some (.int .u64 (lo : Nat)) ∧ w'.cell? ⟨w.heap.size, 5, none⟩ = some (.int .i64 (fr : Nat)) ∧ w'.cell? ⟨w.heap.size, 6, none⟩ = some (.int .i64 (to : Nat)) ∧ w'.cell? ⟨w.heap.size, 7, none⟩ = some (.int .i64 (lim : Nat))) W4 := ⟨(rA4.cell 3).trans k3, (rA4.cell 4).trans k4, (rA4.cell 5).trans k5, (rA4.cell 6).trans k6, (rA4.cell 7).trans k7⟩
      try simp only [Act.put, List.setIfInBounds_toArray, List.set_cons_zero, List.set_cons_succ]
      refine wpAnyD_all (rs := [4, 9]) (by kernel_rfl) (by simp) ?_
      refine AllD.cons (i := 4) rfl (by rfl) (fun K hK => ?_) ?_
      · go_simp
        refine (wnum_any _ [(hi, lo)] W4 b _ _ h4 (nums_row h4 R3_4 hwhi) (by simp [numB_len, intB_len])).mono ?_
        rintro e W5 ⟨V5, rfl, h5, q5⟩
        simp only [List.flatMap_cons, List.flatMap_nil, List.append_nil] at h5
        have rA5 : Row W5 w.heap.size cs 28 := (q5.far (far_of_block h4 rA4 (by decide) (by decide)) rA4.lt).trans rA4
        have sw5 := sw4.trans q5
        have R3_5 : Row W5 _ _ _ := (q5.far (far_of_block h4 R3_4 (by decide) (by decide)) R3_4.lt).trans R3_4
        have R13_5 : Row W5 _ _ _ := (q5.far (far_of_block h4 R13_4 (by decide) (by decide)) R13_4.lt).trans R13_4
        try dsimp only
        have hSn : (fun w' : World => w'.cell? ⟨w.heap.size, 3, none⟩ = some (.int .u64 (hi : Nat)) ∧ w'.cell? ⟨w.heap.size, 4, none⟩ = some (.int .u64 (lo : Nat)) ∧ w'.cell? ⟨w.heap.size, 5, none⟩ = some (.int .i64 (fr : Nat)) ∧ w'.cell? ⟨w.heap.size, 6, none⟩ = some (.int .i64 (to : Nat)) ∧ w'.cell? ⟨w.heap.size, 7, none⟩ = some (.int .i64 (lim : Nat))) W5 := ⟨(rA5.cell 3).trans k3, (rA5.cell 4).trans k4, (rA5.cell 5).trans k5, (rA5.cell 6).trans k6, (rA5.cell 7).trans k7⟩
        refine hK.out _ _ (fun _ => hSn) ?_
        clear hK K hSn hS
        have hS : (fun w' : World => w'.cell? ⟨w.heap.size, 3, none⟩ = some (.int .u64 (hi : Nat)) ∧ w'.cell? ⟨w.heap.size, 4, none⟩ = some (.int .u64 (lo : Nat)) ∧ w'.cell? ⟨w.heap.size, 5, none⟩ = some (.int .i64 (fr : Nat)) ∧ w'.cell? ⟨w.heap.size, 6, none⟩ = some (.int .i64 (to : Nat)) ∧ w'.cell? ⟨w.heap.size, 7, none⟩ = some (.int .i64 (lim : Nat))) W5 := ⟨(rA5.cell 3).trans k3, (rA5.cell 4).trans k4, (rA5.cell 5).trans k5, (rA5.cell 6).trans k6, (rA5.cell 7).trans k7⟩
        try simp only [Act.put, List.setIfInBounds_toArray, List.set_cons_zero, List.set_cons_succ]
        refine wpAnyD_all (rs := [9]) (by kernel_rfl) (by simp) ?_
        refine AllD.cons (i := 9) rfl (by rfl) (fun K hK => ?_) ?_
        · go_simp
          have h6 := h5.alloc (.cells #[.int .i64 (fr : Nat), .int .i64 (to : Nat)] 3)
          have rA6 := rA5.alloc (.cells #[.int .i64 (fr : Nat), .int .i64 (to : Nat)] 3)
          have sw6 := sw5.alloc (.cells #[.int .i64 (fr : Nat), .int .i64 (to : Nat)] 3)
          have R9_6 := Row.new W5 #[.int .i64 (fr : Nat), .int .i64 (to : Nat)] 3 rfl
          have R3_6 := R3_5.alloc (.cells #[.int .i64 (fr : Nat), .int .i64 (to : Nat)] 3)
          have R13_6 := R13_5.alloc (.cells #[.int .i64 (fr : Nat), .int .i64 (to : Nat)] 3)
          try dsimp only
          have hSn : (fun w' : World => w'.cell? ⟨w.heap.size, 3, none⟩ = some (.int .u64 (hi : Nat)) ∧ w'.cell? ⟨w.heap.size, 4, none⟩ = some (.int .u64 (lo : Nat)) ∧ w'.cell? ⟨w.heap.size, 5, none⟩ = some (.int .i64 (fr : Nat)) ∧ w'.cell? ⟨w.heap.size, 6, none⟩ = some (.int .i64 (to : Nat)) ∧ w'.cell? ⟨w.heap.size, 7, none⟩ = some (.int .i64 (lim : Nat))) (W5.alloc (.cells #[.int .i64 (fr : Nat), .int .i64 (to : Nat)] 3)) := ⟨(rA6.cell 3).trans k3, (rA6.cell 4).trans k4, (rA6.cell 5).trans k5, (rA6.cell 6).trans k6, (rA6.cell 7).trans k7⟩
          refine hK.out _ _ (fun _ => hSn) ?_
          clear hK K hSn hS
          generalize W5.alloc (.cells #[.int .i64 (fr : Nat), .int .i64 (to : Nat)] 3) = W6 at *
          have hS : (fun w' : World => w'.cell? ⟨w.heap.size, 3, none⟩ = some (.int .u64 (hi : Nat)) ∧ w'.cell? ⟨w.heap.size, 4, none⟩ = some (.int .u64 (lo : Nat)) ∧ w'.cell? ⟨w.heap.size, 5, none⟩ = some (.int .i64 (fr : Nat)) ∧ w'.cell? ⟨w.heap.size, 6, none⟩ = some (.int .i64 (to : Nat)) ∧ w'.cell? ⟨w.heap.size, 7, none⟩ = some (.int .i64 (lim : Nat))) W6 := ⟨(rA6.cell 3).trans k3, (rA6.cell 4).trans k4, (rA6.cell 5).trans k5, (rA6.cell 6).trans k6, (rA6.cell 7).trans k7⟩
          try simp only [Act.put, List.setIfInBounds_toArray, List.set_cons_zero, List.set_cons_succ]
          refine wpAnyD_all (rs := [10]) (by kernel_rfl) (by simp) ?_
          refine AllD.cons (i := 10) rfl (by rfl) (fun K hK => ?_) ?_
          · go_simp
            refine (wint' 6 (by decide) _ rfl _ [((fr : Nat) : Int), ((to : Nat) : Int)] W6 b _ _ h6 (ints_row h6 [((fr : Nat) : Int), ((to : Nat) : Int)] (by simp) rfl R9_6 rfl) (by simp [numB_len, intB_len])).mono ?_
            rintro e W7 ⟨V7, rfl, h7, q7⟩
            simp only [List.flatMap_cons, List.flatMap_nil, List.append_nil] at h7
            have rA7 : Row W7 w.heap.size cs 28 := (q7.far (far_of_block h6 rA6 (by decide) (by decide)) rA6.lt).trans rA6
            have sw7 := sw6.trans q7
            have R3_7 : Row W7 _ _ _ := (q7.far (far_of_block h6 R3_6 (by decide) (by decide)) R3_6.lt).trans R3_6
            have R13_7 : Row W7 _ _ _ := (q7.far (far_of_block h6 R13_6 (by decide) (by decide)) R13_6.lt).trans R13_6
            have R9_7 : Row W7 _ _ _ := (q7.far (far_of_block h6 R9_6 (by decide) (by decide)) R9_6.lt).trans R9_6
            try dsimp only
            have hSn : (fun w' : World => w'.cell? ⟨w.heap.size, 3, none⟩ = some (.int .u64 (hi : Nat)) ∧ w'.cell? ⟨w.heap.size, 4, none⟩ = some (.int .u64 (lo : Nat)) ∧ w'.cell? ⟨w.heap.size, 5, none⟩ = some (.int .i64 (fr : Nat)) ∧ w'.cell? ⟨w.heap.size, 6, none⟩ = some (.int .i64 (to : Nat)) ∧ w'.cell? ⟨w.heap.size, 7, none⟩ = some (.int .i64 (lim : Nat))) W7 := ⟨(rA7.cell 3).trans k3, (rA7.cell 4).trans k4, (rA7.cell 5).trans k5, (rA7.cell 6).trans k6, (rA7.cell 7).trans k7⟩
            refine hK.out _ _ (fun _ => hSn) ?_
            clear hK K hSn hS
            have hS : (fun w' : World => w'.cell? ⟨w.heap.size, 3, none⟩ = some (.int .u64 (hi : Nat)) ∧ w'.cell? ⟨w.heap.size, 4, none⟩ = some (.int .u64 (lo : Nat)) ∧ w'.cell? ⟨w.heap.size, 5, none⟩ = some (.int .i64 (fr : Nat)) ∧ w'.cell? ⟨w.heap.size, 6, none⟩ = some (.int .i64 (to : Nat)) ∧ w'.cell? ⟨w.heap.size, 7, none⟩ = some (.int .i64 (lim : Nat))) W7 := ⟨(rA7.cell 3).trans k3, (rA7.cell 4).trans k4, (rA7.cell 5).trans k5, (rA7.cell 6).trans k6, (rA7.cell 7).trans k7⟩
            try simp only [Act.put, List.setIfInBounds_toArray, List.set_cons_zero, List.set_cons_succ]
            refine wpAnyD_all (rs := [14]) (by kernel_rfl) (by simp) ?_
            refine AllD.cons (i := 14) rfl (by rfl) (fun K hK => ?_) ?_
            · go_simp
              refine (wint' 1 (by decide) _ rfl _ [((lim : Nat) : Int)] W7 b _ _ h7 (ints_row h7 [((lim : Nat) : Int)] (by simp) rfl R13_7 rfl) (by simp [numB_len, intB_len])).mono ?_
              rintro e W8 ⟨V8, rfl, h8, q8⟩
              simp only [List.flatMap_cons, List.flatMap_nil, List.append_nil] at h8
              have rA8 : Row W8 w.heap.size cs 28 := (q8.far (far_of_block h7 rA7 (by decide) (by decide)) rA7.lt).trans rA7
              have sw8 := sw7.trans q8
              have R3_8 : Row W8 _ _ _ := (q8.far (far_of_block h7 R3_7 (by decide) (by decide)) R3_7.lt).trans R3_7
              have R13_8 : Row W8 _ _ _ := (q8.far (far_of_block h7 R13_7 (by decide) (by decide)) R13_7.lt).trans R13_7
              have R9_8 : Row W8 _ _ _ := (q8.far (far_of_block h7 R9_7 (by decide) (by decide)) R9_7.lt).trans R9_7
              try dsimp only
              have hSn : (fun w' : World => w'.cell? ⟨w.heap.size, 3, none⟩ = some (.int .u64 (hi : Nat)) ∧ w'.cell? ⟨w.heap.size, 4, none⟩ = some (.int .u64 (lo : Nat)) ∧ w'.cell? ⟨w.heap.size, 5, none⟩ = some (.int .i64 (fr : Nat)) ∧ w'.cell? ⟨w.heap.size, 6, none⟩ = some (.int .i64 (to : Nat)) ∧ w'.cell? ⟨w.heap.size, 7, none⟩ = some (.int .i64 (lim : Nat))) W8 := ⟨(rA8.cell 3).trans k3, (rA8.cell 4).trans k4, (rA8.cell 5).trans k5, (rA8.cell 6).trans k6, (rA8.cell 7).trans k7⟩
              refine hK.out _ _ (fun _ => hSn) ?_
              clear hK K hSn hS
              have hS : (fun w' : World => w'.cell? ⟨w.heap.size, 3, none⟩ = some (.int .u64 (hi : Nat)) ∧ w'.cell? ⟨w.heap.size, 4, none⟩ = some (.int .u64 (lo : Nat)) ∧ w'.cell? ⟨w.heap.size, 5, none⟩ = some (.int .i64 (fr : Nat)) ∧ w'.cell? ⟨w.heap.size, 6, none⟩ = some (.int .i64 (to : Nat)) ∧ w'.cell? ⟨w.heap.size, 7, none⟩ = some (.int .i64 (lim : Nat))) W8 := ⟨(rA8.cell 3).trans k3, (rA8.cell 4).trans k4, (rA8.cell 5).trans k5, (rA8.cell 6).trans k6, (rA8.cell 7).trans k7⟩
              try simp only [Act.put, List.setIfInBounds_toArray, List.set_cons_zero, List.set_cons_succ]
              refine wpAnyD_done (by kernel_rfl) ?_ _
              go_wp2_with (go_at_call 28; refine stop ?_)
              refine (wbytes_any _ b _ _ h8 (by simp [numB_len, intB_len])).mono ?_
              rintro e uz ⟨vz, rfl, oz, bz⟩
              have bf : Below w.heap.size w W8 := below_of_wstep b0 sw8 (by have := HB.out; omega) (fun g hg => by cases hg)
              obtain ⟨pz, nz, cz, rfl, hz⟩ := oz.form
              clear hz
              have oz2 : Own uz w.heap.size (.slice pz nz cz) _ := ⟨oz.1, oz.2.imp id fun ⟨g, cap, cur, e, h1, h2⟩ => ⟨g, cap, cur, e, Nat.le_trans bf.size h1, h2⟩⟩
              clear oz
              go_wp2
              go_ret
              refine ⟨_, rfl, ?_, chain bf bz⟩
              simpa [List.append_assoc] using oz2
            exact AllD.nil
          exact AllD.nil
        exact AllD.nil
      refine AllD.cons (i := 9) rfl (by rfl) (fun K hK => ?_) ?_
      · go_simp
        have h5 := h4.alloc (.cells #[.int .i64 (fr : Nat), .int .i64 (to : Nat)] 3)
        have rA5 := rA4.alloc (.cells #[.int .i64 (fr : Nat), .int .i64 (to : Nat)] 3)
        have sw5 := sw4.alloc (.cells #[.int .i64 (fr : Nat), .int .i64 (to : Nat)] 3)
        have R9_5 := Row.new W4 #[.int .i64 (fr : Nat), .int .i64 (to : Nat)] 3 rfl
        have R3_5 := R3_4.alloc (.cells #[.int .i64 (fr : Nat), .int .i64 (to : Nat)] 3)
        have R13_5 := R13_4.alloc (.cells #[.int .i64 (fr : Nat), .int .i64 (to : Nat)] 3)
        try dsimp only
        have hSn : (fun w' : World => w'.cell? ⟨w.heap.size, 3, none⟩ = some (.int .u64 (hi : Nat)) ∧ w'.cell? ⟨w.heap.size, 4, none⟩ = some (.int .u64 (lo : Nat)) ∧ w'.cell? ⟨w.heap.size, 5, none⟩ = some (.int .i64 (fr : Nat)) ∧ w'.cell? ⟨w.heap.size, 6, none⟩ = some (.int .i64 (to : Nat)) ∧ w'.cell? ⟨w.heap.size, 7, none⟩ = some (.int .i64 (lim : Nat))) (W4.alloc (.cells #[.int .i64 (fr : Nat), .int .i64 (to : Nat)] 3)) := ⟨(rA5.cell 3).trans k3, (rA5.cell 4).trans k4, (rA5.cell 5).trans k5, (rA5.cell 6).trans k6, (rA5.cell 7).trans k7⟩
        refine hK.out _ _ (fun _ => hSn) ?_
        clear hK K hSn hS
        generalize W4.alloc (.cells #[.int .i64 (fr : Nat), .int .i64 (to : Nat)] 3) = W5 at *
        have hS : (fun w' : World => w'.cell? ⟨w.heap.size, 3, none⟩ = some (.int .u64 (hi : Nat)) ∧ w'.cell? ⟨w.heap.size, 4, none⟩ = some (.int .u64 (lo : Nat)) ∧ w'.cell? ⟨w.heap.size, 5, none⟩ = some (.int .i64 (fr : Nat)) ∧ w'.cell? ⟨w.heap.size, 6, none⟩ = some (.int .i64 (to : Nat)) ∧ w'.cell? ⟨w.heap.size, 7, none⟩ = some (.int .i64 (lim : Nat))) W5 := ⟨(rA5.cell 3).trans k3, (rA5.cell 4).trans k4, (rA5.cell 5).trans k5, (rA5.cell 6).trans k6, (rA5.cell 7).trans k7⟩
        try simp only [Act.put, List.setIfInBounds_toArray, List.set_cons_zero, List.set_cons_succ]
        refine wpAnyD_all (rs := [4]) (by kernel_rfl) (by simp) ?_
        refine AllD.cons (i := 4) rfl (by rfl) (fun K hK => ?_) ?_
        · go_simp
          refine (wnum_any _ [(hi, lo)] W5 b _ _ h5 (nums_row h5 R3_5 hwhi) (by simp [numB_len, intB_len])).mono ?_
          rintro e W6 ⟨V6, rfl, h6, q6⟩
          simp only [List.flatMap_cons, List.flatMap_nil, List.append_nil] at h6
          have rA6 : Row W6 w.heap.size cs 28 := (q6.far (far_of_block h5 rA5 (by decide) (by decide)) rA5.lt).trans rA5
          have sw6 := sw5.trans q6
          have R3_6 : Row W6 _ _ _ := (q6.far (far_of_block h5 R3_5 (by decide) (by decide)) R3_5.lt).trans R3_5
          have R13_6 : Row W6 _ _ _ := (q6.far (far_of_block h5 R13_5 (by decide) (by decide)) R13_5.lt).trans R13_5
          have R9_6 : Row W6 _ _ _ := (q6.far (far_of_block h5 R9_5 (by decide) (by decide)) R9_5.lt).trans R9_5
          try dsimp only
          have hSn : (fun w' : World => w'.cell? ⟨w.heap.size, 3, none⟩ = some (.int .u64 (hi : Nat)) ∧ w'.cell? ⟨w.heap.size, 4, none⟩ = some (.int .u64 (lo : Nat)) ∧ w'.cell? ⟨w.heap.size, 5, none⟩ = some (.int .i64 (fr : Nat)) ∧ w'.cell? ⟨w.heap.size, 6, none⟩ = some (.int .i64 (to : Nat)) ∧ w'.cell? ⟨w.heap.size, 7, none⟩ = some (.int .i64 (lim : Nat))) W6 := ⟨(rA6.cell 3).trans k3, (rA6.cell 4).trans k4, (rA6.cell 5).trans k5, (rA6.cell 6).trans k6, (rA6.cell 7).trans k7⟩
          refine hK.out _ _ (fun _ => hSn) ?_
          clear hK K hSn hS
          have hS : (fun w' : World => w'.cell? ⟨w.heap.size, 3, none⟩ = some (.int .u64 (hi : Nat)) ∧ w'.cell? ⟨w.heap.size, 4, none⟩ = some (.int .u64 (lo : Nat)) ∧ w'.cell? ⟨w.heap.size, 5, none⟩ = some (.int .i64 (fr : Nat)) ∧ w'.cell? ⟨w.heap.size, 6, none⟩ = some (.int .i64 (to : Nat)) ∧ w'.cell? ⟨w.heap.size, 7, none⟩ = some (.int .i64 (lim : Nat))) W6 := ⟨(rA6.cell 3).trans k3, (rA6.cell 4).trans k4, (rA6.cell 5).trans k5, (rA6.cell 6).trans k6, (rA6.cell 7).trans k7⟩
          try simp only [Act.put, List.setIfInBounds_toArray, List.set_cons_zero, List.set_cons_succ]
          refine wpAnyD_all (rs := [10]) (by kernel_rfl) (by simp) ?_
          refine AllD.cons (i := 10) rfl (by rfl) (fun K hK => ?_) ?_
          · go_simp
            refine (wint' 6 (by decide) _ rfl _ [((fr : Nat) : Int), ((to : Nat) : Int)] W6 b _ _ h6 (ints_row h6 [((fr : Nat) : Int), ((to : Nat) : Int)] (by simp) rfl R9_6 rfl) (by simp [numB_len, intB_len])).mono ?_
            rintro e W7 ⟨V7, rfl, h7, q7⟩
            simp only [List.flatMap_cons, List.flatMap_nil, List.append_nil] at h7
            have rA7 : Row W7 w.heap.size cs 28 := (q7.far (far_of_block h6 rA6 (by decide) (by decide)) rA6.lt).trans rA6
            have sw7 := sw6.trans q7
            have R3_7 : Row W7 _ _ _ := (q7.far (far_of_block h6 R3_6 (by decide) (by decide)) R3_6.lt).trans R3_6
            have R13_7 : Row W7 _ _ _ := (q7.far (far_of_block h6 R13_6 (by decide) (by decide)) R13_6.lt).trans R13_6
            have R9_7 : Row W7 _ _ _ := (q7.far (far_of_block h6 R9_6 (by decide) (by decide)) R9_6.lt).trans R9_6
            try dsimp only
            have hSn : (fun w' : World => w'.cell? ⟨w.heap.size, 3, none⟩ = some (.int .u64 (hi : Nat)) ∧ w'.cell? ⟨w.heap.size, 4, none⟩ = some (.int .u64 (lo : Nat)) ∧ w'.cell? ⟨w.heap.size, 5, none⟩ = some (.int .i64 (fr : Nat)) ∧ w'.cell? ⟨w.heap.size, 6, none⟩ = some (.int .i64 (to : Nat)) ∧ w'.cell? ⟨w.heap.size, 7, none⟩ = some (.int .i64 (lim : Nat))) W7 := ⟨(rA7.cell 3).trans k3, (rA7.cell 4).trans k4, (rA7.cell 5).trans k5, (rA7.cell 6).trans k6, (rA7.cell 7).trans k7⟩
            refine hK.out _ _ (fun _ => hSn) ?_
            clear hK K hSn hS
            have hS : (fun w' : World => w'.cell? ⟨w.heap.size, 3, none⟩ = some (.int .u64 (hi : Nat)) ∧ w'.cell? ⟨w.heap.size, 4, none⟩ = some (.int .u64 (lo : Nat)) ∧ w'.cell? ⟨w.heap.size, 5, none⟩ = some (.int .i64 (fr : Nat)) ∧ w'.cell? ⟨w.heap.size, 6, none⟩ = some (.int .i64 (to : Nat)) ∧ w'.cell? ⟨w.heap.size, 7, none⟩ = some (.int .i64 (lim : Nat))) W7 := ⟨(rA7.cell 3).trans k3, (rA7.cell 4).trans k4, (rA7.cell 5).trans k5, (rA7.cell 6).trans k6, (rA7.cell 7).trans k7⟩
            try simp only [Act.put, List.setIfInBounds_toArray, List.set_cons_zero, List.set_cons_succ]
            refine wpAnyD_all (rs := [14]) (by kernel_rfl) (by simp) ?_
            refine AllD.cons (i := 14) rfl (by rfl) (fun K hK => ?_) ?_
            · go_simp
              refine (wint' 1 (by decide) _ rfl _ [((lim : Nat) : Int)] W7 b _ _ h7 (ints_row h7 [((lim : Nat) : Int)] (by simp) rfl R13_7 rfl) (by simp [numB_len, intB_len])).mono ?_
              rintro e W8 ⟨V8, rfl, h8, q8⟩
              simp only [List.flatMap_cons, List.flatMap_nil, List.append_nil] at h8
              have rA8 : Row W8 w.heap.size cs 28 := (q8.far (far_of_block h7 rA7 (by decide) (by decide)) rA7.lt).trans rA7
              have sw8 := sw7.trans q8
              have R3_8 : Row W8 _ _ _ := (q8.far (far_of_block h7 R3_7 (by decide) (by decide)) R3_7.lt).trans R3_7
              have R13_8 : Row W8 _ _ _ := (q8.far (far_of_block h7 R13_7 (by decide) (by decide)) R13_7.lt).trans R13_7
              have R9_8 : Row W8 _ _ _ := (q8.far (far_of_block h7 R9_7 (by decide) (by decide)) R9_7.lt).trans R9_7
              try dsimp only
              have hSn : (fun w' : World => w'.cell? ⟨w.heap.size, 3, none⟩ = some (.int .u64 (hi : Nat)) ∧ w'.cell? ⟨w.heap.size, 4, none⟩ = some (.int .u64 (lo : Nat)) ∧ w'.cell? ⟨w.heap.size, 5, none⟩ = some (.int .i64 (fr : Nat)) ∧ w'.cell? ⟨w.heap.size, 6, none⟩ = some (.int .i64 (to : Nat)) ∧ w'.cell? ⟨w.heap.size, 7, none⟩ = some (.int .i64 (lim : Nat))) W8 := ⟨(rA8.cell 3).trans k3, (rA8.cell 4).trans k4, (rA8.cell 5).trans k5, (rA8.cell 6).trans k6, (rA8.cell 7).trans k7⟩
              refine hK.out _ _ (fun _ => hSn) ?_
              clear hK K hSn hS
              have hS : (fun w' : World => w'.cell? ⟨w.heap.size, 3, none⟩ = some (.int .u64 (hi : Nat)) ∧ w'.cell? ⟨w.heap.size, 4, none⟩ = some (.int .u64 (lo : Nat)) ∧ w'.cell? ⟨w.heap.size, 5, none⟩ = some (.int .i64 (fr : Nat)) ∧ w'.cell? ⟨w.heap.size, 6, none⟩ = some (.int .i64 (to : Nat)) ∧ w'.cell? ⟨w.heap.size, 7, none⟩ = some (.int .i64 (lim : Nat))) W8 := ⟨(rA8.cell 3).trans k3, (rA8.cell 4).trans k4, (rA8.cell 5).trans k5, (rA8.cell 6).trans k6, (rA8.cell 7).trans k7⟩
              try simp only [Act.put, List.setIfInBounds_toArray, List.set_cons_zero, List.set_cons_succ]
              refine wpAnyD_done (by kernel_rfl) ?_ _
              go_wp2_with (go_at_call 28; refine stop ?_)
              refine (wbytes_any _ b _ _ h8 (by simp [numB_len, intB_len])).mono ?_
              rintro e uz ⟨vz, rfl, oz, bz⟩
              have bf : Below w.heap.size w W8 := below_of_wstep b0 sw8 (by have := HB.out; omega) (fun g hg => by cases hg)
              obtain ⟨pz, nz, cz, rfl, hz⟩ := oz.form
              clear hz
              have oz2 : Own uz w.heap.size (.slice pz nz cz) _ := ⟨oz.1, oz.2.imp id fun ⟨g, cap, cur, e, h1, h2⟩ => ⟨g, cap, cur, e, Nat.le_trans bf.size h1, h2⟩⟩
              clear oz
              go_wp2
              go_ret
              refine ⟨_, rfl, ?_, chain bf bz⟩
              simpa [List.append_assoc] using oz2
            exact AllD.nil
          exact AllD.nil
        exact AllD.nil
      exact AllD.nil
    exact AllD.nil
  refine AllD.cons (i := 9) rfl (by rfl) (fun K hK => ?_) ?_
  · go_simp
    have h3 := h2.alloc (.cells #[.int .i64 (fr : Nat), .int .i64 (to : Nat)] 3)
    have rA3 := rA2.alloc (.cells #[.int .i64 (fr : Nat), .int .i64 (to : Nat)] 3)
    have sw3 := sw2.alloc (.cells #[.int .i64 (fr : Nat), .int .i64 (to : Nat)] 3)
    have R9_3 := Row.new W2 #[.int .i64 (fr : Nat), .int .i64 (to : Nat)] 3 rfl
    try dsimp only
    have hSn : (fun w' : World => w'.cell? ⟨w.heap.size, 3, none⟩ = some (.int .u64 (hi : Nat)) ∧ w'.cell? ⟨w.heap.size, 4, none⟩ = some (.int .u64 (lo : Nat)) ∧ w'.cell? ⟨w.heap.size, 5, none⟩ = some (.int .i64 (fr : Nat)) ∧ w'.cell? ⟨w.heap.size, 6, none⟩ = some (.int .i64 (to : Nat)) ∧ w'.cell? ⟨w.heap.size, 7, none⟩ = some (.int .i64 (lim : Nat))) (W2.alloc (.cells #[.int .i64 (fr : Nat), .int .i64 (to : Nat)] 3)) := ⟨(rA3.cell 3).trans k3, (rA3.cell 4).trans k4, (rA3.cell 5).trans k5, (rA3.cell 6).trans k6, (rA3.cell 7).trans k7⟩
    refine hK.out _ _ (fun _ => hSn) ?_
    clear hK K hSn hS
    generalize W2.alloc (.cells #[.int .i64 (fr : Nat), .int .i64 (to : Nat)] 3) = W3 at *
    have hS : (fun w' : World => w'.cell? ⟨w.heap.size, 3, none⟩ = some (.int .u64 (hi : Nat)) ∧ w'.cell? ⟨w.heap.size, 4, none⟩ = some (.int .u64 (lo : Nat)) ∧ w'.cell? ⟨w.heap.size, 5, none⟩ = some (.int .i64 (fr : Nat)) ∧ w'.cell? ⟨w.heap.size, 6, none⟩ = some (.int .i64 (to : Nat)) ∧ w'.cell? ⟨w.heap.size, 7, none⟩ = some (.int .i64 (lim : Nat))) W3 := ⟨(rA3.cell 3).trans k3, (rA3.cell 4).trans k4, (rA3.cell 5).trans k5, (rA3.cell 6).trans k6, (rA3.cell 7).trans k7⟩
    try simp only [Act.put, List.setIfInBounds_toArray, List.set_cons_zero, List.set_cons_succ]
    refine wpAnyD_all (rs := [3, 13]) (by kernel_rfl) (by simp) ?_
    refine AllD.cons (i := 3) rfl (by rfl) (fun K hK => ?_) ?_
    · go_simp
      have h4 := h3.alloc (.cells #[.int .u64 (hi : Nat), .int .u64 (lo : Nat)] 26)
      have rA4 := rA3.alloc (.cells #[.int .u64 (hi : Nat), .int .u64 (lo : Nat)] 26)
      have sw4 := sw3.alloc (.cells #[.int .u64 (hi : Nat), .int .u64 (lo : Nat)] 26)
      have R3_4 := Row.new W3 #[.int .u64 (hi : Nat), .int .u64 (lo : Nat)] 26 rfl
      have R9_4 := R9_3.alloc (.cells #[.int .u64 (hi : Nat), .int .u64 (lo : Nat)] 26)
      try dsimp only
      have hSn : (fun w' : World => w'.cell? ⟨w.heap.size, 3, none⟩ = some (.int .u64 (hi : Nat)) ∧ w'.cell? ⟨w.heap.size, 4, none⟩ = some (.int .u64 (lo : Nat)) ∧ w'.cell? ⟨w.heap.size, 5, none⟩ = some (.int .i64 (fr : Nat)) ∧ w'.cell? ⟨w.heap.size, 6, none⟩ = some (.int .i64 (to : Nat)) ∧ w'.cell? ⟨w.heap.size, 7, none⟩ = some (.int .i64 (lim : Nat))) (W3.alloc (.cells #[.int .u64 (hi : Nat), .int .u64 (lo : Nat)] 26)) := ⟨(rA4.cell 3).trans k3, (rA4.cell 4).trans k4, (rA4.cell 5).trans k5, (rA4.cell 6).trans k6, (rA4.cell 7).trans k7⟩
      refine hK.out _ _ (fun _ => hSn) ?_
      clear hK K hSn hS
      generalize W3.alloc (.cells #[.int .u64 (hi : Nat), .int .u64 (lo : Nat)] 26) = W4 at *
      have hS : (fun w' : World => w'.cell? ⟨w.heap.size, 3, none⟩ = some (.int .u64 (hi : Nat)) ∧ w'.cell? ⟨w.heap.size, 4, none⟩ = some (.int .u64 (lo : Nat)) ∧ w'.cell? ⟨w.heap.size, 5, none⟩ = some (.int .i64 (fr : Nat)) ∧ w'.cell? ⟨w.heap.size, 6, none⟩ = some (.int .i64 (to : Nat)) ∧ w'.cell? ⟨w.heap.size, 7, none⟩ = some (.int .i64 (lim : Nat))) W4 := ⟨(rA4.cell 3).trans k3, (rA4.cell 4).trans k4, (rA4.cell 5).trans k5, (rA4.cell 6).trans k6, (rA4.cell 7).trans k7⟩
      try simp only [Act.put, List.setIfInBounds_toArray, List.set_cons_zero, List.set_cons_succ]
      refine wpAnyD_all (rs := [4, 13]) (by kernel_rfl) (by simp) ?_
      refine AllD.cons (i := 4) rfl (by rfl) (fun K hK => ?_) ?_
      · go_simp
        refine (wnum_any _ [(hi, lo)] W4 b _ _ h4 (nums_row h4 R3_4 hwhi) (by simp [numB_len, intB_len])).mono ?_
        rintro e W5 ⟨V5, rfl, h5, q5⟩
        simp only [List.flatMap_cons, List.flatMap_nil, List.append_nil] at h5
        have rA5 : Row W5 w.heap.size cs 28 := (q5.far (far_of_block h4 rA4 (by decide) (by decide)) rA4.lt).trans rA4
        have sw5 := sw4.trans q5
        have R9_5 : Row W5 _ _ _ := (q5.far (far_of_block h4 R9_4 (by decide) (by decide)) R9_4.lt).trans R9_4
        have R3_5 : Row W5 _ _ _ := (q5.far (far_of_block h4 R3_4 (by decide) (by decide)) R3_4.lt).trans R3_4
        try dsimp only
        have hSn : (fun w' : World => w'.cell? ⟨w.heap.size, 3, none⟩ = some (.int .u64 (hi : Nat)) ∧ w'.cell? ⟨w.heap.size, 4, none⟩ = some (.int .u64 (lo : Nat)) ∧ w'.cell? ⟨w.heap.size, 5, none⟩ = some (.int .i64 (fr : Nat)) ∧ w'.cell? ⟨w.heap.size, 6, none⟩ = some (.int .i64 (to : Nat)) ∧ w'.cell? ⟨w.heap.size, 7, none⟩ = some (.int .i64 (lim : Nat))) W5 := ⟨(rA5.cell 3).trans k3, (rA5.cell 4).trans k4, (rA5.cell 5).trans k5, (rA5.cell 6).trans k6, (rA5.cell 7).trans k7⟩
        refine hK.out _ _ (fun _ => hSn) ?_
        clear hK K hSn hS
        have hS : (fun w' : World => w'.cell? ⟨w.heap.size, 3, none⟩ = some (.int .u64 (hi : Nat)) ∧ w'.cell? ⟨w.heap.size, 4, none⟩ = some (.int .u64 (lo : Nat)) ∧ w'.cell? ⟨w.heap.size, 5, none⟩ = some (.int .i64 (fr : Nat)) ∧ w'.cell? ⟨w.heap.size, 6, none⟩ = some (.int .i64 (to : Nat)) ∧ w'.cell? ⟨w.heap.size, 7, none⟩ = some (.int .i64 (lim : Nat))) W5 := ⟨(rA5.cell 3).trans k3, (rA5.cell 4).trans k4, (rA5.cell 5).trans k5, (rA5.cell 6).trans k6, (rA5.cell 7).trans k7⟩
        try simp only [Act.put, List.setIfInBounds_toArray, List.set_cons_zero, List.set_cons_succ]
        refine wpAnyD_all (rs := [10, 13]) (by kernel_rfl) (by simp) ?_
        refine AllD.cons (i := 10) rfl (by rfl) (fun K hK => ?_) ?_
        · go_simp
          refine (wint' 6 (by decide) _ rfl _ [((fr : Nat) : Int), ((to : Nat) : Int)] W5 b _ _ h5 (ints_row h5 [((fr : Nat) : Int), ((to : Nat) : Int)] (by simp) rfl R9_5 rfl) (by simp [numB_len, intB_len])).mono ?_
          rintro e W6 ⟨V6, rfl, h6, q6⟩
          simp only [List.flatMap_cons, List.flatMap_nil, List.append_nil] at h6
          have rA6 : Row W6 w.heap.size cs 28 := (q6.far (far_of_block h5 rA5 (by decide) (by decide)) rA5.lt).trans rA5
          have sw6 := sw5.trans q6
          have R9_6 : Row W6 _ _ _ := (q6.far (far_of_block h5 R9_5 (by decide) (by decide)) R9_5.lt).trans R9_5
          have R3_6 : Row W6 _ _ _ := (q6.far (far_of_block h5 R3_5 (by decide) (by decide)) R3_5.lt).trans R3_5
          try dsimp only
          have hSn : (fun w' : World => w'.cell? ⟨w.heap.size, 3, none⟩ = some (.int .u64 (hi : Nat)) ∧ w'.cell? ⟨w.heap.size, 4, none⟩ = some (.int .u64 (lo : Nat)) ∧ w'.cell? ⟨w.heap.size, 5, none⟩ = some (.int .i64 (fr : Nat)) ∧ w'.cell? ⟨w.heap.size, 6, none⟩ = some (.int .i64 (to : Nat)) ∧ w'.cell? ⟨w.heap.size, 7, none⟩ = some (.int .i64 (lim : Nat))) W6 := ⟨(rA6.cell 3).trans k3, (rA6.cell 4).trans k4, (rA6.cell 5).trans k5, (rA6.cell 6).trans k6, (rA6.cell 7).trans k7⟩
          refine hK.out _ _ (fun _ => hSn) ?_
          clear hK K hSn hS
          have hS : (fun w' : World => w'.cell? ⟨w.heap.size, 3, none⟩ = some (.int .u64 (hi : Nat)) ∧ w'.cell? ⟨w.heap.size, 4, none⟩ = some (.int .u64 (lo : Nat)) ∧ w'.cell? ⟨w.heap.size, 5, none⟩ = some (.int .i64 (fr : Nat)) ∧ w'.cell? ⟨w.heap.size, 6, none⟩ = some (.int .i64 (to : Nat)) ∧ w'.cell? ⟨w.heap.size, 7, none⟩ = some (.int .i64 (lim : Nat))) W6 := ⟨(rA6.cell 3).trans k3, (rA6.cell 4).trans k4, (rA6.cell 5).trans k5, (rA6.cell 6).trans k6, (rA6.cell 7).trans k7⟩
          try simp only [Act.put, List.setIfInBounds_toArray, List.set_cons_zero, List.set_cons_succ]
          refine wpAnyD_all (rs := [13]) (by kernel_rfl) (by simp) ?_
          refine AllD.cons (i := 13) rfl (by rfl) (fun K hK => ?_) ?_
          · go_simp
            have h7 := h6.alloc (.cells #[.int .i64 (lim : Nat)] 3)
            have rA7 := rA6.alloc (.cells #[.int .i64 (lim : Nat)] 3)
            have sw7 := sw6.alloc (.cells #[.int .i64 (lim : Nat)] 3)
            have R13_7 := Row.new W6 #[.int .i64 (lim : Nat)] 3 rfl
            have R9_7 := R9_6.alloc (.cells #[.int .i64 (lim : Nat)] 3)
            have R3_7 := R3_6.alloc (.cells #[.int .i64 (lim : Nat)] 3)
            try dsimp only
            have hSn : (fun w' : World => w'.cell? ⟨w.heap.size, 3, none⟩ = some (.int .u64 (hi : Nat)) ∧ w'.cell? ⟨w.heap.size, 4, none⟩ = some (.int .u64 (lo : Nat)) ∧ w'.cell? ⟨w.heap.size, 5, none⟩ = some (.int .i64 (fr : Nat)) ∧ w'.cell? ⟨w.heap.size, 6, none⟩ = some (.int .i64 (to : Nat)) ∧ w'.cell? ⟨w.heap.size, 7, none⟩ = some (.int .i64 (lim : Nat))) (W6.alloc (.cells #[.int .i64 (lim : Nat)] 3)) := ⟨(rA7.cell 3).trans k3, (rA7.cell 4).trans k4, (rA7.cell 5).trans k5, (rA7.cell 6).trans k6, (rA7.cell 7).trans k7⟩
            refine hK.out _ _ (fun _ => hSn) ?_
            clear hK K hSn hS
            generalize W6.alloc (.cells #[.int .i64 (lim : Nat)] 3) = W7 at *
            have hS : (fun w' : World => w'.cell? ⟨w.heap.size, 3, none⟩ = some (.int .u64 (hi : Nat)) ∧ w'.cell? ⟨w.heap.size, 4, none⟩ = some (.int .u64 (lo : Nat)) ∧ w'.cell? ⟨w.heap.size, 5, none⟩ = some (.int .i64 (fr : Nat)) ∧ w'.cell? ⟨w.heap.size, 6, none⟩ = some (.int .i64 (to : Nat)) ∧ w'.cell? ⟨w.heap.size, 7, none⟩ = some (.int .i64 (lim : Nat))) W7 := ⟨(rA7.cell 3).trans k3, (rA7.cell 4).trans k4, (rA7.cell 5).trans k5, (rA7.cell 6).trans k6, (rA7.cell 7).trans k7⟩
            try simp only [Act.put, List.setIfInBounds_toArray, List.set_cons_zero, List.set_cons_succ]
            refine wpAnyD_all (rs := [14]) (by kernel_rfl) (by simp) ?_
            refine AllD.cons (i := 14) rfl (by rfl) (fun K hK => ?_) ?_
            · go_simp
              refine (wint' 1 (by decide) _ rfl _ [((lim : Nat) : Int)] W7 b _ _ h7 (ints_row h7 [((lim : Nat) : Int)] (by simp) rfl R13_7 rfl) (by simp [numB_len, intB_len])).mono ?_
              rintro e W8 ⟨V8, rfl, h8, q8⟩
              simp only [List.flatMap_cons, List.flatMap_nil, List.append_nil] at h8
              have rA8 : Row W8 w.heap.size cs 28 := (q8.far (far_of_block h7 rA7 (by decide) (by decide)) rA7.lt).trans rA7
              have sw8 := sw7.trans q8
              have R9_8 : Row W8 _ _ _ := (q8.far (far_of_block h7 R9_7 (by decide) (by decide)) R9_7.lt).trans R9_7
              have R3_8 : Row W8 _ _ _ := (q8.far (far_of_block h7 R3_7 (by decide) (by decide)) R3_7.lt).trans R3_7
              have R13_8 : Row W8 _ _ _ := (q8.far (far_of_block h7 R13_7 (by decide) (by decide)) R13_7.lt).trans R13_7
              try dsimp only
              have hSn : (fun w' : World => w'.cell? ⟨w.heap.size, 3, none⟩ = some (.int .u64 (hi : Nat)) ∧ w'.cell? ⟨w.heap.size, 4, none⟩ = some (.int .u64 (lo : Nat)) ∧ w'.cell? ⟨w.heap.size, 5, none⟩ = some (.int .i64 (fr : Nat)) ∧ w'.cell? ⟨w.heap.size, 6, none⟩ = some (.int .i64 (to : Nat)) ∧ w'.cell? ⟨w.heap.size, 7, none⟩ = some (.int .i64 (lim : Nat))) W8 := ⟨(rA8.cell 3).trans k3, (rA8.cell 4).trans k4, (rA8.cell 5).trans k5, (rA8.cell 6).trans k6, (rA8.cell 7).trans k7⟩
              refine hK.out _ _ (fun _ => hSn) ?_
              clear hK K hSn hS
              have hS : (fun w' : World => w'.cell? ⟨w.heap.size, 3, none⟩ = some (.int .u64 (hi : Nat)) ∧ w'.cell? ⟨w.heap.size, 4, none⟩ = some (.int .u64 (lo : Nat)) ∧ w'.cell? ⟨w.heap.size, 5, none⟩ = some (.int .i64 (fr : Nat)) ∧ w'.cell? ⟨w.heap.size, 6, none⟩ = some (.int .i64 (to : Nat)) ∧ w'.cell? ⟨w.heap.size, 7, none⟩ = some (.int .i64 (lim : Nat))) W8 := ⟨(rA8.cell 3).trans k3, (rA8.cell 4).trans k4, (rA8.cell 5).trans k5, (rA8.cell 6).trans k6, (rA8.cell 7).trans k7⟩
              try simp only [Act.put, List.setIfInBounds_toArray, List.set_cons_zero, List.set_cons_succ]
              refine wpAnyD_done (by kernel_rfl) ?_ _
              go_wp2_with (go_at_call 28; refine stop ?_)
              refine (wbytes_any _ b _ _ h8 (by simp [numB_len, intB_len])).mono ?_
              rintro e uz ⟨vz, rfl, oz, bz⟩
              have bf : Below w.heap.size w W8 := below_of_wstep b0 sw8 (by have := HB.out; omega) (fun g hg => by cases hg)
              obtain ⟨pz, nz, cz, rfl, hz⟩ := oz.form
              clear hz
              have oz2 : Own uz w.heap.size (.slice pz nz cz) _ := ⟨oz.1, oz.2.imp id fun ⟨g, cap, cur, e, h1, h2⟩ => ⟨g, cap, cur, e, Nat.le_trans bf.size h1, h2⟩⟩
              clear oz
              go_wp2
              go_ret
              refine ⟨_, rfl, ?_, chain bf bz⟩
              simpa [List.append_assoc] using oz2
            exact AllD.nil
          exact AllD.nil
        refine AllD.cons (i := 13) rfl (by rfl) (fun K hK => ?_) ?_
        · go_simp
          have h6 := h5.alloc (.cells #[.int .i64 (lim : Nat)] 3)
          have rA6 := rA5.alloc (.cells #[.int .i64 (lim : Nat)] 3)
          have sw6 := sw5.alloc (.cells #[.int .i64 (lim : Nat)] 3)
          have R13_6 := Row.new W5 #[.int .i64 (lim : Nat)] 3 rfl
          have R9_6 := R9_5.alloc (.cells #[.int .i64 (lim : Nat)] 3)
          have R3_6 := R3_5.alloc (.cells #[.int .i64 (lim : Nat)] 3)
          try dsimp only
          have hSn : (fun w' : World => w'.cell? ⟨w.heap.size, 3, none⟩ = some (.int .u64 (hi : Nat)) ∧ w'.cell? ⟨w.heap.size, 4, none⟩ = some (.int .u64 (lo : Nat)) ∧ w'.cell? ⟨w.heap.size, 5, none⟩ = some (.int .i64 (fr : Nat)) ∧ w'.cell? ⟨w.heap.size, 6, none⟩ = some (.int .i64 (to : Nat)) ∧ w'.cell? ⟨w.heap.size, 7, none⟩ = some (.int .i64 (lim : Nat))) (W5.alloc (.cells #[.int .i64 (lim : Nat)] 3)) := ⟨(rA6.cell 3).trans k3, (rA6.cell 4).trans k4, (rA6.cell 5).trans k5, (rA6.cell 6).trans k6, (rA6.cell 7).trans k7⟩
          refine hK.out _ _ (fun _ => hSn) ?_
          clear hK K hSn hS
          generalize W5.alloc (.cells #[.int .i64 (lim : Nat)] 3) = W6 at *
          have hS : (fun w' : World => w'.cell? ⟨w.heap.size, 3, none⟩ = some (.int .u64 (hi : Nat)) ∧ w'.cell? ⟨w.heap.size, 4, none⟩ = some (.int .u64 (lo : Nat)) ∧ w'.cell? ⟨w.heap.size, 5, none⟩ = some (.int .i64 (fr : Nat)) ∧ w'.cell? ⟨w.heap.size, 6, none⟩ = some (.int .i64 (to : Nat)) ∧ w'.cell? ⟨w.heap.size, 7, none⟩ = some (.int .i64 (lim : Nat))) W6 := ⟨(rA6.cell 3).trans k3, (rA6.cell 4).trans k4, (rA6.cell 5).trans k5, (rA6.cell 6).trans k6, (rA6.cell 7).trans k7⟩
          try simp only [Act.put, List.setIfInBounds_toArray, List.set_cons_zero, List.set_cons_succ]
          refine wpAnyD_all (rs := [10]) (by kernel_rfl) (by simp) ?_
          refine AllD.cons (i := 10) rfl (by rfl) (fun K hK => ?_) ?_
          · go_simp
            refine (wint' 6 (by decide) _ rfl _ [((fr : Nat) : Int), ((to : Nat) : Int)] W6 b _ _ h6 (ints_row h6 [((fr : Nat) : Int), ((to : Nat) : Int)] (by simp) rfl R9_6 rfl) (by simp [numB_len, intB_len])).mono ?_
            rintro e W7 ⟨V7, rfl, h7, q7⟩
            simp only [List.flatMap_cons, List.flatMap_nil, List.append_nil] at h7
            have rA7 : Row W7 w.heap.size cs 28 := (q7.far (far_of_block h6 rA6 (by decide) (by decide)) rA6.lt).trans rA6
            have sw7 := sw6.trans q7
            have R9_7 : Row W7 _ _ _ := (q7.far (far_of_block h6 R9_6 (by decide) (by decide)) R9_6.lt).trans R9_6
            have R3_7 : Row W7 _ _ _ := (q7.far (far_of_block h6 R3_6 (by decide) (by decide)) R3_6.lt).trans R3_6
            have R13_7 : Row W7 _ _ _ := (q7.far (far_of_block h6 R13_6 (by decide) (by decide)) R13_6.lt).trans R13_6
            try dsimp only
            have hSn : (fun w' : World => w'.cell? ⟨w.heap.size, 3, none⟩ = some (.int .u64 (hi : Nat)) ∧ w'.cell? ⟨w.heap.size, 4, none⟩ = some (.int .u64 (lo : Nat)) ∧ w'.cell? ⟨w.heap.size, 5, none⟩ = some (.int .i64 (fr : Nat)) ∧ w'.cell? ⟨w.heap.size, 6, none⟩ = some (.int .i64 (to : Nat)) ∧ w'.cell? ⟨w.heap.size, 7, none⟩ = some (.int .i64 (lim : Nat))) W7 := ⟨(rA7.cell 3).trans k3, (rA7.cell 4).trans k4, (rA7.cell 5).trans k5, (rA7.cell 6).trans k6, (rA7.cell 7).trans k7⟩
            refine hK.out _ _ (fun _ => hSn) ?_
            clear hK K hSn hS
            have hS : (fun w' : World => w'.cell? ⟨w.heap.size, 3, none⟩ = some (.int .u64 (hi : Nat)) ∧ w'.cell? ⟨w.heap.size, 4, none⟩ = some (.int .u64 (lo : Nat)) ∧ w'.cell? ⟨w.heap.size, 5, none⟩ = some (.int .i64 (fr : Nat)) ∧ w'.cell? ⟨w.heap.size, 6, none⟩ = some (.int .i64 (to : Nat)) ∧ w'.cell? ⟨w.heap.size, 7, none⟩ = some (.int .i64 (lim : Nat))) W7 := ⟨(rA7.cell 3).trans k3, (rA7.cell 4).trans k4, (rA7.cell 5).trans k5, (rA7.cell 6).trans k6, (rA7.cell 7).trans k7⟩
            try simp only [Act.put, List.setIfInBounds_toArray, List.set_cons_zero, List.set_cons_succ]
            refine wpAnyD_all (rs := [14]) (by kernel_rfl) (by simp) ?_
            refine AllD.cons (i := 14) rfl (by rfl) (fun K hK => ?_) ?_
            · go_simp
              refine (wint' 1 (by decide) _ rfl _ [((lim : Nat) : Int)] W7 b _ _ h7 (ints_row h7 [((lim : Nat) : Int)] (by simp) rfl R13_7 rfl) (by simp [numB_len, intB_len])).mono ?_
              rintro e W8 ⟨V8, rfl, h8, q8⟩
              simp only [List.flatMap_cons, List.flatMap_nil, List.append_nil] at h8
              have rA8 : Row W8 w.heap.size cs 28 := (q8.far (far_of_block h7 rA7 (by decide) (by decide)) rA7.lt).trans rA7
              have sw8 := sw7.trans q8
              have R9_8 : Row W8 _ _ _ := (q8.far (far_of_block h7 R9_7 (by decide) (by decide)) R9_7.lt).trans R9_7
              have R3_8 : Row W8 _ _ _ := (q8.far (far_of_block h7 R3_7 (by decide) (by decide)) R3_7.lt).trans R3_7
              have R13_8 : Row W8 _ _ _ := (q8.far (far_of_block h7 R13_7 (by decide) (by decide)) R13_7.lt).trans R13_7
              try dsimp only
              have hSn : (fun w' : World => w'.cell? ⟨w.heap.size, 3, none⟩ = some (.int .u64 (hi : Nat)) ∧ w'.cell? ⟨w.heap.size, 4, none⟩ = some (.int .u64 (lo : Nat)) ∧ w'.cell? ⟨w.heap.size, 5, none⟩ = some (.int .i64 (fr : Nat)) ∧ w'.cell? ⟨w.heap.size, 6, none⟩ = some (.int .i64 (to : Nat)) ∧ w'.cell? ⟨w.heap.size, 7, none⟩ = some (.int .i64 (lim : Nat))) W8 := ⟨(rA8.cell 3).trans k3, (rA8.cell 4).trans k4, (rA8.cell 5).trans k5, (rA8.cell 6).trans k6, (rA8.cell 7).trans k7⟩
              refine hK.out _ _ (fun _ => hSn) ?_
              clear hK K hSn hS
              have hS : (fun w' : World => w'.cell? ⟨w.heap.size, 3, none⟩ = some (.int .u64 (hi : Nat)) ∧ w'.cell? ⟨w.heap.size, 4, none⟩ = some (.int .u64 (lo : Nat)) ∧ w'.cell? ⟨w.heap.size, 5, none⟩ = some (.int .i64 (fr : Nat)) ∧ w'.cell? ⟨w.heap.size, 6, none⟩ = some (.int .i64 (to : Nat)) ∧ w'.cell? ⟨w.heap.size, 7, none⟩ = some (.int .i64 (lim : Nat))) W8 := ⟨(rA8.cell 3).trans k3, (rA8.cell 4).trans k4, (rA8.cell 5).trans k5, (rA8.cell 6).trans k6, (rA8.cell 7).trans k7⟩
              try simp only [Act.put, List.setIfInBounds_toArray, List.set_cons_zero, List.set_cons_succ]
              refine wpAnyD_done (by kernel_rfl) ?_ _
              go_wp2_with (go_at_call 28; refine stop ?_)
              refine (wbytes_any _ b _ _ h8 (by simp [numB_len, intB_len])).mono ?_
              rintro e uz ⟨vz, rfl, oz, bz⟩
              have bf : Below w.heap.size w W8 := below_of_wstep b0 sw8 (by have := HB.out; omega) (fun g hg => by cases hg)
              obtain ⟨pz, nz, cz, rfl, hz⟩ := oz.form
              clear hz
              have oz2 : Own uz w.heap.size (.slice pz nz cz) _ := ⟨oz.1, oz.2.imp id fun ⟨g, cap, cur, e, h1, h2⟩ => ⟨g, cap, cur, e, Nat.le_trans bf.size h1, h2⟩⟩
              clear oz
              go_wp2
              go_ret
              refine ⟨_, rfl, ?_, chain bf bz⟩
              simpa [List.append_assoc] using oz2
            exact AllD.nil
          exact AllD.nil
        exact AllD.nil
      refine AllD.cons (i := 13) rfl (by rfl) (fun K hK => ?_) ?_
      · go_simp
        have h5 := h4.alloc (.cells #[.int .i64 (lim : Nat)] 3)
        have rA5 := rA4.alloc (.cells #[.int .i64 (lim : Nat)] 3)
        have sw5 := sw4.alloc (.cells #[.int .i64 (lim : Nat)] 3)
        have R13_5 := Row.new W4 #[.int .i64 (lim : Nat)] 3 rfl
        have R9_5 := R9_4.alloc (.cells #[.int .i64 (lim : Nat)] 3)
        have R3_5 := R3_4.alloc (.cells #[.int .i64 (lim : Nat)] 3)
        try dsimp only
        have hSn : (fun w' : World => w'.cell? ⟨w.heap.size, 3, none⟩ = some (.int .u64 (hi : Nat)) ∧ w'.cell? ⟨w.heap.size, 4, none⟩ = some (.int .u64 (lo : Nat)) ∧ w'.cell? ⟨w.heap.size, 5, none⟩ = some (.int .i64 (fr : Nat)) ∧ w'.cell? ⟨w.heap.size, 6, none⟩ = some (.int .i64 (to : Nat)) ∧ w'.cell? ⟨w.heap.size, 7, none⟩ = some (.int .i64 (lim : Nat))) (W4.alloc (.cells #[.int .i64 (lim : Nat)] 3)) := ⟨(rA5.cell 3).trans k3, (rA5.cell 4).trans k4, (rA5.cell 5).trans k5, (rA5.cell 6).trans k6, (rA5.cell 7).trans k7⟩
        refine hK.out _ _ (fun _ => hSn) ?_
        clear hK K hSn hS
        generalize W4.alloc (.cells #[.int .i64 (lim : Nat)] 3) = W5 at *
        have hS : (fun w' : World => w'.cell? ⟨w.heap.size, 3, none⟩ = some (.int .u64 (hi : Nat)) ∧ w'.cell? ⟨w.heap.size, 4, none⟩ = some (.int .u64 (lo : Nat)) ∧ w'.cell? ⟨w.heap.size, 5, none⟩ = some (.int .i64 (fr : Nat)) ∧ w'.cell? ⟨w.heap.size, 6, none⟩ = some (.int .i64 (to : Nat)) ∧ w'.cell? ⟨w.heap.size, 7, none⟩ = some (.int .i64 (lim : Nat))) W5 := ⟨(rA5.cell 3).trans k3, (rA5.cell 4).trans k4, (rA5.cell 5).trans k5, (rA5.cell 6).trans k6, (rA5.cell 7).trans k7⟩
        try simp only [Act.put, List.setIfInBounds_toArray, List.set_cons_zero, List.set_cons_succ]
        refine wpAnyD_all (rs := [4]) (by kernel_rfl) (by simp) ?_
        refine AllD.cons (i := 4) rfl (by rfl) (fun K hK => ?_) ?_
        · go_simp
          refine (wnum_any _ [(hi, lo)] W5 b _ _ h5 (nums_row h5 R3_5 hwhi) (by simp [numB_len, intB_len])).mono ?_
          rintro e W6 ⟨V6, rfl, h6, q6⟩
          simp only [List.flatMap_cons, List.flatMap_nil, List.append_nil] at h6
          have rA6 : Row W6 w.heap.size cs 28 := (q6.far (far_of_block h5 rA5 (by decide) (by decide)) rA5.lt).trans rA5
          have sw6 := sw5.trans q6
          have R9_6 : Row W6 _ _ _ := (q6.far (far_of_block h5 R9_5 (by decide) (by decide)) R9_5.lt).trans R9_5
          have R3_6 : Row W6 _ _ _ := (q6.far (far_of_block h5 R3_5 (by decide) (by decide)) R3_5.lt).trans R3_5
          have R13_6 : Row W6 _ _ _ := (q6.far (far_of_block h5 R13_5 (by decide) (by decide)) R13_5.lt).trans R13_5
          try dsimp only
          have hSn : (fun w' : World => w'.cell? ⟨w.heap.size, 3, none⟩ = some (.int .u64 (hi : Nat)) ∧ w'.cell? ⟨w.heap.size, 4, none⟩ = some (.int .u64 (lo : Nat)) ∧ w'.cell? ⟨w.heap.size, 5, none⟩ = some (.int .i64 (fr : Nat)) ∧ w'.cell? ⟨w.heap.size, 6, none⟩ = some (.int .i64 (to : Nat)) ∧ w'.cell? ⟨w.heap.size, 7, none⟩ = some (.int .i64 (lim : Nat))) W6 := ⟨(rA6.cell 3).trans k3, (rA6.cell 4).trans k4, (rA6.cell 5).trans k5, (rA6.cell 6).trans k6, (rA6.cell 7).trans k7⟩
          refine hK.out _ _ (fun _ => hSn) ?_
          clear hK K hSn hS
          have hS : (fun w' : World => w'.cell? ⟨w.heap.size, 3, none⟩ = some (.int .u64 (hi : Nat)) ∧ w'.cell? ⟨w.heap.size, 4, none⟩ = some (.int .u64 (lo : Nat)) ∧ w'.cell? ⟨w.heap.size, 5, none⟩ = some (.int .i64 (fr : Nat)) ∧ w'.cell? ⟨w.heap.size, 6, none⟩ = some (.int .i64 (to : Nat)) ∧ w'.cell? ⟨w.heap.size, 7, none⟩ = some (.int .i64 (lim : Nat))) W6 := ⟨(rA6.cell 3).trans k3, (rA6.cell 4).trans k4, (rA6.cell 5).trans k5, (rA6.cell 6).trans k6, (rA6.cell 7).trans k7⟩
          try simp only [Act.put, List.setIfInBounds_toArray, List.set_cons_zero, List.set_cons_succ]
          refine wpAnyD_all (rs := [10]) (by kernel_rfl) (by simp) ?_
          refine AllD.cons (i := 10) rfl (by rfl) (fun K hK => ?_) ?_
          · go_simp
            refine (wint' 6 (by decide) _ rfl _ [((fr : Nat) : Int), ((to : Nat) : Int)] W6 b _ _ h6 (ints_row h6 [((fr : Nat) : Int), ((to : Nat) : Int)] (by simp) rfl R9_6 rfl) (by simp [numB_len, intB_len])).mono ?_
            rintro e W7 ⟨V7, rfl, h7, q7⟩
            simp only [List.flatMap_cons, List.flatMap_nil, List.append_nil] at h7
            have rA7 : Row W7 w.heap.size cs 28 := (q7.far (far_of_block h6 rA6 (by decide) (by decide)) rA6.lt).trans rA6
            have sw7 := sw6.trans q7
            have R9_7 : Row W7 _ _ _ := (q7.far (far_of_block h6 R9_6 (by decide) (by decide)) R9_6.lt).trans R9_6
            have R3_7 : Row W7 _ _ _ := (q7.far (far_of_block h6 R3_6 (by decide) (by decide)) R3_6.lt).trans R3_6
            have R13_7 : Row W7 _ _ _ := (q7.far (far_of_block h6 R13_6 (by decide) (by decide)) R13_6.lt).trans R13_6
            try dsimp only
            have hSn : (fun w' : World => w'.cell? ⟨w.heap.size, 3, none⟩ = some (.int .u64 (hi : Nat)) ∧ w'.cell? ⟨w.heap.size, 4, none⟩ = some (.int .u64 (lo : Nat)) ∧ w'.cell? ⟨w.heap.size, 5, none⟩ = some (.int .i64 (fr : Nat)) ∧ w'.cell? ⟨w.heap.size, 6, none⟩ = some (.int .i64 (to : Nat)) ∧ w'.cell? ⟨w.heap.size, 7, none⟩ = some (.int .i64 (lim : Nat))) W7 := ⟨(rA7.cell 3).trans k3, (rA7.cell 4).trans k4, (rA7.cell 5).trans k5, (rA7.cell 6).trans k6, (rA7.cell 7).trans k7⟩
            refine hK.out _ _ (fun _ => hSn) ?_
            clear hK K hSn hS
            have hS : (fun w' : World => w'.cell? ⟨w.heap.size, 3, none⟩ = some (.int .u64 (hi : Nat)) ∧ w'.cell? ⟨w.heap.size, 4, none⟩ = some (.int .u64 (lo : Nat)) ∧ w'.cell? ⟨w.heap.size, 5, none⟩ = some (.int .i64 (fr : Nat)) ∧ w'.cell? ⟨w.heap.size, 6, none⟩ = some (.int .i64 (to : Nat)) ∧ w'.cell? ⟨w.heap.size, 7, none⟩ = some (.int .i64 (lim : Nat))) W7 := ⟨(rA7.cell 3).trans k3, (rA7.cell 4).trans k4, (rA7.cell 5).trans k5, (rA7.cell 6).trans k6, (rA7.cell 7).trans k7⟩
            try simp only [Act.put, List.setIfInBounds_toArray, List.set_cons_zero, List.set_cons_succ]
            refine wpAnyD_all (rs := [14]) (by kernel_rfl) (by simp) ?_
            refine AllD.cons (i := 14) rfl (by rfl) (fun K hK => ?_) ?_
            · go_simp
              refine (wint' 1 (by decide) _ rfl _ [((lim : Nat) : Int)] W7 b _ _ h7 (ints_row h7 [((lim : Nat) : Int)] (by simp) rfl R13_7 rfl) (by simp [numB_len, intB_len])).mono ?_
              rintro e W8 ⟨V8, rfl, h8, q8⟩
              simp only [List.flatMap_cons, List.flatMap_nil, List.append_nil] at h8
              have rA8 : Row W8 w.heap.size cs 28 := (q8.far (far_of_block h7 rA7 (by decide) (by decide)) rA7.lt).trans rA7
              have sw8 := sw7.trans q8
              have R9_8 : Row W8 _ _ _ := (q8.far (far_of_block h7 R9_7 (by decide) (by decide)) R9_7.lt).trans R9_7
              have R3_8 : Row W8 _ _ _ := (q8.far (far_of_block h7 R3_7 (by decide) (by decide)) R3_7.lt).trans R3_7
              have R13_8 : Row W8 _ _ _ := (q8.far (far_of_block h7 R13_7 (by decide) (by decide)) R13_7.lt).trans R13_7
              try dsimp only
              have hSn : (fun w' : World => w'.cell? ⟨w.heap.size, 3, none⟩ = some (.int .u64 (hi : Nat)) ∧ w'.cell? ⟨w.heap.size, 4, none⟩ = some (.int .u64 (lo : Nat)) ∧ w'.cell? ⟨w.heap.size, 5, none⟩ = some (.int .i64 (fr : Nat)) ∧ w'.cell? ⟨w.heap.size, 6, none⟩ = some (.int .i64 (to : Nat)) ∧ w'.cell? ⟨w.heap.size, 7, none⟩ = some (.int .i64 (lim : Nat))) W8 := ⟨(rA8.cell 3).trans k3, (rA8.cell 4).trans k4, (rA8.cell 5).trans k5, (rA8.cell 6).trans k6, (rA8.cell 7).trans k7⟩
              refine hK.out _ _ (fun _ => hSn) ?_
              clear hK K hSn hS
              have hS : (fun w' : World => w'.cell? ⟨w.heap.size, 3, none⟩ = some (.int .u64 (hi : Nat)) ∧ w'.cell? ⟨w.heap.size, 4, none⟩ = some (.int .u64 (lo : Nat)) ∧ w'.cell? ⟨w.heap.size, 5, none⟩ = some (.int .i64 (fr : Nat)) ∧ w'.cell? ⟨w.heap.size, 6, none⟩ = some (.int .i64 (to : Nat)) ∧ w'.cell? ⟨w.heap.size, 7, none⟩ = some (.int .i64 (lim : Nat))) W8 := ⟨(rA8.cell 3).trans k3, (rA8.cell 4).trans k4, (rA8.cell 5).trans k5, (rA8.cell 6).trans k6, (rA8.cell 7).trans k7⟩
              try simp only [Act.put, List.setIfInBounds_toArray, List.set_cons_zero, List.set_cons_succ]
              refine wpAnyD_done (by kernel_rfl) ?_ _
              go_wp2_with (go_at_call 28; refine stop ?_)
              refine (wbytes_any _ b _ _ h8 (by simp [numB_len, intB_len])).mono ?_
              rintro e uz ⟨vz, rfl, oz, bz⟩
              have bf : Below w.heap.size w W8 := below_of_wstep b0 sw8 (by have := HB.out; omega) (fun g hg => by cases hg)
              obtain ⟨pz, nz, cz, rfl, hz⟩ := oz.form
              clear hz
              have oz2 : Own uz w.heap.size (.slice pz nz cz) _ := ⟨oz.1, oz.2.imp id fun ⟨g, cap, cur, e, h1, h2⟩ => ⟨g, cap, cur, e, Nat.le_trans bf.size h1, h2⟩⟩
              clear oz
              go_wp2
              go_ret
              refine ⟨_, rfl, ?_, chain bf bz⟩
              simpa [List.append_assoc] using oz2
            exact AllD.nil
          exact AllD.nil
        exact AllD.nil
      exact AllD.nil
    refine AllD.cons (i := 13) rfl (by rfl) (fun K hK => ?_) ?_
    · go_simp
      have h4 := h3.alloc (.cells #[.int .i64 (lim : Nat)] 3)
      have rA4 := rA3.alloc (.cells #[.int .i64 (lim : Nat)] 3)
      have sw4 := sw3.alloc (.cells #[.int .i64 (lim : Nat)] 3)
      have R13_4 := Row.new W3 #[.int .i64 (lim : Nat)] 3 rfl
      have R9_4 := R9_3.alloc (.cells #[.int .i64 (lim : Nat)] 3)
      try dsimp only
      have hSn : (fun w' : World => w'.cell? ⟨w.heap.size, 3, none⟩ = some (.int .u64 (hi : Nat)) ∧ w'.cell? ⟨w.heap.size, 4, none⟩ = some (.int .u64 (lo : Nat)) ∧ w'.cell? ⟨w.heap.size, 5, none⟩ = some (.int .i64 (fr : Nat)) ∧ w'.cell? ⟨w.heap.size, 6, none⟩ = some (.int .i64 (to : Nat)) ∧ w'.cell? ⟨w.heap.size, 7, none⟩ = some (.int .i64 (lim : Nat))) (W3.alloc (.cells #[.int .i64 (lim : Nat)] 3)) := ⟨(rA4.cell 3).trans k3, (rA4.cell 4).trans k4, (rA4.cell 5).trans k5, (rA4.cell 6).trans k6, (rA4.cell 7).trans k7⟩
      refine hK.out _ _ (fun _ => hSn) ?_
      clear hK K hSn hS
      generalize W3.alloc (.cells #[.int .i64 (lim : Nat)] 3) = W4 at *
      have hS : (fun w' : World => w'.cell? ⟨w.heap.size, 3, none⟩ = some (.int .u64 (hi : Nat)) ∧ w'.cell? ⟨w.heap.size, 4, none⟩ = some (.int .u64 (lo : Nat)) ∧ w'.cell? ⟨w.heap.size, 5, none⟩ = some (.int .i64 (fr : Nat)) ∧ w'.cell? ⟨w.heap.size, 6, none⟩ = some (.int .i64 (to : Nat)) ∧ w'.cell? ⟨w.heap.size, 7, none⟩ = some (.int .i64 (lim : Nat))) W4 := ⟨(rA4.cell 3).trans k3, (rA4.cell 4).trans k4, (rA4.cell 5).trans k5, (rA4.cell 6).trans k6, (rA4.cell 7).trans k7⟩
      try simp only [Act.put, List.setIfInBounds_toArray, List.set_cons_zero, List.set_cons_succ]
      refine wpAnyD_all (rs := [3]) (by kernel_rfl) (by simp) ?_
      refine AllD.cons (i := 3) rfl (by rfl) (fun K hK => ?_) ?_
      · go_simp
        have h5 := h4.alloc (.cells #[.int .u64 (hi : Nat), .int .u64 (lo : Nat)] 26)
        have rA5 := rA4.alloc (.cells #[.int .u64 (hi : Nat), .int .u64 (lo : Nat)] 26)
        have sw5 := sw4.alloc (.cells #[.int .u64 (hi : Nat), .int .u64 (lo : Nat)] 26)
        have R3_5 := Row.new W4 #[.int .u64 (hi : Nat), .int .u64 (lo : Nat)] 26 rfl
        have R9_5 := R9_4.alloc (.cells #[.int .u64 (hi : Nat), .int .u64 (lo : Nat)] 26)
        have R13_5 := R13_4.alloc (.cells #[.int .u64 (hi : Nat), .int .u64 (lo : Nat)] 26)
        try dsimp only
        have hSn : (fun w' : World => w'.cell? ⟨w.heap.size, 3, none⟩ = some (.int .u64 (hi : Nat)) ∧ w'.cell? ⟨w.heap.size, 4, none⟩ = some (.int .u64 (lo : Nat)) ∧ w'.cell? ⟨w.heap.size, 5, none⟩ = some (.int .i64 (fr : Nat)) ∧ w'.cell? ⟨w.heap.size, 6, none⟩ = some (.int .i64 (to : Nat)) ∧ w'.cell? ⟨w.heap.size, 7, none⟩ = some (.int .i64 (lim : Nat))) (W4.alloc (.cells #[.int .u64 (hi : Nat), .int .u64 (lo : Nat)] 26)) := ⟨(rA5.cell 3).trans k3, (rA5.cell 4).trans k4, (rA5.cell 5).trans k5, (rA5.cell 6).trans k6, (rA5.cell 7).trans k7⟩
        refine hK.out _ _ (fun _ => hSn) ?_
        clear hK K hSn hS
        generalize W4.alloc (.cells #[.int .u64 (hi : Nat), .int .u64 (lo : Nat)] 26) = W5 at *
        have hS : (fun w' : World => w'.cell? ⟨w.heap.size, 3, none⟩ = some (.int .u64 (hi : Nat)) ∧ w'.cell? ⟨w.heap.size, 4, none⟩ = some (.int .u64 (lo : Nat)) ∧ w'.cell? ⟨w.heap.size, 5, none⟩ = some (.int .i64 (fr : Nat)) ∧ w'.cell? ⟨w.heap.size, 6, none⟩ = some (.int .i64 (to : Nat)) ∧ w'.cell? ⟨w.heap.size, 7, none⟩ = some (.int .i64 (lim : Nat))) W5 := ⟨(rA5.cell 3).trans k3, (rA5.cell 4).trans k4, (rA5.cell 5).trans k5, (rA5.cell 6).trans k6, (rA5.cell 7).trans k7⟩
        try simp only [Act.put, List.setIfInBounds_toArray, List.set_cons_zero, List.set_cons_succ]
        refine wpAnyD_all (rs := [4]) (by kernel_rfl) (by simp) ?_
        refine AllD.cons (i := 4) rfl (by rfl) (fun K hK => ?_) ?_
        · go_simp
          refine (wnum_any _ [(hi, lo)] W5 b _ _ h5 (nums_row h5 R3_5 hwhi) (by simp [numB_len, intB_len])).mono ?_
          rintro e W6 ⟨V6, rfl, h6, q6⟩
          simp only [List.flatMap_cons, List.flatMap_nil, List.append_nil] at h6
          have rA6 : Row W6 w.heap.size cs 28 := (q6.far (far_of_block h5 rA5 (by decide) (by decide)) rA5.lt).trans rA5
          have sw6 := sw5.trans q6
          have R9_6 : Row W6 _ _ _ := (q6.far (far_of_block h5 R9_5 (by decide) (by decide)) R9_5.lt).trans R9_5
          have R13_6 : Row W6 _ _ _ := (q6.far (far_of_block h5 R13_5 (by decide) (by decide)) R13_5.lt).trans R13_5
          have R3_6 : Row W6 _ _ _ := (q6.far (far_of_block h5 R3_5 (by decide) (by decide)) R3_5.lt).trans R3_5
          try dsimp only
          have hSn : (fun w' : World => w'.cell? ⟨w.heap.size, 3, none⟩ = some (.int .u64 (hi : Nat)) ∧ w'.cell? ⟨w.heap.size, 4, none⟩ = some (.int .u64 (lo : Nat)) ∧ w'.cell? ⟨w.heap.size, 5, none⟩ = some (.int .i64 (fr : Nat)) ∧ w'.cell? ⟨w.heap.size, 6, none⟩ = some (.int .i64 (to : Nat)) ∧ w'.cell? ⟨w.heap.size, 7, none⟩ = some (.int .i64 (lim : Nat))) W6 := ⟨(rA6.cell 3).trans k3, (rA6.cell 4).trans k4, (rA6.cell 5).trans k5, (rA6.cell 6).trans k6, (rA6.cell 7).trans k7⟩
          refine hK.out _ _ (fun _ => hSn) ?_
          clear hK K hSn hS
          have hS : (fun w' : World => w'.cell? ⟨w.heap.size, 3, none⟩ = some (.int .u64 (hi : Nat)) ∧ w'.cell? ⟨w.heap.size, 4, none⟩ = some (.int .u64 (lo : Nat)) ∧ w'.cell? ⟨w.heap.size, 5, none⟩ = some (.int .i64 (fr : Nat)) ∧ w'.cell? ⟨w.heap.size, 6, none⟩ = some (.int .i64 (to : Nat)) ∧ w'.cell? ⟨w.heap.size, 7, none⟩ = some (.int .i64 (lim : Nat))) W6 := ⟨(rA6.cell 3).trans k3, (rA6.cell 4).trans k4, (rA6.cell 5).trans k5, (rA6.cell 6).trans k6, (rA6.cell 7).trans k7⟩
          try simp only [Act.put, List.setIfInBounds_toArray, List.set_cons_zero, List.set_cons_succ]
          refine wpAnyD_all (rs := [10]) (by kernel_rfl) (by simp) ?_
          refine AllD.cons (i := 10) rfl (by rfl) (fun K hK => ?_) ?_
          · go_simp
            refine (wint' 6 (by decide) _ rfl _ [((fr : Nat) : Int), ((to : Nat) : Int)] W6 b _ _ h6 (ints_row h6 [((fr : Nat) : Int), ((to : Nat) : Int)] (by simp) rfl R9_6 rfl) (by simp [numB_len, intB_len])).mono ?_
            rintro e W7 ⟨V7, rfl, h7, q7⟩
            simp only [List.flatMap_cons, List.flatMap_nil, List.append_nil] at h7
            have rA7 : Row W7 w.heap.size cs 28 := (q7.far (far_of_block h6 rA6 (by decide) (by decide)) rA6.lt).trans rA6
            have sw7 := sw6.trans q7
            have R9_7 : Row W7 _ _ _ := (q7.far (far_of_block h6 R9_6 (by decide) (by decide)) R9_6.lt).trans R9_6
            have R13_7 : Row W7 _ _ _ := (q7.far (far_of_block h6 R13_6 (by decide) (by decide)) R13_6.lt).trans R13_6
            have R3_7 : Row W7 _ _ _ := (q7.far (far_of_block h6 R3_6 (by decide) (by decide)) R3_6.lt).trans R3_6
            try dsimp only
            have hSn : (fun w' : World => w'.cell? ⟨w.heap.size, 3, none⟩ = some (.int .u64 (hi : Nat)) ∧ w'.cell? ⟨w.heap.size, 4, none⟩ = some (.int .u64 (lo : Nat)) ∧ w'.cell? ⟨w.heap.size, 5, none⟩ = some (.int .i64 (fr : Nat)) ∧ w'.cell? ⟨w.heap.size, 6, none⟩ = some (.int .i64 (to : Nat)) ∧ w'.cell? ⟨w.heap.size, 7, none⟩ = some (.int .i64 (lim : Nat))) W7 := ⟨(rA7.cell 3).trans k3, (rA7.cell 4).trans k4, (rA7.cell 5).trans k5, (rA7.cell 6).trans k6, (rA7.cell 7).trans k7⟩
            refine hK.out _ _ (fun _ => hSn) ?_
            clear hK K hSn hS
            have hS : (fun w' : World => w'.cell? ⟨w.heap.size, 3, none⟩ = some (.int .u64 (hi : Nat)) ∧ w'.cell? ⟨w.heap.size, 4, none⟩ = some (.int .u64 (lo : Nat)) ∧ w'.cell? ⟨w.heap.size, 5, none⟩ = some (.int .i64 (fr : Nat)) ∧ w'.cell? ⟨w.heap.size, 6, none⟩ = some (.int .i64 (to : Nat)) ∧ w'.cell? ⟨w.heap.size, 7, none⟩ = some (.int .i64 (lim : Nat))) W7 := ⟨(rA7.cell 3).trans k3, (rA7.cell 4).trans k4, (rA7.cell 5).trans k5, (rA7.cell 6).trans k6, (rA7.cell 7).trans k7⟩
            try simp only [Act.put, List.setIfInBounds_toArray, List.set_cons_zero, List.set_cons_succ]
            refine wpAnyD_all (rs := [14]) (by kernel_rfl) (by simp) ?_
            refine AllD.cons (i := 14) rfl (by rfl) (fun K hK => ?_) ?_
            · go_simp
              refine (wint' 1 (by decide) _ rfl _ [((lim : Nat) : Int)] W7 b _ _ h7 (ints_row h7 [((lim : Nat) : Int)] (by simp) rfl R13_7 rfl) (by simp [numB_len, intB_len])).mono ?_
              rintro e W8 ⟨V8, rfl, h8, q8⟩
              simp only [List.flatMap_cons, List.flatMap_nil, List.append_nil] at h8
              have rA8 : Row W8 w.heap.size cs 28 := (q8.far (far_of_block h7 rA7 (by decide) (by decide)) rA7.lt).trans rA7
              have sw8 := sw7.trans q8
              have R9_8 : Row W8 _ _ _ := (q8.far (far_of_block h7 R9_7 (by decide) (by decide)) R9_7.lt).trans R9_7
              have R13_8 : Row W8 _ _ _ := (q8.far (far_of_block h7 R13_7 (by decide) (by decide)) R13_7.lt).trans R13_7
              have R3_8 : Row W8 _ _ _ := (q8.far (far_of_block h7 R3_7 (by decide) (by decide)) R3_7.lt).trans R3_7
              try dsimp only
              have hSn : (fun w' : World => w'.cell? ⟨w.heap.size, 3, none⟩ = some (.int .u64 (hi : Nat)) ∧ w'.cell? ⟨w.heap.size, 4, none⟩ = some (.int .u64 (lo : Nat)) ∧ w'.cell? ⟨w.heap.size, 5, none⟩ = some (.int .i64 (fr : Nat)) ∧ w'.cell? ⟨w.heap.size, 6, none⟩ = some (.int .i64 (to : Nat)) ∧ w'.cell? ⟨w.heap.size, 7, none⟩ = some (.int .i64 (lim : Nat))) W8 := ⟨(rA8.cell 3).trans k3, (rA8.cell 4).trans k4, (rA8.cell 5).trans k5, (rA8.cell 6).trans k6, (rA8.cell 7).trans k7⟩
              refine hK.out _ _ (fun _ => hSn) ?_
              clear hK K hSn hS
              have hS : (fun w' : World => w'.cell? ⟨w.heap.size, 3, none⟩ = some (.int .u64 (hi : Nat)) ∧ w'.cell? ⟨w.heap.size, 4, none⟩ = some (.int .u64 (lo : Nat)) ∧ w'.cell? ⟨w.heap.size, 5, none⟩ = some (.int .i64 (fr : Nat)) ∧ w'.cell? ⟨w.heap.size, 6, none⟩ = some (.int .i64 (to : Nat)) ∧ w'.cell? ⟨w.heap.size, 7, none⟩ = some (.int .i64 (lim : Nat))) W8 := ⟨(rA8.cell 3).trans k3, (rA8.cell 4).trans k4, (rA8.cell 5).trans k5, (rA8.cell 6).trans k6, (rA8.cell 7).trans k7⟩
              try simp only [Act.put, List.setIfInBounds_toArray, List.set_cons_zero, List.set_cons_succ]
              refine wpAnyD_done (by kernel_rfl) ?_ _
              go_wp2_with (go_at_call 28; refine stop ?_)
              refine (wbytes_any _ b _ _ h8 (by simp [numB_len, intB_len])).mono ?_
              rintro e uz ⟨vz, rfl, oz, bz⟩
              have bf : Below w.heap.size w W8 := below_of_wstep b0 sw8 (by have := HB.out; omega) (fun g hg => by cases hg)
              obtain ⟨pz, nz, cz, rfl, hz⟩ := oz.form
              clear hz
              have oz2 : Own uz w.heap.size (.slice pz nz cz) _ := ⟨oz.1, oz.2.imp id fun ⟨g, cap, cur, e, h1, h2⟩ => ⟨g, cap, cur, e, Nat.le_trans bf.size h1, h2⟩⟩
              clear oz
              go_wp2
              go_ret
              refine ⟨_, rfl, ?_, chain bf bz⟩
              simpa [List.append_assoc] using oz2
            exact AllD.nil
          exact AllD.nil
        exact AllD.nil
      exact AllD.nil
    exact AllD.nil
  refine AllD.cons (i := 13) rfl (by rfl) (fun K hK => ?_) ?_
  · go_simp
    have h3 := h2.alloc (.cells #[.int .i64 (lim : Nat)] 3)
    have rA3 := rA2.alloc (.cells #[.int .i64 (lim : Nat)] 3)
    have sw3 := sw2.alloc (.cells #[.int .i64 (lim : Nat)] 3)
    have R13_3 := Row.new W2 #[.int .i64 (lim : Nat)] 3 rfl
    try dsimp only
    have hSn : (fun w' : World => w'.cell? ⟨w.heap.size, 3, none⟩ = some (.int .u64 (hi : Nat)) ∧ w'.cell? ⟨w.heap.size, 4, none⟩ = some (.int .u64 (lo : Nat)) ∧ w'.cell? ⟨w.heap.size, 5, none⟩ = some (.int .i64 (fr : Nat)) ∧ w'.cell? ⟨w.heap.size, 6, none⟩ = some (.int .i64 (to : Nat)) ∧ w'.cell? ⟨w.heap.size, 7, none⟩ = some (.int .i64 (lim : Nat))) (W2.alloc (.cells #[.int .i64 (lim : Nat)] 3)) := ⟨(rA3.cell 3).trans k3, (rA3.cell 4).trans k4, (rA3.cell 5).trans k5, (rA3.cell 6).trans k6, (rA3.cell 7).trans k7⟩
    refine hK.out _ _ (fun _ => hSn) ?_
    clear hK K hSn hS
    generalize W2.alloc (.cells #[.int .i64 (lim : Nat)] 3) = W3 at *
    have hS : (fun w' : World => w'.cell? ⟨w.heap.size, 3, none⟩ = some (.int .u64 (hi : Nat)) ∧ w'.cell? ⟨w.heap.size, 4, none⟩ = some (.int .u64 (lo : Nat)) ∧ w'.cell? ⟨w.heap.size, 5, none⟩ = some (.int .i64 (fr : Nat)) ∧ w'.cell? ⟨w.heap.size, 6, none⟩ = some (.int .i64 (to : Nat)) ∧ w'.cell? ⟨w.heap.size, 7, none⟩ = some (.int .i64 (lim : Nat))) W3 := ⟨(rA3.cell 3).trans k3, (rA3.cell 4).trans k4, (rA3.cell 5).trans k5, (rA3.cell 6).trans k6, (rA3.cell 7).trans k7⟩
    try simp only [Act.put, List.setIfInBounds_toArray, List.set_cons_zero, List.set_cons_succ]
    refine wpAnyD_all (rs := [3, 9]) (by kernel_rfl) (by simp) ?_
    refine AllD.cons (i := 3) rfl (by rfl) (fun K hK => ?_) ?_
    · go_simp
      have h4 := h3.alloc (.cells #[.int .u64 (hi : Nat), .int .u64 (lo : Nat)] 26)
      have rA4 := rA3.alloc (.cells #[.int .u64 (hi : Nat), .int .u64 (lo : Nat)] 26)
      have sw4 := sw3.alloc (.cells #[.int .u64 (hi : Nat), .int .u64 (lo : Nat)] 26)
      have R3_4 := Row.new W3 #[.int .u64 (hi : Nat), .int .u64 (lo : Nat)] 26 rfl
      have R13_4 := R13_3.alloc (.cells #[.int .u64 (hi : Nat), .int .u64 (lo : Nat)] 26)
      try dsimp only
      have hSn : (fun w' : World => w'.cell? ⟨w.heap.size, 3, none⟩ = some (.int .u64 (hi : Nat)) ∧ w'.cell? ⟨w.heap.size, 4, none⟩ = some (.int .u64 (lo : Nat)) ∧ w'.cell? ⟨w.heap.size, 5, none⟩ = some (.int .i64 (fr : Nat)) ∧ w'.cell? ⟨w.heap.size, 6, none⟩ = some (.int .i64 (to : Nat)) ∧ w'.cell? ⟨w.heap.size, 7, none⟩ = some (.int .i64 (lim : Nat))) (W3.alloc (.cells #[.int .u64 (hi : Nat), .int .u64 (lo : Nat)] 26)) := ⟨(rA4.cell 3).trans k3, (rA4.cell 4).trans k4, (rA4.cell 5).trans k5, (rA4.cell 6).trans k6, (rA4.cell 7).trans k7⟩
      refine hK.out _ _ (fun _ => hSn) ?_
      clear hK K hSn hS
      generalize W3.alloc (.cells #[.int .u64 (hi : Nat), .int .u64 (lo : Nat)] 26) = W4 at *
      have hS : (fun w' : World => w'.cell? ⟨w.heap.size, 3, none⟩ = some (.int .u64 (hi : Nat)) ∧ w'.cell? ⟨w.heap.size, 4, none⟩ = some (.int .u64 (lo : Nat)) ∧ w'.cell? ⟨w.heap.size, 5, none⟩ = some (.int .i64 (fr : Nat)) ∧ w'.cell? ⟨w.heap.size, 6, none⟩ = some (.int .i64 (to : Nat)) ∧ w'.cell? ⟨w.heap.size, 7, none⟩ = some (.int .i64 (lim : Nat))) W4 := ⟨(rA4.cell 3).trans k3, (rA4.cell 4).trans k4, (rA4.cell 5).trans k5, (rA4.cell 6).trans k6, (rA4.cell 7).trans k7⟩
      try simp only [Act.put, List.setIfInBounds_toArray, List.set_cons_zero, List.set_cons_succ]
      refine wpAnyD_all (rs := [4, 9]) (by kernel_rfl) (by simp) ?_
      refine AllD.cons (i := 4) rfl (by rfl) (fun K hK => ?_) ?_
      · go_simp
        refine (wnum_any _ [(hi, lo)] W4 b _ _ h4 (nums_row h4 R3_4 hwhi) (by simp [numB_len, intB_len])).mono ?_
        rintro e W5 ⟨V5, rfl, h5, q5⟩
        simp only [List.flatMap_cons, List.flatMap_nil, List.append_nil] at h5
        have rA5 : Row W5 w.heap.size cs 28 := (q5.far (far_of_block h4 rA4 (by decide) (by decide)) rA4.lt).trans rA4
        have sw5 := sw4.trans q5
        have R13_5 : Row W5 _ _ _ := (q5.far (far_of_block h4 R13_4 (by decide) (by decide)) R13_4.lt).trans R13_4
        have R3_5 : Row W5 _ _ _ := (q5.far (far_of_block h4 R3_4 (by decide) (by decide)) R3_4.lt).trans R3_4
        try dsimp only
        have hSn : (fun w' : World => w'.cell? ⟨w.heap.size, 3, none⟩ = some (.int .u64 (hi : Nat)) ∧ w'.cell? ⟨w.heap.size, 4, none⟩ = some (.int .u64 (lo : Nat)) ∧ w'.cell? ⟨w.heap.size, 5, none⟩ = some (.int .i64 (fr : Nat)) ∧ w'.cell? ⟨w.heap.size, 6, none⟩ = some (.int .i64 (to : Nat)) ∧ w'.cell? ⟨w.heap.size, 7, none⟩ = some (.int .i64 (lim : Nat))) W5 := ⟨(rA5.cell 3).trans k3, (rA5.cell 4).trans k4, (rA5.cell 5).trans k5, (rA5.cell 6).trans k6, (rA5.cell 7).trans k7⟩
        refine hK.out _ _ (fun _ => hSn) ?_
        clear hK K hSn hS
        have hS : (fun w' : World => w'.cell? ⟨w.heap.size, 3, none⟩ = some (.int .u64 (hi : Nat)) ∧ w'.cell? ⟨w.heap.size, 4, none⟩ = some (.int .u64 (lo : Nat)) ∧ w'.cell? ⟨w.heap.size, 5, none⟩ = some (.int .i64 (fr : Nat)) ∧ w'.cell? ⟨w.heap.size, 6, none⟩ = some (.int .i64 (to : Nat)) ∧ w'.cell? ⟨w.heap.size, 7, none⟩ = some (.int .i64 (lim : Nat))) W5 := ⟨(rA5.cell 3).trans k3, (rA5.cell 4).trans k4, (rA5.cell 5).trans k5, (rA5.cell 6).trans k6, (rA5.cell 7).trans k7⟩
        try simp only [Act.put, List.setIfInBounds_toArray, List.set_cons_zero, List.set_cons_succ]
        refine wpAnyD_all (rs := [9]) (by kernel_rfl) (by simp) ?_
        refine AllD.cons (i := 9) rfl (by rfl) (fun K hK => ?_) ?_
        · go_simp
          have h6 := h5.alloc (.cells #[.int .i64 (fr : Nat), .int .i64 (to : Nat)] 3)
          have rA6 := rA5.alloc (.cells #[.int .i64 (fr : Nat), .int .i64 (to : Nat)] 3)
          have sw6 := sw5.alloc (.cells #[.int .i64 (fr : Nat), .int .i64 (to : Nat)] 3)
          have R9_6 := Row.new W5 #[.int .i64 (fr : Nat), .int .i64 (to : Nat)] 3 rfl
          have R13_6 := R13_5.alloc (.cells #[.int .i64 (fr : Nat), .int .i64 (to : Nat)] 3)
          have R3_6 := R3_5.alloc (.cells #[.int .i64 (fr : Nat), .int .i64 (to : Nat)] 3)
          try dsimp only
          have hSn : (fun w' : World => w'.cell? ⟨w.heap.size, 3, none⟩ = some (.int .u64 (hi : Nat)) ∧ w'.cell? ⟨w.heap.size, 4, none⟩ = some (.int .u64 (lo : Nat)) ∧ w'.cell? ⟨w.heap.size, 5, none⟩ = some (.int .i64 (fr : Nat)) ∧ w'.cell? ⟨w.heap.size, 6, none⟩ = some (.int .i64 (to : Nat)) ∧ w'.cell? ⟨w.heap.size, 7, none⟩ = some (.int .i64 (lim : Nat))) (W5.alloc (.cells #[.int .i64 (fr : Nat), .int .i64 (to : Nat)] 3)) := ⟨(rA6.cell 3).trans k3, (rA6.cell 4).trans k4, (rA6.cell 5).trans k5, (rA6.cell 6).trans k6, (rA6.cell 7).trans k7⟩
          refine hK.out _ _ (fun _ => hSn) ?_
          clear hK K hSn hS
          generalize W5.alloc (.cells #[.int .i64 (fr : Nat), .int .i64 (to : Nat)] 3) = W6 at *
          have hS : (fun w' : World => w'.cell? ⟨w.heap.size, 3, none⟩ = some (.int .u64 (hi : Nat)) ∧ w'.cell? ⟨w.heap.size, 4, none⟩ = some (.int .u64 (lo : Nat)) ∧ w'.cell? ⟨w.heap.size, 5, none⟩ = some (.int .i64 (fr : Nat)) ∧ w'.cell? ⟨w.heap.size, 6, none⟩ = some (.int .i64 (to : Nat)) ∧ w'.cell? ⟨w.heap.size, 7, none⟩ = some (.int .i64 (lim : Nat))) W6 := ⟨(rA6.cell 3).trans k3, (rA6.cell 4).trans k4, (rA6.cell 5).trans k5, (rA6.cell 6).trans k6, (rA6.cell 7).trans k7⟩
          try simp only [Act.put, List.setIfInBounds_toArray, List.set_cons_zero, List.set_cons_succ]
          refine wpAnyD_all (rs := [10]) (by kernel_rfl) (by simp) ?_
          refine AllD.cons (i := 10) rfl (by rfl) (fun K hK => ?_) ?_
          · go_simp
            refine (wint' 6 (by decide) _ rfl _ [((fr : Nat) : Int), ((to : Nat) : Int)] W6 b _ _ h6 (ints_row h6 [((fr : Nat) : Int), ((to : Nat) : Int)] (by simp) rfl R9_6 rfl) (by simp [numB_len, intB_len])).mono ?_
            rintro e W7 ⟨V7, rfl, h7, q7⟩
            simp only [List.flatMap_cons, List.flatMap_nil, List.append_nil] at h7
            have rA7 : Row W7 w.heap.size cs 28 := (q7.far (far_of_block h6 rA6 (by decide) (by decide)) rA6.lt).trans rA6
            have sw7 := sw6.trans q7
            have R13_7 : Row W7 _ _ _ := (q7.far (far_of_block h6 R13_6 (by decide) (by decide)) R13_6.lt).trans R13_6
            have R3_7 : Row W7 _ _ _ := (q7.far (far_of_block h6 R3_6 (by decide) (by decide)) R3_6.lt).trans R3_6
            have R9_7 : Row W7 _ _ _ := (q7.far (far_of_block h6 R9_6 (by decide) (by decide)) R9_6.lt).trans R9_6
            try dsimp only
            have hSn : (fun w' : World => w'.cell? ⟨w.heap.size, 3, none⟩ = some (.int .u64 (hi : Nat)) ∧ w'.cell? ⟨w.heap.size, 4, none⟩ = some (.int .u64 (lo : Nat)) ∧ w'.cell? ⟨w.heap.size, 5, none⟩ = some (.int .i64 (fr : Nat)) ∧ w'.cell? ⟨w.heap.size, 6, none⟩ = some (.int .i64 (to : Nat)) ∧ w'.cell? ⟨w.heap.size, 7, none⟩ = some (.int .i64 (lim : Nat))) W7 := ⟨(rA7.cell 3).trans k3, (rA7.cell 4).trans k4, (rA7.cell 5).trans k5, (rA7.cell 6).trans k6, (rA7.cell 7).trans k7⟩
            refine hK.out _ _ (fun _ => hSn) ?_
            clear hK K hSn hS
            have hS : (fun w' : World => w'.cell? ⟨w.heap.size, 3, none⟩ = some (.int .u64 (hi : Nat)) ∧ w'.cell? ⟨w.heap.size, 4, none⟩ = some (.int .u64 (lo : Nat)) ∧ w'.cell? ⟨w.heap.size, 5, none⟩ = some (.int .i64 (fr : Nat)) ∧ w'.cell? ⟨w.heap.size, 6, none⟩ = some (.int .i64 (to : Nat)) ∧ w'.cell? ⟨w.heap.size, 7, none⟩ = some (.int .i64 (lim : Nat))) W7 := ⟨(rA7.cell 3).trans k3, (rA7.cell 4).trans k4, (rA7.cell 5).trans k5, (rA7.cell 6).trans k6, (rA7.cell 7).trans k7⟩
            try simp only [Act.put, List.setIfInBounds_toArray, List.set_cons_zero, List.set_cons_succ]
            refine wpAnyD_all (rs := [14]) (by kernel_rfl) (by simp) ?_
            refine AllD.cons (i := 14) rfl (by rfl) (fun K hK => ?_) ?_
            · go_simp
              refine (wint' 1 (by decide) _ rfl _ [((lim : Nat) : Int)] W7 b _ _ h7 (ints_row h7 [((lim : Nat) : Int)] (by simp) rfl R13_7 rfl) (by simp [numB_len, intB_len])).mono ?_
              rintro e W8 ⟨V8, rfl, h8, q8⟩
              simp only [List.flatMap_cons, List.flatMap_nil, List.append_nil] at h8
              have rA8 : Row W8 w.heap.size cs 28 := (q8.far (far_of_block h7 rA7 (by decide) (by decide)) rA7.lt).trans rA7
              have sw8 := sw7.trans q8
              have R13_8 : Row W8 _ _ _ := (q8.far (far_of_block h7 R13_7 (by decide) (by decide)) R13_7.lt).trans R13_7
              have R3_8 : Row W8 _ _ _ := (q8.far (far_of_block h7 R3_7 (by decide) (by decide)) R3_7.lt).trans R3_7
              have R9_8 : Row W8 _ _ _ := (q8.far (far_of_block h7 R9_7 (by decide) (by decide)) R9_7.lt).trans R9_7
              try dsimp only
              have hSn : (fun w' : World => w'.cell? ⟨w.heap.size, 3, none⟩ = some (.int .u64 (hi : Nat)) ∧ w'.cell? ⟨w.heap.size, 4, none⟩ = some (.int .u64 (lo : Nat)) ∧ w'.cell? ⟨w.heap.size, 5, none⟩ = some (.int .i64 (fr : Nat)) ∧ w'.cell? ⟨w.heap.size, 6, none⟩ = some (.int .i64 (to : Nat)) ∧ w'.cell? ⟨w.heap.size, 7, none⟩ = some (.int .i64 (lim : Nat))) W8 := ⟨(rA8.cell 3).trans k3, (rA8.cell 4).trans k4, (rA8.cell 5).trans k5, (rA8.cell 6).trans k6, (rA8.cell 7).trans k7⟩
              refine hK.out _ _ (fun _ => hSn) ?_
              clear hK K hSn hS
              have hS : (fun w' : World => w'.cell? ⟨w.heap.size, 3, none⟩ = some (.int .u64 (hi : Nat)) ∧ w'.cell? ⟨w.heap.size, 4, none⟩ = some (.int .u64 (lo : Nat)) ∧ w'.cell? ⟨w.heap.size, 5, none⟩ = some (.int .i64 (fr : Nat)) ∧ w'.cell? ⟨w.heap.size, 6, none⟩ = some (.int .i64 (to : Nat)) ∧ w'.cell? ⟨w.heap.size, 7, none⟩ = some (.int .i64 (lim : Nat))) W8 := ⟨(rA8.cell 3).trans k3, (rA8.cell 4).trans k4, (rA8.cell 5).trans k5, (rA8.cell 6).trans k6, (rA8.cell 7).trans k7⟩
              try simp only [Act.put, List.setIfInBounds_toArray, List.set_cons_zero, List.set_cons_succ]
              refine wpAnyD_done (by kernel_rfl) ?_ _
              go_wp2_with (go_at_call 28; refine stop ?_)
              refine (wbytes_any _ b _ _ h8 (by simp [numB_len, intB_len])).mono ?_
              rintro e uz ⟨vz, rfl, oz, bz⟩
              have bf : Below w.heap.size w W8 := below_of_wstep b0 sw8 (by have := HB.out; omega) (fun g hg => by cases hg)
              obtain ⟨pz, nz, cz, rfl, hz⟩ := oz.form
              clear hz
              have oz2 : Own uz w.heap.size (.slice pz nz cz) _ := ⟨oz.1, oz.2.imp id fun ⟨g, cap, cur, e, h1, h2⟩ => ⟨g, cap, cur, e, Nat.le_trans bf.size h1, h2⟩⟩
              clear oz
              go_wp2
              go_ret
              refine ⟨_, rfl, ?_, chain bf bz⟩
              simpa [List.append_assoc] using oz2
            exact AllD.nil
          exact AllD.nil
        exact AllD.nil
      refine AllD.cons (i := 9) rfl (by rfl) (fun K hK => ?_) ?_
      · go_simp
        have h5 := h4.alloc (.cells #[.int .i64 (fr : Nat), .int .i64 (to : Nat)] 3)
        have rA5 := rA4.alloc (.cells #[.int .i64 (fr : Nat), .int .i64 (to : Nat)] 3)
        have sw5 := sw4.alloc (.cells #[.int .i64 (fr : Nat), .int .i64 (to : Nat)] 3)
        have R9_5 := Row.new W4 #[.int .i64 (fr : Nat), .int .i64 (to : Nat)] 3 rfl
        have R13_5 := R13_4.alloc (.cells #[.int .i64 (fr : Nat), .int .i64 (to : Nat)] 3)
        have R3_5 := R3_4.alloc (.cells #[.int .i64 (fr : Nat), .int .i64 (to : Nat)] 3)
        try dsimp only
        have hSn : (fun w' : World => w'.cell? ⟨w.heap.size, 3, none⟩ = some (.int .u64 (hi : Nat)) ∧ w'.cell? ⟨w.heap.size, 4, none⟩ = some (.int .u64 (lo : Nat)) ∧ w'.cell? ⟨w.heap.size, 5, none⟩ = some (.int .i64 (fr : Nat)) ∧ w'.cell? ⟨w.heap.size, 6, none⟩ = some (.int .i64 (to : Nat)) ∧ w'.cell? ⟨w.heap.size, 7, none⟩ = some (.int .i64 (lim : Nat))) (W4.alloc (.cells #[.int .i64 (fr : Nat), .int .i64 (to : Nat)] 3)) := ⟨(rA5.cell 3).trans k3, (rA5.cell 4).trans k4, (rA5.cell 5).trans k5, (rA5.cell 6).trans k6, (rA5.cell 7).trans k7⟩
        refine hK.out _ _ (fun _ => hSn) ?_
        clear hK K hSn hS
        generalize W4.alloc (.cells #[.int .i64 (fr : Nat), .int .i64 (to : Nat)] 3) = W5 at *
        have hS : (fun w' : World => w'.cell? ⟨w.heap.size, 3, none⟩ = some (.int .u64 (hi : Nat)) ∧ w'.cell? ⟨w.heap.size, 4, none⟩ = some (.int .u64 (lo : Nat)) ∧ w'.cell? ⟨w.heap.size, 5, none⟩ = some (.int .i64 (fr : Nat)) ∧ w'.cell? ⟨w.heap.size, 6, none⟩ = some (.int .i64 (to : Nat)) ∧ w'.cell? ⟨w.heap.size, 7, none⟩ = some (.int .i64 (lim : Nat))) W5 := ⟨(rA5.cell 3).trans k3, (rA5.cell 4).trans k4, (rA5.cell 5).trans k5, (rA5.cell 6).trans k6, (rA5.cell 7).trans k7⟩
        try simp only [Act.put, List.setIfInBounds_toArray, List.set_cons_zero, List.set_cons_succ]
        refine wpAnyD_all (rs := [4]) (by kernel_rfl) (by simp) ?_
        refine AllD.cons (i := 4) rfl (by rfl) (fun K hK => ?_) ?_
        · go_simp
          refine (wnum_any _ [(hi, lo)] W5 b _ _ h5 (nums_row h5 R3_5 hwhi) (by simp [numB_len, intB_len])).mono ?_
          rintro e W6 ⟨V6, rfl, h6, q6⟩
          simp only [List.flatMap_cons, List.flatMap_nil, List.append_nil] at h6
          have rA6 : Row W6 w.heap.size cs 28 := (q6.far (far_of_block h5 rA5 (by decide) (by decide)) rA5.lt).trans rA5
          have sw6 := sw5.trans q6
          have R13_6 : Row W6 _ _ _ := (q6.far (far_of_block h5 R13_5 (by decide) (by decide)) R13_5.lt).trans R13_5
          have R3_6 : Row W6 _ _ _ := (q6.far (far_of_block h5 R3_5 (by decide) (by decide)) R3_5.lt).trans R3_5
          have R9_6 : Row W6 _ _ _ := (q6.far (far_of_block h5 R9_5 (by decide) (by decide)) R9_5.lt).trans R9_5
          try dsimp only
          have hSn : (fun w' : World => w'.cell? ⟨w.heap.size, 3, none⟩ = some (.int .u64 (hi : Nat)) ∧ w'.cell? ⟨w.heap.size, 4, none⟩ = some (.int .u64 (lo : Nat)) ∧ w'.cell? ⟨w.heap.size, 5, none⟩ = some (.int .i64 (fr : Nat)) ∧ w'.cell? ⟨w.heap.size, 6, none⟩ = some (.int .i64 (to : Nat)) ∧ w'.cell? ⟨w.heap.size, 7, none⟩ = some (.int .i64 (lim : Nat))) W6 := ⟨(rA6.cell 3).trans k3, (rA6.cell 4).trans k4, (rA6.cell 5).trans k5, (rA6.cell 6).trans k6, (rA6.cell 7).trans k7⟩
          refine hK.out _ _ (fun _ => hSn) ?_
          clear hK K hSn hS
          have hS : (fun w' : World => w'.cell? ⟨w.heap.size, 3, none⟩ = some (.int .u64 (hi : Nat)) ∧ w'.cell? ⟨w.heap.size, 4, none⟩ = some (.int .u64 (lo : Nat)) ∧ w'.cell? ⟨w.heap.size, 5, none⟩ = some (.int .i64 (fr : Nat)) ∧ w'.cell? ⟨w.heap.size, 6, none⟩ = some (.int .i64 (to : Nat)) ∧ w'.cell? ⟨w.heap.size, 7, none⟩ = some (.int .i64 (lim : Nat))) W6 := ⟨(rA6.cell 3).trans k3, (rA6.cell 4).trans k4, (rA6.cell 5).trans k5, (rA6.cell 6).trans k6, (rA6.cell 7).trans k7⟩
          try simp only [Act.put, List.setIfInBounds_toArray, List.set_cons_zero, List.set_cons_succ]
          refine wpAnyD_all (rs := [10]) (by kernel_rfl) (by simp) ?_
          refine AllD.cons (i := 10) rfl (by rfl) (fun K hK => ?_) ?_
          · go_simp
            refine (wint' 6 (by decide) _ rfl _ [((fr : Nat) : Int), ((to : Nat) : Int)] W6 b _ _ h6 (ints_row h6 [((fr : Nat) : Int), ((to : Nat) : Int)] (by simp) rfl R9_6 rfl) (by simp [numB_len, intB_len])).mono ?_
            rintro e W7 ⟨V7, rfl, h7, q7⟩
            simp only [List.flatMap_cons, List.flatMap_nil, List.append_nil] at h7
            have rA7 : Row W7 w.heap.size cs 28 := (q7.far (far_of_block h6 rA6 (by decide) (by decide)) rA6.lt).trans rA6
            have sw7 := sw6.trans q7
            have R13_7 : Row W7 _ _ _ := (q7.far (far_of_block h6 R13_6 (by decide) (by decide)) R13_6.lt).trans R13_6
            have R3_7 : Row W7 _ _ _ := (q7.far (far_of_block h6 R3_6 (by decide) (by decide)) R3_6.lt).trans R3_6
            have R9_7 : Row W7 _ _ _ := (q7.far (far_of_block h6 R9_6 (by decide) (by decide)) R9_6.lt).trans R9_6
            try dsimp only
            have hSn : (fun w' : World => w'.cell? ⟨w.heap.size, 3, none⟩ = some (.int .u64 (hi : Nat)) ∧ w'.cell? ⟨w.heap.size, 4, none⟩ = some (.int .u64 (lo : Nat)) ∧ w'.cell? ⟨w.heap.size, 5, none⟩ = some (.int .i64 (fr : Nat)) ∧ w'.cell? ⟨w.heap.size, 6, none⟩ = some (.int .i64 (to : Nat)) ∧ w'.cell? ⟨w.heap.size, 7, none⟩ = some (.int .i64 (lim : Nat))) W7 := ⟨(rA7.cell 3).trans k3, (rA7.cell 4).trans k4, (rA7.cell 5).trans k5, (rA7.cell 6).trans k6, (rA7.cell 7).trans k7⟩
            refine hK.out _ _ (fun _ => hSn) ?_
            clear hK K hSn hS
            have hS : (fun w' : World => w'.cell? ⟨w.heap.size, 3, none⟩ = some (.int .u64 (hi : Nat)) ∧ w'.cell? ⟨w.heap.size, 4, none⟩ = some (.int .u64 (lo : Nat)) ∧ w'.cell? ⟨w.heap.size, 5, none⟩ = some (.int .i64 (fr : Nat)) ∧ w'.cell? ⟨w.heap.size, 6, none⟩ = some (.int .i64 (to : Nat)) ∧ w'.cell? ⟨w.heap.size, 7, none⟩ = some (.int .i64 (lim : Nat))) W7 := ⟨(rA7.cell 3).trans k3, (rA7.cell 4).trans k4, (rA7.cell 5).trans k5, (rA7.cell 6).trans k6, (rA7.cell 7).trans k7⟩
            try simp only [Act.put, List.setIfInBounds_toArray, List.set_cons_zero, List.set_cons_succ]
            refine wpAnyD_all (rs := [14]) (by kernel_rfl) (by simp) ?_
            refine AllD.cons (i := 14) rfl (by rfl) (fun K hK => ?_) ?_
            · go_simp
              refine (wint' 1 (by decide) _ rfl _ [((lim : Nat) : Int)] W7 b _ _ h7 (ints_row h7 [((lim : Nat) : Int)] (by simp) rfl R13_7 rfl) (by simp [numB_len, intB_len])).mono ?_
              rintro e W8 ⟨V8, rfl, h8, q8⟩
              simp only [List.flatMap_cons, List.flatMap_nil, List.append_nil] at h8
              have rA8 : Row W8 w.heap.size cs 28 := (q8.far (far_of_block h7 rA7 (by decide) (by decide)) rA7.lt).trans rA7
              have sw8 := sw7.trans q8
              have R13_8 : Row W8 _ _ _ := (q8.far (far_of_block h7 R13_7 (by decide) (by decide)) R13_7.lt).trans R13_7
              have R3_8 : Row W8 _ _ _ := (q8.far (far_of_block h7 R3_7 (by decide) (by decide)) R3_7.lt).trans R3_7
              have R9_8 : Row W8 _ _ _ := (q8.far (far_of_block h7 R9_7 (by decide) (by decide)) R9_7.lt).trans R9_7
              try dsimp only
              have hSn : (fun w' : World => w'.cell? ⟨w.heap.size, 3, none⟩ = some (.int .u64 (hi : Nat)) ∧ w'.cell? ⟨w.heap.size, 4, none⟩ = some (.int .u64 (lo : Nat)) ∧ w'.cell? ⟨w.heap.size, 5, none⟩ = some (.int .i64 (fr : Nat)) ∧ w'.cell? ⟨w.heap.size, 6, none⟩ = some (.int .i64 (to : Nat)) ∧ w'.cell? ⟨w.heap.size, 7, none⟩ = some (.int .i64 (lim : Nat))) W8 := ⟨(rA8.cell 3).trans k3, (rA8.cell 4).trans k4, (rA8.cell 5).trans k5, (rA8.cell 6).trans k6, (rA8.cell 7).trans k7⟩
              refine hK.out _ _ (fun _ => hSn) ?_
              clear hK K hSn hS
              have hS : (fun w' : World => w'.cell? ⟨w.heap.size, 3, none⟩ = some (.int .u64 (hi : Nat)) ∧ w'.cell? ⟨w.heap.size, 4, none⟩ = some (.int .u64 (lo : Nat)) ∧ w'.cell? ⟨w.heap.size, 5, none⟩ = some (.int .i64 (fr : Nat)) ∧ w'.cell? ⟨w.heap.size, 6, none⟩ = some (.int .i64 (to : Nat)) ∧ w'.cell? ⟨w.heap.size, 7, none⟩ = some (.int .i64 (lim : Nat))) W8 := ⟨(rA8.cell 3).trans k3, (rA8.cell 4).trans k4, (rA8.cell 5).trans k5, (rA8.cell 6).trans k6, (rA8.cell 7).trans k7⟩
              try simp only [Act.put, List.setIfInBounds_toArray, List.set_cons_zero, List.set_cons_succ]
              refine wpAnyD_done (by kernel_rfl) ?_ _
              go_wp2_with (go_at_call 28; refine stop ?_)
              refine (wbytes_any _ b _ _ h8 (by simp [numB_len, intB_len])).mono ?_
              rintro e uz ⟨vz, rfl, oz, bz⟩
              have bf : Below w.heap.size w W8 := below_of_wstep b0 sw8 (by have := HB.out; omega) (fun g hg => by cases hg)
              obtain ⟨pz, nz, cz, rfl, hz⟩ := oz.form
              clear hz
              have oz2 : Own uz w.heap.size (.slice pz nz cz) _ := ⟨oz.1, oz.2.imp id fun ⟨g, cap, cur, e, h1, h2⟩ => ⟨g, cap, cur, e, Nat.le_trans bf.size h1, h2⟩⟩
              clear oz
              go_wp2
              go_ret
              refine ⟨_, rfl, ?_, chain bf bz⟩
              simpa [List.append_assoc] using oz2
            exact AllD.nil
          exact AllD.nil
        exact AllD.nil
      exact AllD.nil
    refine AllD.cons (i := 9) rfl (by rfl) (fun K hK => ?_) ?_
    · go_simp
      have h4 := h3.alloc (.cells #[.int .i64 (fr : Nat), .int .i64 (to : Nat)] 3)
      have rA4 := rA3.alloc (.cells #[.int .i64 (fr : Nat), .int .i64 (to : Nat)] 3)
      have sw4 := sw3.alloc (.cells #[.int .i64 (fr : Nat), .int .i64 (to : Nat)] 3)
      have R9_4 := Row.new W3 #[.int .i64 (fr : Nat), .int .i64 (to : Nat)] 3 rfl
      have R13_4 := R13_3.alloc (.cells #[.int .i64 (fr : Nat), .int .i64 (to : Nat)] 3)
      try dsimp only
      have hSn : (fun w' : World => w'.cell? ⟨w.heap.size, 3, none⟩ = some (.int .u64 (hi : Nat)) ∧ w'.cell? ⟨w.heap.size, 4, none⟩ = some (.int .u64 (lo : Nat)) ∧ w'.cell? ⟨w.heap.size, 5, none⟩ = some (.int .i64 (fr : Nat)) ∧ w'.cell? ⟨w.heap.size, 6, none⟩ = some (.int .i64 (to : Nat)) ∧ w'.cell? ⟨w.heap.size, 7, none⟩ = some (.int .i64 (lim : Nat))) (W3.alloc (.cells #[.int .i64 (fr : Nat), .int .i64 (to : Nat)] 3)) := ⟨(rA4.cell 3).trans k3, (rA4.cell 4).trans k4, (rA4.cell 5).trans k5, (rA4.cell 6).trans k6, (rA4.cell 7).trans k7⟩
      refine hK.out _ _ (fun _ => hSn) ?_
      clear hK K hSn hS
      generalize W3.alloc (.cells #[.int .i64 (fr : Nat), .int .i64 (to : Nat)] 3) = W4 at *
      have hS : (fun w' : World => w'.cell? ⟨w.heap.size, 3, none⟩ = some (.int .u64 (hi : Nat)) ∧ w'.cell? ⟨w.heap.size, 4, none⟩ = some (.int .u64 (lo : Nat)) ∧ w'.cell? ⟨w.heap.size, 5, none⟩ = some (.int .i64 (fr : Nat)) ∧ w'.cell? ⟨w.heap.size, 6, none⟩ = some (.int .i64 (to : Nat)) ∧ w'.cell? ⟨w.heap.size, 7, none⟩ = some (.int .i64 (lim : Nat))) W4 := ⟨(rA4.cell 3).trans k3, (rA4.cell 4).trans k4, (rA4.cell 5).trans k5, (rA4.cell 6).trans k6, (rA4.cell 7).trans k7⟩
      try simp only [Act.put, List.setIfInBounds_toArray, List.set_cons_zero, List.set_cons_succ]
      refine wpAnyD_all (rs := [3]) (by kernel_rfl) (by simp) ?_
      refine AllD.cons (i := 3) rfl (by rfl) (fun K hK => ?_) ?_
      · go_simp
        have h5 := h4.alloc (.cells #[.int .u64 (hi : Nat), .int .u64 (lo : Nat)] 26)
        have rA5 := rA4.alloc (.cells #[.int .u64 (hi : Nat), .int .u64 (lo : Nat)] 26)
        have sw5 := sw4.alloc (.cells #[.int .u64 (hi : Nat), .int .u64 (lo : Nat)] 26)
        have R3_5 := Row.new W4 #[.int .u64 (hi : Nat), .int .u64 (lo : Nat)] 26 rfl
        have R13_5 := R13_4.alloc (.cells #[.int .u64 (hi : Nat), .int .u64 (lo : Nat)] 26)
        have R9_5 := R9_4.alloc (.cells #[.int .u64 (hi : Nat), .int .u64 (lo : Nat)] 26)
        try dsimp only
        have hSn : (fun w' : World => w'.cell? ⟨w.heap.size, 3, none⟩ = some (.int .u64 (hi : Nat)) ∧ w'.cell? ⟨w.heap.size, 4, none⟩ = some (.int .u64 (lo : Nat)) ∧ w'.cell? ⟨w.heap.size, 5, none⟩ = some (.int .i64 (fr : Nat)) ∧ w'.cell? ⟨w.heap.size, 6, none⟩ = some (.int .i64 (to : Nat)) ∧ w'.cell? ⟨w.heap.size, 7, none⟩ = some (.int .i64 (lim : Nat))) (W4.alloc (.cells #[.int .u64 (hi : Nat), .int .u64 (lo : Nat)] 26)) := ⟨(rA5.cell 3).trans k3, (rA5.cell 4).trans k4, (rA5.cell 5).trans k5, (rA5.cell 6).trans k6, (rA5.cell 7).trans k7⟩
        refine hK.out _ _ (fun _ => hSn) ?_
        clear hK K hSn hS
        generalize W4.alloc (.cells #[.int .u64 (hi : Nat), .int .u64 (lo : Nat)] 26) = W5 at *
        have hS : (fun w' : World => w'.cell? ⟨w.heap.size, 3, none⟩ = some (.int .u64 (hi : Nat)) ∧ w'.cell? ⟨w.heap.size, 4, none⟩ = some (.int .u64 (lo : Nat)) ∧ w'.cell? ⟨w.heap.size, 5, none⟩ = some (.int .i64 (fr : Nat)) ∧ w'.cell? ⟨w.heap.size, 6, none⟩ = some (.int .i64 (to : Nat)) ∧ w'.cell? ⟨w.heap.size, 7, none⟩ = some (.int .i64 (lim : Nat))) W5 := ⟨(rA5.cell 3).trans k3, (rA5.cell 4).trans k4, (rA5.cell 5).trans k5, (rA5.cell 6).trans k6, (rA5.cell 7).trans k7⟩
        try simp only [Act.put, List.setIfInBounds_toArray, List.set_cons_zero, List.set_cons_succ]
        refine wpAnyD_all (rs := [4]) (by kernel_rfl) (by simp) ?_
        refine AllD.cons (i := 4) rfl (by rfl) (fun K hK => ?_) ?_
        · go_simp
          refine (wnum_any _ [(hi, lo)] W5 b _ _ h5 (nums_row h5 R3_5 hwhi) (by simp [numB_len, intB_len])).mono ?_
          rintro e W6 ⟨V6, rfl, h6, q6⟩
          simp only [List.flatMap_cons, List.flatMap_nil, List.append_nil] at h6
          have rA6 : Row W6 w.heap.size cs 28 := (q6.far (far_of_block h5 rA5 (by decide) (by decide)) rA5.lt).trans rA5
          have sw6 := sw5.trans q6
          have R13_6 : Row W6 _ _ _ := (q6.far (far_of_block h5 R13_5 (by decide) (by decide)) R13_5.lt).trans R13_5
          have R9_6 : Row W6 _ _ _ := (q6.far (far_of_block h5 R9_5 (by decide) (by decide)) R9_5.lt).trans R9_5
          have R3_6 : Row W6 _ _ _ := (q6.far (far_of_block h5 R3_5 (by decide) (by decide)) R3_5.lt).trans R3_5
          try dsimp only
          have hSn : (fun w' : World => w'.cell? ⟨w.heap.size, 3, none⟩ = some (.int .u64 (hi : Nat)) ∧ w'.cell? ⟨w.heap.size, 4, none⟩ = some (.int .u64 (lo : Nat)) ∧ w'.cell? ⟨w.heap.size, 5, none⟩ = some (.int .i64 (fr : Nat)) ∧ w'.cell? ⟨w.heap.size, 6, none⟩ = some (.int .i64 (to : Nat)) ∧ w'.cell? ⟨w.heap.size, 7, none⟩ = some (.int .i64 (lim : Nat))) W6 := ⟨(rA6.cell 3).trans k3, (rA6.cell 4).trans k4, (rA6.cell 5).trans k5, (rA6.cell 6).trans k6, (rA6.cell 7).trans k7⟩
          refine hK.out _ _ (fun _ => hSn) ?_
          clear hK K hSn hS
          have hS : (fun w' : World => w'.cell? ⟨w.heap.size, 3, none⟩ = some (.int .u64 (hi : Nat)) ∧ w'.cell? ⟨w.heap.size, 4, none⟩ = some (.int .u64 (lo : Nat)) ∧ w'.cell? ⟨w.heap.size, 5, none⟩ = some (.int .i64 (fr : Nat)) ∧ w'.cell? ⟨w.heap.size, 6, none⟩ = some (.int .i64 (to : Nat)) ∧ w'.cell? ⟨w.heap.size, 7, none⟩ = some (.int .i64 (lim : Nat))) W6 := ⟨(rA6.cell 3).trans k3, (rA6.cell 4).trans k4, (rA6.cell 5).trans k5, (rA6.cell 6).trans k6, (rA6.cell 7).trans k7⟩
          try simp only [Act.put, List.setIfInBounds_toArray, List.set_cons_zero, List.set_cons_succ]
          refine wpAnyD_all (rs := [10]) (by kernel_rfl) (by simp) ?_
          refine AllD.cons (i := 10) rfl (by rfl) (fun K hK => ?_) ?_
          · go_simp
            refine (wint' 6 (by decide) _ rfl _ [((fr : Nat) : Int), ((to : Nat) : Int)] W6 b _ _ h6 (ints_row h6 [((fr : Nat) : Int), ((to : Nat) : Int)] (by simp) rfl R9_6 rfl) (by simp [numB_len, intB_len])).mono ?_
            rintro e W7 ⟨V7, rfl, h7, q7⟩
            simp only [List.flatMap_cons, List.flatMap_nil, List.append_nil] at h7
            have rA7 : Row W7 w.heap.size cs 28 := (q7.far (far_of_block h6 rA6 (by decide) (by decide)) rA6.lt).trans rA6
            have sw7 := sw6.trans q7
            have R13_7 : Row W7 _ _ _ := (q7.far (far_of_block h6 R13_6 (by decide) (by decide)) R13_6.lt).trans R13_6
            have R9_7 : Row W7 _ _ _ := (q7.far (far_of_block h6 R9_6 (by decide) (by decide)) R9_6.lt).trans R9_6
            have R3_7 : Row W7 _ _ _ := (q7.far (far_of_block h6 R3_6 (by decide) (by decide)) R3_6.lt).trans R3_6
            try dsimp only
            have hSn : (fun w' : World => w'.cell? ⟨w.heap.size, 3, none⟩ = some (.int .u64 (hi : Nat)) ∧ w'.cell? ⟨w.heap.size, 4, none⟩ = some (.int .u64 (lo : Nat)) ∧ w'.cell? ⟨w.heap.size, 5, none⟩ = some (.int .i64 (fr : Nat)) ∧ w'.cell? ⟨w.heap.size, 6, none⟩ = some (.int .i64 (to : Nat)) ∧ w'.cell? ⟨w.heap.size, 7, none⟩ = some (.int .i64 (lim : Nat))) W7 := ⟨(rA7.cell 3).trans k3, (rA7.cell 4).trans k4, (rA7.cell 5).trans k5, (rA7.cell 6).trans k6, (rA7.cell 7).trans k7⟩
            refine hK.out _ _ (fun _ => hSn) ?_
            clear hK K hSn hS
            have hS : (fun w' : World => w'.cell? ⟨w.heap.size, 3, none⟩ = some (.int .u64 (hi : Nat)) ∧ w'.cell? ⟨w.heap.size, 4, none⟩ = some (.int .u64 (lo : Nat)) ∧ w'.cell? ⟨w.heap.size, 5, none⟩ = some (.int .i64 (fr : Nat)) ∧ w'.cell? ⟨w.heap.size, 6, none⟩ = some (.int .i64 (to : Nat)) ∧ w'.cell? ⟨w.heap.size, 7, none⟩ = some (.int .i64 (lim : Nat))) W7 := ⟨(rA7.cell 3).trans k3, (rA7.cell 4).trans k4, (rA7.cell 5).trans k5, (rA7.cell 6).trans k6, (rA7.cell 7).trans k7⟩
            try simp only [Act.put, List.setIfInBounds_toArray, List.set_cons_zero, List.set_cons_succ]
            refine wpAnyD_all (rs := [14]) (by kernel_rfl) (by simp) ?_
            refine AllD.cons (i := 14) rfl (by rfl) (fun K hK => ?_) ?_
            · go_simp
              refine (wint' 1 (by decide) _ rfl _ [((lim : Nat) : Int)] W7 b _ _ h7 (ints_row h7 [((lim : Nat) : Int)] (by simp) rfl R13_7 rfl) (by simp [numB_len, intB_len])).mono ?_
              rintro e W8 ⟨V8, rfl, h8, q8⟩
              simp only [List.flatMap_cons, List.flatMap_nil, List.append_nil] at h8
              have rA8 : Row W8 w.heap.size cs 28 := (q8.far (far_of_block h7 rA7 (by decide) (by decide)) rA7.lt).trans rA7
              have sw8 := sw7.trans q8
              have R13_8 : Row W8 _ _ _ := (q8.far (far_of_block h7 R13_7 (by decide) (by decide)) R13_7.lt).trans R13_7
              have R9_8 : Row W8 _ _ _ := (q8.far (far_of_block h7 R9_7 (by decide) (by decide)) R9_7.lt).trans R9_7
              have R3_8 : Row W8 _ _ _ := (q8.far (far_of_block h7 R3_7 (by decide) (by decide)) R3_7.lt).trans R3_7
              try dsimp only
              have hSn : (fun w' : World => w'.cell? ⟨w.heap.size, 3, none⟩ = some (.int .u64 (hi : Nat)) ∧ w'.cell? ⟨w.heap.size, 4, none⟩ = some (.int .u64 (lo : Nat)) ∧ w'.cell? ⟨w.heap.size, 5, none⟩ = some (.int .i64 (fr : Nat)) ∧ w'.cell? ⟨w.heap.size, 6, none⟩ = some (.int .i64 (to : Nat)) ∧ w'.cell? ⟨w.heap.size, 7, none⟩ = some (.int .i64 (lim : Nat))) W8 := ⟨(rA8.cell 3).trans k3, (rA8.cell 4).trans k4, (rA8.cell 5).trans k5, (rA8.cell 6).trans k6, (rA8.cell 7).trans k7⟩
              refine hK.out _ _ (fun _ => hSn) ?_
              clear hK K hSn hS
              have hS : (fun w' : World => w'.cell? ⟨w.heap.size, 3, none⟩ = some (.int .u64 (hi : Nat)) ∧ w'.cell? ⟨w.heap.size, 4, none⟩ = some (.int .u64 (lo : Nat)) ∧ w'.cell? ⟨w.heap.size, 5, none⟩ = some (.int .i64 (fr : Nat)) ∧ w'.cell? ⟨w.heap.size, 6, none⟩ = some (.int .i64 (to : Nat)) ∧ w'.cell? ⟨w.heap.size, 7, none⟩ = some (.int .i64 (lim : Nat))) W8 := ⟨(rA8.cell 3).trans k3, (rA8.cell 4).trans k4, (rA8.cell 5).trans k5, (rA8.cell 6).trans k6, (rA8.cell 7).trans k7⟩
              try simp only [Act.put, List.setIfInBounds_toArray, List.set_cons_zero, List.set_cons_succ]
              refine wpAnyD_done (by kernel_rfl) ?_ _
              go_wp2_with (go_at_call 28; refine stop ?_)
              refine (wbytes_any _ b _ _ h8 (by simp [numB_len, intB_len])).mono ?_
              rintro e uz ⟨vz, rfl, oz, bz⟩
              have bf : Below w.heap.size w W8 := below_of_wstep b0 sw8 (by have := HB.out; omega) (fun g hg => by cases hg)
              obtain ⟨pz, nz, cz, rfl, hz⟩ := oz.form
              clear hz
              have oz2 : Own uz w.heap.size (.slice pz nz cz) _ := ⟨oz.1, oz.2.imp id fun ⟨g, cap, cur, e, h1, h2⟩ => ⟨g, cap, cur, e, Nat.le_trans bf.size h1, h2⟩⟩
              clear oz
              go_wp2
              go_ret
              refine ⟨_, rfl, ?_, chain bf bz⟩
              simpa [List.append_assoc] using oz2
            exact AllD.nil
          exact AllD.nil
        exact AllD.nil
      exact AllD.nil
    exact AllD.nil
  exact AllD.nil

end Go.Proofs.Ytekpkbmelhgneaa
