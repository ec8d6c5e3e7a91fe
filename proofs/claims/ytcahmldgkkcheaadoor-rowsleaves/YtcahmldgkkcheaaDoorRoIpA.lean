
import Derived.Test.YtcahmldgkkcheaaDoorRoI0
set_option maxRecDepth 100000
namespace Go.Proofs.YtcahmldgkkcheaaDoor
open Go.RowKit
set_option linter.unusedVariables false
set_option linter.unusedSimpArgs false
set_option maxHeartbeats 4000000 in
theorem roIPack_A : roIPack.p_A := by
  intro a b w HT HA iq1 w1 w2 HTA HTM iq2 iq3 w3 B3 R03 R13 HLT T GT HTP0 HGT iA iB HAB iq4 iq5 iq6 iq7
  refine wp_region_D (fun _ => true) (fun w' => Row w' w.heap.size (cutR a).cs 34 ∧ Row w' (w.heap.size + 1) (cutR b).cs 34) (by kernel_rfl) ?_
  have hS : Row w3.drew w.heap.size (cutR a).cs 34 ∧ Row w3.drew (w.heap.size + 1) (cutR b).cs 34 := ⟨R03.out, R13.out⟩
  have hbw : Below w.heap.size w w3.drew := B3.out.drew
  have htp : TpAt w3.drew T (.pointer (some ⟨T, 0, none⟩)) [] := HTP0.out.later (Below.refl _ _).drew
  have hgt : T ≤ w3.drew.heap.size := HGT.out
  have hlt : w.heap.size + 1 < w3.drew.heap.size := HLT.out
  clear HTP0 HGT R03 R13 B3
  generalize w3.drew = wd at *
  refine' wpAnyD_take (i := 0) (v := _) rfl (by kernel_rfl) (by kernel_rfl) (by kernel_rfl) (by kernel_rfl) (fun _ _ _ h => h) (Or.inl ⟨by rfl, ?hy1⟩) hS ?re1
  case hy1 => (intro w hSw; (try dsimp only at hSw); go_simp; (try with_reducible rfl))
  simp only [Act.put, List.setIfInBounds_toArray, List.set_cons_zero, List.set_cons_succ]
  refine' wpAnyD_take (i := 3) (v := _) rfl (by kernel_rfl) (by kernel_rfl) (by kernel_rfl) (by kernel_rfl) (fun _ _ _ h => h) (Or.inl ⟨by rfl, ?hy2⟩) hS ?re2
  case hy2 => (intro w hSw; (try dsimp only at hSw); go_simp; (try with_reducible rfl))
  simp only [Act.put, List.setIfInBounds_toArray, List.set_cons_zero, List.set_cons_succ]
  refine wpAnyD_take (i := 1) rfl (by kernel_rfl) (by kernel_rfl) (by kernel_rfl) (by kernel_rfl) (fun _ _ _ h => h) (yields_row (by rfl) 34 _ rfl w.heap.size rfl 34 (cutR a).cs _ (fun _ h => h.1) Tryd.underlying34 rfl iA) hS ?_
  simp only [Act.put, List.setIfInBounds_toArray, List.set_cons_zero, List.set_cons_succ]
  refine wpAnyD_take (i := 4) rfl (by kernel_rfl) (by kernel_rfl) (by kernel_rfl) (by kernel_rfl) (fun _ _ _ h => h) (yields_row (by rfl) 34 _ rfl (w.heap.size + 1) rfl 34 (cutR b).cs _ (fun _ h => h.2) Tryd.underlying34 rfl iB) hS ?_
  simp only [Act.put, List.setIfInBounds_toArray, List.set_cons_zero, List.set_cons_succ]
  refine wpAnyD_all (rs := [2, 6, 7]) (by kernel_rfl) (by simp) ?_
  refine AllD.cons (i := 2) rfl (by rfl) (fun K hK => ?_) ?_
  · skip
    go_simp
    refine (rleaf_any (cutR a) HTA.out.1 T _ [] wd (HT.out.later hbw) GT.out.2 hgt htp (by simp)).mono ?_
    rintro e wn ⟨rfl, htpn, hsn⟩
    try replace r6 := r6.tstep hsn (by decide) (by decide)
    try replace r7 := r7.tstep hsn (by decide) (by decide)
    replace hbw := below_t hbw GT.out.1 hsn
    replace hgt := Nat.le_trans hgt hsn.size
    replace hlt := Nat.lt_of_lt_of_le hlt hsn.size
    have hSn := And.intro (hS.1.tstep hsn (by decide) (by decide)) (hS.2.tstep hsn (by decide) (by decide))
    refine hK.out _ _ (fun _ => hSn) ?_
    clear hK K hsn hS htp
    have htp := htpn
    clear htpn
    have hS := hSn
    clear hSn
    obtain ⟨wd, rfl⟩ : ∃ wx, wx = wn := ⟨_, rfl⟩
    try simp only [Act.put, List.setIfInBounds_toArray, List.set_cons_zero, List.set_cons_succ]
    refine wpAnyD_all (rs := [5, 6, 7]) (by kernel_rfl) (by simp) ?_
    refine AllD.cons (i := 5) rfl (by rfl) (fun K hK => ?_) ?_
    · skip
      go_simp
      refine (rleaf_any (cutR b) HTA.out.2 T _ ([] ++ [msgL (rowBy (cutR a))]) wd (HT.out.later hbw) GT.out.2 hgt htp (by simp)).mono ?_
      rintro e wn ⟨rfl, htpn, hsn⟩
      try replace r6 := r6.tstep hsn (by decide) (by decide)
      try replace r7 := r7.tstep hsn (by decide) (by decide)
      replace hbw := below_t hbw GT.out.1 hsn
      replace hgt := Nat.le_trans hgt hsn.size
      replace hlt := Nat.lt_of_lt_of_le hlt hsn.size
      have hSn := And.intro (hS.1.tstep hsn (by decide) (by decide)) (hS.2.tstep hsn (by decide) (by decide))
      refine hK.out _ _ (fun _ => hSn) ?_
      clear hK K hsn hS htp
      have htp := htpn
      clear htpn
      have hS := hSn
      clear hSn
      obtain ⟨wd, rfl⟩ : ∃ wx, wx = wn := ⟨_, rfl⟩
      try simp only [Act.put, List.setIfInBounds_toArray, List.set_cons_zero, List.set_cons_succ]
      refine wpAnyD_all (rs := [6, 7]) (by kernel_rfl) (by simp) ?_
      refine AllD.cons (i := 6) rfl (by rfl) (fun K hK => ?_) ?_
      · skip
        go_simp
        rw [zeros32b]
        try have hne := r7.lt
        try replace r7 := r7.alloc (.cells (bytesL (List.replicate 32 0)) 42)
        have hg6 := hbw.size
        have hl6 := hlt
        replace hlt := Nat.lt_of_lt_of_le hlt (below1 wd (.cells (bytesL (List.replicate 32 0)) 42)).size
        have r6 := Row.new wd (bytesL (List.replicate 32 0)) 42 rfl
        replace htp := htp.later (below1 wd (.cells (bytesL (List.replicate 32 0)) 42))
        replace hbw := chainA hbw (.cells (bytesL (List.replicate 32 0)) 42)
        replace hgt := Nat.le_trans hgt (below1 wd (.cells (bytesL (List.replicate 32 0)) 42)).size
        have hSn := And.intro (hS.1.alloc (.cells (bytesL (List.replicate 32 0)) 42)) (hS.2.alloc (.cells (bytesL (List.replicate 32 0)) 42))
        refine hK.out _ _ (fun _ => hSn) ?_
        clear hK K hS
        have hS := hSn
        clear hSn
        generalize wd.alloc (.cells (bytesL (List.replicate 32 0)) 42) = wn at *
        generalize wd.heap.size = g6 at *
        clear wd
        obtain ⟨wd, rfl⟩ : ∃ wx, wx = wn := ⟨_, rfl⟩
        try simp only [Act.put, List.setIfInBounds_toArray, List.set_cons_zero, List.set_cons_succ]
        refine wpAnyD_only (i := 7) rfl (by kernel_rfl) (by rfl) (fun K hK => ?_)
        go_simp
        rw [zeros32b]
        try have hne := r6.lt
        try replace r6 := r6.alloc (.cells (bytesL (List.replicate 32 0)) 42)
        have hg7 := hbw.size
        have hl7 := hlt
        replace hlt := Nat.lt_of_lt_of_le hlt (below1 wd (.cells (bytesL (List.replicate 32 0)) 42)).size
        have r7 := Row.new wd (bytesL (List.replicate 32 0)) 42 rfl
        replace htp := htp.later (below1 wd (.cells (bytesL (List.replicate 32 0)) 42))
        replace hbw := chainA hbw (.cells (bytesL (List.replicate 32 0)) 42)
        replace hgt := Nat.le_trans hgt (below1 wd (.cells (bytesL (List.replicate 32 0)) 42)).size
        have hSn := And.intro (hS.1.alloc (.cells (bytesL (List.replicate 32 0)) 42)) (hS.2.alloc (.cells (bytesL (List.replicate 32 0)) 42))
        refine hK.out _ _ (fun _ => hSn) ?_
        clear hK K hS
        have hS := hSn
        clear hSn
        generalize wd.alloc (.cells (bytesL (List.replicate 32 0)) 42) = wn at *
        generalize wd.heap.size = g7 at *
        clear wd
        obtain ⟨wd, rfl⟩ : ∃ wx, wx = wn := ⟨_, rfl⟩
        try simp only [Act.put, List.setIfInBounds_toArray, List.set_cons_zero, List.set_cons_succ]
        refine wpAnyD_only (i := 8) rfl (by kernel_rfl) (by rfl) (fun K hK => ?_)
        refine wp_store_row 42 _ _ rfl g6 (bytesL (hsh (msgL (rowBy (cutR a))))) rfl rfl 42 _ r6 HAB.out.1 HAB.out.2.1 (bytesL_one _) ?_
        have hSn := And.intro (hS.1.setRowOther (bytesL (hsh (msgL (rowBy (cutR a))))) (show w.heap.size ≠ g6 by omega)) (hS.2.setRowOther (bytesL (hsh (msgL (rowBy (cutR a))))) (show w.heap.size + 1 ≠ g6 by omega))
        refine hK.out _ _ (fun _ => hSn) ?_
        clear hK K
        have hS2 := hSn
        clear hSn
        try simp only [Act.put, List.setIfInBounds_toArray, List.set_cons_zero, List.set_cons_succ]
        refine wpAnyD_only (i := 9) rfl (by kernel_rfl) (by rfl) (fun K hK => ?_)
        refine wp_store_row 42 _ _ rfl g7 (bytesL (hsh (msgL (rowBy (cutR b))))) rfl rfl 42 _ (r7.setRowOther _ (by omega)) HAB.out.2.2.1 HAB.out.2.2.2 (bytesL_one _) ?_
        have hSn := And.intro (hS2.1.setRowOther (bytesL (hsh (msgL (rowBy (cutR b))))) (show w.heap.size ≠ g7 by omega)) (hS2.2.setRowOther (bytesL (hsh (msgL (rowBy (cutR b))))) (show w.heap.size + 1 ≠ g7 by omega))
        refine hK.out _ _ (fun _ => hSn) ?_
        clear hK K
        try simp only [Act.put, List.setIfInBounds_toArray, List.set_cons_zero, List.set_cons_succ]
        refine wpAnyD_done (by kernel_rfl) ?_ _
        go_wp2_with fail
        go_meet
        case rel => exact ⟨g6, g7, rfl, rfl, (r6.setRow _).setRowOther _ (by omega), (r7.setRowOther _ (by omega)).setRow _, (htp.setNew r6 (by decide) (by decide) (by decide) _).setNew (r7.setRowOther _ (by omega)) (by decide) (by decide) (by decide) _, hSn.1, hSn.2, Below.row (Below.row hbw _ hg6) _ hg7⟩
      refine AllD.cons (i := 7) rfl (by rfl) (fun K hK => ?_) AllD.nil
      go_simp
      rw [zeros32b]
      try have hne := r6.lt
      try replace r6 := r6.alloc (.cells (bytesL (List.replicate 32 0)) 42)
      have hg7 := hbw.size
      have hl7 := hlt
      replace hlt := Nat.lt_of_lt_of_le hlt (below1 wd (.cells (bytesL (List.replicate 32 0)) 42)).size
      have r7 := Row.new wd (bytesL (List.replicate 32 0)) 42 rfl
      replace htp := htp.later (below1 wd (.cells (bytesL (List.replicate 32 0)) 42))
      replace hbw := chainA hbw (.cells (bytesL (List.replicate 32 0)) 42)
      replace hgt := Nat.le_trans hgt (below1 wd (.cells (bytesL (List.replicate 32 0)) 42)).size
      have hSn := And.intro (hS.1.alloc (.cells (bytesL (List.replicate 32 0)) 42)) (hS.2.alloc (.cells (bytesL (List.replicate 32 0)) 42))
      refine hK.out _ _ (fun _ => hSn) ?_
      clear hK K hS
      have hS := hSn
      clear hSn
      generalize wd.alloc (.cells (bytesL (List.replicate 32 0)) 42) = wn at *
      generalize wd.heap.size = g7 at *
      clear wd
      obtain ⟨wd, rfl⟩ : ∃ wx, wx = wn := ⟨_, rfl⟩
      try simp only [Act.put, List.setIfInBounds_toArray, List.set_cons_zero, List.set_cons_succ]
      refine wpAnyD_only (i := 6) rfl (by kernel_rfl) (by rfl) (fun K hK => ?_)
      go_simp
      rw [zeros32b]
      try have hne := r7.lt
      try replace r7 := r7.alloc (.cells (bytesL (List.replicate 32 0)) 42)
      have hg6 := hbw.size
      have hl6 := hlt
      replace hlt := Nat.lt_of_lt_of_le hlt (below1 wd (.cells (bytesL (List.replicate 32 0)) 42)).size
      have r6 := Row.new wd (bytesL (List.replicate 32 0)) 42 rfl
      replace htp := htp.later (below1 wd (.cells (bytesL (List.replicate 32 0)) 42))
      replace hbw := chainA hbw (.cells (bytesL (List.replicate 32 0)) 42)
      replace hgt := Nat.le_trans hgt (below1 wd (.cells (bytesL (List.replicate 32 0)) 42)).size
      have hSn := And.intro (hS.1.alloc (.cells (bytesL (List.replicate 32 0)) 42)) (hS.2.alloc (.cells (bytesL (List.replicate 32 0)) 42))
      refine hK.out _ _ (fun _ => hSn) ?_
      clear hK K hS
      have hS := hSn
      clear hSn
      generalize wd.alloc (.cells (bytesL (List.replicate 32 0)) 42) = wn at *
      generalize wd.heap.size = g6 at *
      clear wd
      obtain ⟨wd, rfl⟩ : ∃ wx, wx = wn := ⟨_, rfl⟩
      try simp only [Act.put, List.setIfInBounds_toArray, List.set_cons_zero, List.set_cons_succ]
      refine wpAnyD_only (i := 8) rfl (by kernel_rfl) (by rfl) (fun K hK => ?_)
      refine wp_store_row 42 _ _ rfl g6 (bytesL (hsh (msgL (rowBy (cutR a))))) rfl rfl 42 _ r6 HAB.out.1 HAB.out.2.1 (bytesL_one _) ?_
      have hSn := And.intro (hS.1.setRowOther (bytesL (hsh (msgL (rowBy (cutR a))))) (show w.heap.size ≠ g6 by omega)) (hS.2.setRowOther (bytesL (hsh (msgL (rowBy (cutR a))))) (show w.heap.size + 1 ≠ g6 by omega))
      refine hK.out _ _ (fun _ => hSn) ?_
      clear hK K
      have hS2 := hSn
      clear hSn
      try simp only [Act.put, List.setIfInBounds_toArray, List.set_cons_zero, List.set_cons_succ]
      refine wpAnyD_only (i := 9) rfl (by kernel_rfl) (by rfl) (fun K hK => ?_)
      refine wp_store_row 42 _ _ rfl g7 (bytesL (hsh (msgL (rowBy (cutR b))))) rfl rfl 42 _ (r7.setRowOther _ (by omega)) HAB.out.2.2.1 HAB.out.2.2.2 (bytesL_one _) ?_
      have hSn := And.intro (hS2.1.setRowOther (bytesL (hsh (msgL (rowBy (cutR b))))) (show w.heap.size ≠ g7 by omega)) (hS2.2.setRowOther (bytesL (hsh (msgL (rowBy (cutR b))))) (show w.heap.size + 1 ≠ g7 by omega))
      refine hK.out _ _ (fun _ => hSn) ?_
      clear hK K
      try simp only [Act.put, List.setIfInBounds_toArray, List.set_cons_zero, List.set_cons_succ]
      refine wpAnyD_done (by kernel_rfl) ?_ _
      go_wp2_with fail
      go_meet
      case rel => exact ⟨g6, g7, rfl, rfl, (r6.setRow _).setRowOther _ (by omega), (r7.setRowOther _ (by omega)).setRow _, (htp.setNew r6 (by decide) (by decide) (by decide) _).setNew (r7.setRowOther _ (by omega)) (by decide) (by decide) (by decide) _, hSn.1, hSn.2, Below.row (Below.row hbw _ hg6) _ hg7⟩
    refine AllD.cons (i := 6) rfl (by rfl) (fun K hK => ?_) ?_
    · skip
      go_simp
      rw [zeros32b]
      try have hne := r7.lt
      try replace r7 := r7.alloc (.cells (bytesL (List.replicate 32 0)) 42)
      have hg6 := hbw.size
      have hl6 := hlt
      replace hlt := Nat.lt_of_lt_of_le hlt (below1 wd (.cells (bytesL (List.replicate 32 0)) 42)).size
      have r6 := Row.new wd (bytesL (List.replicate 32 0)) 42 rfl
      replace htp := htp.later (below1 wd (.cells (bytesL (List.replicate 32 0)) 42))
      replace hbw := chainA hbw (.cells (bytesL (List.replicate 32 0)) 42)
      replace hgt := Nat.le_trans hgt (below1 wd (.cells (bytesL (List.replicate 32 0)) 42)).size
      have hSn := And.intro (hS.1.alloc (.cells (bytesL (List.replicate 32 0)) 42)) (hS.2.alloc (.cells (bytesL (List.replicate 32 0)) 42))
      refine hK.out _ _ (fun _ => hSn) ?_
      clear hK K hS
      have hS := hSn
      clear hSn
      generalize wd.alloc (.cells (bytesL (List.replicate 32 0)) 42) = wn at *
      generalize wd.heap.size = g6 at *
      clear wd
      obtain ⟨wd, rfl⟩ : ∃ wx, wx = wn := ⟨_, rfl⟩
      try simp only [Act.put, List.setIfInBounds_toArray, List.set_cons_zero, List.set_cons_succ]
      refine wpAnyD_all (rs := [5, 7]) (by kernel_rfl) (by simp) ?_
      refine AllD.cons (i := 5) rfl (by rfl) (fun K hK => ?_) ?_
      · skip
        go_simp
        refine (rleaf_any (cutR b) HTA.out.2 T _ ([] ++ [msgL (rowBy (cutR a))]) wd (HT.out.later hbw) GT.out.2 hgt htp (by simp)).mono ?_
        rintro e wn ⟨rfl, htpn, hsn⟩
        try replace r6 := r6.tstep hsn (by decide) (by decide)
        try replace r7 := r7.tstep hsn (by decide) (by decide)
        replace hbw := below_t hbw GT.out.1 hsn
        replace hgt := Nat.le_trans hgt hsn.size
        replace hlt := Nat.lt_of_lt_of_le hlt hsn.size
        have hSn := And.intro (hS.1.tstep hsn (by decide) (by decide)) (hS.2.tstep hsn (by decide) (by decide))
        refine hK.out _ _ (fun _ => hSn) ?_
        clear hK K hsn hS htp
        have htp := htpn
        clear htpn
        have hS := hSn
        clear hSn
        obtain ⟨wd, rfl⟩ : ∃ wx, wx = wn := ⟨_, rfl⟩
        try simp only [Act.put, List.setIfInBounds_toArray, List.set_cons_zero, List.set_cons_succ]
        refine wpAnyD_only (i := 7) rfl (by kernel_rfl) (by rfl) (fun K hK => ?_)
        go_simp
        rw [zeros32b]
        try have hne := r6.lt
        try replace r6 := r6.alloc (.cells (bytesL (List.replicate 32 0)) 42)
        have hg7 := hbw.size
        have hl7 := hlt
        replace hlt := Nat.lt_of_lt_of_le hlt (below1 wd (.cells (bytesL (List.replicate 32 0)) 42)).size
        have r7 := Row.new wd (bytesL (List.replicate 32 0)) 42 rfl
        replace htp := htp.later (below1 wd (.cells (bytesL (List.replicate 32 0)) 42))
        replace hbw := chainA hbw (.cells (bytesL (List.replicate 32 0)) 42)
        replace hgt := Nat.le_trans hgt (below1 wd (.cells (bytesL (List.replicate 32 0)) 42)).size
        have hSn := And.intro (hS.1.alloc (.cells (bytesL (List.replicate 32 0)) 42)) (hS.2.alloc (.cells (bytesL (List.replicate 32 0)) 42))
        refine hK.out _ _ (fun _ => hSn) ?_
        clear hK K hS
        have hS := hSn
        clear hSn
        generalize wd.alloc (.cells (bytesL (List.replicate 32 0)) 42) = wn at *
        generalize wd.heap.size = g7 at *
        clear wd
        obtain ⟨wd, rfl⟩ : ∃ wx, wx = wn := ⟨_, rfl⟩
        try simp only [Act.put, List.setIfInBounds_toArray, List.set_cons_zero, List.set_cons_succ]
        refine wpAnyD_only (i := 8) rfl (by kernel_rfl) (by rfl) (fun K hK => ?_)
        refine wp_store_row 42 _ _ rfl g6 (bytesL (hsh (msgL (rowBy (cutR a))))) rfl rfl 42 _ r6 HAB.out.1 HAB.out.2.1 (bytesL_one _) ?_
        have hSn := And.intro (hS.1.setRowOther (bytesL (hsh (msgL (rowBy (cutR a))))) (show w.heap.size ≠ g6 by omega)) (hS.2.setRowOther (bytesL (hsh (msgL (rowBy (cutR a))))) (show w.heap.size + 1 ≠ g6 by omega))
        refine hK.out _ _ (fun _ => hSn) ?_
        clear hK K
        have hS2 := hSn
        clear hSn
        try simp only [Act.put, List.setIfInBounds_toArray, List.set_cons_zero, List.set_cons_succ]
        refine wpAnyD_only (i := 9) rfl (by kernel_rfl) (by rfl) (fun K hK => ?_)
        refine wp_store_row 42 _ _ rfl g7 (bytesL (hsh (msgL (rowBy (cutR b))))) rfl rfl 42 _ (r7.setRowOther _ (by omega)) HAB.out.2.2.1 HAB.out.2.2.2 (bytesL_one _) ?_
        have hSn := And.intro (hS2.1.setRowOther (bytesL (hsh (msgL (rowBy (cutR b))))) (show w.heap.size ≠ g7 by omega)) (hS2.2.setRowOther (bytesL (hsh (msgL (rowBy (cutR b))))) (show w.heap.size + 1 ≠ g7 by omega))
        refine hK.out _ _ (fun _ => hSn) ?_
        clear hK K
        try simp only [Act.put, List.setIfInBounds_toArray, List.set_cons_zero, List.set_cons_succ]
        refine wpAnyD_done (by kernel_rfl) ?_ _
        go_wp2_with fail
        go_meet
        case rel => exact ⟨g6, g7, rfl, rfl, (r6.setRow _).setRowOther _ (by omega), (r7.setRowOther _ (by omega)).setRow _, (htp.setNew r6 (by decide) (by decide) (by decide) _).setNew (r7.setRowOther _ (by omega)) (by decide) (by decide) (by decide) _, hSn.1, hSn.2, Below.row (Below.row hbw _ hg6) _ hg7⟩
      refine AllD.cons (i := 7) rfl (by rfl) (fun K hK => ?_) AllD.nil
      go_simp
      rw [zeros32b]
      try have hne := r6.lt
      try replace r6 := r6.alloc (.cells (bytesL (List.replicate 32 0)) 42)
      have hg7 := hbw.size
      have hl7 := hlt
      replace hlt := Nat.lt_of_lt_of_le hlt (below1 wd (.cells (bytesL (List.replicate 32 0)) 42)).size
      have r7 := Row.new wd (bytesL (List.replicate 32 0)) 42 rfl
      replace htp := htp.later (below1 wd (.cells (bytesL (List.replicate 32 0)) 42))
      replace hbw := chainA hbw (.cells (bytesL (List.replicate 32 0)) 42)
      replace hgt := Nat.le_trans hgt (below1 wd (.cells (bytesL (List.replicate 32 0)) 42)).size
      have hSn := And.intro (hS.1.alloc (.cells (bytesL (List.replicate 32 0)) 42)) (hS.2.alloc (.cells (bytesL (List.replicate 32 0)) 42))
      refine hK.out _ _ (fun _ => hSn) ?_
      clear hK K hS
      have hS := hSn
      clear hSn
      generalize wd.alloc (.cells (bytesL (List.replicate 32 0)) 42) = wn at *
      generalize wd.heap.size = g7 at *
      clear wd
      obtain ⟨wd, rfl⟩ : ∃ wx, wx = wn := ⟨_, rfl⟩
      try simp only [Act.put, List.setIfInBounds_toArray, List.set_cons_zero, List.set_cons_succ]
      refine wpAnyD_only (i := 5) rfl (by kernel_rfl) (by rfl) (fun K hK => ?_)
      go_simp
      refine (rleaf_any (cutR b) HTA.out.2 T _ ([] ++ [msgL (rowBy (cutR a))]) wd (HT.out.later hbw) GT.out.2 hgt htp (by simp)).mono ?_
      rintro e wn ⟨rfl, htpn, hsn⟩
      try replace r6 := r6.tstep hsn (by decide) (by decide)
      try replace r7 := r7.tstep hsn (by decide) (by decide)
      replace hbw := below_t hbw GT.out.1 hsn
      replace hgt := Nat.le_trans hgt hsn.size
      replace hlt := Nat.lt_of_lt_of_le hlt hsn.size
      have hSn := And.intro (hS.1.tstep hsn (by decide) (by decide)) (hS.2.tstep hsn (by decide) (by decide))
      refine hK.out _ _ (fun _ => hSn) ?_
      clear hK K hsn hS htp
      have htp := htpn
      clear htpn
      have hS := hSn
      clear hSn
      obtain ⟨wd, rfl⟩ : ∃ wx, wx = wn := ⟨_, rfl⟩
      try simp only [Act.put, List.setIfInBounds_toArray, List.set_cons_zero, List.set_cons_succ]
      refine wpAnyD_only (i := 8) rfl (by kernel_rfl) (by rfl) (fun K hK => ?_)
      refine wp_store_row 42 _ _ rfl g6 (bytesL (hsh (msgL (rowBy (cutR a))))) rfl rfl 42 _ r6 HAB.out.1 HAB.out.2.1 (bytesL_one _) ?_
      have hSn := And.intro (hS.1.setRowOther (bytesL (hsh (msgL (rowBy (cutR a))))) (show w.heap.size ≠ g6 by omega)) (hS.2.setRowOther (bytesL (hsh (msgL (rowBy (cutR a))))) (show w.heap.size + 1 ≠ g6 by omega))
      refine hK.out _ _ (fun _ => hSn) ?_
      clear hK K
      have hS2 := hSn
      clear hSn
      try simp only [Act.put, List.setIfInBounds_toArray, List.set_cons_zero, List.set_cons_succ]
      refine wpAnyD_only (i := 9) rfl (by kernel_rfl) (by rfl) (fun K hK => ?_)
      refine wp_store_row 42 _ _ rfl g7 (bytesL (hsh (msgL (rowBy (cutR b))))) rfl rfl 42 _ (r7.setRowOther _ (by omega)) HAB.out.2.2.1 HAB.out.2.2.2 (bytesL_one _) ?_
      have hSn := And.intro (hS2.1.setRowOther (bytesL (hsh (msgL (rowBy (cutR b))))) (show w.heap.size ≠ g7 by omega)) (hS2.2.setRowOther (bytesL (hsh (msgL (rowBy (cutR b))))) (show w.heap.size + 1 ≠ g7 by omega))
      refine hK.out _ _ (fun _ => hSn) ?_
      clear hK K
      try simp only [Act.put, List.setIfInBounds_toArray, List.set_cons_zero, List.set_cons_succ]
      refine wpAnyD_done (by kernel_rfl) ?_ _
      go_wp2_with fail
      go_meet
      case rel => exact ⟨g6, g7, rfl, rfl, (r6.setRow _).setRowOther _ (by omega), (r7.setRowOther _ (by omega)).setRow _, (htp.setNew r6 (by decide) (by decide) (by decide) _).setNew (r7.setRowOther _ (by omega)) (by decide) (by decide) (by decide) _, hSn.1, hSn.2, Below.row (Below.row hbw _ hg6) _ hg7⟩
    refine AllD.cons (i := 7) rfl (by rfl) (fun K hK => ?_) AllD.nil
    go_simp
    rw [zeros32b]
    try have hne := r6.lt
    try replace r6 := r6.alloc (.cells (bytesL (List.replicate 32 0)) 42)
    have hg7 := hbw.size
    have hl7 := hlt
    replace hlt := Nat.lt_of_lt_of_le hlt (below1 wd (.cells (bytesL (List.replicate 32 0)) 42)).size
    have r7 := Row.new wd (bytesL (List.replicate 32 0)) 42 rfl
    replace htp := htp.later (below1 wd (.cells (bytesL (List.replicate 32 0)) 42))
    replace hbw := chainA hbw (.cells (bytesL (List.replicate 32 0)) 42)
    replace hgt := Nat.le_trans hgt (below1 wd (.cells (bytesL (List.replicate 32 0)) 42)).size
    have hSn := And.intro (hS.1.alloc (.cells (bytesL (List.replicate 32 0)) 42)) (hS.2.alloc (.cells (bytesL (List.replicate 32 0)) 42))
    refine hK.out _ _ (fun _ => hSn) ?_
    clear hK K hS
    have hS := hSn
    clear hSn
    generalize wd.alloc (.cells (bytesL (List.replicate 32 0)) 42) = wn at *
    generalize wd.heap.size = g7 at *
    clear wd
    obtain ⟨wd, rfl⟩ : ∃ wx, wx = wn := ⟨_, rfl⟩
    try simp only [Act.put, List.setIfInBounds_toArray, List.set_cons_zero, List.set_cons_succ]
    refine wpAnyD_all (rs := [5, 6]) (by kernel_rfl) (by simp) ?_
    refine AllD.cons (i := 5) rfl (by rfl) (fun K hK => ?_) ?_
    · skip
      go_simp
      refine (rleaf_any (cutR b) HTA.out.2 T _ ([] ++ [msgL (rowBy (cutR a))]) wd (HT.out.later hbw) GT.out.2 hgt htp (by simp)).mono ?_
      rintro e wn ⟨rfl, htpn, hsn⟩
      try replace r6 := r6.tstep hsn (by decide) (by decide)
      try replace r7 := r7.tstep hsn (by decide) (by decide)
      replace hbw := below_t hbw GT.out.1 hsn
      replace hgt := Nat.le_trans hgt hsn.size
      replace hlt := Nat.lt_of_lt_of_le hlt hsn.size
      have hSn := And.intro (hS.1.tstep hsn (by decide) (by decide)) (hS.2.tstep hsn (by decide) (by decide))
      refine hK.out _ _ (fun _ => hSn) ?_
      clear hK K hsn hS htp
      have htp := htpn
      clear htpn
      have hS := hSn
      clear hSn
      obtain ⟨wd, rfl⟩ : ∃ wx, wx = wn := ⟨_, rfl⟩
      try simp only [Act.put, List.setIfInBounds_toArray, List.set_cons_zero, List.set_cons_succ]
      refine wpAnyD_only (i := 6) rfl (by kernel_rfl) (by rfl) (fun K hK => ?_)
      go_simp
      rw [zeros32b]
      try have hne := r7.lt
      try replace r7 := r7.alloc (.cells (bytesL (List.replicate 32 0)) 42)
      have hg6 := hbw.size
      have hl6 := hlt
      replace hlt := Nat.lt_of_lt_of_le hlt (below1 wd (.cells (bytesL (List.replicate 32 0)) 42)).size
      have r6 := Row.new wd (bytesL (List.replicate 32 0)) 42 rfl
      replace htp := htp.later (below1 wd (.cells (bytesL (List.replicate 32 0)) 42))
      replace hbw := chainA hbw (.cells (bytesL (List.replicate 32 0)) 42)
      replace hgt := Nat.le_trans hgt (below1 wd (.cells (bytesL (List.replicate 32 0)) 42)).size
      have hSn := And.intro (hS.1.alloc (.cells (bytesL (List.replicate 32 0)) 42)) (hS.2.alloc (.cells (bytesL (List.replicate 32 0)) 42))
      refine hK.out _ _ (fun _ => hSn) ?_
      clear hK K hS
      have hS := hSn
      clear hSn
      generalize wd.alloc (.cells (bytesL (List.replicate 32 0)) 42) = wn at *
      generalize wd.heap.size = g6 at *
      clear wd
      obtain ⟨wd, rfl⟩ : ∃ wx, wx = wn := ⟨_, rfl⟩
      try simp only [Act.put, List.setIfInBounds_toArray, List.set_cons_zero, List.set_cons_succ]
      refine wpAnyD_only (i := 8) rfl (by kernel_rfl) (by rfl) (fun K hK => ?_)
      refine wp_store_row 42 _ _ rfl g6 (bytesL (hsh (msgL (rowBy (cutR a))))) rfl rfl 42 _ r6 HAB.out.1 HAB.out.2.1 (bytesL_one _) ?_
      have hSn := And.intro (hS.1.setRowOther (bytesL (hsh (msgL (rowBy (cutR a))))) (show w.heap.size ≠ g6 by omega)) (hS.2.setRowOther (bytesL (hsh (msgL (rowBy (cutR a))))) (show w.heap.size + 1 ≠ g6 by omega))
      refine hK.out _ _ (fun _ => hSn) ?_
      clear hK K
      have hS2 := hSn
      clear hSn
      try simp only [Act.put, List.setIfInBounds_toArray, List.set_cons_zero, List.set_cons_succ]
      refine wpAnyD_only (i := 9) rfl (by kernel_rfl) (by rfl) (fun K hK => ?_)
      refine wp_store_row 42 _ _ rfl g7 (bytesL (hsh (msgL (rowBy (cutR b))))) rfl rfl 42 _ (r7.setRowOther _ (by omega)) HAB.out.2.2.1 HAB.out.2.2.2 (bytesL_one _) ?_
      have hSn := And.intro (hS2.1.setRowOther (bytesL (hsh (msgL (rowBy (cutR b))))) (show w.heap.size ≠ g7 by omega)) (hS2.2.setRowOther (bytesL (hsh (msgL (rowBy (cutR b))))) (show w.heap.size + 1 ≠ g7 by omega))
      refine hK.out _ _ (fun _ => hSn) ?_
      clear hK K
      try simp only [Act.put, List.setIfInBounds_toArray, List.set_cons_zero, List.set_cons_succ]
      refine wpAnyD_done (by kernel_rfl) ?_ _
      go_wp2_with fail
      go_meet
      case rel => exact ⟨g6, g7, rfl, rfl, (r6.setRow _).setRowOther _ (by omega), (r7.setRowOther _ (by omega)).setRow _, (htp.setNew r6 (by decide) (by decide) (by decide) _).setNew (r7.setRowOther _ (by omega)) (by decide) (by decide) (by decide) _, hSn.1, hSn.2, Below.row (Below.row hbw _ hg6) _ hg7⟩
    refine AllD.cons (i := 6) rfl (by rfl) (fun K hK => ?_) AllD.nil
    go_simp
    rw [zeros32b]
    try have hne := r7.lt
    try replace r7 := r7.alloc (.cells (bytesL (List.replicate 32 0)) 42)
    have hg6 := hbw.size
    have hl6 := hlt
    replace hlt := Nat.lt_of_lt_of_le hlt (below1 wd (.cells (bytesL (List.replicate 32 0)) 42)).size
    have r6 := Row.new wd (bytesL (List.replicate 32 0)) 42 rfl
    replace htp := htp.later (below1 wd (.cells (bytesL (List.replicate 32 0)) 42))
    replace hbw := chainA hbw (.cells (bytesL (List.replicate 32 0)) 42)
    replace hgt := Nat.le_trans hgt (below1 wd (.cells (bytesL (List.replicate 32 0)) 42)).size
    have hSn := And.intro (hS.1.alloc (.cells (bytesL (List.replicate 32 0)) 42)) (hS.2.alloc (.cells (bytesL (List.replicate 32 0)) 42))
    refine hK.out _ _ (fun _ => hSn) ?_
    clear hK K hS
    have hS := hSn
    clear hSn
    generalize wd.alloc (.cells (bytesL (List.replicate 32 0)) 42) = wn at *
    generalize wd.heap.size = g6 at *
    clear wd
    obtain ⟨wd, rfl⟩ : ∃ wx, wx = wn := ⟨_, rfl⟩
    try simp only [Act.put, List.setIfInBounds_toArray, List.set_cons_zero, List.set_cons_succ]
    refine wpAnyD_only (i := 5) rfl (by kernel_rfl) (by rfl) (fun K hK => ?_)
    go_simp
    refine (rleaf_any (cutR b) HTA.out.2 T _ ([] ++ [msgL (rowBy (cutR a))]) wd (HT.out.later hbw) GT.out.2 hgt htp (by simp)).mono ?_
    rintro e wn ⟨rfl, htpn, hsn⟩
    try replace r6 := r6.tstep hsn (by decide) (by decide)
    try replace r7 := r7.tstep hsn (by decide) (by decide)
    replace hbw := below_t hbw GT.out.1 hsn
    replace hgt := Nat.le_trans hgt hsn.size
    replace hlt := Nat.lt_of_lt_of_le hlt hsn.size
    have hSn := And.intro (hS.1.tstep hsn (by decide) (by decide)) (hS.2.tstep hsn (by decide) (by decide))
    refine hK.out _ _ (fun _ => hSn) ?_
    clear hK K hsn hS htp
    have htp := htpn
    clear htpn
    have hS := hSn
    clear hSn
    obtain ⟨wd, rfl⟩ : ∃ wx, wx = wn := ⟨_, rfl⟩
    try simp only [Act.put, List.setIfInBounds_toArray, List.set_cons_zero, List.set_cons_succ]
    refine wpAnyD_only (i := 8) rfl (by kernel_rfl) (by rfl) (fun K hK => ?_)
    refine wp_store_row 42 _ _ rfl g6 (bytesL (hsh (msgL (rowBy (cutR a))))) rfl rfl 42 _ r6 HAB.out.1 HAB.out.2.1 (bytesL_one _) ?_
    have hSn := And.intro (hS.1.setRowOther (bytesL (hsh (msgL (rowBy (cutR a))))) (show w.heap.size ≠ g6 by omega)) (hS.2.setRowOther (bytesL (hsh (msgL (rowBy (cutR a))))) (show w.heap.size + 1 ≠ g6 by omega))
    refine hK.out _ _ (fun _ => hSn) ?_
    clear hK K
    have hS2 := hSn
    clear hSn
    try simp only [Act.put, List.setIfInBounds_toArray, List.set_cons_zero, List.set_cons_succ]
    refine wpAnyD_only (i := 9) rfl (by kernel_rfl) (by rfl) (fun K hK => ?_)
    refine wp_store_row 42 _ _ rfl g7 (bytesL (hsh (msgL (rowBy (cutR b))))) rfl rfl 42 _ (r7.setRowOther _ (by omega)) HAB.out.2.2.1 HAB.out.2.2.2 (bytesL_one _) ?_
    have hSn := And.intro (hS2.1.setRowOther (bytesL (hsh (msgL (rowBy (cutR b))))) (show w.heap.size ≠ g7 by omega)) (hS2.2.setRowOther (bytesL (hsh (msgL (rowBy (cutR b))))) (show w.heap.size + 1 ≠ g7 by omega))
    refine hK.out _ _ (fun _ => hSn) ?_
    clear hK K
    try simp only [Act.put, List.setIfInBounds_toArray, List.set_cons_zero, List.set_cons_succ]
    refine wpAnyD_done (by kernel_rfl) ?_ _
    go_wp2_with fail
    go_meet
    case rel => exact ⟨g6, g7, rfl, rfl, (r6.setRow _).setRowOther _ (by omega), (r7.setRowOther _ (by omega)).setRow _, (htp.setNew r6 (by decide) (by decide) (by decide) _).setNew (r7.setRowOther _ (by omega)) (by decide) (by decide) (by decide) _, hSn.1, hSn.2, Below.row (Below.row hbw _ hg6) _ hg7⟩
  refine AllD.cons (i := 6) rfl (by rfl) (fun K hK => ?_) ?_
  · skip
    go_simp
    rw [zeros32b]
    try have hne := r7.lt
    try replace r7 := r7.alloc (.cells (bytesL (List.replicate 32 0)) 42)
    have hg6 := hbw.size
    have hl6 := hlt
    replace hlt := Nat.lt_of_lt_of_le hlt (below1 wd (.cells (bytesL (List.replicate 32 0)) 42)).size
    have r6 := Row.new wd (bytesL (List.replicate 32 0)) 42 rfl
    replace htp := htp.later (below1 wd (.cells (bytesL (List.replicate 32 0)) 42))
    replace hbw := chainA hbw (.cells (bytesL (List.replicate 32 0)) 42)
    replace hgt := Nat.le_trans hgt (below1 wd (.cells (bytesL (List.replicate 32 0)) 42)).size
    have hSn := And.intro (hS.1.alloc (.cells (bytesL (List.replicate 32 0)) 42)) (hS.2.alloc (.cells (bytesL (List.replicate 32 0)) 42))
    refine hK.out _ _ (fun _ => hSn) ?_
    clear hK K hS
    have hS := hSn
    clear hSn
    generalize wd.alloc (.cells (bytesL (List.replicate 32 0)) 42) = wn at *
    generalize wd.heap.size = g6 at *
    clear wd
    obtain ⟨wd, rfl⟩ : ∃ wx, wx = wn := ⟨_, rfl⟩
    try simp only [Act.put, List.setIfInBounds_toArray, List.set_cons_zero, List.set_cons_succ]
    refine wpAnyD_all (rs := [2, 7]) (by kernel_rfl) (by simp) ?_
    refine AllD.cons (i := 2) rfl (by rfl) (fun K hK => ?_) ?_
    · skip
      go_simp
      refine (rleaf_any (cutR a) HTA.out.1 T _ [] wd (HT.out.later hbw) GT.out.2 hgt htp (by simp)).mono ?_
      rintro e wn ⟨rfl, htpn, hsn⟩
      try replace r6 := r6.tstep hsn (by decide) (by decide)
      try replace r7 := r7.tstep hsn (by decide) (by decide)
      replace hbw := below_t hbw GT.out.1 hsn
      replace hgt := Nat.le_trans hgt hsn.size
      replace hlt := Nat.lt_of_lt_of_le hlt hsn.size
      have hSn := And.intro (hS.1.tstep hsn (by decide) (by decide)) (hS.2.tstep hsn (by decide) (by decide))
      refine hK.out _ _ (fun _ => hSn) ?_
      clear hK K hsn hS htp
      have htp := htpn
      clear htpn
      have hS := hSn
      clear hSn
      obtain ⟨wd, rfl⟩ : ∃ wx, wx = wn := ⟨_, rfl⟩
      try simp only [Act.put, List.setIfInBounds_toArray, List.set_cons_zero, List.set_cons_succ]
      refine wpAnyD_all (rs := [5, 7]) (by kernel_rfl) (by simp) ?_
      refine AllD.cons (i := 5) rfl (by rfl) (fun K hK => ?_) ?_
      · skip
        go_simp
        refine (rleaf_any (cutR b) HTA.out.2 T _ ([] ++ [msgL (rowBy (cutR a))]) wd (HT.out.later hbw) GT.out.2 hgt htp (by simp)).mono ?_
        rintro e wn ⟨rfl, htpn, hsn⟩
        try replace r6 := r6.tstep hsn (by decide) (by decide)
        try replace r7 := r7.tstep hsn (by decide) (by decide)
        replace hbw := below_t hbw GT.out.1 hsn
        replace hgt := Nat.le_trans hgt hsn.size
        replace hlt := Nat.lt_of_lt_of_le hlt hsn.size
        have hSn := And.intro (hS.1.tstep hsn (by decide) (by decide)) (hS.2.tstep hsn (by decide) (by decide))
        refine hK.out _ _ (fun _ => hSn) ?_
        clear hK K hsn hS htp
        have htp := htpn
        clear htpn
        have hS := hSn
        clear hSn
        obtain ⟨wd, rfl⟩ : ∃ wx, wx = wn := ⟨_, rfl⟩
        try simp only [Act.put, List.setIfInBounds_toArray, List.set_cons_zero, List.set_cons_succ]
        refine wpAnyD_only (i := 7) rfl (by kernel_rfl) (by rfl) (fun K hK => ?_)
        go_simp
        rw [zeros32b]
        try have hne := r6.lt
        try replace r6 := r6.alloc (.cells (bytesL (List.replicate 32 0)) 42)
        have hg7 := hbw.size
        have hl7 := hlt
        replace hlt := Nat.lt_of_lt_of_le hlt (below1 wd (.cells (bytesL (List.replicate 32 0)) 42)).size
        have r7 := Row.new wd (bytesL (List.replicate 32 0)) 42 rfl
        replace htp := htp.later (below1 wd (.cells (bytesL (List.replicate 32 0)) 42))
        replace hbw := chainA hbw (.cells (bytesL (List.replicate 32 0)) 42)
        replace hgt := Nat.le_trans hgt (below1 wd (.cells (bytesL (List.replicate 32 0)) 42)).size
        have hSn := And.intro (hS.1.alloc (.cells (bytesL (List.replicate 32 0)) 42)) (hS.2.alloc (.cells (bytesL (List.replicate 32 0)) 42))
        refine hK.out _ _ (fun _ => hSn) ?_
        clear hK K hS
        have hS := hSn
        clear hSn
        generalize wd.alloc (.cells (bytesL (List.replicate 32 0)) 42) = wn at *
        generalize wd.heap.size = g7 at *
        clear wd
        obtain ⟨wd, rfl⟩ : ∃ wx, wx = wn := ⟨_, rfl⟩
        try simp only [Act.put, List.setIfInBounds_toArray, List.set_cons_zero, List.set_cons_succ]
        refine wpAnyD_only (i := 8) rfl (by kernel_rfl) (by rfl) (fun K hK => ?_)
        refine wp_store_row 42 _ _ rfl g6 (bytesL (hsh (msgL (rowBy (cutR a))))) rfl rfl 42 _ r6 HAB.out.1 HAB.out.2.1 (bytesL_one _) ?_
        have hSn := And.intro (hS.1.setRowOther (bytesL (hsh (msgL (rowBy (cutR a))))) (show w.heap.size ≠ g6 by omega)) (hS.2.setRowOther (bytesL (hsh (msgL (rowBy (cutR a))))) (show w.heap.size + 1 ≠ g6 by omega))
        refine hK.out _ _ (fun _ => hSn) ?_
        clear hK K
        have hS2 := hSn
        clear hSn
        try simp only [Act.put, List.setIfInBounds_toArray, List.set_cons_zero, List.set_cons_succ]
        refine wpAnyD_only (i := 9) rfl (by kernel_rfl) (by rfl) (fun K hK => ?_)
        refine wp_store_row 42 _ _ rfl g7 (bytesL (hsh (msgL (rowBy (cutR b))))) rfl rfl 42 _ (r7.setRowOther _ (by omega)) HAB.out.2.2.1 HAB.out.2.2.2 (bytesL_one _) ?_
        have hSn := And.intro (hS2.1.setRowOther (bytesL (hsh (msgL (rowBy (cutR b))))) (show w.heap.size ≠ g7 by omega)) (hS2.2.setRowOther (bytesL (hsh (msgL (rowBy (cutR b))))) (show w.heap.size + 1 ≠ g7 by omega))
        refine hK.out _ _ (fun _ => hSn) ?_
        clear hK K
        try simp only [Act.put, List.setIfInBounds_toArray, List.set_cons_zero, List.set_cons_succ]
        refine wpAnyD_done (by kernel_rfl) ?_ _
        go_wp2_with fail
        go_meet
        case rel => exact ⟨g6, g7, rfl, rfl, (r6.setRow _).setRowOther _ (by omega), (r7.setRowOther _ (by omega)).setRow _, (htp.setNew r6 (by decide) (by decide) (by decide) _).setNew (r7.setRowOther _ (by omega)) (by decide) (by decide) (by decide) _, hSn.1, hSn.2, Below.row (Below.row hbw _ hg6) _ hg7⟩
      refine AllD.cons (i := 7) rfl (by rfl) (fun K hK => ?_) AllD.nil
      go_simp
      rw [zeros32b]
      try have hne := r6.lt
      try replace r6 := r6.alloc (.cells (bytesL (List.replicate 32 0)) 42)
      have hg7 := hbw.size
      have hl7 := hlt
      replace hlt := Nat.lt_of_lt_of_le hlt (below1 wd (.cells (bytesL (List.replicate 32 0)) 42)).size
      have r7 := Row.new wd (bytesL (List.replicate 32 0)) 42 rfl
      replace htp := htp.later (below1 wd (.cells (bytesL (List.replicate 32 0)) 42))
      replace hbw := chainA hbw (.cells (bytesL (List.replicate 32 0)) 42)
      replace hgt := Nat.le_trans hgt (below1 wd (.cells (bytesL (List.replicate 32 0)) 42)).size
      have hSn := And.intro (hS.1.alloc (.cells (bytesL (List.replicate 32 0)) 42)) (hS.2.alloc (.cells (bytesL (List.replicate 32 0)) 42))
      refine hK.out _ _ (fun _ => hSn) ?_
      clear hK K hS
      have hS := hSn
      clear hSn
      generalize wd.alloc (.cells (bytesL (List.replicate 32 0)) 42) = wn at *
      generalize wd.heap.size = g7 at *
      clear wd
      obtain ⟨wd, rfl⟩ : ∃ wx, wx = wn := ⟨_, rfl⟩
      try simp only [Act.put, List.setIfInBounds_toArray, List.set_cons_zero, List.set_cons_succ]
      refine wpAnyD_only (i := 5) rfl (by kernel_rfl) (by rfl) (fun K hK => ?_)
      go_simp
      refine (rleaf_any (cutR b) HTA.out.2 T _ ([] ++ [msgL (rowBy (cutR a))]) wd (HT.out.later hbw) GT.out.2 hgt htp (by simp)).mono ?_
      rintro e wn ⟨rfl, htpn, hsn⟩
      try replace r6 := r6.tstep hsn (by decide) (by decide)
      try replace r7 := r7.tstep hsn (by decide) (by decide)
      replace hbw := below_t hbw GT.out.1 hsn
      replace hgt := Nat.le_trans hgt hsn.size
      replace hlt := Nat.lt_of_lt_of_le hlt hsn.size
      have hSn := And.intro (hS.1.tstep hsn (by decide) (by decide)) (hS.2.tstep hsn (by decide) (by decide))
      refine hK.out _ _ (fun _ => hSn) ?_
      clear hK K hsn hS htp
      have htp := htpn
      clear htpn
      have hS := hSn
      clear hSn
      obtain ⟨wd, rfl⟩ : ∃ wx, wx = wn := ⟨_, rfl⟩
      try simp only [Act.put, List.setIfInBounds_toArray, List.set_cons_zero, List.set_cons_succ]
      refine wpAnyD_only (i := 8) rfl (by kernel_rfl) (by rfl) (fun K hK => ?_)
      refine wp_store_row 42 _ _ rfl g6 (bytesL (hsh (msgL (rowBy (cutR a))))) rfl rfl 42 _ r6 HAB.out.1 HAB.out.2.1 (bytesL_one _) ?_
      have hSn := And.intro (hS.1.setRowOther (bytesL (hsh (msgL (rowBy (cutR a))))) (show w.heap.size ≠ g6 by omega)) (hS.2.setRowOther (bytesL (hsh (msgL (rowBy (cutR a))))) (show w.heap.size + 1 ≠ g6 by omega))
      refine hK.out _ _ (fun _ => hSn) ?_
      clear hK K
      have hS2 := hSn
      clear hSn
      try simp only [Act.put, List.setIfInBounds_toArray, List.set_cons_zero, List.set_cons_succ]
      refine wpAnyD_only (i := 9) rfl (by kernel_rfl) (by rfl) (fun K hK => ?_)
      refine wp_store_row 42 _ _ rfl g7 (bytesL (hsh (msgL (rowBy (cutR b))))) rfl rfl 42 _ (r7.setRowOther _ (by omega)) HAB.out.2.2.1 HAB.out.2.2.2 (bytesL_one _) ?_
      have hSn := And.intro (hS2.1.setRowOther (bytesL (hsh (msgL (rowBy (cutR b))))) (show w.heap.size ≠ g7 by omega)) (hS2.2.setRowOther (bytesL (hsh (msgL (rowBy (cutR b))))) (show w.heap.size + 1 ≠ g7 by omega))
      refine hK.out _ _ (fun _ => hSn) ?_
      clear hK K
      try simp only [Act.put, List.setIfInBounds_toArray, List.set_cons_zero, List.set_cons_succ]
      refine wpAnyD_done (by kernel_rfl) ?_ _
      go_wp2_with fail
      go_meet
      case rel => exact ⟨g6, g7, rfl, rfl, (r6.setRow _).setRowOther _ (by omega), (r7.setRowOther _ (by omega)).setRow _, (htp.setNew r6 (by decide) (by decide) (by decide) _).setNew (r7.setRowOther _ (by omega)) (by decide) (by decide) (by decide) _, hSn.1, hSn.2, Below.row (Below.row hbw _ hg6) _ hg7⟩
    refine AllD.cons (i := 7) rfl (by rfl) (fun K hK => ?_) AllD.nil
    go_simp
    rw [zeros32b]
    try have hne := r6.lt
    try replace r6 := r6.alloc (.cells (bytesL (List.replicate 32 0)) 42)
    have hg7 := hbw.size
    have hl7 := hlt
    replace hlt := Nat.lt_of_lt_of_le hlt (below1 wd (.cells (bytesL (List.replicate 32 0)) 42)).size
    have r7 := Row.new wd (bytesL (List.replicate 32 0)) 42 rfl
    replace htp := htp.later (below1 wd (.cells (bytesL (List.replicate 32 0)) 42))
    replace hbw := chainA hbw (.cells (bytesL (List.replicate 32 0)) 42)
    replace hgt := Nat.le_trans hgt (below1 wd (.cells (bytesL (List.replicate 32 0)) 42)).size
    have hSn := And.intro (hS.1.alloc (.cells (bytesL (List.replicate 32 0)) 42)) (hS.2.alloc (.cells (bytesL (List.replicate 32 0)) 42))
    refine hK.out _ _ (fun _ => hSn) ?_
    clear hK K hS
    have hS := hSn
    clear hSn
    generalize wd.alloc (.cells (bytesL (List.replicate 32 0)) 42) = wn at *
    generalize wd.heap.size = g7 at *
    clear wd
    obtain ⟨wd, rfl⟩ : ∃ wx, wx = wn := ⟨_, rfl⟩
    try simp only [Act.put, List.setIfInBounds_toArray, List.set_cons_zero, List.set_cons_succ]
    refine wpAnyD_only (i := 2) rfl (by kernel_rfl) (by rfl) (fun K hK => ?_)
    go_simp
    refine (rleaf_any (cutR a) HTA.out.1 T _ [] wd (HT.out.later hbw) GT.out.2 hgt htp (by simp)).mono ?_
    rintro e wn ⟨rfl, htpn, hsn⟩
    try replace r6 := r6.tstep hsn (by decide) (by decide)
    try replace r7 := r7.tstep hsn (by decide) (by decide)
    replace hbw := below_t hbw GT.out.1 hsn
    replace hgt := Nat.le_trans hgt hsn.size
    replace hlt := Nat.lt_of_lt_of_le hlt hsn.size
    have hSn := And.intro (hS.1.tstep hsn (by decide) (by decide)) (hS.2.tstep hsn (by decide) (by decide))
    refine hK.out _ _ (fun _ => hSn) ?_
    clear hK K hsn hS htp
    have htp := htpn
    clear htpn
    have hS := hSn
    clear hSn
    obtain ⟨wd, rfl⟩ : ∃ wx, wx = wn := ⟨_, rfl⟩
    try simp only [Act.put, List.setIfInBounds_toArray, List.set_cons_zero, List.set_cons_succ]
    refine wpAnyD_only (i := 5) rfl (by kernel_rfl) (by rfl) (fun K hK => ?_)
    go_simp
    refine (rleaf_any (cutR b) HTA.out.2 T _ ([] ++ [msgL (rowBy (cutR a))]) wd (HT.out.later hbw) GT.out.2 hgt htp (by simp)).mono ?_
    rintro e wn ⟨rfl, htpn, hsn⟩
    try replace r6 := r6.tstep hsn (by decide) (by decide)
    try replace r7 := r7.tstep hsn (by decide) (by decide)
    replace hbw := below_t hbw GT.out.1 hsn
    replace hgt := Nat.le_trans hgt hsn.size
    replace hlt := Nat.lt_of_lt_of_le hlt hsn.size
    have hSn := And.intro (hS.1.tstep hsn (by decide) (by decide)) (hS.2.tstep hsn (by decide) (by decide))
    refine hK.out _ _ (fun _ => hSn) ?_
    clear hK K hsn hS htp
    have htp := htpn
    clear htpn
    have hS := hSn
    clear hSn
    obtain ⟨wd, rfl⟩ : ∃ wx, wx = wn := ⟨_, rfl⟩
    try simp only [Act.put, List.setIfInBounds_toArray, List.set_cons_zero, List.set_cons_succ]
    refine wpAnyD_only (i := 8) rfl (by kernel_rfl) (by rfl) (fun K hK => ?_)
    refine wp_store_row 42 _ _ rfl g6 (bytesL (hsh (msgL (rowBy (cutR a))))) rfl rfl 42 _ r6 HAB.out.1 HAB.out.2.1 (bytesL_one _) ?_
    have hSn := And.intro (hS.1.setRowOther (bytesL (hsh (msgL (rowBy (cutR a))))) (show w.heap.size ≠ g6 by omega)) (hS.2.setRowOther (bytesL (hsh (msgL (rowBy (cutR a))))) (show w.heap.size + 1 ≠ g6 by omega))
    refine hK.out _ _ (fun _ => hSn) ?_
    clear hK K
    have hS2 := hSn
    clear hSn
    try simp only [Act.put, List.setIfInBounds_toArray, List.set_cons_zero, List.set_cons_succ]
    refine wpAnyD_only (i := 9) rfl (by kernel_rfl) (by rfl) (fun K hK => ?_)
    refine wp_store_row 42 _ _ rfl g7 (bytesL (hsh (msgL (rowBy (cutR b))))) rfl rfl 42 _ (r7.setRowOther _ (by omega)) HAB.out.2.2.1 HAB.out.2.2.2 (bytesL_one _) ?_
    have hSn := And.intro (hS2.1.setRowOther (bytesL (hsh (msgL (rowBy (cutR b))))) (show w.heap.size ≠ g7 by omega)) (hS2.2.setRowOther (bytesL (hsh (msgL (rowBy (cutR b))))) (show w.heap.size + 1 ≠ g7 by omega))
    refine hK.out _ _ (fun _ => hSn) ?_
    clear hK K
    try simp only [Act.put, List.setIfInBounds_toArray, List.set_cons_zero, List.set_cons_succ]
    refine wpAnyD_done (by kernel_rfl) ?_ _
    go_wp2_with fail
    go_meet
    case rel => exact ⟨g6, g7, rfl, rfl, (r6.setRow _).setRowOther _ (by omega), (r7.setRowOther _ (by omega)).setRow _, (htp.setNew r6 (by decide) (by decide) (by decide) _).setNew (r7.setRowOther _ (by omega)) (by decide) (by decide) (by decide) _, hSn.1, hSn.2, Below.row (Below.row hbw _ hg6) _ hg7⟩
  refine AllD.cons (i := 7) rfl (by rfl) (fun K hK => ?_) AllD.nil
  go_simp
  rw [zeros32b]
  try have hne := r6.lt
  try replace r6 := r6.alloc (.cells (bytesL (List.replicate 32 0)) 42)
  have hg7 := hbw.size
  have hl7 := hlt
  replace hlt := Nat.lt_of_lt_of_le hlt (below1 wd (.cells (bytesL (List.replicate 32 0)) 42)).size
  have r7 := Row.new wd (bytesL (List.replicate 32 0)) 42 rfl
  replace htp := htp.later (below1 wd (.cells (bytesL (List.replicate 32 0)) 42))
  replace hbw := chainA hbw (.cells (bytesL (List.replicate 32 0)) 42)
  replace hgt := Nat.le_trans hgt (below1 wd (.cells (bytesL (List.replicate 32 0)) 42)).size
  have hSn := And.intro (hS.1.alloc (.cells (bytesL (List.replicate 32 0)) 42)) (hS.2.alloc (.cells (bytesL (List.replicate 32 0)) 42))
  refine hK.out _ _ (fun _ => hSn) ?_
  clear hK K hS
  have hS := hSn
  clear hSn
  generalize wd.alloc (.cells (bytesL (List.replicate 32 0)) 42) = wn at *
  generalize wd.heap.size = g7 at *
  clear wd
  obtain ⟨wd, rfl⟩ : ∃ wx, wx = wn := ⟨_, rfl⟩
  try simp only [Act.put, List.setIfInBounds_toArray, List.set_cons_zero, List.set_cons_succ]
  refine wpAnyD_all (rs := [2, 6]) (by kernel_rfl) (by simp) ?_
  refine AllD.cons (i := 2) rfl (by rfl) (fun K hK => ?_) ?_
  · skip
    go_simp
    refine (rleaf_any (cutR a) HTA.out.1 T _ [] wd (HT.out.later hbw) GT.out.2 hgt htp (by simp)).mono ?_
    rintro e wn ⟨rfl, htpn, hsn⟩
    try replace r6 := r6.tstep hsn (by decide) (by decide)
    try replace r7 := r7.tstep hsn (by decide) (by decide)
    replace hbw := below_t hbw GT.out.1 hsn
    replace hgt := Nat.le_trans hgt hsn.size
    replace hlt := Nat.lt_of_lt_of_le hlt hsn.size
    have hSn := And.intro (hS.1.tstep hsn (by decide) (by decide)) (hS.2.tstep hsn (by decide) (by decide))
    refine hK.out _ _ (fun _ => hSn) ?_
    clear hK K hsn hS htp
    have htp := htpn
    clear htpn
    have hS := hSn
    clear hSn
    obtain ⟨wd, rfl⟩ : ∃ wx, wx = wn := ⟨_, rfl⟩
    try simp only [Act.put, List.setIfInBounds_toArray, List.set_cons_zero, List.set_cons_succ]
    refine wpAnyD_all (rs := [5, 6]) (by kernel_rfl) (by simp) ?_
    refine AllD.cons (i := 5) rfl (by rfl) (fun K hK => ?_) ?_
    · skip
      go_simp
      refine (rleaf_any (cutR b) HTA.out.2 T _ ([] ++ [msgL (rowBy (cutR a))]) wd (HT.out.later hbw) GT.out.2 hgt htp (by simp)).mono ?_
      rintro e wn ⟨rfl, htpn, hsn⟩
      try replace r6 := r6.tstep hsn (by decide) (by decide)
      try replace r7 := r7.tstep hsn (by decide) (by decide)
      replace hbw := below_t hbw GT.out.1 hsn
      replace hgt := Nat.le_trans hgt hsn.size
      replace hlt := Nat.lt_of_lt_of_le hlt hsn.size
      have hSn := And.intro (hS.1.tstep hsn (by decide) (by decide)) (hS.2.tstep hsn (by decide) (by decide))
      refine hK.out _ _ (fun _ => hSn) ?_
      clear hK K hsn hS htp
      have htp := htpn
      clear htpn
      have hS := hSn
      clear hSn
      obtain ⟨wd, rfl⟩ : ∃ wx, wx = wn := ⟨_, rfl⟩
      try simp only [Act.put, List.setIfInBounds_toArray, List.set_cons_zero, List.set_cons_succ]
      refine wpAnyD_only (i := 6) rfl (by kernel_rfl) (by rfl) (fun K hK => ?_)
      go_simp
      rw [zeros32b]
      try have hne := r7.lt
      try replace r7 := r7.alloc (.cells (bytesL (List.replicate 32 0)) 42)
      have hg6 := hbw.size
      have hl6 := hlt
      replace hlt := Nat.lt_of_lt_of_le hlt (below1 wd (.cells (bytesL (List.replicate 32 0)) 42)).size
      have r6 := Row.new wd (bytesL (List.replicate 32 0)) 42 rfl
      replace htp := htp.later (below1 wd (.cells (bytesL (List.replicate 32 0)) 42))
      replace hbw := chainA hbw (.cells (bytesL (List.replicate 32 0)) 42)
      replace hgt := Nat.le_trans hgt (below1 wd (.cells (bytesL (List.replicate 32 0)) 42)).size
      have hSn := And.intro (hS.1.alloc (.cells (bytesL (List.replicate 32 0)) 42)) (hS.2.alloc (.cells (bytesL (List.replicate 32 0)) 42))
      refine hK.out _ _ (fun _ => hSn) ?_
      clear hK K hS
      have hS := hSn
      clear hSn
      generalize wd.alloc (.cells (bytesL (List.replicate 32 0)) 42) = wn at *
      generalize wd.heap.size = g6 at *
      clear wd
      obtain ⟨wd, rfl⟩ : ∃ wx, wx = wn := ⟨_, rfl⟩
      try simp only [Act.put, List.setIfInBounds_toArray, List.set_cons_zero, List.set_cons_succ]
      refine wpAnyD_only (i := 8) rfl (by kernel_rfl) (by rfl) (fun K hK => ?_)
      refine wp_store_row 42 _ _ rfl g6 (bytesL (hsh (msgL (rowBy (cutR a))))) rfl rfl 42 _ r6 HAB.out.1 HAB.out.2.1 (bytesL_one _) ?_
      have hSn := And.intro (hS.1.setRowOther (bytesL (hsh (msgL (rowBy (cutR a))))) (show w.heap.size ≠ g6 by omega)) (hS.2.setRowOther (bytesL (hsh (msgL (rowBy (cutR a))))) (show w.heap.size + 1 ≠ g6 by omega))
      refine hK.out _ _ (fun _ => hSn) ?_
      clear hK K
      have hS2 := hSn
      clear hSn
      try simp only [Act.put, List.setIfInBounds_toArray, List.set_cons_zero, List.set_cons_succ]
      refine wpAnyD_only (i := 9) rfl (by kernel_rfl) (by rfl) (fun K hK => ?_)
      refine wp_store_row 42 _ _ rfl g7 (bytesL (hsh (msgL (rowBy (cutR b))))) rfl rfl 42 _ (r7.setRowOther _ (by omega)) HAB.out.2.2.1 HAB.out.2.2.2 (bytesL_one _) ?_
      have hSn := And.intro (hS2.1.setRowOther (bytesL (hsh (msgL (rowBy (cutR b))))) (show w.heap.size ≠ g7 by omega)) (hS2.2.setRowOther (bytesL (hsh (msgL (rowBy (cutR b))))) (show w.heap.size + 1 ≠ g7 by omega))
      refine hK.out _ _ (fun _ => hSn) ?_
      clear hK K
      try simp only [Act.put, List.setIfInBounds_toArray, List.set_cons_zero, List.set_cons_succ]
      refine wpAnyD_done (by kernel_rfl) ?_ _
      go_wp2_with fail
      go_meet
      case rel => exact ⟨g6, g7, rfl, rfl, (r6.setRow _).setRowOther _ (by omega), (r7.setRowOther _ (by omega)).setRow _, (htp.setNew r6 (by decide) (by decide) (by decide) _).setNew (r7.setRowOther _ (by omega)) (by decide) (by decide) (by decide) _, hSn.1, hSn.2, Below.row (Below.row hbw _ hg6) _ hg7⟩
    refine AllD.cons (i := 6) rfl (by rfl) (fun K hK => ?_) AllD.nil
    go_simp
    rw [zeros32b]
    try have hne := r7.lt
    try replace r7 := r7.alloc (.cells (bytesL (List.replicate 32 0)) 42)
    have hg6 := hbw.size
    have hl6 := hlt
    replace hlt := Nat.lt_of_lt_of_le hlt (below1 wd (.cells (bytesL (List.replicate 32 0)) 42)).size
    have r6 := Row.new wd (bytesL (List.replicate 32 0)) 42 rfl
    replace htp := htp.later (below1 wd (.cells (bytesL (List.replicate 32 0)) 42))
    replace hbw := chainA hbw (.cells (bytesL (List.replicate 32 0)) 42)
    replace hgt := Nat.le_trans hgt (below1 wd (.cells (bytesL (List.replicate 32 0)) 42)).size
    have hSn := And.intro (hS.1.alloc (.cells (bytesL (List.replicate 32 0)) 42)) (hS.2.alloc (.cells (bytesL (List.replicate 32 0)) 42))
    refine hK.out _ _ (fun _ => hSn) ?_
    clear hK K hS
    have hS := hSn
    clear hSn
    generalize wd.alloc (.cells (bytesL (List.replicate 32 0)) 42) = wn at *
    generalize wd.heap.size = g6 at *
    clear wd
    obtain ⟨wd, rfl⟩ : ∃ wx, wx = wn := ⟨_, rfl⟩
    try simp only [Act.put, List.setIfInBounds_toArray, List.set_cons_zero, List.set_cons_succ]
    refine wpAnyD_only (i := 5) rfl (by kernel_rfl) (by rfl) (fun K hK => ?_)
    go_simp
    refine (rleaf_any (cutR b) HTA.out.2 T _ ([] ++ [msgL (rowBy (cutR a))]) wd (HT.out.later hbw) GT.out.2 hgt htp (by simp)).mono ?_
    rintro e wn ⟨rfl, htpn, hsn⟩
    try replace r6 := r6.tstep hsn (by decide) (by decide)
    try replace r7 := r7.tstep hsn (by decide) (by decide)
    replace hbw := below_t hbw GT.out.1 hsn
    replace hgt := Nat.le_trans hgt hsn.size
    replace hlt := Nat.lt_of_lt_of_le hlt hsn.size
    have hSn := And.intro (hS.1.tstep hsn (by decide) (by decide)) (hS.2.tstep hsn (by decide) (by decide))
    refine hK.out _ _ (fun _ => hSn) ?_
    clear hK K hsn hS htp
    have htp := htpn
    clear htpn
    have hS := hSn
    clear hSn
    obtain ⟨wd, rfl⟩ : ∃ wx, wx = wn := ⟨_, rfl⟩
    try simp only [Act.put, List.setIfInBounds_toArray, List.set_cons_zero, List.set_cons_succ]
    refine wpAnyD_only (i := 8) rfl (by kernel_rfl) (by rfl) (fun K hK => ?_)
    refine wp_store_row 42 _ _ rfl g6 (bytesL (hsh (msgL (rowBy (cutR a))))) rfl rfl 42 _ r6 HAB.out.1 HAB.out.2.1 (bytesL_one _) ?_
    have hSn := And.intro (hS.1.setRowOther (bytesL (hsh (msgL (rowBy (cutR a))))) (show w.heap.size ≠ g6 by omega)) (hS.2.setRowOther (bytesL (hsh (msgL (rowBy (cutR a))))) (show w.heap.size + 1 ≠ g6 by omega))
    refine hK.out _ _ (fun _ => hSn) ?_
    clear hK K
    have hS2 := hSn
    clear hSn
    try simp only [Act.put, List.setIfInBounds_toArray, List.set_cons_zero, List.set_cons_succ]
    refine wpAnyD_only (i := 9) rfl (by kernel_rfl) (by rfl) (fun K hK => ?_)
    refine wp_store_row 42 _ _ rfl g7 (bytesL (hsh (msgL (rowBy (cutR b))))) rfl rfl 42 _ (r7.setRowOther _ (by omega)) HAB.out.2.2.1 HAB.out.2.2.2 (bytesL_one _) ?_
    have hSn := And.intro (hS2.1.setRowOther (bytesL (hsh (msgL (rowBy (cutR b))))) (show w.heap.size ≠ g7 by omega)) (hS2.2.setRowOther (bytesL (hsh (msgL (rowBy (cutR b))))) (show w.heap.size + 1 ≠ g7 by omega))
    refine hK.out _ _ (fun _ => hSn) ?_
    clear hK K
    try simp only [Act.put, List.setIfInBounds_toArray, List.set_cons_zero, List.set_cons_succ]
    refine wpAnyD_done (by kernel_rfl) ?_ _
    go_wp2_with fail
    go_meet
    case rel => exact ⟨g6, g7, rfl, rfl, (r6.setRow _).setRowOther _ (by omega), (r7.setRowOther _ (by omega)).setRow _, (htp.setNew r6 (by decide) (by decide) (by decide) _).setNew (r7.setRowOther _ (by omega)) (by decide) (by decide) (by decide) _, hSn.1, hSn.2, Below.row (Below.row hbw _ hg6) _ hg7⟩
  refine AllD.cons (i := 6) rfl (by rfl) (fun K hK => ?_) AllD.nil
  go_simp
  rw [zeros32b]
  try have hne := r7.lt
  try replace r7 := r7.alloc (.cells (bytesL (List.replicate 32 0)) 42)
  have hg6 := hbw.size
  have hl6 := hlt
  replace hlt := Nat.lt_of_lt_of_le hlt (below1 wd (.cells (bytesL (List.replicate 32 0)) 42)).size
  have r6 := Row.new wd (bytesL (List.replicate 32 0)) 42 rfl
  replace htp := htp.later (below1 wd (.cells (bytesL (List.replicate 32 0)) 42))
  replace hbw := chainA hbw (.cells (bytesL (List.replicate 32 0)) 42)
  replace hgt := Nat.le_trans hgt (below1 wd (.cells (bytesL (List.replicate 32 0)) 42)).size
  have hSn := And.intro (hS.1.alloc (.cells (bytesL (List.replicate 32 0)) 42)) (hS.2.alloc (.cells (bytesL (List.replicate 32 0)) 42))
  refine hK.out _ _ (fun _ => hSn) ?_
  clear hK K hS
  have hS := hSn
  clear hSn
  generalize wd.alloc (.cells (bytesL (List.replicate 32 0)) 42) = wn at *
  generalize wd.heap.size = g6 at *
  clear wd
  obtain ⟨wd, rfl⟩ : ∃ wx, wx = wn := ⟨_, rfl⟩
  try simp only [Act.put, List.setIfInBounds_toArray, List.set_cons_zero, List.set_cons_succ]
  refine wpAnyD_only (i := 2) rfl (by kernel_rfl) (by rfl) (fun K hK => ?_)
  go_simp
  refine (rleaf_any (cutR a) HTA.out.1 T _ [] wd (HT.out.later hbw) GT.out.2 hgt htp (by simp)).mono ?_
  rintro e wn ⟨rfl, htpn, hsn⟩
  try replace r6 := r6.tstep hsn (by decide) (by decide)
  try replace r7 := r7.tstep hsn (by decide) (by decide)
  replace hbw := below_t hbw GT.out.1 hsn
  replace hgt := Nat.le_trans hgt hsn.size
  replace hlt := Nat.lt_of_lt_of_le hlt hsn.size
  have hSn := And.intro (hS.1.tstep hsn (by decide) (by decide)) (hS.2.tstep hsn (by decide) (by decide))
  refine hK.out _ _ (fun _ => hSn) ?_
  clear hK K hsn hS htp
  have htp := htpn
  clear htpn
  have hS := hSn
  clear hSn
  obtain ⟨wd, rfl⟩ : ∃ wx, wx = wn := ⟨_, rfl⟩
  try simp only [Act.put, List.setIfInBounds_toArray, List.set_cons_zero, List.set_cons_succ]
  refine wpAnyD_only (i := 5) rfl (by kernel_rfl) (by rfl) (fun K hK => ?_)
  go_simp
  refine (rleaf_any (cutR b) HTA.out.2 T _ ([] ++ [msgL (rowBy (cutR a))]) wd (HT.out.later hbw) GT.out.2 hgt htp (by simp)).mono ?_
  rintro e wn ⟨rfl, htpn, hsn⟩
  try replace r6 := r6.tstep hsn (by decide) (by decide)
  try replace r7 := r7.tstep hsn (by decide) (by decide)
  replace hbw := below_t hbw GT.out.1 hsn
  replace hgt := Nat.le_trans hgt hsn.size
  replace hlt := Nat.lt_of_lt_of_le hlt hsn.size
  have hSn := And.intro (hS.1.tstep hsn (by decide) (by decide)) (hS.2.tstep hsn (by decide) (by decide))
  refine hK.out _ _ (fun _ => hSn) ?_
  clear hK K hsn hS htp
  have htp := htpn
  clear htpn
  have hS := hSn
  clear hSn
  obtain ⟨wd, rfl⟩ : ∃ wx, wx = wn := ⟨_, rfl⟩
  try simp only [Act.put, List.setIfInBounds_toArray, List.set_cons_zero, List.set_cons_succ]
  refine wpAnyD_only (i := 8) rfl (by kernel_rfl) (by rfl) (fun K hK => ?_)
  refine wp_store_row 42 _ _ rfl g6 (bytesL (hsh (msgL (rowBy (cutR a))))) rfl rfl 42 _ r6 HAB.out.1 HAB.out.2.1 (bytesL_one _) ?_
  have hSn := And.intro (hS.1.setRowOther (bytesL (hsh (msgL (rowBy (cutR a))))) (show w.heap.size ≠ g6 by omega)) (hS.2.setRowOther (bytesL (hsh (msgL (rowBy (cutR a))))) (show w.heap.size + 1 ≠ g6 by omega))
  refine hK.out _ _ (fun _ => hSn) ?_
  clear hK K
  have hS2 := hSn
  clear hSn
  try simp only [Act.put, List.setIfInBounds_toArray, List.set_cons_zero, List.set_cons_succ]
  refine wpAnyD_only (i := 9) rfl (by kernel_rfl) (by rfl) (fun K hK => ?_)
  refine wp_store_row 42 _ _ rfl g7 (bytesL (hsh (msgL (rowBy (cutR b))))) rfl rfl 42 _ (r7.setRowOther _ (by omega)) HAB.out.2.2.1 HAB.out.2.2.2 (bytesL_one _) ?_
  have hSn := And.intro (hS2.1.setRowOther (bytesL (hsh (msgL (rowBy (cutR b))))) (show w.heap.size ≠ g7 by omega)) (hS2.2.setRowOther (bytesL (hsh (msgL (rowBy (cutR b))))) (show w.heap.size + 1 ≠ g7 by omega))
  refine hK.out _ _ (fun _ => hSn) ?_
  clear hK K
  try simp only [Act.put, List.setIfInBounds_toArray, List.set_cons_zero, List.set_cons_succ]
  refine wpAnyD_done (by kernel_rfl) ?_ _
  go_wp2_with fail
  go_meet
  case rel => exact ⟨g6, g7, rfl, rfl, (r6.setRow _).setRowOther _ (by omega), (r7.setRowOther _ (by omega)).setRow _, (htp.setNew r6 (by decide) (by decide) (by decide) _).setNew (r7.setRowOther _ (by omega)) (by decide) (by decide) (by decide) _, hSn.1, hSn.2, Below.row (Below.row hbw _ hg6) _ hg7⟩
end Go.Proofs.YtcahmldgkkcheaaDoor
