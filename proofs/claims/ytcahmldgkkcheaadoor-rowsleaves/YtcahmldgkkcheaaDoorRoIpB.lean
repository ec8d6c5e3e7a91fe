
import Derived.Test.YtcahmldgkkcheaaDoorRoI0
set_option maxRecDepth 100000
namespace Go.Proofs.YtcahmldgkkcheaaDoor
open Go.RowKit
set_option linter.unusedVariables false
set_option linter.unusedSimpArgs false

set_option maxHeartbeats 4000000 in
theorem roIPack_B : roIPack.p_B := by
  intro a b w HT HA iq1 w1 w2 HTA HTM iq2 iq3 w3 B3 R03 R13 HLT T GT HTP0 HGT iA iB HAB wc u6 u7 u8 u9 u10 u11 u12 u13 u14 u15 u16 u17 u18 u19 u20 u21 u22 u23 u24 u25 u26 u27 u28 u29 u30 u31 u32 u33 u34 u35 u36 u37 u38 u39 u40 u41 u42 u43 u44 u45 u46 hcut
  obtain ⟨g6, g7, rfl, rfl, r6, r7, htp, q0, q1, hbl⟩ := hcut
  have R6 : Hid (Row wc g6 (bytesL (hsh (msgL (rowBy (cutR a))))) 42) := r6
  have R7 : Hid (Row wc g7 (bytesL (hsh (msgL (rowBy (cutR b))))) 42) := r7
  have HTP : Hid (TpAt wc T (.pointer (some ⟨T, 0, none⟩)) ([] ++ [msgL (rowBy (cutR a))] ++ [msgL (rowBy (cutR b))])) := htp
  have Q0 : Hid (Row wc w.heap.size (cutR a).cs 34) := q0
  have Q1 : Hid (Row wc (w.heap.size + 1) (cutR b).cs 34) := q1
  have BL : Hid (Below w.heap.size w wc) := hbl
  have IHA : Hid ((Tryd.prog.info? 42).map (·.size) = some (bytesL (hsh (msgL (rowBy (cutR a))))).size) := HAB.out.1
  have IHB : Hid ((Tryd.prog.info? 42).map (·.size) = some (bytesL (hsh (msgL (rowBy (cutR b))))).size) := HAB.out.2.2.1
  have IA : Hid ((Tryd.prog.info? 34).map (·.size) = some (cutR a).cs.size) := iA
  have IB : Hid ((Tryd.prog.info? 34).map (·.size) = some (cutR b).cs.size) := iB
  clear iA iB
  clear r6 r7 htp q0 q1 hbl HTP0 HGT R03 R13 B3 HAB
  have h3X := hsh_32 (msgL (rowBy (cutR a)))
  have h3Y := hsh_32 (msgL (rowBy (cutR b)))
  generalize hX : hsh (msgL (rowBy (cutR a))) = X at *
  generalize hY : hsh (msgL (rowBy (cutR b))) = Y at *
  have HX : Hid (hsh (msgL (rowBy (cutR a))) = X) := hX
  have HY : Hid (hsh (msgL (rowBy (cutR b))) = Y) := hY
  clear hX hY
  have hin := (show Hid (∀ w, (binOp .eql 42 (.agg (bytesL X)) (.agg (bytesL Y))).run Tryd.prog w = .ok (.bool (decide (X = Y))) w) from hash_eql X Y h3X.1 h3Y.1)
  have hnn := (show Hid (∀ w, (binOp .neq 42 (.agg (bytesL X)) (.agg (bytesL Y))).run Tryd.prog w = .ok (.bool (!decide (X = Y))) w) from hash_neq X Y h3X.1 h3Y.1)
  by_cases hab : cutR a = cutR b
  · have hrc := (show Hid (∀ w, (binOp .eql 34 (.agg (cutR a).cs) (.agg (cutR b).cs)).run Tryd.prog w = .ok (.bool true) w) from rc_bin (cutR a) (cutR b) true (by simp [hab]))
    have hhe : X = Y := by rw [← HX.out, ← HY.out, hab]
    rw [decide_eq_true hhe] at hin hnn
    generalize (cutR a).cs = kA at *
    generalize (cutR b).cs = kB at *
    clear hhe hab
    go_wp2_with (refine wpList_load_row rfl 34 _ rfl w.heap.size rfl 34 kA (0, 0) _ Q0.out Tryd.underlying34 rfl IA.out ?_; refine stop ?_)
    unfold Stop
    go_wp2_with (refine wpList_load_row rfl 34 _ rfl (w.heap.size + 1) rfl 34 kB (0, 0) _ Q1.out Tryd.underlying34 rfl IB.out ?_; refine stop ?_)
    unfold Stop
    go_wp2_with (refine wpList_eql_row rfl _ _ _ rfl kA kB true rfl rfl hrc.out ?_; refine stop ?_)
    unfold Stop
    go_wp2_with (refine wpList_load_row rfl 42 _ rfl g6 rfl 42 (bytesL X) (0, 0) _ R6.out Tryd.underlying42 rfl IHA.out ?_; refine stop ?_)
    unfold Stop
    go_wp2_with (refine wpList_load_row rfl 42 _ rfl g7 rfl 42 (bytesL Y) (0, 0) _ R7.out Tryd.underlying42 rfl IHB.out ?_; refine stop ?_)
    unfold Stop
    go_wp2_with (refine wpList_bin_row rfl .eql 42 _ _ _ rfl (bytesL X) (bytesL Y) true rfl rfl hash_guard hin.out ?_; refine stop ?_)
    unfold Stop
    go_wp2
    go_ret
    exact ⟨rfl, BL.out⟩
  · have hrc := (show Hid (∀ w, (binOp .eql 34 (.agg (cutR a).cs) (.agg (cutR b).cs)).run Tryd.prog w = .ok (.bool false) w) from rc_bin (cutR a) (cutR b) false (by simp [hab]))
    have HCL : Hid (X = Y → ClN ([] ++ [msgL (rowBy (cutR a))] ++ [msgL (rowBy (cutR b))])) := fun e =>
      ⟨_, by simp, _, by simp, fun h => hab (rowBy_inj HTA.out.1 HTA.out.2 HTM.out.1 HTM.out.2 (msgL_inj h)), by rw [HX.out, HY.out]; exact e⟩
    have HML : Hid (∀ l ∈ [] ++ [msgL (rowBy (cutR a))] ++ [msgL (rowBy (cutR b))], l.length ≤ 1000) := by
      intro l hl
      simp at hl
      rcases hl with rfl | rfl <;> simp [msgL, rowBy_len]
    by_cases hhe : X = Y
    · rw [decide_eq_true hhe] at hin hnn
      have hcl := HCL.out hhe
      have HCN : Hid (ClN ([] ++ [msgL (rowBy (cutR a))] ++ [msgL (rowBy (cutR b))])) := hcl
      generalize hN : ([] : List (List Nat)) ++ [msgL (rowBy (cutR a))] ++ [msgL (rowBy (cutR b))] = N at *
      have HNL : Hid (N.length ≤ 1000) := by rw [← hN]; show _ ≤ _; simp
      generalize (cutR a).cs = kA at *
      generalize (cutR b).cs = kB at *
      clear hhe hab hN hcl HCL
      go_wp2_with (refine wpList_load_row rfl 34 _ rfl w.heap.size rfl 34 kA (0, 0) _ Q0.out Tryd.underlying34 rfl IA.out ?_; refine stop ?_)
      unfold Stop
      go_wp2_with (refine wpList_load_row rfl 34 _ rfl (w.heap.size + 1) rfl 34 kB (0, 0) _ Q1.out Tryd.underlying34 rfl IB.out ?_; refine stop ?_)
      unfold Stop
      go_wp2_with (refine wpList_eql_row rfl _ _ _ rfl kA kB false rfl rfl hrc.out ?_; refine stop ?_)
      unfold Stop
      go_wp2_with (refine wpList_load_row rfl 42 _ rfl g6 rfl 42 (bytesL X) (0, 0) _ R6.out Tryd.underlying42 rfl IHA.out ?_; refine stop ?_)
      unfold Stop
      go_wp2_with (refine wpList_load_row rfl 42 _ rfl g7 rfl 42 (bytesL Y) (0, 0) _ R7.out Tryd.underlying42 rfl IHB.out ?_; refine stop ?_)
      unfold Stop
      go_wp2_with (refine wpList_bin_row rfl .neq 42 _ _ _ rfl (bytesL X) (bytesL Y) false rfl rfl hash_guard hnn.out ?_; refine stop ?_)
      unfold Stop
      go_wp2_with (go_at_call 22; refine stop ?_)
      refine (clash_tp T T N wc HTP.out (HT.out.later BL.out) HNL.out HML.out HTP.out.w8').mono ?_
      rintro e wd ⟨bb, rfl, hbb, hbc⟩
      obtain rfl := hbb HCN.out
      go_wp2
      go_ret
      exact ⟨rfl, BL.out.trans (hbc.mono BL.out.size)⟩
    · rw [decide_eq_false hhe] at hin hnn
      generalize (cutR a).cs = kA at *
      generalize (cutR b).cs = kB at *
      clear hhe hab HCL
      go_wp2_with (refine wpList_load_row rfl 34 _ rfl w.heap.size rfl 34 kA (0, 0) _ Q0.out Tryd.underlying34 rfl IA.out ?_; refine stop ?_)
      unfold Stop
      go_wp2_with (refine wpList_load_row rfl 34 _ rfl (w.heap.size + 1) rfl 34 kB (0, 0) _ Q1.out Tryd.underlying34 rfl IB.out ?_; refine stop ?_)
      unfold Stop
      go_wp2_with (refine wpList_eql_row rfl _ _ _ rfl kA kB false rfl rfl hrc.out ?_; refine stop ?_)
      unfold Stop
      go_wp2_with (refine wpList_load_row rfl 42 _ rfl g6 rfl 42 (bytesL X) (0, 0) _ R6.out Tryd.underlying42 rfl IHA.out ?_; refine stop ?_)
      unfold Stop
      go_wp2_with (refine wpList_load_row rfl 42 _ rfl g7 rfl 42 (bytesL Y) (0, 0) _ R7.out Tryd.underlying42 rfl IHB.out ?_; refine stop ?_)
      unfold Stop
      go_wp2_with (refine wpList_bin_row rfl .neq 42 _ _ _ rfl (bytesL X) (bytesL Y) true rfl rfl hash_guard hnn.out ?_; refine stop ?_)
      unfold Stop
      go_wp2
      go_ret
      exact ⟨rfl, BL.out⟩
end Go.Proofs.YtcahmldgkkcheaaDoor
