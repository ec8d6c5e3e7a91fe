
import Derived.Test.YtepohpniflmblaaDoorHiFo0
set_option maxRecDepth 100000
namespace Go.Proofs.YtepohpniflmblaaDoor
open Go.RowKit
set_option linter.unusedVariables false
set_option linter.unusedSimpArgs false
set_option maxHeartbeats 8000000 in
theorem hiFoPack_p14 : hiFoPack.p_p14 := by
  intro L a0 a1 a2 b w ht hlm c0 b8 bm pb cb iq1 hB HB HT HAA l0 m0 iq2 w0 w1 hb1 h0' m2 HLI l40 hli iq3 w3 T w4 cu T3 w5 R H32R w6 g9 g8 cur iq4 iq5 HTT N6 A nL HR iq6 iq7 iq8 HA e64 r i HI i0 i1 iL ha01 ha02 ha11 ha12 ha21 ha22 w7 pp cp P HPP lp0 lp1 bp w8 X w9 Y1 M1 wa gy b1 off1 hL HL iq9 iq10 iq11 iq12 iq13 iq14 iq15 iq16 iq17 iq18 iq19 iq20 iq21 iq22 iq23 iq24 iq25 iq26 iq27 iq28 iq29 iq30 iq31 iq32 iq33 iq34 iq35 iq36 iq37 iq38 iq39 iq40 iq41 iq42 iq43 iq44 iq45 iq46 iq47 iq48 iq49 iq50 iq51 iq52 iq53 iq54 iq55 iq56 iq57 iq58 iq59 iq60 iq61 iq62 iq63 iq64 iq65 iq66 iq67 iq68 iq69 iq70 iq71 iq72 iq73 iq74 iq75 iq76 iq77 iq78 iq79 iq80 iq81 iq82 iq83 iq84 iq85 iq86 iq87 iq88 iq89 iq90 iq91 iq92 iq93 iq94 iq95 iq96 iq97 iq98 iq99 iq100 iq101 iq102 iq103 iq104 iq105 iq106 iq107 iq108 iq109 iq110 iq111 iq112 iq113 iq114 iq115 iq116 iq117 iq118 iq119 iq120 iq121 iq122 iq123 iq124 iq125 iq126 iq127 iq128 iq129 iq130 iq131 iq132 iq133 iq134 iq135 iq136 iq137 iq138 iq139 iq140 iq141 iq142 iq143 iq144 iq145 iq146 iq147 iq148 iq149 iq150 iq151 iq152 iq153 iq154 iq155 iq156 iq157 iq158 iq159 iq160 iq161 iq162 iq163 iq164 iq165 iq166 iq167 iq168 iq169 iq170 iq171 iq172 iq173 iq174 iq175 iq176 iq177 iq178 iq179 iq180 iq181 iq182 iq183 iq184 iq185 iq186 iq187 iq188 iq189 iq190 iq191 iq192 iq193 iq194 iq195 iq196 iq197 iq198 iq199 iq200 iq201 iq202 iq203 iq204 iq205 iq206 iq207 iq208 iq209 iq210 iq211 iq212 iq213 iq214 iq215 iq216 iq217 iq218 iq219 iq220 iq221 iq222 iq223 iq224 iq225 iq226 iq227 iq228 iq229 iq230 iq231 iq232 iq233 iq234 iq235 iq236 iq237 iq238 iq239 iq240 iq241 iq242 iq243 iq244 iq245 iq246 iq247 iq248 iq249 iq250 iq251 wc u16 u23 u25 u27 u29 u30 u31 u32 u33 u34 u35 u36 u37 u38 u39 u40 u41 u42 u43 u44 u45 u46 u47 u48 u49 u50 u51 u52 u53 u54 u55 u56 u57 u58 u59 u60 u61 u62 u63 u64 u65 u66 u67 u68 u69 u70 u71 u72 u73 u74 u75 u76 u77 u78 u79 u80 u81 u82 u83 u84 u85 u86 u87 u88 u89 u90 u91 u92 u93 u94 u95 u96 u97 u98 u99 u100 u101 u102 u103 u104 u105 u106 u107 u108 u109 u110 u111 u112 u113 u114 u115 u116 u117 u118 u119 u120 u121 u122 u123 u124 u125 u126 u127 u128 u129 u130 u131 u132 u133 u134 u135 u136 u137 u138 u139 u140 u141 u142 u143 u144 u145 u146 u147 u148 u149 u150 u151 u152 u153 u154 u155 u156 u157 u158 u159 u160 u161 u162 u163 u164 u165 u166 u167 u168 u169 u170 u171 u172 u173 u174 u175 u176 u177 u178 u179 u180 u181 u182 u183 u184 u185 u186 u187 u188 u189 u190 u191 u192 u193 u194 u195 u196 u197 u198 u199 u200 u201 u202 u203 u204 u205 u206 u207 u208 u209 u210 u211 u212 u213 u214 u215 u216 u217 u218 u219 u220 u221 u222 u223 u224 u225 u226 u227 u228 u229 u230 u231 u232 u233 u234 u235 u236 u237 u238 u239 u240 u241 u242 u243 u244 u245 u246 u247 u248 u249 u250 u251 u252 u253 u254 u255 u256 u257 u258 u259 u260 u261 u262 u263 u264 u265 u266 u267 q1 ho HOPa HAI N9 hs HSa HC1 HM9 iq252 iq253 iq254 iq255 iq256 iq257 iq258 iq259
  generalize wc = wa at *
  have hia : i < A.length := by rw [HA.out.2]; exact HI.out
  obtain ⟨Ai, hAi⟩ : ∃ x, A.getD i [] = x := ⟨_, rfl⟩
  have h3i : H32 Ai := by rw [← hAi]; exact getD_32 HA.out.1 hia
  have lAi : (Tryd.prog.info? 28).map (·.size) = some (bytesL Ai).toList.length := by rw [Array.length_toList]; exact info_h32 h3i
  have lR : (Tryd.prog.info? 28).map (·.size) = some (bytesL R).toList.length := by rw [Array.length_toList]; exact info_h32 H32R.out
  have HAi : Hid (A.getD i [] = Ai ∧ H32 Ai) := ⟨hAi, h3i⟩
  have HSb := (show Hid _ from HSa.out.later (Below.refl _ _).drew)
  have HOPb : Hid (OwnH wa.drew bp (.slice pp P.length cp) P) := HOPa.out.later (Below.refl _ _).drew
  refine wp_region_D (fun k => Nat.blt k 12 || k == 16) (fun w' : World => w'.rangeAt g8 (i * 32) (bytesL Ai).toList ∧ Row w' g9 (bytesL R) 28) (by kernel_rfl) ?_
  clear HSa HOPa
  generalize wa.drew = wb at *
  have HSN : Hid (∀ wn, Below wb.heap.size wb wn → wn.rangeAt g8 (i * 32) (bytesL Ai).toList ∧ Row wn g9 (bytesL R) 28) := fun wn hb => ⟨by rw [← HAi.out.1]; exact hs_range (HSb.out.later hb).hA (by rw [HA.out.2]; exact HI.out), (HSb.out.later hb).rR⟩
  have hS := HSN.out wb (Below.refl _ _)
  clear hia hAi h3i
  refine' wpAnyD_take (i := 0) (v := _) rfl (by kernel_rfl) (by kernel_rfl) (by kernel_rfl) (by kernel_rfl) (fun _ _ _ h => h) (Or.inl ⟨by rfl, ?hy1⟩) hS ?re1
  case hy1 => (intro w hSw; (try dsimp only at hSw); go_simp; (try with_reducible rfl))
  simp only [Act.put, List.setIfInBounds_toArray, List.set_cons_zero, List.set_cons_succ]
  refine' wpAnyD_take (i := 1) (v := _) rfl (by kernel_rfl) (by kernel_rfl) (by kernel_rfl) (by kernel_rfl) (fun _ _ _ h => h) (Or.inl ⟨by rfl, ?hy2⟩) hS ?re2
  case hy2 => (intro w hSw; (try dsimp only at hSw); go_simp; (try with_reducible rfl))
  simp only [Act.put, List.setIfInBounds_toArray, List.set_cons_zero, List.set_cons_succ]
  refine' wpAnyD_take (i := 2) (v := _) rfl (by kernel_rfl) (by kernel_rfl) (by kernel_rfl) (by kernel_rfl) (fun _ _ _ h => h) (Or.inl ⟨by rfl, ?hy3⟩) hS ?re3
  case hy3 => (intro w hSw; (try dsimp only at hSw); go_simp; (try with_reducible rfl))
  simp only [Act.put, List.setIfInBounds_toArray, List.set_cons_zero, List.set_cons_succ]
  refine wpAnyD_take (i := 3) rfl (by kernel_rfl) (by kernel_rfl) (by kernel_rfl) (by kernel_rfl) (fun _ _ _ h => h) (yieldsIf_load_mid (by rfl) 28 _ rfl g8 (i * 32) rfl (bytesL Ai).toList _ (fun w' hw' => hw'.1) Tryd.underlying28 rfl lAi) hS ?_
  simp only [Act.put, List.setIfInBounds_toArray, List.set_cons_zero, List.set_cons_succ]
  refine' wpAnyD_take (i := 4) (v := _) rfl (by kernel_rfl) (by kernel_rfl) (by kernel_rfl) (by kernel_rfl) (fun _ _ _ h => h) (Or.inl ⟨by rfl, ?hy4⟩) hS ?re4
  case hy4 => (intro w hSw; (try dsimp only at hSw); go_simp; (try with_reducible rfl))
  simp only [Act.put, List.setIfInBounds_toArray, List.set_cons_zero, List.set_cons_succ]
  refine' wpAnyD_take (i := 5) (v := _) rfl (by kernel_rfl) (by kernel_rfl) (by kernel_rfl) (by kernel_rfl) (fun _ _ _ h => h) (Or.inl ⟨by rfl, ?hy5⟩) hS ?re5
  case hy5 => (intro w hSw; (try dsimp only at hSw); go_simp; (try with_reducible rfl))
  simp only [Act.put, List.setIfInBounds_toArray, List.set_cons_zero, List.set_cons_succ]
  refine' wpAnyD_take (i := 6) (v := _) rfl (by kernel_rfl) (by kernel_rfl) (by kernel_rfl) (by kernel_rfl) (fun _ _ _ h => h) (Or.inl ⟨by rfl, ?hy6⟩) hS ?re6
  case hy6 => (intro w hSw; (try dsimp only at hSw); go_simp; (try with_reducible rfl))
  simp only [Act.put, List.setIfInBounds_toArray, List.set_cons_zero, List.set_cons_succ]
  refine' wpAnyD_take (i := 7) (v := _) rfl (by kernel_rfl) (by kernel_rfl) (by kernel_rfl) (by kernel_rfl) (fun _ _ _ h => h) (Or.inl ⟨by rfl, ?hy7⟩) hS ?re7
  case hy7 => (intro w hSw; (try dsimp only at hSw); go_simp; (try with_reducible rfl))
  simp only [Act.put, List.setIfInBounds_toArray, List.set_cons_zero, List.set_cons_succ]
  refine wpAnyD_take (i := 9) rfl (by kernel_rfl) (by kernel_rfl) (by kernel_rfl) (by kernel_rfl) (fun _ _ _ h => h) (yieldsIf_load_mid (by rfl) 28 _ rfl g9 0 rfl (bytesL R).toList _ (fun w' hw' => row_range0 hw'.2) Tryd.underlying28 rfl lR) hS ?_
  simp only [Act.put, List.setIfInBounds_toArray, List.set_cons_zero, List.set_cons_succ]
  rw [Array.toArray_toList, Array.toArray_toList]
  clear lAi lR hS
  obtain ⟨wd, hwd⟩ : ∃ wd, wb = wd := ⟨_, rfl⟩
  have hbw : Below wb.heap.size wb wd := by rw [← hwd]; exact Below.refl _ _
  have hsR : (bytesL R).size = 32 := by rw [bytesL_size, H32R.out.1]
  rw [hwd]
  clear hwd
  refine wpAnyD_all (rs := [8, 10, 16]) (by kernel_rfl) (by simp) ?_
  refine AllD.cons (i := 8) rfl (by rfl) (fun K hK => ?_) ?_
  · skip
    obtain ⟨v8, wn, run8, own8, bl8⟩ := append_hs wd bp _ P (HOPb.out.later hbw) HPP.out.2.1 (by have := HPP.out.2.2.2; omega)
    refine Lib.wp_append_run _ _ _ _ _ rfl _ _ rfl rfl _ _ run8 ?_
    have hne16 : ∀ gx, gx < wd.heap.size → v8.ownBlock = some gx → False := fun gx h e => absurd (own8.lt gx e).1 (by omega)
    try replace hne16 := hne16 g16 r16.lt
    have hO8 : OwnH wn wb.heap.size v8 P := own8.base hbw.size
    try replace r10 := r10.later bl8
    try replace r16 := r16.later bl8
    replace hbw := hbw.trans (bl8.mono hbw.size)
    have hSn := HSN.out wn hbw
    clear run8 own8 bl8
    refine hK.out _ _ (fun _ => hSn) ?_
    clear hK K hSn
    obtain ⟨wd, rfl⟩ : ∃ wx, wx = wn := ⟨_, rfl⟩
    try simp only [Act.put, List.setIfInBounds_toArray, List.set_cons_zero, List.set_cons_succ]
    refine wpAnyD_all (rs := [10, 16]) (by kernel_rfl) (by simp) ?_
    refine AllD.cons (i := 10) rfl (by rfl) (fun K hK => ?_) ?_
    · skip
      go_simp
      rw [lay_all _ (bytesL R) 32 hsR rfl]
      have r10 := Row.new wd (bytesL R) 28 rfl
      try replace hO8 := hO8.later (below1 wd (.cells (bytesL R) 28))
      try replace r16 := r16.later (below1 wd (.cells (bytesL R) 28))
      replace hbw := chainA hbw (.cells (bytesL R) 28)
      have hSn := HSN.out _ hbw
      generalize wd.alloc (.cells (bytesL R) 28) = wn at *
      generalize wd.heap.size = g10 at *
      try clear wd
      refine hK.out _ _ (fun _ => hSn) ?_
      clear hK K hSn
      obtain ⟨wd, rfl⟩ : ∃ wx, wx = wn := ⟨_, rfl⟩
      try simp only [Act.put, List.setIfInBounds_toArray, List.set_cons_zero, List.set_cons_succ]
      refine wpAnyD_all (rs := [11, 16]) (by kernel_rfl) (by simp) ?_
      refine AllD.cons (i := 11) rfl (by rfl) (fun K hK => ?_) ?_
      · skip
        obtain ⟨v11, wn, run11, own11, gr11⟩ := append_row1 wd wb.heap.size v8 P R hO8 H32R.out g10 r10 (by have := HPP.out.2.2.2; omega) hbw.size
        refine Lib.wp_append_run _ _ _ _ _ rfl _ _ rfl rfl _ _ run11 ?_
        have hO11 : OwnH wn wb.heap.size v11 (P ++ [R]) := own11
        try replace r16 : Row wn g16 (bytesL (List.replicate 32 0)) 28 := (gr11.block g16 r16.lt (fun e => hne16 e.symm)).trans r16
        replace hbw := below_grown hbw hbw.size gr11 (fun j hj => (hO8.lt j hj).1)
        have hSn := HSN.out wn hbw
        clear run11 own11 gr11 hO8 r10
        try clear hne16
        refine hK.out _ _ (fun _ => hSn) ?_
        clear hK K hSn
        obtain ⟨wd, rfl⟩ : ∃ wx, wx = wn := ⟨_, rfl⟩
        try simp only [Act.put, List.setIfInBounds_toArray, List.set_cons_zero, List.set_cons_succ]
        refine wpAnyD_all (rs := [12, 16]) (by kernel_rfl) (by simp) ?_
        refine AllD.cons (i := 12) rfl (by rfl) (fun K hK => ?_) ?_
        · skip
          go_simp
          have hPR : ∀ z ∈ P ++ [R], H32 z := by
            intro z hz
            rcases List.mem_append.1 hz with h | h
            · exact HPP.out.2.1 z h
            · rw [List.mem_singleton] at h; exact h ▸ H32R.out
          refine (climb_len2 _ Ai i L.length _ (P ++ [R]) wd HI.out (by have := e64.out.2; omega) HAi.out.2 (hO11.hs hPR) (by rw [List.length_append, HPP.out.2.2.1, List.length_singleton]; omega) (HTT.out (HSb.out.later hbw).bw)).mono ?_
          rintro e wn ⟨Z, rfl, hz32, hbn⟩
          try replace r16 := r16.later hbn
          replace hbw := hbw.trans (hbn.mono hbw.size)
          have iZ := info_h32 hz32
          have zZ := z32_size hz32
          have oZ := bytesL_one Z
          refine hK.out _ _ (fun h => by cases h) ?_
          clear hK K hbn hPR hO11
          obtain ⟨wd, rfl⟩ : ∃ wx, wx = wn := ⟨_, rfl⟩
          try simp only [Act.put, List.setIfInBounds_toArray, List.set_cons_zero, List.set_cons_succ]
          refine' wpAnyD_free (i := 13) (v := _) rfl (by kernel_rfl) (by kernel_rfl) (by rfl) (by kernel_rfl) (fun _ _ _ h => h) (Or.inl ⟨by rfl, ?hy8⟩) ?re8
          case hy8 => (intro w hSw; clear hSw; go_simp; (try with_reducible rfl))
          simp only [Act.put, List.setIfInBounds_toArray, List.set_cons_zero, List.set_cons_succ]
          refine' wpAnyD_free (i := 14) (v := _) rfl (by kernel_rfl) (by kernel_rfl) (by rfl) (by kernel_rfl) (fun _ _ _ h => h) (Or.inl ⟨by rfl, ?hy9⟩) ?re9
          case hy9 => (intro w hSw; clear hSw; go_simp; (try with_reducible rfl))
          simp only [Act.put, List.setIfInBounds_toArray, List.set_cons_zero, List.set_cons_succ]
          refine' wpAnyD_free (i := 15) (v := _) rfl (by kernel_rfl) (by kernel_rfl) (by rfl) (by kernel_rfl) (fun _ _ _ h => h) (Or.inl ⟨by rfl, ?hy10⟩) ?re10
          case hy10 => (intro w hSw; clear hSw; go_simp; (try with_reducible rfl))
          simp only [Act.put, List.setIfInBounds_toArray, List.set_cons_zero, List.set_cons_succ]
          refine wpAnyD_only (i := 16) rfl (by kernel_rfl) (by rfl) (fun K hK => ?_)
          go_simp
          rw [zeros32b]
          have r16 := Row.new wd (bytesL (List.replicate 32 0)) 28 rfl
          have hg16 : wb.heap.size ≤ wd.heap.size := hbw.size
          try have hne16 : v8.ownBlock = some wd.heap.size → False := fun e => absurd (hO8.lt _ e).2 (by omega)
          try replace hO8 := hO8.later (below1 wd (.cells (bytesL (List.replicate 32 0)) 28))
          try replace hO11 := hO11.later (below1 wd (.cells (bytesL (List.replicate 32 0)) 28))
          try replace r10 := r10.later (below1 wd (.cells (bytesL (List.replicate 32 0)) 28))
          replace hbw := chainA hbw (.cells (bytesL (List.replicate 32 0)) 28)
          have hSn := HSN.out _ hbw
          generalize wd.alloc (.cells (bytesL (List.replicate 32 0)) 28) = wn at *
          generalize wd.heap.size = g16 at *
          try clear wd
          refine hK.out _ _ (fun _ => hSn) ?_
          clear hK K hSn
          obtain ⟨wd, rfl⟩ : ∃ wx, wx = wn := ⟨_, rfl⟩
          try simp only [Act.put, List.setIfInBounds_toArray, List.set_cons_zero, List.set_cons_succ]
          refine wpAnyD_only (i := 17) rfl (by kernel_rfl) (by rfl) (fun K hK => ?_)
          refine wp_store_row 28 _ _ rfl g16 (bytesL Z) rfl rfl 28 _ r16 iZ (by rw [bytesL_size, bytesL_size, hz32.1]; rfl) oZ ?_
          have hbx := Below.row hbw (bytesL Z) hg16
          refine hK.out _ _ (fun h => by cases h) ?_
          clear hK K
          try simp only [Act.put, List.setIfInBounds_toArray, List.set_cons_zero, List.set_cons_succ]
          refine' wpAnyD_free (i := 18) (v := _) rfl (by kernel_rfl) (by kernel_rfl) (by rfl) (by kernel_rfl) (fun _ _ _ h => h) (Or.inl ⟨by rfl, ?hy11⟩) ?re11
          case hy11 => (intro w hSw; clear hSw; go_simp; (try with_reducible rfl))
          simp only [Act.put, List.setIfInBounds_toArray, List.set_cons_zero, List.set_cons_succ]
          refine wpAnyD_done (by kernel_rfl) ?_ _
          go_wp2_with fail
          go_meet
          case rel => exact ⟨rfl, HSb.out.later hbx, HOPb.out.later hbx⟩
        refine AllD.cons (i := 16) rfl (by rfl) (fun K hK => ?_) AllD.nil
        go_simp
        rw [zeros32b]
        have r16 := Row.new wd (bytesL (List.replicate 32 0)) 28 rfl
        have hg16 : wb.heap.size ≤ wd.heap.size := hbw.size
        try have hne16 : v8.ownBlock = some wd.heap.size → False := fun e => absurd (hO8.lt _ e).2 (by omega)
        try replace hO8 := hO8.later (below1 wd (.cells (bytesL (List.replicate 32 0)) 28))
        try replace hO11 := hO11.later (below1 wd (.cells (bytesL (List.replicate 32 0)) 28))
        try replace r10 := r10.later (below1 wd (.cells (bytesL (List.replicate 32 0)) 28))
        replace hbw := chainA hbw (.cells (bytesL (List.replicate 32 0)) 28)
        have hSn := HSN.out _ hbw
        generalize wd.alloc (.cells (bytesL (List.replicate 32 0)) 28) = wn at *
        generalize wd.heap.size = g16 at *
        try clear wd
        refine hK.out _ _ (fun _ => hSn) ?_
        clear hK K hSn
        obtain ⟨wd, rfl⟩ : ∃ wx, wx = wn := ⟨_, rfl⟩
        try simp only [Act.put, List.setIfInBounds_toArray, List.set_cons_zero, List.set_cons_succ]
        refine wpAnyD_only (i := 12) rfl (by kernel_rfl) (by rfl) (fun K hK => ?_)
        go_simp
        have hPR : ∀ z ∈ P ++ [R], H32 z := by
          intro z hz
          rcases List.mem_append.1 hz with h | h
          · exact HPP.out.2.1 z h
          · rw [List.mem_singleton] at h; exact h ▸ H32R.out
        refine (climb_len2 _ Ai i L.length _ (P ++ [R]) wd HI.out (by have := e64.out.2; omega) HAi.out.2 (hO11.hs hPR) (by rw [List.length_append, HPP.out.2.2.1, List.length_singleton]; omega) (HTT.out (HSb.out.later hbw).bw)).mono ?_
        rintro e wn ⟨Z, rfl, hz32, hbn⟩
        try replace r16 := r16.later hbn
        replace hbw := hbw.trans (hbn.mono hbw.size)
        have iZ := info_h32 hz32
        have zZ := z32_size hz32
        have oZ := bytesL_one Z
        refine hK.out _ _ (fun h => by cases h) ?_
        clear hK K hbn hPR hO11
        obtain ⟨wd, rfl⟩ : ∃ wx, wx = wn := ⟨_, rfl⟩
        try simp only [Act.put, List.setIfInBounds_toArray, List.set_cons_zero, List.set_cons_succ]
        refine' wpAnyD_free (i := 13) (v := _) rfl (by kernel_rfl) (by kernel_rfl) (by rfl) (by kernel_rfl) (fun _ _ _ h => h) (Or.inl ⟨by rfl, ?hy12⟩) ?re12
        case hy12 => (intro w hSw; clear hSw; go_simp; (try with_reducible rfl))
        simp only [Act.put, List.setIfInBounds_toArray, List.set_cons_zero, List.set_cons_succ]
        refine' wpAnyD_free (i := 14) (v := _) rfl (by kernel_rfl) (by kernel_rfl) (by rfl) (by kernel_rfl) (fun _ _ _ h => h) (Or.inl ⟨by rfl, ?hy13⟩) ?re13
        case hy13 => (intro w hSw; clear hSw; go_simp; (try with_reducible rfl))
        simp only [Act.put, List.setIfInBounds_toArray, List.set_cons_zero, List.set_cons_succ]
        refine' wpAnyD_free (i := 15) (v := _) rfl (by kernel_rfl) (by kernel_rfl) (by rfl) (by kernel_rfl) (fun _ _ _ h => h) (Or.inl ⟨by rfl, ?hy14⟩) ?re14
        case hy14 => (intro w hSw; clear hSw; go_simp; (try with_reducible rfl))
        simp only [Act.put, List.setIfInBounds_toArray, List.set_cons_zero, List.set_cons_succ]
        refine wpAnyD_only (i := 17) rfl (by kernel_rfl) (by rfl) (fun K hK => ?_)
        refine wp_store_row 28 _ _ rfl g16 (bytesL Z) rfl rfl 28 _ r16 iZ (by rw [bytesL_size, bytesL_size, hz32.1]; rfl) oZ ?_
        have hbx := Below.row hbw (bytesL Z) hg16
        refine hK.out _ _ (fun h => by cases h) ?_
        clear hK K
        try simp only [Act.put, List.setIfInBounds_toArray, List.set_cons_zero, List.set_cons_succ]
        refine' wpAnyD_free (i := 18) (v := _) rfl (by kernel_rfl) (by kernel_rfl) (by rfl) (by kernel_rfl) (fun _ _ _ h => h) (Or.inl ⟨by rfl, ?hy15⟩) ?re15
        case hy15 => (intro w hSw; clear hSw; go_simp; (try with_reducible rfl))
        simp only [Act.put, List.setIfInBounds_toArray, List.set_cons_zero, List.set_cons_succ]
        refine wpAnyD_done (by kernel_rfl) ?_ _
        go_wp2_with fail
        go_meet
        case rel => exact ⟨rfl, HSb.out.later hbx, HOPb.out.later hbx⟩
      refine AllD.cons (i := 16) rfl (by rfl) (fun K hK => ?_) AllD.nil
      go_simp
      rw [zeros32b]
      have r16 := Row.new wd (bytesL (List.replicate 32 0)) 28 rfl
      have hg16 : wb.heap.size ≤ wd.heap.size := hbw.size
      try have hne16 : v8.ownBlock = some wd.heap.size → False := fun e => absurd (hO8.lt _ e).2 (by omega)
      try replace hO8 := hO8.later (below1 wd (.cells (bytesL (List.replicate 32 0)) 28))
      try replace hO11 := hO11.later (below1 wd (.cells (bytesL (List.replicate 32 0)) 28))
      try replace r10 := r10.later (below1 wd (.cells (bytesL (List.replicate 32 0)) 28))
      replace hbw := chainA hbw (.cells (bytesL (List.replicate 32 0)) 28)
      have hSn := HSN.out _ hbw
      generalize wd.alloc (.cells (bytesL (List.replicate 32 0)) 28) = wn at *
      generalize wd.heap.size = g16 at *
      try clear wd
      refine hK.out _ _ (fun _ => hSn) ?_
      clear hK K hSn
      obtain ⟨wd, rfl⟩ : ∃ wx, wx = wn := ⟨_, rfl⟩
      try simp only [Act.put, List.setIfInBounds_toArray, List.set_cons_zero, List.set_cons_succ]
      refine wpAnyD_only (i := 11) rfl (by kernel_rfl) (by rfl) (fun K hK => ?_)
      obtain ⟨v11, wn, run11, own11, gr11⟩ := append_row1 wd wb.heap.size v8 P R hO8 H32R.out g10 r10 (by have := HPP.out.2.2.2; omega) hbw.size
      refine Lib.wp_append_run _ _ _ _ _ rfl _ _ rfl rfl _ _ run11 ?_
      have hO11 : OwnH wn wb.heap.size v11 (P ++ [R]) := own11
      try replace r16 : Row wn g16 (bytesL (List.replicate 32 0)) 28 := (gr11.block g16 r16.lt (fun e => hne16 e.symm)).trans r16
      replace hbw := below_grown hbw hbw.size gr11 (fun j hj => (hO8.lt j hj).1)
      have hSn := HSN.out wn hbw
      clear run11 own11 gr11 hO8 r10
      try clear hne16
      refine hK.out _ _ (fun _ => hSn) ?_
      clear hK K hSn
      obtain ⟨wd, rfl⟩ : ∃ wx, wx = wn := ⟨_, rfl⟩
      try simp only [Act.put, List.setIfInBounds_toArray, List.set_cons_zero, List.set_cons_succ]
      refine wpAnyD_only (i := 12) rfl (by kernel_rfl) (by rfl) (fun K hK => ?_)
      go_simp
      have hPR : ∀ z ∈ P ++ [R], H32 z := by
        intro z hz
        rcases List.mem_append.1 hz with h | h
        · exact HPP.out.2.1 z h
        · rw [List.mem_singleton] at h; exact h ▸ H32R.out
      refine (climb_len2 _ Ai i L.length _ (P ++ [R]) wd HI.out (by have := e64.out.2; omega) HAi.out.2 (hO11.hs hPR) (by rw [List.length_append, HPP.out.2.2.1, List.length_singleton]; omega) (HTT.out (HSb.out.later hbw).bw)).mono ?_
      rintro e wn ⟨Z, rfl, hz32, hbn⟩
      try replace r16 := r16.later hbn
      replace hbw := hbw.trans (hbn.mono hbw.size)
      have iZ := info_h32 hz32
      have zZ := z32_size hz32
      have oZ := bytesL_one Z
      refine hK.out _ _ (fun h => by cases h) ?_
      clear hK K hbn hPR hO11
      obtain ⟨wd, rfl⟩ : ∃ wx, wx = wn := ⟨_, rfl⟩
      try simp only [Act.put, List.setIfInBounds_toArray, List.set_cons_zero, List.set_cons_succ]
      refine' wpAnyD_free (i := 13) (v := _) rfl (by kernel_rfl) (by kernel_rfl) (by rfl) (by kernel_rfl) (fun _ _ _ h => h) (Or.inl ⟨by rfl, ?hy16⟩) ?re16
      case hy16 => (intro w hSw; clear hSw; go_simp; (try with_reducible rfl))
      simp only [Act.put, List.setIfInBounds_toArray, List.set_cons_zero, List.set_cons_succ]
      refine' wpAnyD_free (i := 14) (v := _) rfl (by kernel_rfl) (by kernel_rfl) (by rfl) (by kernel_rfl) (fun _ _ _ h => h) (Or.inl ⟨by rfl, ?hy17⟩) ?re17
      case hy17 => (intro w hSw; clear hSw; go_simp; (try with_reducible rfl))
      simp only [Act.put, List.setIfInBounds_toArray, List.set_cons_zero, List.set_cons_succ]
      refine' wpAnyD_free (i := 15) (v := _) rfl (by kernel_rfl) (by kernel_rfl) (by rfl) (by kernel_rfl) (fun _ _ _ h => h) (Or.inl ⟨by rfl, ?hy18⟩) ?re18
      case hy18 => (intro w hSw; clear hSw; go_simp; (try with_reducible rfl))
      simp only [Act.put, List.setIfInBounds_toArray, List.set_cons_zero, List.set_cons_succ]
      refine wpAnyD_only (i := 17) rfl (by kernel_rfl) (by rfl) (fun K hK => ?_)
      refine wp_store_row 28 _ _ rfl g16 (bytesL Z) rfl rfl 28 _ r16 iZ (by rw [bytesL_size, bytesL_size, hz32.1]; rfl) oZ ?_
      have hbx := Below.row hbw (bytesL Z) hg16
      refine hK.out _ _ (fun h => by cases h) ?_
      clear hK K
      try simp only [Act.put, List.setIfInBounds_toArray, List.set_cons_zero, List.set_cons_succ]
      refine' wpAnyD_free (i := 18) (v := _) rfl (by kernel_rfl) (by kernel_rfl) (by rfl) (by kernel_rfl) (fun _ _ _ h => h) (Or.inl ⟨by rfl, ?hy19⟩) ?re19
      case hy19 => (intro w hSw; clear hSw; go_simp; (try with_reducible rfl))
      simp only [Act.put, List.setIfInBounds_toArray, List.set_cons_zero, List.set_cons_succ]
      refine wpAnyD_done (by kernel_rfl) ?_ _
      go_wp2_with fail
      go_meet
      case rel => exact ⟨rfl, HSb.out.later hbx, HOPb.out.later hbx⟩
    refine AllD.cons (i := 16) rfl (by rfl) (fun K hK => ?_) AllD.nil
    go_simp
    rw [zeros32b]
    have r16 := Row.new wd (bytesL (List.replicate 32 0)) 28 rfl
    have hg16 : wb.heap.size ≤ wd.heap.size := hbw.size
    try have hne16 : v8.ownBlock = some wd.heap.size → False := fun e => absurd (hO8.lt _ e).2 (by omega)
    try replace hO8 := hO8.later (below1 wd (.cells (bytesL (List.replicate 32 0)) 28))
    try replace hO11 := hO11.later (below1 wd (.cells (bytesL (List.replicate 32 0)) 28))
    try replace r10 := r10.later (below1 wd (.cells (bytesL (List.replicate 32 0)) 28))
    replace hbw := chainA hbw (.cells (bytesL (List.replicate 32 0)) 28)
    have hSn := HSN.out _ hbw
    generalize wd.alloc (.cells (bytesL (List.replicate 32 0)) 28) = wn at *
    generalize wd.heap.size = g16 at *
    try clear wd
    refine hK.out _ _ (fun _ => hSn) ?_
    clear hK K hSn
    obtain ⟨wd, rfl⟩ : ∃ wx, wx = wn := ⟨_, rfl⟩
    try simp only [Act.put, List.setIfInBounds_toArray, List.set_cons_zero, List.set_cons_succ]
    refine wpAnyD_only (i := 10) rfl (by kernel_rfl) (by rfl) (fun K hK => ?_)
    go_simp
    rw [lay_all _ (bytesL R) 32 hsR rfl]
    have r10 := Row.new wd (bytesL R) 28 rfl
    try replace hO8 := hO8.later (below1 wd (.cells (bytesL R) 28))
    try replace r16 := r16.later (below1 wd (.cells (bytesL R) 28))
    replace hbw := chainA hbw (.cells (bytesL R) 28)
    have hSn := HSN.out _ hbw
    generalize wd.alloc (.cells (bytesL R) 28) = wn at *
    generalize wd.heap.size = g10 at *
    try clear wd
    refine hK.out _ _ (fun _ => hSn) ?_
    clear hK K hSn
    obtain ⟨wd, rfl⟩ : ∃ wx, wx = wn := ⟨_, rfl⟩
    try simp only [Act.put, List.setIfInBounds_toArray, List.set_cons_zero, List.set_cons_succ]
    refine wpAnyD_only (i := 11) rfl (by kernel_rfl) (by rfl) (fun K hK => ?_)
    obtain ⟨v11, wn, run11, own11, gr11⟩ := append_row1 wd wb.heap.size v8 P R hO8 H32R.out g10 r10 (by have := HPP.out.2.2.2; omega) hbw.size
    refine Lib.wp_append_run _ _ _ _ _ rfl _ _ rfl rfl _ _ run11 ?_
    have hO11 : OwnH wn wb.heap.size v11 (P ++ [R]) := own11
    try replace r16 : Row wn g16 (bytesL (List.replicate 32 0)) 28 := (gr11.block g16 r16.lt (fun e => hne16 e.symm)).trans r16
    replace hbw := below_grown hbw hbw.size gr11 (fun j hj => (hO8.lt j hj).1)
    have hSn := HSN.out wn hbw
    clear run11 own11 gr11 hO8 r10
    try clear hne16
    refine hK.out _ _ (fun _ => hSn) ?_
    clear hK K hSn
    obtain ⟨wd, rfl⟩ : ∃ wx, wx = wn := ⟨_, rfl⟩
    try simp only [Act.put, List.setIfInBounds_toArray, List.set_cons_zero, List.set_cons_succ]
    refine wpAnyD_only (i := 12) rfl (by kernel_rfl) (by rfl) (fun K hK => ?_)
    go_simp
    have hPR : ∀ z ∈ P ++ [R], H32 z := by
      intro z hz
      rcases List.mem_append.1 hz with h | h
      · exact HPP.out.2.1 z h
      · rw [List.mem_singleton] at h; exact h ▸ H32R.out
    refine (climb_len2 _ Ai i L.length _ (P ++ [R]) wd HI.out (by have := e64.out.2; omega) HAi.out.2 (hO11.hs hPR) (by rw [List.length_append, HPP.out.2.2.1, List.length_singleton]; omega) (HTT.out (HSb.out.later hbw).bw)).mono ?_
    rintro e wn ⟨Z, rfl, hz32, hbn⟩
    try replace r16 := r16.later hbn
    replace hbw := hbw.trans (hbn.mono hbw.size)
    have iZ := info_h32 hz32
    have zZ := z32_size hz32
    have oZ := bytesL_one Z
    refine hK.out _ _ (fun h => by cases h) ?_
    clear hK K hbn hPR hO11
    obtain ⟨wd, rfl⟩ : ∃ wx, wx = wn := ⟨_, rfl⟩
    try simp only [Act.put, List.setIfInBounds_toArray, List.set_cons_zero, List.set_cons_succ]
    refine' wpAnyD_free (i := 13) (v := _) rfl (by kernel_rfl) (by kernel_rfl) (by rfl) (by kernel_rfl) (fun _ _ _ h => h) (Or.inl ⟨by rfl, ?hy20⟩) ?re20
    case hy20 => (intro w hSw; clear hSw; go_simp; (try with_reducible rfl))
    simp only [Act.put, List.setIfInBounds_toArray, List.set_cons_zero, List.set_cons_succ]
    refine' wpAnyD_free (i := 14) (v := _) rfl (by kernel_rfl) (by kernel_rfl) (by rfl) (by kernel_rfl) (fun _ _ _ h => h) (Or.inl ⟨by rfl, ?hy21⟩) ?re21
    case hy21 => (intro w hSw; clear hSw; go_simp; (try with_reducible rfl))
    simp only [Act.put, List.setIfInBounds_toArray, List.set_cons_zero, List.set_cons_succ]
    refine' wpAnyD_free (i := 15) (v := _) rfl (by kernel_rfl) (by kernel_rfl) (by rfl) (by kernel_rfl) (fun _ _ _ h => h) (Or.inl ⟨by rfl, ?hy22⟩) ?re22
    case hy22 => (intro w hSw; clear hSw; go_simp; (try with_reducible rfl))
    simp only [Act.put, List.setIfInBounds_toArray, List.set_cons_zero, List.set_cons_succ]
    refine wpAnyD_only (i := 17) rfl (by kernel_rfl) (by rfl) (fun K hK => ?_)
    refine wp_store_row 28 _ _ rfl g16 (bytesL Z) rfl rfl 28 _ r16 iZ (by rw [bytesL_size, bytesL_size, hz32.1]; rfl) oZ ?_
    have hbx := Below.row hbw (bytesL Z) hg16
    refine hK.out _ _ (fun h => by cases h) ?_
    clear hK K
    try simp only [Act.put, List.setIfInBounds_toArray, List.set_cons_zero, List.set_cons_succ]
    refine' wpAnyD_free (i := 18) (v := _) rfl (by kernel_rfl) (by kernel_rfl) (by rfl) (by kernel_rfl) (fun _ _ _ h => h) (Or.inl ⟨by rfl, ?hy23⟩) ?re23
    case hy23 => (intro w hSw; clear hSw; go_simp; (try with_reducible rfl))
    simp only [Act.put, List.setIfInBounds_toArray, List.set_cons_zero, List.set_cons_succ]
    refine wpAnyD_done (by kernel_rfl) ?_ _
    go_wp2_with fail
    go_meet
    case rel => exact ⟨rfl, HSb.out.later hbx, HOPb.out.later hbx⟩
  refine AllD.cons (i := 10) rfl (by rfl) (fun K hK => ?_) ?_
  · skip
    go_simp
    rw [lay_all _ (bytesL R) 32 hsR rfl]
    have r10 := Row.new wd (bytesL R) 28 rfl
    try replace hO8 := hO8.later (below1 wd (.cells (bytesL R) 28))
    try replace r16 := r16.later (below1 wd (.cells (bytesL R) 28))
    replace hbw := chainA hbw (.cells (bytesL R) 28)
    have hSn := HSN.out _ hbw
    generalize wd.alloc (.cells (bytesL R) 28) = wn at *
    generalize wd.heap.size = g10 at *
    try clear wd
    refine hK.out _ _ (fun _ => hSn) ?_
    clear hK K hSn
    obtain ⟨wd, rfl⟩ : ∃ wx, wx = wn := ⟨_, rfl⟩
    try simp only [Act.put, List.setIfInBounds_toArray, List.set_cons_zero, List.set_cons_succ]
    refine wpAnyD_all (rs := [8, 16]) (by kernel_rfl) (by simp) ?_
    refine AllD.cons (i := 8) rfl (by rfl) (fun K hK => ?_) ?_
    · skip
      obtain ⟨v8, wn, run8, own8, bl8⟩ := append_hs wd bp _ P (HOPb.out.later hbw) HPP.out.2.1 (by have := HPP.out.2.2.2; omega)
      refine Lib.wp_append_run _ _ _ _ _ rfl _ _ rfl rfl _ _ run8 ?_
      have hne16 : ∀ gx, gx < wd.heap.size → v8.ownBlock = some gx → False := fun gx h e => absurd (own8.lt gx e).1 (by omega)
      try replace hne16 := hne16 g16 r16.lt
      have hO8 : OwnH wn wb.heap.size v8 P := own8.base hbw.size
      try replace r10 := r10.later bl8
      try replace r16 := r16.later bl8
      replace hbw := hbw.trans (bl8.mono hbw.size)
      have hSn := HSN.out wn hbw
      clear run8 own8 bl8
      refine hK.out _ _ (fun _ => hSn) ?_
      clear hK K hSn
      obtain ⟨wd, rfl⟩ : ∃ wx, wx = wn := ⟨_, rfl⟩
      try simp only [Act.put, List.setIfInBounds_toArray, List.set_cons_zero, List.set_cons_succ]
      refine wpAnyD_all (rs := [11, 16]) (by kernel_rfl) (by simp) ?_
      refine AllD.cons (i := 11) rfl (by rfl) (fun K hK => ?_) ?_
      · skip
        obtain ⟨v11, wn, run11, own11, gr11⟩ := append_row1 wd wb.heap.size v8 P R hO8 H32R.out g10 r10 (by have := HPP.out.2.2.2; omega) hbw.size
        refine Lib.wp_append_run _ _ _ _ _ rfl _ _ rfl rfl _ _ run11 ?_
        have hO11 : OwnH wn wb.heap.size v11 (P ++ [R]) := own11
        try replace r16 : Row wn g16 (bytesL (List.replicate 32 0)) 28 := (gr11.block g16 r16.lt (fun e => hne16 e.symm)).trans r16
        replace hbw := below_grown hbw hbw.size gr11 (fun j hj => (hO8.lt j hj).1)
        have hSn := HSN.out wn hbw
        clear run11 own11 gr11 hO8 r10
        try clear hne16
        refine hK.out _ _ (fun _ => hSn) ?_
        clear hK K hSn
        obtain ⟨wd, rfl⟩ : ∃ wx, wx = wn := ⟨_, rfl⟩
        try simp only [Act.put, List.setIfInBounds_toArray, List.set_cons_zero, List.set_cons_succ]
        refine wpAnyD_all (rs := [12, 16]) (by kernel_rfl) (by simp) ?_
        refine AllD.cons (i := 12) rfl (by rfl) (fun K hK => ?_) ?_
        · skip
          go_simp
          have hPR : ∀ z ∈ P ++ [R], H32 z := by
            intro z hz
            rcases List.mem_append.1 hz with h | h
            · exact HPP.out.2.1 z h
            · rw [List.mem_singleton] at h; exact h ▸ H32R.out
          refine (climb_len2 _ Ai i L.length _ (P ++ [R]) wd HI.out (by have := e64.out.2; omega) HAi.out.2 (hO11.hs hPR) (by rw [List.length_append, HPP.out.2.2.1, List.length_singleton]; omega) (HTT.out (HSb.out.later hbw).bw)).mono ?_
          rintro e wn ⟨Z, rfl, hz32, hbn⟩
          try replace r16 := r16.later hbn
          replace hbw := hbw.trans (hbn.mono hbw.size)
          have iZ := info_h32 hz32
          have zZ := z32_size hz32
          have oZ := bytesL_one Z
          refine hK.out _ _ (fun h => by cases h) ?_
          clear hK K hbn hPR hO11
          obtain ⟨wd, rfl⟩ : ∃ wx, wx = wn := ⟨_, rfl⟩
          try simp only [Act.put, List.setIfInBounds_toArray, List.set_cons_zero, List.set_cons_succ]
          refine' wpAnyD_free (i := 13) (v := _) rfl (by kernel_rfl) (by kernel_rfl) (by rfl) (by kernel_rfl) (fun _ _ _ h => h) (Or.inl ⟨by rfl, ?hy24⟩) ?re24
          case hy24 => (intro w hSw; clear hSw; go_simp; (try with_reducible rfl))
          simp only [Act.put, List.setIfInBounds_toArray, List.set_cons_zero, List.set_cons_succ]
          refine' wpAnyD_free (i := 14) (v := _) rfl (by kernel_rfl) (by kernel_rfl) (by rfl) (by kernel_rfl) (fun _ _ _ h => h) (Or.inl ⟨by rfl, ?hy25⟩) ?re25
          case hy25 => (intro w hSw; clear hSw; go_simp; (try with_reducible rfl))
          simp only [Act.put, List.setIfInBounds_toArray, List.set_cons_zero, List.set_cons_succ]
          refine' wpAnyD_free (i := 15) (v := _) rfl (by kernel_rfl) (by kernel_rfl) (by rfl) (by kernel_rfl) (fun _ _ _ h => h) (Or.inl ⟨by rfl, ?hy26⟩) ?re26
          case hy26 => (intro w hSw; clear hSw; go_simp; (try with_reducible rfl))
          simp only [Act.put, List.setIfInBounds_toArray, List.set_cons_zero, List.set_cons_succ]
          refine wpAnyD_only (i := 16) rfl (by kernel_rfl) (by rfl) (fun K hK => ?_)
          go_simp
          rw [zeros32b]
          have r16 := Row.new wd (bytesL (List.replicate 32 0)) 28 rfl
          have hg16 : wb.heap.size ≤ wd.heap.size := hbw.size
          try have hne16 : v8.ownBlock = some wd.heap.size → False := fun e => absurd (hO8.lt _ e).2 (by omega)
          try replace hO8 := hO8.later (below1 wd (.cells (bytesL (List.replicate 32 0)) 28))
          try replace hO11 := hO11.later (below1 wd (.cells (bytesL (List.replicate 32 0)) 28))
          try replace r10 := r10.later (below1 wd (.cells (bytesL (List.replicate 32 0)) 28))
          replace hbw := chainA hbw (.cells (bytesL (List.replicate 32 0)) 28)
          have hSn := HSN.out _ hbw
          generalize wd.alloc (.cells (bytesL (List.replicate 32 0)) 28) = wn at *
          generalize wd.heap.size = g16 at *
          try clear wd
          refine hK.out _ _ (fun _ => hSn) ?_
          clear hK K hSn
          obtain ⟨wd, rfl⟩ : ∃ wx, wx = wn := ⟨_, rfl⟩
          try simp only [Act.put, List.setIfInBounds_toArray, List.set_cons_zero, List.set_cons_succ]
          refine wpAnyD_only (i := 17) rfl (by kernel_rfl) (by rfl) (fun K hK => ?_)
          refine wp_store_row 28 _ _ rfl g16 (bytesL Z) rfl rfl 28 _ r16 iZ (by rw [bytesL_size, bytesL_size, hz32.1]; rfl) oZ ?_
          have hbx := Below.row hbw (bytesL Z) hg16
          refine hK.out _ _ (fun h => by cases h) ?_
          clear hK K
          try simp only [Act.put, List.setIfInBounds_toArray, List.set_cons_zero, List.set_cons_succ]
          refine' wpAnyD_free (i := 18) (v := _) rfl (by kernel_rfl) (by kernel_rfl) (by rfl) (by kernel_rfl) (fun _ _ _ h => h) (Or.inl ⟨by rfl, ?hy27⟩) ?re27
          case hy27 => (intro w hSw; clear hSw; go_simp; (try with_reducible rfl))
          simp only [Act.put, List.setIfInBounds_toArray, List.set_cons_zero, List.set_cons_succ]
          refine wpAnyD_done (by kernel_rfl) ?_ _
          go_wp2_with fail
          go_meet
          case rel => exact ⟨rfl, HSb.out.later hbx, HOPb.out.later hbx⟩
        refine AllD.cons (i := 16) rfl (by rfl) (fun K hK => ?_) AllD.nil
        go_simp
        rw [zeros32b]
        have r16 := Row.new wd (bytesL (List.replicate 32 0)) 28 rfl
        have hg16 : wb.heap.size ≤ wd.heap.size := hbw.size
        try have hne16 : v8.ownBlock = some wd.heap.size → False := fun e => absurd (hO8.lt _ e).2 (by omega)
        try replace hO8 := hO8.later (below1 wd (.cells (bytesL (List.replicate 32 0)) 28))
        try replace hO11 := hO11.later (below1 wd (.cells (bytesL (List.replicate 32 0)) 28))
        try replace r10 := r10.later (below1 wd (.cells (bytesL (List.replicate 32 0)) 28))
        replace hbw := chainA hbw (.cells (bytesL (List.replicate 32 0)) 28)
        have hSn := HSN.out _ hbw
        generalize wd.alloc (.cells (bytesL (List.replicate 32 0)) 28) = wn at *
        generalize wd.heap.size = g16 at *
        try clear wd
        refine hK.out _ _ (fun _ => hSn) ?_
        clear hK K hSn
        obtain ⟨wd, rfl⟩ : ∃ wx, wx = wn := ⟨_, rfl⟩
        try simp only [Act.put, List.setIfInBounds_toArray, List.set_cons_zero, List.set_cons_succ]
        refine wpAnyD_only (i := 12) rfl (by kernel_rfl) (by rfl) (fun K hK => ?_)
        go_simp
        have hPR : ∀ z ∈ P ++ [R], H32 z := by
          intro z hz
          rcases List.mem_append.1 hz with h | h
          · exact HPP.out.2.1 z h
          · rw [List.mem_singleton] at h; exact h ▸ H32R.out
        refine (climb_len2 _ Ai i L.length _ (P ++ [R]) wd HI.out (by have := e64.out.2; omega) HAi.out.2 (hO11.hs hPR) (by rw [List.length_append, HPP.out.2.2.1, List.length_singleton]; omega) (HTT.out (HSb.out.later hbw).bw)).mono ?_
        rintro e wn ⟨Z, rfl, hz32, hbn⟩
        try replace r16 := r16.later hbn
        replace hbw := hbw.trans (hbn.mono hbw.size)
        have iZ := info_h32 hz32
        have zZ := z32_size hz32
        have oZ := bytesL_one Z
        refine hK.out _ _ (fun h => by cases h) ?_
        clear hK K hbn hPR hO11
        obtain ⟨wd, rfl⟩ : ∃ wx, wx = wn := ⟨_, rfl⟩
        try simp only [Act.put, List.setIfInBounds_toArray, List.set_cons_zero, List.set_cons_succ]
        refine' wpAnyD_free (i := 13) (v := _) rfl (by kernel_rfl) (by kernel_rfl) (by rfl) (by kernel_rfl) (fun _ _ _ h => h) (Or.inl ⟨by rfl, ?hy28⟩) ?re28
        case hy28 => (intro w hSw; clear hSw; go_simp; (try with_reducible rfl))
        simp only [Act.put, List.setIfInBounds_toArray, List.set_cons_zero, List.set_cons_succ]
        refine' wpAnyD_free (i := 14) (v := _) rfl (by kernel_rfl) (by kernel_rfl) (by rfl) (by kernel_rfl) (fun _ _ _ h => h) (Or.inl ⟨by rfl, ?hy29⟩) ?re29
        case hy29 => (intro w hSw; clear hSw; go_simp; (try with_reducible rfl))
        simp only [Act.put, List.setIfInBounds_toArray, List.set_cons_zero, List.set_cons_succ]
        refine' wpAnyD_free (i := 15) (v := _) rfl (by kernel_rfl) (by kernel_rfl) (by rfl) (by kernel_rfl) (fun _ _ _ h => h) (Or.inl ⟨by rfl, ?hy30⟩) ?re30
        case hy30 => (intro w hSw; clear hSw; go_simp; (try with_reducible rfl))
        simp only [Act.put, List.setIfInBounds_toArray, List.set_cons_zero, List.set_cons_succ]
        refine wpAnyD_only (i := 17) rfl (by kernel_rfl) (by rfl) (fun K hK => ?_)
        refine wp_store_row 28 _ _ rfl g16 (bytesL Z) rfl rfl 28 _ r16 iZ (by rw [bytesL_size, bytesL_size, hz32.1]; rfl) oZ ?_
        have hbx := Below.row hbw (bytesL Z) hg16
        refine hK.out _ _ (fun h => by cases h) ?_
        clear hK K
        try simp only [Act.put, List.setIfInBounds_toArray, List.set_cons_zero, List.set_cons_succ]
        refine' wpAnyD_free (i := 18) (v := _) rfl (by kernel_rfl) (by kernel_rfl) (by rfl) (by kernel_rfl) (fun _ _ _ h => h) (Or.inl ⟨by rfl, ?hy31⟩) ?re31
        case hy31 => (intro w hSw; clear hSw; go_simp; (try with_reducible rfl))
        simp only [Act.put, List.setIfInBounds_toArray, List.set_cons_zero, List.set_cons_succ]
        refine wpAnyD_done (by kernel_rfl) ?_ _
        go_wp2_with fail
        go_meet
        case rel => exact ⟨rfl, HSb.out.later hbx, HOPb.out.later hbx⟩
      refine AllD.cons (i := 16) rfl (by rfl) (fun K hK => ?_) AllD.nil
      go_simp
      rw [zeros32b]
      have r16 := Row.new wd (bytesL (List.replicate 32 0)) 28 rfl
      have hg16 : wb.heap.size ≤ wd.heap.size := hbw.size
      try have hne16 : v8.ownBlock = some wd.heap.size → False := fun e => absurd (hO8.lt _ e).2 (by omega)
      try replace hO8 := hO8.later (below1 wd (.cells (bytesL (List.replicate 32 0)) 28))
      try replace hO11 := hO11.later (below1 wd (.cells (bytesL (List.replicate 32 0)) 28))
      try replace r10 := r10.later (below1 wd (.cells (bytesL (List.replicate 32 0)) 28))
      replace hbw := chainA hbw (.cells (bytesL (List.replicate 32 0)) 28)
      have hSn := HSN.out _ hbw
      generalize wd.alloc (.cells (bytesL (List.replicate 32 0)) 28) = wn at *
      generalize wd.heap.size = g16 at *
      try clear wd
      refine hK.out _ _ (fun _ => hSn) ?_
      clear hK K hSn
      obtain ⟨wd, rfl⟩ : ∃ wx, wx = wn := ⟨_, rfl⟩
      try simp only [Act.put, List.setIfInBounds_toArray, List.set_cons_zero, List.set_cons_succ]
      refine wpAnyD_only (i := 11) rfl (by kernel_rfl) (by rfl) (fun K hK => ?_)
      obtain ⟨v11, wn, run11, own11, gr11⟩ := append_row1 wd wb.heap.size v8 P R hO8 H32R.out g10 r10 (by have := HPP.out.2.2.2; omega) hbw.size
      refine Lib.wp_append_run _ _ _ _ _ rfl _ _ rfl rfl _ _ run11 ?_
      have hO11 : OwnH wn wb.heap.size v11 (P ++ [R]) := own11
      try replace r16 : Row wn g16 (bytesL (List.replicate 32 0)) 28 := (gr11.block g16 r16.lt (fun e => hne16 e.symm)).trans r16
      replace hbw := below_grown hbw hbw.size gr11 (fun j hj => (hO8.lt j hj).1)
      have hSn := HSN.out wn hbw
      clear run11 own11 gr11 hO8 r10
      try clear hne16
      refine hK.out _ _ (fun _ => hSn) ?_
      clear hK K hSn
      obtain ⟨wd, rfl⟩ : ∃ wx, wx = wn := ⟨_, rfl⟩
      try simp only [Act.put, List.setIfInBounds_toArray, List.set_cons_zero, List.set_cons_succ]
      refine wpAnyD_only (i := 12) rfl (by kernel_rfl) (by rfl) (fun K hK => ?_)
      go_simp
      have hPR : ∀ z ∈ P ++ [R], H32 z := by
        intro z hz
        rcases List.mem_append.1 hz with h | h
        · exact HPP.out.2.1 z h
        · rw [List.mem_singleton] at h; exact h ▸ H32R.out
      refine (climb_len2 _ Ai i L.length _ (P ++ [R]) wd HI.out (by have := e64.out.2; omega) HAi.out.2 (hO11.hs hPR) (by rw [List.length_append, HPP.out.2.2.1, List.length_singleton]; omega) (HTT.out (HSb.out.later hbw).bw)).mono ?_
      rintro e wn ⟨Z, rfl, hz32, hbn⟩
      try replace r16 := r16.later hbn
      replace hbw := hbw.trans (hbn.mono hbw.size)
      have iZ := info_h32 hz32
      have zZ := z32_size hz32
      have oZ := bytesL_one Z
      refine hK.out _ _ (fun h => by cases h) ?_
      clear hK K hbn hPR hO11
      obtain ⟨wd, rfl⟩ : ∃ wx, wx = wn := ⟨_, rfl⟩
      try simp only [Act.put, List.setIfInBounds_toArray, List.set_cons_zero, List.set_cons_succ]
      refine' wpAnyD_free (i := 13) (v := _) rfl (by kernel_rfl) (by kernel_rfl) (by rfl) (by kernel_rfl) (fun _ _ _ h => h) (Or.inl ⟨by rfl, ?hy32⟩) ?re32
      case hy32 => (intro w hSw; clear hSw; go_simp; (try with_reducible rfl))
      simp only [Act.put, List.setIfInBounds_toArray, List.set_cons_zero, List.set_cons_succ]
      refine' wpAnyD_free (i := 14) (v := _) rfl (by kernel_rfl) (by kernel_rfl) (by rfl) (by kernel_rfl) (fun _ _ _ h => h) (Or.inl ⟨by rfl, ?hy33⟩) ?re33
      case hy33 => (intro w hSw; clear hSw; go_simp; (try with_reducible rfl))
      simp only [Act.put, List.setIfInBounds_toArray, List.set_cons_zero, List.set_cons_succ]
      refine' wpAnyD_free (i := 15) (v := _) rfl (by kernel_rfl) (by kernel_rfl) (by rfl) (by kernel_rfl) (fun _ _ _ h => h) (Or.inl ⟨by rfl, ?hy34⟩) ?re34
      case hy34 => (intro w hSw; clear hSw; go_simp; (try with_reducible rfl))
      simp only [Act.put, List.setIfInBounds_toArray, List.set_cons_zero, List.set_cons_succ]
      refine wpAnyD_only (i := 17) rfl (by kernel_rfl) (by rfl) (fun K hK => ?_)
      refine wp_store_row 28 _ _ rfl g16 (bytesL Z) rfl rfl 28 _ r16 iZ (by rw [bytesL_size, bytesL_size, hz32.1]; rfl) oZ ?_
      have hbx := Below.row hbw (bytesL Z) hg16
      refine hK.out _ _ (fun h => by cases h) ?_
      clear hK K
      try simp only [Act.put, List.setIfInBounds_toArray, List.set_cons_zero, List.set_cons_succ]
      refine' wpAnyD_free (i := 18) (v := _) rfl (by kernel_rfl) (by kernel_rfl) (by rfl) (by kernel_rfl) (fun _ _ _ h => h) (Or.inl ⟨by rfl, ?hy35⟩) ?re35
      case hy35 => (intro w hSw; clear hSw; go_simp; (try with_reducible rfl))
      simp only [Act.put, List.setIfInBounds_toArray, List.set_cons_zero, List.set_cons_succ]
      refine wpAnyD_done (by kernel_rfl) ?_ _
      go_wp2_with fail
      go_meet
      case rel => exact ⟨rfl, HSb.out.later hbx, HOPb.out.later hbx⟩
    refine AllD.cons (i := 16) rfl (by rfl) (fun K hK => ?_) AllD.nil
    go_simp
    rw [zeros32b]
    have r16 := Row.new wd (bytesL (List.replicate 32 0)) 28 rfl
    have hg16 : wb.heap.size ≤ wd.heap.size := hbw.size
    try have hne16 : v8.ownBlock = some wd.heap.size → False := fun e => absurd (hO8.lt _ e).2 (by omega)
    try replace hO8 := hO8.later (below1 wd (.cells (bytesL (List.replicate 32 0)) 28))
    try replace hO11 := hO11.later (below1 wd (.cells (bytesL (List.replicate 32 0)) 28))
    try replace r10 := r10.later (below1 wd (.cells (bytesL (List.replicate 32 0)) 28))
    replace hbw := chainA hbw (.cells (bytesL (List.replicate 32 0)) 28)
    have hSn := HSN.out _ hbw
    generalize wd.alloc (.cells (bytesL (List.replicate 32 0)) 28) = wn at *
    generalize wd.heap.size = g16 at *
    try clear wd
    refine hK.out _ _ (fun _ => hSn) ?_
    clear hK K hSn
    obtain ⟨wd, rfl⟩ : ∃ wx, wx = wn := ⟨_, rfl⟩
    try simp only [Act.put, List.setIfInBounds_toArray, List.set_cons_zero, List.set_cons_succ]
    refine wpAnyD_only (i := 8) rfl (by kernel_rfl) (by rfl) (fun K hK => ?_)
    obtain ⟨v8, wn, run8, own8, bl8⟩ := append_hs wd bp _ P (HOPb.out.later hbw) HPP.out.2.1 (by have := HPP.out.2.2.2; omega)
    refine Lib.wp_append_run _ _ _ _ _ rfl _ _ rfl rfl _ _ run8 ?_
    have hne16 : ∀ gx, gx < wd.heap.size → v8.ownBlock = some gx → False := fun gx h e => absurd (own8.lt gx e).1 (by omega)
    try replace hne16 := hne16 g16 r16.lt
    have hO8 : OwnH wn wb.heap.size v8 P := own8.base hbw.size
    try replace r10 := r10.later bl8
    try replace r16 := r16.later bl8
    replace hbw := hbw.trans (bl8.mono hbw.size)
    have hSn := HSN.out wn hbw
    clear run8 own8 bl8
    refine hK.out _ _ (fun _ => hSn) ?_
    clear hK K hSn
    obtain ⟨wd, rfl⟩ : ∃ wx, wx = wn := ⟨_, rfl⟩
    try simp only [Act.put, List.setIfInBounds_toArray, List.set_cons_zero, List.set_cons_succ]
    refine wpAnyD_only (i := 11) rfl (by kernel_rfl) (by rfl) (fun K hK => ?_)
    obtain ⟨v11, wn, run11, own11, gr11⟩ := append_row1 wd wb.heap.size v8 P R hO8 H32R.out g10 r10 (by have := HPP.out.2.2.2; omega) hbw.size
    refine Lib.wp_append_run _ _ _ _ _ rfl _ _ rfl rfl _ _ run11 ?_
    have hO11 : OwnH wn wb.heap.size v11 (P ++ [R]) := own11
    try replace r16 : Row wn g16 (bytesL (List.replicate 32 0)) 28 := (gr11.block g16 r16.lt (fun e => hne16 e.symm)).trans r16
    replace hbw := below_grown hbw hbw.size gr11 (fun j hj => (hO8.lt j hj).1)
    have hSn := HSN.out wn hbw
    clear run11 own11 gr11 hO8 r10
    try clear hne16
    refine hK.out _ _ (fun _ => hSn) ?_
    clear hK K hSn
    obtain ⟨wd, rfl⟩ : ∃ wx, wx = wn := ⟨_, rfl⟩
    try simp only [Act.put, List.setIfInBounds_toArray, List.set_cons_zero, List.set_cons_succ]
    refine wpAnyD_only (i := 12) rfl (by kernel_rfl) (by rfl) (fun K hK => ?_)
    go_simp
    have hPR : ∀ z ∈ P ++ [R], H32 z := by
      intro z hz
      rcases List.mem_append.1 hz with h | h
      · exact HPP.out.2.1 z h
      · rw [List.mem_singleton] at h; exact h ▸ H32R.out
    refine (climb_len2 _ Ai i L.length _ (P ++ [R]) wd HI.out (by have := e64.out.2; omega) HAi.out.2 (hO11.hs hPR) (by rw [List.length_append, HPP.out.2.2.1, List.length_singleton]; omega) (HTT.out (HSb.out.later hbw).bw)).mono ?_
    rintro e wn ⟨Z, rfl, hz32, hbn⟩
    try replace r16 := r16.later hbn
    replace hbw := hbw.trans (hbn.mono hbw.size)
    have iZ := info_h32 hz32
    have zZ := z32_size hz32
    have oZ := bytesL_one Z
    refine hK.out _ _ (fun h => by cases h) ?_
    clear hK K hbn hPR hO11
    obtain ⟨wd, rfl⟩ : ∃ wx, wx = wn := ⟨_, rfl⟩
    try simp only [Act.put, List.setIfInBounds_toArray, List.set_cons_zero, List.set_cons_succ]
    refine' wpAnyD_free (i := 13) (v := _) rfl (by kernel_rfl) (by kernel_rfl) (by rfl) (by kernel_rfl) (fun _ _ _ h => h) (Or.inl ⟨by rfl, ?hy36⟩) ?re36
    case hy36 => (intro w hSw; clear hSw; go_simp; (try with_reducible rfl))
    simp only [Act.put, List.setIfInBounds_toArray, List.set_cons_zero, List.set_cons_succ]
    refine' wpAnyD_free (i := 14) (v := _) rfl (by kernel_rfl) (by kernel_rfl) (by rfl) (by kernel_rfl) (fun _ _ _ h => h) (Or.inl ⟨by rfl, ?hy37⟩) ?re37
    case hy37 => (intro w hSw; clear hSw; go_simp; (try with_reducible rfl))
    simp only [Act.put, List.setIfInBounds_toArray, List.set_cons_zero, List.set_cons_succ]
    refine' wpAnyD_free (i := 15) (v := _) rfl (by kernel_rfl) (by kernel_rfl) (by rfl) (by kernel_rfl) (fun _ _ _ h => h) (Or.inl ⟨by rfl, ?hy38⟩) ?re38
    case hy38 => (intro w hSw; clear hSw; go_simp; (try with_reducible rfl))
    simp only [Act.put, List.setIfInBounds_toArray, List.set_cons_zero, List.set_cons_succ]
    refine wpAnyD_only (i := 17) rfl (by kernel_rfl) (by rfl) (fun K hK => ?_)
    refine wp_store_row 28 _ _ rfl g16 (bytesL Z) rfl rfl 28 _ r16 iZ (by rw [bytesL_size, bytesL_size, hz32.1]; rfl) oZ ?_
    have hbx := Below.row hbw (bytesL Z) hg16
    refine hK.out _ _ (fun h => by cases h) ?_
    clear hK K
    try simp only [Act.put, List.setIfInBounds_toArray, List.set_cons_zero, List.set_cons_succ]
    refine' wpAnyD_free (i := 18) (v := _) rfl (by kernel_rfl) (by kernel_rfl) (by rfl) (by kernel_rfl) (fun _ _ _ h => h) (Or.inl ⟨by rfl, ?hy39⟩) ?re39
    case hy39 => (intro w hSw; clear hSw; go_simp; (try with_reducible rfl))
    simp only [Act.put, List.setIfInBounds_toArray, List.set_cons_zero, List.set_cons_succ]
    refine wpAnyD_done (by kernel_rfl) ?_ _
    go_wp2_with fail
    go_meet
    case rel => exact ⟨rfl, HSb.out.later hbx, HOPb.out.later hbx⟩
  refine AllD.cons (i := 16) rfl (by rfl) (fun K hK => ?_) AllD.nil
  go_simp
  rw [zeros32b]
  have r16 := Row.new wd (bytesL (List.replicate 32 0)) 28 rfl
  have hg16 : wb.heap.size ≤ wd.heap.size := hbw.size
  try have hne16 : v8.ownBlock = some wd.heap.size → False := fun e => absurd (hO8.lt _ e).2 (by omega)
  try replace hO8 := hO8.later (below1 wd (.cells (bytesL (List.replicate 32 0)) 28))
  try replace hO11 := hO11.later (below1 wd (.cells (bytesL (List.replicate 32 0)) 28))
  try replace r10 := r10.later (below1 wd (.cells (bytesL (List.replicate 32 0)) 28))
  replace hbw := chainA hbw (.cells (bytesL (List.replicate 32 0)) 28)
  have hSn := HSN.out _ hbw
  generalize wd.alloc (.cells (bytesL (List.replicate 32 0)) 28) = wn at *
  generalize wd.heap.size = g16 at *
  try clear wd
  refine hK.out _ _ (fun _ => hSn) ?_
  clear hK K hSn
  obtain ⟨wd, rfl⟩ : ∃ wx, wx = wn := ⟨_, rfl⟩
  try simp only [Act.put, List.setIfInBounds_toArray, List.set_cons_zero, List.set_cons_succ]
  refine wpAnyD_all (rs := [8, 10]) (by kernel_rfl) (by simp) ?_
  refine AllD.cons (i := 8) rfl (by rfl) (fun K hK => ?_) ?_
  · skip
    obtain ⟨v8, wn, run8, own8, bl8⟩ := append_hs wd bp _ P (HOPb.out.later hbw) HPP.out.2.1 (by have := HPP.out.2.2.2; omega)
    refine Lib.wp_append_run _ _ _ _ _ rfl _ _ rfl rfl _ _ run8 ?_
    have hne16 : ∀ gx, gx < wd.heap.size → v8.ownBlock = some gx → False := fun gx h e => absurd (own8.lt gx e).1 (by omega)
    try replace hne16 := hne16 g16 r16.lt
    have hO8 : OwnH wn wb.heap.size v8 P := own8.base hbw.size
    try replace r10 := r10.later bl8
    try replace r16 := r16.later bl8
    replace hbw := hbw.trans (bl8.mono hbw.size)
    have hSn := HSN.out wn hbw
    clear run8 own8 bl8
    refine hK.out _ _ (fun _ => hSn) ?_
    clear hK K hSn
    obtain ⟨wd, rfl⟩ : ∃ wx, wx = wn := ⟨_, rfl⟩
    try simp only [Act.put, List.setIfInBounds_toArray, List.set_cons_zero, List.set_cons_succ]
    refine wpAnyD_only (i := 10) rfl (by kernel_rfl) (by rfl) (fun K hK => ?_)
    go_simp
    rw [lay_all _ (bytesL R) 32 hsR rfl]
    have r10 := Row.new wd (bytesL R) 28 rfl
    try replace hO8 := hO8.later (below1 wd (.cells (bytesL R) 28))
    try replace r16 := r16.later (below1 wd (.cells (bytesL R) 28))
    replace hbw := chainA hbw (.cells (bytesL R) 28)
    have hSn := HSN.out _ hbw
    generalize wd.alloc (.cells (bytesL R) 28) = wn at *
    generalize wd.heap.size = g10 at *
    try clear wd
    refine hK.out _ _ (fun _ => hSn) ?_
    clear hK K hSn
    obtain ⟨wd, rfl⟩ : ∃ wx, wx = wn := ⟨_, rfl⟩
    try simp only [Act.put, List.setIfInBounds_toArray, List.set_cons_zero, List.set_cons_succ]
    refine wpAnyD_only (i := 11) rfl (by kernel_rfl) (by rfl) (fun K hK => ?_)
    obtain ⟨v11, wn, run11, own11, gr11⟩ := append_row1 wd wb.heap.size v8 P R hO8 H32R.out g10 r10 (by have := HPP.out.2.2.2; omega) hbw.size
    refine Lib.wp_append_run _ _ _ _ _ rfl _ _ rfl rfl _ _ run11 ?_
    have hO11 : OwnH wn wb.heap.size v11 (P ++ [R]) := own11
    try replace r16 : Row wn g16 (bytesL (List.replicate 32 0)) 28 := (gr11.block g16 r16.lt (fun e => hne16 e.symm)).trans r16
    replace hbw := below_grown hbw hbw.size gr11 (fun j hj => (hO8.lt j hj).1)
    have hSn := HSN.out wn hbw
    clear run11 own11 gr11 hO8 r10
    try clear hne16
    refine hK.out _ _ (fun _ => hSn) ?_
    clear hK K hSn
    obtain ⟨wd, rfl⟩ : ∃ wx, wx = wn := ⟨_, rfl⟩
    try simp only [Act.put, List.setIfInBounds_toArray, List.set_cons_zero, List.set_cons_succ]
    refine wpAnyD_only (i := 12) rfl (by kernel_rfl) (by rfl) (fun K hK => ?_)
    go_simp
    have hPR : ∀ z ∈ P ++ [R], H32 z := by
      intro z hz
      rcases List.mem_append.1 hz with h | h
      · exact HPP.out.2.1 z h
      · rw [List.mem_singleton] at h; exact h ▸ H32R.out
    refine (climb_len2 _ Ai i L.length _ (P ++ [R]) wd HI.out (by have := e64.out.2; omega) HAi.out.2 (hO11.hs hPR) (by rw [List.length_append, HPP.out.2.2.1, List.length_singleton]; omega) (HTT.out (HSb.out.later hbw).bw)).mono ?_
    rintro e wn ⟨Z, rfl, hz32, hbn⟩
    try replace r16 := r16.later hbn
    replace hbw := hbw.trans (hbn.mono hbw.size)
    have iZ := info_h32 hz32
    have zZ := z32_size hz32
    have oZ := bytesL_one Z
    refine hK.out _ _ (fun h => by cases h) ?_
    clear hK K hbn hPR hO11
    obtain ⟨wd, rfl⟩ : ∃ wx, wx = wn := ⟨_, rfl⟩
    try simp only [Act.put, List.setIfInBounds_toArray, List.set_cons_zero, List.set_cons_succ]
    refine' wpAnyD_free (i := 13) (v := _) rfl (by kernel_rfl) (by kernel_rfl) (by rfl) (by kernel_rfl) (fun _ _ _ h => h) (Or.inl ⟨by rfl, ?hy40⟩) ?re40
    case hy40 => (intro w hSw; clear hSw; go_simp; (try with_reducible rfl))
    simp only [Act.put, List.setIfInBounds_toArray, List.set_cons_zero, List.set_cons_succ]
    refine' wpAnyD_free (i := 14) (v := _) rfl (by kernel_rfl) (by kernel_rfl) (by rfl) (by kernel_rfl) (fun _ _ _ h => h) (Or.inl ⟨by rfl, ?hy41⟩) ?re41
    case hy41 => (intro w hSw; clear hSw; go_simp; (try with_reducible rfl))
    simp only [Act.put, List.setIfInBounds_toArray, List.set_cons_zero, List.set_cons_succ]
    refine' wpAnyD_free (i := 15) (v := _) rfl (by kernel_rfl) (by kernel_rfl) (by rfl) (by kernel_rfl) (fun _ _ _ h => h) (Or.inl ⟨by rfl, ?hy42⟩) ?re42
    case hy42 => (intro w hSw; clear hSw; go_simp; (try with_reducible rfl))
    simp only [Act.put, List.setIfInBounds_toArray, List.set_cons_zero, List.set_cons_succ]
    refine wpAnyD_only (i := 17) rfl (by kernel_rfl) (by rfl) (fun K hK => ?_)
    refine wp_store_row 28 _ _ rfl g16 (bytesL Z) rfl rfl 28 _ r16 iZ (by rw [bytesL_size, bytesL_size, hz32.1]; rfl) oZ ?_
    have hbx := Below.row hbw (bytesL Z) hg16
    refine hK.out _ _ (fun h => by cases h) ?_
    clear hK K
    try simp only [Act.put, List.setIfInBounds_toArray, List.set_cons_zero, List.set_cons_succ]
    refine' wpAnyD_free (i := 18) (v := _) rfl (by kernel_rfl) (by kernel_rfl) (by rfl) (by kernel_rfl) (fun _ _ _ h => h) (Or.inl ⟨by rfl, ?hy43⟩) ?re43
    case hy43 => (intro w hSw; clear hSw; go_simp; (try with_reducible rfl))
    simp only [Act.put, List.setIfInBounds_toArray, List.set_cons_zero, List.set_cons_succ]
    refine wpAnyD_done (by kernel_rfl) ?_ _
    go_wp2_with fail
    go_meet
    case rel => exact ⟨rfl, HSb.out.later hbx, HOPb.out.later hbx⟩
  refine AllD.cons (i := 10) rfl (by rfl) (fun K hK => ?_) AllD.nil
  go_simp
  rw [lay_all _ (bytesL R) 32 hsR rfl]
  have r10 := Row.new wd (bytesL R) 28 rfl
  try replace hO8 := hO8.later (below1 wd (.cells (bytesL R) 28))
  try replace r16 := r16.later (below1 wd (.cells (bytesL R) 28))
  replace hbw := chainA hbw (.cells (bytesL R) 28)
  have hSn := HSN.out _ hbw
  generalize wd.alloc (.cells (bytesL R) 28) = wn at *
  generalize wd.heap.size = g10 at *
  try clear wd
  refine hK.out _ _ (fun _ => hSn) ?_
  clear hK K hSn
  obtain ⟨wd, rfl⟩ : ∃ wx, wx = wn := ⟨_, rfl⟩
  try simp only [Act.put, List.setIfInBounds_toArray, List.set_cons_zero, List.set_cons_succ]
  refine wpAnyD_only (i := 8) rfl (by kernel_rfl) (by rfl) (fun K hK => ?_)
  obtain ⟨v8, wn, run8, own8, bl8⟩ := append_hs wd bp _ P (HOPb.out.later hbw) HPP.out.2.1 (by have := HPP.out.2.2.2; omega)
  refine Lib.wp_append_run _ _ _ _ _ rfl _ _ rfl rfl _ _ run8 ?_
  have hne16 : ∀ gx, gx < wd.heap.size → v8.ownBlock = some gx → False := fun gx h e => absurd (own8.lt gx e).1 (by omega)
  try replace hne16 := hne16 g16 r16.lt
  have hO8 : OwnH wn wb.heap.size v8 P := own8.base hbw.size
  try replace r10 := r10.later bl8
  try replace r16 := r16.later bl8
  replace hbw := hbw.trans (bl8.mono hbw.size)
  have hSn := HSN.out wn hbw
  clear run8 own8 bl8
  refine hK.out _ _ (fun _ => hSn) ?_
  clear hK K hSn
  obtain ⟨wd, rfl⟩ : ∃ wx, wx = wn := ⟨_, rfl⟩
  try simp only [Act.put, List.setIfInBounds_toArray, List.set_cons_zero, List.set_cons_succ]
  refine wpAnyD_only (i := 11) rfl (by kernel_rfl) (by rfl) (fun K hK => ?_)
  obtain ⟨v11, wn, run11, own11, gr11⟩ := append_row1 wd wb.heap.size v8 P R hO8 H32R.out g10 r10 (by have := HPP.out.2.2.2; omega) hbw.size
  refine Lib.wp_append_run _ _ _ _ _ rfl _ _ rfl rfl _ _ run11 ?_
  have hO11 : OwnH wn wb.heap.size v11 (P ++ [R]) := own11
  try replace r16 : Row wn g16 (bytesL (List.replicate 32 0)) 28 := (gr11.block g16 r16.lt (fun e => hne16 e.symm)).trans r16
  replace hbw := below_grown hbw hbw.size gr11 (fun j hj => (hO8.lt j hj).1)
  have hSn := HSN.out wn hbw
  clear run11 own11 gr11 hO8 r10
  try clear hne16
  refine hK.out _ _ (fun _ => hSn) ?_
  clear hK K hSn
  obtain ⟨wd, rfl⟩ : ∃ wx, wx = wn := ⟨_, rfl⟩
  try simp only [Act.put, List.setIfInBounds_toArray, List.set_cons_zero, List.set_cons_succ]
  refine wpAnyD_only (i := 12) rfl (by kernel_rfl) (by rfl) (fun K hK => ?_)
  go_simp
  have hPR : ∀ z ∈ P ++ [R], H32 z := by
    intro z hz
    rcases List.mem_append.1 hz with h | h
    · exact HPP.out.2.1 z h
    · rw [List.mem_singleton] at h; exact h ▸ H32R.out
  refine (climb_len2 _ Ai i L.length _ (P ++ [R]) wd HI.out (by have := e64.out.2; omega) HAi.out.2 (hO11.hs hPR) (by rw [List.length_append, HPP.out.2.2.1, List.length_singleton]; omega) (HTT.out (HSb.out.later hbw).bw)).mono ?_
  rintro e wn ⟨Z, rfl, hz32, hbn⟩
  try replace r16 := r16.later hbn
  replace hbw := hbw.trans (hbn.mono hbw.size)
  have iZ := info_h32 hz32
  have zZ := z32_size hz32
  have oZ := bytesL_one Z
  refine hK.out _ _ (fun h => by cases h) ?_
  clear hK K hbn hPR hO11
  obtain ⟨wd, rfl⟩ : ∃ wx, wx = wn := ⟨_, rfl⟩
  try simp only [Act.put, List.setIfInBounds_toArray, List.set_cons_zero, List.set_cons_succ]
  refine' wpAnyD_free (i := 13) (v := _) rfl (by kernel_rfl) (by kernel_rfl) (by rfl) (by kernel_rfl) (fun _ _ _ h => h) (Or.inl ⟨by rfl, ?hy44⟩) ?re44
  case hy44 => (intro w hSw; clear hSw; go_simp; (try with_reducible rfl))
  simp only [Act.put, List.setIfInBounds_toArray, List.set_cons_zero, List.set_cons_succ]
  refine' wpAnyD_free (i := 14) (v := _) rfl (by kernel_rfl) (by kernel_rfl) (by rfl) (by kernel_rfl) (fun _ _ _ h => h) (Or.inl ⟨by rfl, ?hy45⟩) ?re45
  case hy45 => (intro w hSw; clear hSw; go_simp; (try with_reducible rfl))
  simp only [Act.put, List.setIfInBounds_toArray, List.set_cons_zero, List.set_cons_succ]
  refine' wpAnyD_free (i := 15) (v := _) rfl (by kernel_rfl) (by kernel_rfl) (by rfl) (by kernel_rfl) (fun _ _ _ h => h) (Or.inl ⟨by rfl, ?hy46⟩) ?re46
  case hy46 => (intro w hSw; clear hSw; go_simp; (try with_reducible rfl))
  simp only [Act.put, List.setIfInBounds_toArray, List.set_cons_zero, List.set_cons_succ]
  refine wpAnyD_only (i := 17) rfl (by kernel_rfl) (by rfl) (fun K hK => ?_)
  refine wp_store_row 28 _ _ rfl g16 (bytesL Z) rfl rfl 28 _ r16 iZ (by rw [bytesL_size, bytesL_size, hz32.1]; rfl) oZ ?_
  have hbx := Below.row hbw (bytesL Z) hg16
  refine hK.out _ _ (fun h => by cases h) ?_
  clear hK K
  try simp only [Act.put, List.setIfInBounds_toArray, List.set_cons_zero, List.set_cons_succ]
  refine' wpAnyD_free (i := 18) (v := _) rfl (by kernel_rfl) (by kernel_rfl) (by rfl) (by kernel_rfl) (fun _ _ _ h => h) (Or.inl ⟨by rfl, ?hy47⟩) ?re47
  case hy47 => (intro w hSw; clear hSw; go_simp; (try with_reducible rfl))
  simp only [Act.put, List.setIfInBounds_toArray, List.set_cons_zero, List.set_cons_succ]
  refine wpAnyD_done (by kernel_rfl) ?_ _
  go_wp2_with fail
  go_meet
  case rel => exact ⟨rfl, HSb.out.later hbx, HOPb.out.later hbx⟩
end Go.Proofs.YtepohpniflmblaaDoor
