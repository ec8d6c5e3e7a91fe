import Derived.Test.YtbbpihdebdknhaaDoorRfS0
namespace Go.Proofs.YtbbpihdebdknhaaDoor
open Go.RowKit
set_option maxHeartbeats 40000000 in
set_option maxRecDepth 100000 in
theorem rfSPack_l5 : rfSPack.p_l5 := by
  intro m w hw8 p c n hn hl hl0 hl1 iq1 w1 iq2 u1 v2 u2 B hw1 iq3 iq4 u34 u35 u36 u37 u38 u39 u40 vp iq5 iq6 hz64 v0 v1 HV P1 iq7 iq8 iq9 iq10 iq11 u41 u42 u43 u44 u45 u46 u47 u48 u49 u50 u51 u52 u53 vn vc P hp8 gm hcm HPN iq12 iq13 iq14 iq15 w4 gk ck w5 gh ch hmk hkh hwm nb q0 q1 HNB HF2 c0 iq16 iq17 iq18 u9 u10 iq19 iq20 iq21 u14 u15 iq22 iq23 iq24 iq25 iq26 iq27 u22 u56 u57 u58 u59 u60 u61 u62 iq28 iq29 iq30 iq31 iq32 iq33 iq34 iq35 iq36 iq37 iq38 iq39 iq40 iq41 iq42 iq43 iq44 iq45 iq46 iq47 iq48 iq49 iq50 iq51 iq52 iq53 iq54 iq55 iq56 iq57 iq58 iq59 iq60 iq61 iq62 iq63 iq64 iq65 iq66 iq67 iq68 iq69 iq70 iq71 iq72 iq73 iq74 iq75 iq76 iq77 iq78 iq79 iq80 iq81 iq82 iq83 iq84 iq85 iq86 iq87 iq88 iq89 iq90 iq91 iq92 iq93 iq94 iq95 iq96 iq97 iq98 iq99 iq100 iq101 iq102 iq103 iq104 iq105 iq106 iq107 iq108 iq109 iq110 iq111 iq112 iq113 iq114 iq115 iq116 iq117 iq118 iq119 iq120 iq121 iq122 u158 u159 iq123 iq124 iq125 iq126 iq127 iq128 iq129 iq130 iq131 iq132 iq133 iq134 iq135 iq136 iq137 iq138 iq139 iq140 iq141 iq142 iq143 iq144 iq145 iq146 iq147 iq148 iq149 iq150 iq151 iq152 iq153 iq154 iq155 iq156 iq157 iq158 iq159 iq160 iq161 iq162 iq163 iq164 iq165 iq166 iq167 iq168 iq169 iq170 iq171 iq172 iq173 iq174 iq175 iq176 iq177 iq178 iq179 iq180 iq181 iq182 iq183 iq184 iq185 iq186 iq187 iq188 iq189 iq190 iq191 iq192 iq193 iq194 iq195 iq196 iq197 iq198 iq199 iq200 iq201 iq202 iq203 iq204 iq205 iq206 iq207 iq208 iq209 iq210 iq211 iq212 iq213 iq214 iq215 iq216 iq217 iq218 iq219 iq220 iq221 iq222 iq223 iq224 iq225 iq226 iq227 iq228 iq229 iq230 iq231 iq232 iq233 iq234 iq235 iq236 iq237 iq238 iq239 iq240 u278 u279 u280 u281 u282 u283 u284 u285 u286 u287 u288 u289 u290 u291 k hk hlt at_ a0 a1 a2 a3 HAT iq241 iq242 iq243 iq244 z hbl hb8 hbat st hst wr1 bb hbb iq245 u11 u12 u13 u63 u64 u65 u66 u67 u68 u69 u70 u71 u72 u73 u74 u75 u76 u77 u78 u79 u80 u81 u82 u83 u84 u85 u86 u87 u88 u89 u90 u91 u92 u93 u94 u95 u96 u97 u98 u99 u100 u101 u102 u103 u104 u105 u106 u107 u108 u109 u110 u111 u112 u113 u114 u115 u116 u117 u118 u119 u120 u121 u122 u123 u124 u125 u126 u127 u128 u129 u130 u131 u132 u133 u134 u135 u136 u137 u138 u139 u140 u141 u142 u143 u144 u145 u146 u147 u148 u149 u150 u151 u152 u153 u154 u155 u156 u157 W HBK hWl hWo u7 gv cv iq246 iq247 iq248 iq249 iq250 wr u16 u17 u18 u19 u20 u21 u160 u161 u162 u163 u164 u165 u166 u167 u168 u169 u170 u171 u172 u173 u174 u175 u176 u177 u178 u179 u180 u181 u182 u183 u184 u185 u186 u187 u188 u189 u190 u191 u192 u193 u194 u195 u196 u197 u198 u199 u200 u201 u202 u203 u204 u205 u206 u207 u208 u209 u210 u211 u212 u213 u214 u215 u216 u217 u218 u219 u220 u221 u222 u223 u224 u225 u226 u227 u228 u229 u230 u231 u232 u233 u234 u235 u236 u237 u238 u239 u240 u241 u242 u243 u244 u245 u246 u247 u248 u249 u250 u251 u252 u253 u254 u255 u256 u257 u258 u259 u260 u261 u262 u263 u264 u265 u266 u267 u268 u269 u270 u271 u272 u273 u274 u275 u276 u277 j b c' hj hghb hbw hcb hr hwrow ho hn' hj64
  have j0 : (0 : Int) ≤ (j : Int) := by omega
  have j1 : (j : Int) < 64 := by omega
  have cw := (hwrow.cell j).trans (wordsL_at _ j (by omega))
  have ck' := hr.pk j hj64
  have bw := hWo.at j
  have bk : KW.getD j 0 < 4294967296 := KW_ok.at j
  have d0 := hcb 0 (by omega)
  have d1 := hcb 1 (by omega)
  have d2 := hcb 2 (by omega)
  have d3 := hcb 3 (by omega)
  have d4 := hcb 4 (by omega)
  have d5 := hcb 5 (by omega)
  have d6 := hcb 6 (by omega)
  have d7 := hcb 7 (by omega)
  have HR : Hid (SmR w wr gm gk gh P (s8L st) ∧ Row wr bb (wordsL W) 46) := ⟨hr, hwrow⟩
  have HN : Hid (rnds KW W st (j + 1) = rnd (rnds KW W st j) (KW.getD j 0) (W.getD j 0)) := hn'
  clear hr hwrow hn' hcb
  generalize rnds KW W st j = q at *
  generalize KW.getD j 0 = kk at *
  generalize W.getD j 0 = ww at *
  obtain ⟨A, Bq, C, D, E, F, G, Hh⟩ := q
  obtain ⟨hA, hBq, hC, hD, hE, hF, hG, hHh⟩ := ho
  dsimp only at hA hBq hC hD hE hF hG hHh
  simp only [s8L, List.getD, List.getElem?_cons_zero, List.getElem?_cons_succ, Option.getD_some] at d0 d1 d2 d3 d4 d5 d6 d7
  have n1 := chq_num E F G hE hF hG
  have n2 := mjq_num A Bq C hA hBq hC
  have n3 := bs0_num A hA
  have n4 := bs1_num E hE
  have hsg : IntKind.u32.signed = false := rfl
  go_wp2
  go_quiet ((go_at_call 17; exact Calls.quiet_of_same (rturn_i _ _ (by decide) (by decide) (by assumption) _)))
  have d0n : (wr.drewN nq).cell? ⟨b, 0, none⟩ = some (.int .u32 (A : Int)) := d0
  have d1n : (wr.drewN nq).cell? ⟨b, 1, none⟩ = some (.int .u32 (Bq : Int)) := d1
  have d2n : (wr.drewN nq).cell? ⟨b, 2, none⟩ = some (.int .u32 (C : Int)) := d2
  have d3n : (wr.drewN nq).cell? ⟨b, 3, none⟩ = some (.int .u32 (D : Int)) := d3
  have d4n : (wr.drewN nq).cell? ⟨b, 4, none⟩ = some (.int .u32 (E : Int)) := d4
  have d5n : (wr.drewN nq).cell? ⟨b, 5, none⟩ = some (.int .u32 (F : Int)) := d5
  have d6n : (wr.drewN nq).cell? ⟨b, 6, none⟩ = some (.int .u32 (G : Int)) := d6
  have d7n : (wr.drewN nq).cell? ⟨b, 7, none⟩ = some (.int .u32 (Hh : Int)) := d7
  have cwn : (wr.drewN nq).cell? ⟨bb, j, none⟩ = some (.int .u32 (ww : Int)) := cw
  have ckn : (wr.drewN nq).cell? ⟨gk, j, none⟩ = some (.int .u32 (kk : Int)) := ck'
  have HRn : Hid (SmR w (wr.drewN nq) gm gk gh P (s8L st) ∧ Row (wr.drewN nq) bb (wordsL W) 46) := ⟨HR.out.1.drewN _, HR.out.2.drewN _⟩
  have hbwn : b < (wr.drewN nq).heap.size := hbw
  clear d0 d1 d2 d3 d4 d5 d6 d7 cw ck' HR hbw
  have d0 := d0n
  have d1 := d1n
  have d2 := d2n
  have d3 := d3n
  have d4 := d4n
  have d5 := d5n
  have d6 := d6n
  have d7 := d7n
  have cw := cwn
  have ck' := ckn
  have HR := HRn
  have hbw := hbwn
  clear d0n d1n d2n d3n d4n d5n d6n d7n cwn ckn HRn hbwn
  generalize wr.drewN nq = wa at *
  go_wp2
  go_quiet (fail)
  have d0n : (wa.drewN nq).cell? ⟨b, 0, none⟩ = some (.int .u32 (A : Int)) := d0
  have d1n : (wa.drewN nq).cell? ⟨b, 1, none⟩ = some (.int .u32 (Bq : Int)) := d1
  have d2n : (wa.drewN nq).cell? ⟨b, 2, none⟩ = some (.int .u32 (C : Int)) := d2
  have d3n : (wa.drewN nq).cell? ⟨b, 3, none⟩ = some (.int .u32 (D : Int)) := d3
  have d4n : (wa.drewN nq).cell? ⟨b, 4, none⟩ = some (.int .u32 (E : Int)) := d4
  have d5n : (wa.drewN nq).cell? ⟨b, 5, none⟩ = some (.int .u32 (F : Int)) := d5
  have d6n : (wa.drewN nq).cell? ⟨b, 6, none⟩ = some (.int .u32 (G : Int)) := d6
  have d7n : (wa.drewN nq).cell? ⟨b, 7, none⟩ = some (.int .u32 (Hh : Int)) := d7
  have cwn : (wa.drewN nq).cell? ⟨bb, j, none⟩ = some (.int .u32 (ww : Int)) := cw
  have ckn : (wa.drewN nq).cell? ⟨gk, j, none⟩ = some (.int .u32 (kk : Int)) := ck'
  have HRn : Hid (SmR w (wa.drewN nq) gm gk gh P (s8L st) ∧ Row (wa.drewN nq) bb (wordsL W) 46) := ⟨HR.out.1.drewN _, HR.out.2.drewN _⟩
  have hbwn : b < (wa.drewN nq).heap.size := hbw
  clear d0 d1 d2 d3 d4 d5 d6 d7 cw ck' HR hbw
  have d0 := d0n
  have d1 := d1n
  have d2 := d2n
  have d3 := d3n
  have d4 := d4n
  have d5 := d5n
  have d6 := d6n
  have d7 := d7n
  have cw := cwn
  have ck' := ckn
  have HR := HRn
  have hbw := hbwn
  clear d0n d1n d2n d3n d4n d5n d6n d7n cwn ckn HRn hbwn
  generalize wa.drewN nq = wb at *
  go_wp2
  go_quiet (fail)
  have d0n : (wb.drewN nq).cell? ⟨b, 0, none⟩ = some (.int .u32 (A : Int)) := d0
  have d1n : (wb.drewN nq).cell? ⟨b, 1, none⟩ = some (.int .u32 (Bq : Int)) := d1
  have d2n : (wb.drewN nq).cell? ⟨b, 2, none⟩ = some (.int .u32 (C : Int)) := d2
  have d3n : (wb.drewN nq).cell? ⟨b, 3, none⟩ = some (.int .u32 (D : Int)) := d3
  have d4n : (wb.drewN nq).cell? ⟨b, 4, none⟩ = some (.int .u32 (E : Int)) := d4
  have d5n : (wb.drewN nq).cell? ⟨b, 5, none⟩ = some (.int .u32 (F : Int)) := d5
  have d6n : (wb.drewN nq).cell? ⟨b, 6, none⟩ = some (.int .u32 (G : Int)) := d6
  have d7n : (wb.drewN nq).cell? ⟨b, 7, none⟩ = some (.int .u32 (Hh : Int)) := d7
  have cwn : (wb.drewN nq).cell? ⟨bb, j, none⟩ = some (.int .u32 (ww : Int)) := cw
  have ckn : (wb.drewN nq).cell? ⟨gk, j, none⟩ = some (.int .u32 (kk : Int)) := ck'
  have HRn : Hid (SmR w (wb.drewN nq) gm gk gh P (s8L st) ∧ Row (wb.drewN nq) bb (wordsL W) 46) := ⟨HR.out.1.drewN _, HR.out.2.drewN _⟩
  have hbwn : b < (wb.drewN nq).heap.size := hbw
  clear d0 d1 d2 d3 d4 d5 d6 d7 cw ck' HR hbw
  have d0 := d0n
  have d1 := d1n
  have d2 := d2n
  have d3 := d3n
  have d4 := d4n
  have d5 := d5n
  have d6 := d6n
  have d7 := d7n
  have cw := cwn
  have ck' := ckn
  have HR := HRn
  have hbw := hbwn
  clear d0n d1n d2n d3n d4n d5n d6n d7n cwn ckn HRn hbwn
  generalize wb.drewN nq = wc at *
  go_wp2
  go_quiet ((go_at_call 17; exact Calls.quiet_of_same (rturn_i _ _ (by decide) (by decide) (by assumption) _)))
  have d0n : (wc.drewN nq).cell? ⟨b, 0, none⟩ = some (.int .u32 (A : Int)) := d0
  have d1n : (wc.drewN nq).cell? ⟨b, 1, none⟩ = some (.int .u32 (Bq : Int)) := d1
  have d2n : (wc.drewN nq).cell? ⟨b, 2, none⟩ = some (.int .u32 (C : Int)) := d2
  have d3n : (wc.drewN nq).cell? ⟨b, 3, none⟩ = some (.int .u32 (D : Int)) := d3
  have d4n : (wc.drewN nq).cell? ⟨b, 4, none⟩ = some (.int .u32 (E : Int)) := d4
  have d5n : (wc.drewN nq).cell? ⟨b, 5, none⟩ = some (.int .u32 (F : Int)) := d5
  have d6n : (wc.drewN nq).cell? ⟨b, 6, none⟩ = some (.int .u32 (G : Int)) := d6
  have d7n : (wc.drewN nq).cell? ⟨b, 7, none⟩ = some (.int .u32 (Hh : Int)) := d7
  have cwn : (wc.drewN nq).cell? ⟨bb, j, none⟩ = some (.int .u32 (ww : Int)) := cw
  have ckn : (wc.drewN nq).cell? ⟨gk, j, none⟩ = some (.int .u32 (kk : Int)) := ck'
  have HRn : Hid (SmR w (wc.drewN nq) gm gk gh P (s8L st) ∧ Row (wc.drewN nq) bb (wordsL W) 46) := ⟨HR.out.1.drewN _, HR.out.2.drewN _⟩
  have hbwn : b < (wc.drewN nq).heap.size := hbw
  clear d0 d1 d2 d3 d4 d5 d6 d7 cw ck' HR hbw
  have d0 := d0n
  have d1 := d1n
  have d2 := d2n
  have d3 := d3n
  have d4 := d4n
  have d5 := d5n
  have d6 := d6n
  have d7 := d7n
  have cw := cwn
  have ck' := ckn
  have HR := HRn
  have hbw := hbwn
  clear d0n d1n d2n d3n d4n d5n d6n d7n cwn ckn HRn hbwn
  generalize wc.drewN nq = we at *
  go_wp2
  go_quiet (fail)
  have d0n : (we.drewN nq).cell? ⟨b, 0, none⟩ = some (.int .u32 (A : Int)) := d0
  have d1n : (we.drewN nq).cell? ⟨b, 1, none⟩ = some (.int .u32 (Bq : Int)) := d1
  have d2n : (we.drewN nq).cell? ⟨b, 2, none⟩ = some (.int .u32 (C : Int)) := d2
  have d3n : (we.drewN nq).cell? ⟨b, 3, none⟩ = some (.int .u32 (D : Int)) := d3
  have d4n : (we.drewN nq).cell? ⟨b, 4, none⟩ = some (.int .u32 (E : Int)) := d4
  have d5n : (we.drewN nq).cell? ⟨b, 5, none⟩ = some (.int .u32 (F : Int)) := d5
  have d6n : (we.drewN nq).cell? ⟨b, 6, none⟩ = some (.int .u32 (G : Int)) := d6
  have d7n : (we.drewN nq).cell? ⟨b, 7, none⟩ = some (.int .u32 (Hh : Int)) := d7
  have cwn : (we.drewN nq).cell? ⟨bb, j, none⟩ = some (.int .u32 (ww : Int)) := cw
  have ckn : (we.drewN nq).cell? ⟨gk, j, none⟩ = some (.int .u32 (kk : Int)) := ck'
  have HRn : Hid (SmR w (we.drewN nq) gm gk gh P (s8L st) ∧ Row (we.drewN nq) bb (wordsL W) 46) := ⟨HR.out.1.drewN _, HR.out.2.drewN _⟩
  have hbwn : b < (we.drewN nq).heap.size := hbw
  clear d0 d1 d2 d3 d4 d5 d6 d7 cw ck' HR hbw
  have d0 := d0n
  have d1 := d1n
  have d2 := d2n
  have d3 := d3n
  have d4 := d4n
  have d5 := d5n
  have d6 := d6n
  have d7 := d7n
  have cw := cwn
  have ck' := ckn
  have HR := HRn
  have hbw := hbwn
  clear d0n d1n d2n d3n d4n d5n d6n d7n cwn ckn HRn hbwn
  generalize we.drewN nq = wf at *
  clear n1 n2 n3 n4 cw ck'
  go_wp2_with fail
  refine wp_region_D (fun i => decide (i < 26)) (fun w' => w'.cell? ⟨b, 0, none⟩ = some (.int .u32 (A : Int)) ∧ w'.cell? ⟨b, 1, none⟩ = some (.int .u32 (Bq : Int)) ∧ w'.cell? ⟨b, 2, none⟩ = some (.int .u32 (C : Int)) ∧ w'.cell? ⟨b, 3, none⟩ = some (.int .u32 (D : Int)) ∧ w'.cell? ⟨b, 4, none⟩ = some (.int .u32 (E : Int)) ∧ w'.cell? ⟨b, 5, none⟩ = some (.int .u32 (F : Int)) ∧ w'.cell? ⟨b, 6, none⟩ = some (.int .u32 (G : Int))) (by kernel_rfl) ?_
  have hS := And.intro d0 (And.intro d1 (And.intro d2 (And.intro d3 (And.intro d4 (And.intro d5 d6)))))
  refine' wpAnyD_take (i := 0) (v := _) rfl (by kernel_rfl) (by kernel_rfl) (by kernel_rfl) (by kernel_rfl) (fun _ _ _ h => h) (Or.inl ⟨by rfl, ?hy1⟩) hS ?re1
  case hy1 => (intro w hSw; (try dsimp only at hSw); go_simp; (try with_reducible rfl))
  simp only [Act.put, List.setIfInBounds_toArray, List.set_cons_zero, List.set_cons_succ]
  refine' wpAnyD_take (i := 1) (v := _) rfl (by kernel_rfl) (by kernel_rfl) (by kernel_rfl) (by kernel_rfl) (fun _ _ _ h => h) (Or.inl ⟨by rfl, ?hy2⟩) hS ?re2
  case hy2 => (intro w hSw; (try dsimp only at hSw); go_simp; (try with_reducible rfl))
  simp only [Act.put, List.setIfInBounds_toArray, List.set_cons_zero, List.set_cons_succ]
  refine' wpAnyD_take (i := 2) (v := _) rfl (by kernel_rfl) (by kernel_rfl) (by kernel_rfl) (by kernel_rfl) (fun _ _ _ h => h) (Or.inl ⟨by rfl, ?hy3⟩) hS ?re3
  case hy3 => (intro w hSw; (try dsimp only at hSw); go_simp; (try with_reducible rfl))
  simp only [Act.put, List.setIfInBounds_toArray, List.set_cons_zero, List.set_cons_succ]
  refine' wpAnyD_take (i := 3) (v := _) rfl (by kernel_rfl) (by kernel_rfl) (by kernel_rfl) (by kernel_rfl) (fun _ _ _ h => h) (Or.inl ⟨by rfl, ?hy4⟩) hS ?re4
  case hy4 => (intro w hSw; (try dsimp only at hSw); go_simp; (try with_reducible rfl))
  simp only [Act.put, List.setIfInBounds_toArray, List.set_cons_zero, List.set_cons_succ]
  refine' wpAnyD_take (i := 4) (v := _) rfl (by kernel_rfl) (by kernel_rfl) (by kernel_rfl) (by kernel_rfl) (fun _ _ _ h => h) (Or.inl ⟨by rfl, ?hy5⟩) hS ?re5
  case hy5 => (intro w hSw; (try dsimp only at hSw); go_simp; (try with_reducible rfl))
  simp only [Act.put, List.setIfInBounds_toArray, List.set_cons_zero, List.set_cons_succ]
  refine' wpAnyD_take (i := 5) (v := _) rfl (by kernel_rfl) (by kernel_rfl) (by kernel_rfl) (by kernel_rfl) (fun _ _ _ h => h) (Or.inl ⟨by rfl, ?hy6⟩) hS ?re6
  case hy6 => (intro w hSw; (try dsimp only at hSw); go_simp; (try with_reducible rfl))
  simp only [Act.put, List.setIfInBounds_toArray, List.set_cons_zero, List.set_cons_succ]
  refine' wpAnyD_take (i := 6) (v := _) rfl (by kernel_rfl) (by kernel_rfl) (by kernel_rfl) (by kernel_rfl) (fun _ _ _ h => h) (Or.inl ⟨by rfl, ?hy7⟩) hS ?re7
  case hy7 => (intro w hSw; (try dsimp only at hSw); go_simp; (try with_reducible rfl))
  simp only [Act.put, List.setIfInBounds_toArray, List.set_cons_zero, List.set_cons_succ]
  refine' wpAnyD_take (i := 7) (v := _) rfl (by kernel_rfl) (by kernel_rfl) (by kernel_rfl) (by kernel_rfl) (fun _ _ _ h => h) (Or.inl ⟨by rfl, ?hy8⟩) hS ?re8
  case hy8 => (intro w hSw; (try dsimp only at hSw); go_simp; (try with_reducible rfl))
  simp only [Act.put, List.setIfInBounds_toArray, List.set_cons_zero, List.set_cons_succ]
  refine' wpAnyD_take (i := 8) (v := _) rfl (by kernel_rfl) (by kernel_rfl) (by kernel_rfl) (by kernel_rfl) (fun _ _ _ h => h) (Or.inl ⟨by rfl, ?hy9⟩) hS ?re9
  case hy9 => (intro w hSw; (try dsimp only at hSw); go_simp; (try with_reducible rfl))
  simp only [Act.put, List.setIfInBounds_toArray, List.set_cons_zero, List.set_cons_succ]
  refine' wpAnyD_take (i := 9) (v := _) rfl (by kernel_rfl) (by kernel_rfl) (by kernel_rfl) (by kernel_rfl) (fun _ _ _ h => h) (Or.inl ⟨by rfl, ?hy10⟩) hS ?re10
  case hy10 => (intro w hSw; (try dsimp only at hSw); go_simp; (try with_reducible rfl))
  simp only [Act.put, List.setIfInBounds_toArray, List.set_cons_zero, List.set_cons_succ]
  refine' wpAnyD_take (i := 10) (v := _) rfl (by kernel_rfl) (by kernel_rfl) (by kernel_rfl) (by kernel_rfl) (fun _ _ _ h => h) (Or.inl ⟨by rfl, ?hy11⟩) hS ?re11
  case hy11 => (intro w hSw; (try dsimp only at hSw); go_simp; (try with_reducible rfl))
  simp only [Act.put, List.setIfInBounds_toArray, List.set_cons_zero, List.set_cons_succ]
  refine' wpAnyD_take (i := 11) (v := _) rfl (by kernel_rfl) (by kernel_rfl) (by kernel_rfl) (by kernel_rfl) (fun _ _ _ h => h) (Or.inl ⟨by rfl, ?hy12⟩) hS ?re12
  case hy12 => (intro w hSw; (try dsimp only at hSw); go_simp; (try with_reducible rfl))
  simp only [Act.put, List.setIfInBounds_toArray, List.set_cons_zero, List.set_cons_succ]
  refine' wpAnyD_take (i := 12) (v := _) rfl (by kernel_rfl) (by kernel_rfl) (by kernel_rfl) (by kernel_rfl) (fun _ _ _ h => h) (Or.inl ⟨by rfl, ?hy13⟩) hS ?re13
  case hy13 => (intro w hSw; (try dsimp only at hSw); go_simp; (try with_reducible rfl))
  simp only [Act.put, List.setIfInBounds_toArray, List.set_cons_zero, List.set_cons_succ]
  refine' wpAnyD_take (i := 13) (v := _) rfl (by kernel_rfl) (by kernel_rfl) (by kernel_rfl) (by kernel_rfl) (fun _ _ _ h => h) (Or.inl ⟨by rfl, ?hy14⟩) hS ?re14
  case hy14 => (intro w hSw; (try dsimp only at hSw); go_simp; (try with_reducible rfl))
  simp only [Act.put, List.setIfInBounds_toArray, List.set_cons_zero, List.set_cons_succ]
  refine' wpAnyD_take (i := 14) (v := _) rfl (by kernel_rfl) (by kernel_rfl) (by kernel_rfl) (by kernel_rfl) (fun _ _ _ h => h) (Or.inl ⟨by rfl, ?hy15⟩) hS ?re15
  case hy15 => (intro w hSw; (try dsimp only at hSw); go_simp; (try with_reducible rfl))
  simp only [Act.put, List.setIfInBounds_toArray, List.set_cons_zero, List.set_cons_succ]
  refine' wpAnyD_take (i := 15) (v := _) rfl (by kernel_rfl) (by kernel_rfl) (by kernel_rfl) (by kernel_rfl) (fun _ _ _ h => h) (Or.inl ⟨by rfl, ?hy16⟩) hS ?re16
  case hy16 => (intro w hSw; (try dsimp only at hSw); go_simp; (try with_reducible rfl))
  simp only [Act.put, List.setIfInBounds_toArray, List.set_cons_zero, List.set_cons_succ]
  refine' wpAnyD_take (i := 16) (v := _) rfl (by kernel_rfl) (by kernel_rfl) (by kernel_rfl) (by kernel_rfl) (fun _ _ _ h => h) (Or.inl ⟨by rfl, ?hy17⟩) hS ?re17
  case hy17 => (intro w hSw; (try dsimp only at hSw); go_simp; (try with_reducible rfl))
  simp only [Act.put, List.setIfInBounds_toArray, List.set_cons_zero, List.set_cons_succ]
  refine' wpAnyD_take (i := 17) (v := _) rfl (by kernel_rfl) (by kernel_rfl) (by kernel_rfl) (by kernel_rfl) (fun _ _ _ h => h) (Or.inl ⟨by rfl, ?hy18⟩) hS ?re18
  case hy18 => (intro w hSw; (try dsimp only at hSw); go_simp; (try with_reducible rfl))
  simp only [Act.put, List.setIfInBounds_toArray, List.set_cons_zero, List.set_cons_succ]
  refine' wpAnyD_take (i := 18) (v := _) rfl (by kernel_rfl) (by kernel_rfl) (by kernel_rfl) (by kernel_rfl) (fun _ _ _ h => h) (Or.inl ⟨by rfl, ?hy19⟩) hS ?re19
  case hy19 => (intro w hSw; (try dsimp only at hSw); go_simp; (try with_reducible rfl))
  simp only [Act.put, List.setIfInBounds_toArray, List.set_cons_zero, List.set_cons_succ]
  refine' wpAnyD_take (i := 19) (v := _) rfl (by kernel_rfl) (by kernel_rfl) (by kernel_rfl) (by kernel_rfl) (fun _ _ _ h => h) (Or.inl ⟨by rfl, ?hy20⟩) hS ?re20
  case hy20 => (intro w hSw; (try dsimp only at hSw); go_simp; (try with_reducible rfl))
  simp only [Act.put, List.setIfInBounds_toArray, List.set_cons_zero, List.set_cons_succ]
  refine' wpAnyD_take (i := 20) (v := _) rfl (by kernel_rfl) (by kernel_rfl) (by kernel_rfl) (by kernel_rfl) (fun _ _ _ h => h) (Or.inl ⟨by rfl, ?hy21⟩) hS ?re21
  case hy21 => (intro w hSw; (try dsimp only at hSw); go_simp; (try with_reducible rfl))
  simp only [Act.put, List.setIfInBounds_toArray, List.set_cons_zero, List.set_cons_succ]
  refine' wpAnyD_take (i := 21) (v := _) rfl (by kernel_rfl) (by kernel_rfl) (by kernel_rfl) (by kernel_rfl) (fun _ _ _ h => h) (Or.inl ⟨by rfl, ?hy22⟩) hS ?re22
  case hy22 => (intro w hSw; (try dsimp only at hSw); go_simp; (try with_reducible rfl))
  simp only [Act.put, List.setIfInBounds_toArray, List.set_cons_zero, List.set_cons_succ]
  refine' wpAnyD_take (i := 22) (v := _) rfl (by kernel_rfl) (by kernel_rfl) (by kernel_rfl) (by kernel_rfl) (fun _ _ _ h => h) (Or.inl ⟨by rfl, ?hy23⟩) hS ?re23
  case hy23 => (intro w hSw; (try dsimp only at hSw); go_simp; (try with_reducible rfl))
  simp only [Act.put, List.setIfInBounds_toArray, List.set_cons_zero, List.set_cons_succ]
  refine' wpAnyD_take (i := 23) (v := _) rfl (by kernel_rfl) (by kernel_rfl) (by kernel_rfl) (by kernel_rfl) (fun _ _ _ h => h) (Or.inl ⟨by rfl, ?hy24⟩) hS ?re24
  case hy24 => (intro w hSw; (try dsimp only at hSw); go_simp; (try with_reducible rfl))
  simp only [Act.put, List.setIfInBounds_toArray, List.set_cons_zero, List.set_cons_succ]
  refine' wpAnyD_take (i := 24) (v := _) rfl (by kernel_rfl) (by kernel_rfl) (by kernel_rfl) (by kernel_rfl) (fun _ _ _ h => h) (Or.inl ⟨by rfl, ?hy25⟩) hS ?re25
  case hy25 => (intro w hSw; (try dsimp only at hSw); go_simp; (try with_reducible rfl))
  simp only [Act.put, List.setIfInBounds_toArray, List.set_cons_zero, List.set_cons_succ]
  refine' wpAnyD_take (i := 25) (v := _) rfl (by kernel_rfl) (by kernel_rfl) (by kernel_rfl) (by kernel_rfl) (fun _ _ _ h => h) (Or.inl ⟨by rfl, ?hy26⟩) hS ?re26
  case hy26 => (intro w hSw; (try dsimp only at hSw); go_simp; (try with_reducible rfl))
  simp only [Act.put, List.setIfInBounds_toArray, List.set_cons_zero, List.set_cons_succ]
  refine wpAnyD_only (i := 26) rfl (by kernel_rfl) (by rfl) (fun K hK => ?_)
  go_simp
  refine hK.out _ _ (fun h => by cases h) ?_
  clear hK K
  refine' wpAnyD_free (i := 27) (v := _) rfl (by kernel_rfl) (by kernel_rfl) (by rfl) (by kernel_rfl) (fun _ _ _ h => h) (Or.inl ⟨by rfl, ?hy27⟩) ?re27
  case hy27 => (intro w hSw; clear hSw; go_simp; (try with_reducible rfl))
  simp only [Act.put, List.setIfInBounds_toArray, List.set_cons_zero, List.set_cons_succ]
  refine wpAnyD_done (by kernel_rfl) ?_ _
  clear hS
  have hR := HR.out
  go_wp2
  go_roundw
  case rel =>
    refine ⟨j + 1, wf.heap.size, 8, by omega, by go_num, rfl, hR.1.lh, by simp, ?_, (hR.1.later (below1 _ _)).drewN1, (hR.2.alloc _).drew⟩
    intro i hi
    rw [HN.out]
    refine (World.cell?_alloc_at (w := wf) _ _ _ _ rfl).trans ?_
    match i, hi with
    | 0, _ => exact congrArg some (val_u32 (show _ = (((tq ⟨A, Bq, C, D, E, F, G, Hh⟩ kk ww + uq ⟨A, Bq, C, D, E, F, G, Hh⟩) % 4294967296 : Nat) : Int) from by unfold tq uq; dsimp only; omega))
    | 1, _ => rfl
    | 2, _ => rfl
    | 3, _ => rfl
    | 4, _ => exact congrArg some (val_u32 (show _ = (((D + tq ⟨A, Bq, C, D, E, F, G, Hh⟩ kk ww) % 4294967296 : Nat) : Int) from by unfold tq; dsimp only; omega))
    | 5, _ => rfl
    | 6, _ => rfl
    | 7, _ => rfl
  case measure => simp [intOf]; omega
end Go.Proofs.YtbbpihdebdknhaaDoor
