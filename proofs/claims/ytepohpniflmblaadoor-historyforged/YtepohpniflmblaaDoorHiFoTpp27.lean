
import Derived.Test.YtepohpniflmblaaDoorHiFoT0
set_option maxRecDepth 100000
namespace Go.Proofs.YtepohpniflmblaaDoor
open Go.RowKit
set_option linter.unusedVariables false
set_option linter.unusedSimpArgs false
set_option maxHeartbeats 8000000 in
theorem hiFoTPack_p27 : hiFoTPack.p_p27 := by
  intro L a0 a1 a2 b w ht hlm c0 b8 bm pb cb iq1 hB HB HT HAA l0 m0 iq2 w0 w1 hb1 h0' m2 HLI l40 hli iq3 w3 T w4 cu T3 w5 R H32R w6 g9 g8 jq1 iq4 iq5 HTT N6 A nL HR iq6 iq7 iq8 HA e64 iq9 i HI i0 i1 jq2 ha01 ha02 ha11 ha12 ha21 ha22 w7 pp cp P HPP lp0 lp1 bp w8 X w9 Y1 M1 iq10 gy b1 off1 hL HL iq11 iq12 iq13 iq14 iq15 iq16 iq17 iq18 iq19 iq20 iq21 iq22 iq23 iq24 iq25 iq26 iq27 iq28 iq29 iq30 iq31 iq32 iq33 iq34 iq35 iq36 iq37 iq38 iq39 iq40 iq41 iq42 iq43 iq44 iq45 iq46 iq47 iq48 iq49 iq50 iq51 iq52 iq53 iq54 iq55 iq56 iq57 iq58 iq59 iq60 iq61 iq62 iq63 iq64 iq65 iq66 iq67 iq68 iq69 iq70 iq71 iq72 iq73 iq74 iq75 iq76 iq77 iq78 iq79 iq80 iq81 iq82 iq83 iq84 iq85 iq86 iq87 iq88 iq89 iq90 iq91 iq92 iq93 iq94 iq95 iq96 iq97 iq98 iq99 iq100 iq101 iq102 iq103 iq104 iq105 iq106 iq107 iq108 iq109 iq110 iq111 iq112 iq113 iq114 iq115 iq116 iq117 iq118 iq119 iq120 iq121 iq122 iq123 iq124 iq125 iq126 iq127 iq128 iq129 iq130 iq131 iq132 iq133 iq134 iq135 iq136 iq137 iq138 iq139 iq140 iq141 iq142 iq143 iq144 iq145 iq146 iq147 iq148 iq149 iq150 iq151 iq152 iq153 iq154 iq155 iq156 iq157 iq158 iq159 iq160 iq161 iq162 iq163 iq164 iq165 iq166 iq167 iq168 iq169 iq170 iq171 iq172 iq173 iq174 iq175 iq176 iq177 iq178 iq179 iq180 iq181 iq182 iq183 iq184 iq185 iq186 iq187 iq188 iq189 iq190 iq191 iq192 iq193 iq194 iq195 iq196 iq197 iq198 iq199 iq200 iq201 iq202 iq203 iq204 iq205 iq206 iq207 iq208 iq209 iq210 iq211 iq212 iq213 iq214 iq215 iq216 iq217 iq218 iq219 iq220 iq221 iq222 iq223 iq224 iq225 iq226 iq227 iq228 iq229 iq230 iq231 iq232 iq233 iq234 iq235 iq236 iq237 iq238 iq239 iq240 iq241 iq242 iq243 iq244 iq245 iq246 iq247 iq248 iq249 iq250 iq251 iq252 iq253 iq254 iq255 iq256 iq257 iq258 iq259 iq260 iq261 iq262 iq263 iq264 iq265 iq266 iq267 iq268 iq269 iq270 iq271 iq272 iq273 iq274 iq275 iq276 iq277 iq278 iq279 iq280 iq281 iq282 iq283 iq284 iq285 iq286 iq287 iq288 iq289 iq290 iq291 iq292 iq293 iq294 iq295 iq296 iq297 iq298 iq299 iq300 iq301 iq302 iq303 iq304 iq305 iq306 iq307 iq308 iq309 iq310 iq311 iq312 iq313 iq314 iq315 iq316 iq317 iq318 iq319 iq320 iq321 iq322 iq323 iq324 iq325 iq326 iq327 iq328 iq329 iq330 iq331 iq332 iq333 iq334 iq335 iq336 iq337 iq338 iq339 iq340 iq341 iq342 iq343 iq344 iq345 iq346 iq347 iq348 iq349 iq350 iq351 iq352 iq353 iq354 iq355 iq356 iq357 iq358 iq359 iq360 iq361 iq362 iq363 iq364 iq365 iq366 iq367 iq368 iq369 iq370 iq371 iq372 iq373 iq374 iq375 iq376 iq377 iq378 iq379 iq380 iq381 iq382 iq383 iq384 iq385 iq386 iq387 iq388 iq389 iq390 iq391 iq392 iq393 iq394 iq395 iq396 iq397 iq398 iq399 iq400 iq401 iq402 iq403 iq404 iq405 iq406 iq407 iq408 iq409 iq410 iq411 iq412 iq413 iq414 iq415 iq416 iq417 iq418 iq419 iq420 iq421 iq422 iq423 iq424 iq425 iq426 iq427 iq428 iq429 iq430 iq431 iq432 iq433 iq434 iq435 iq436 iq437 iq438 iq439 iq440 iq441 iq442 iq443 iq444 iq445 iq446 iq447 iq448 iq449 iq450 iq451 iq452 iq453 iq454 iq455 iq456 iq457 iq458 iq459 iq460 iq461 iq462 iq463 iq464 iq465 iq466 iq467 iq468 iq469 iq470 iq471 iq472 iq473 iq474 iq475 iq476 iq477 iq478 iq479 iq480 iq481 iq482 iq483 iq484 iq485 iq486 iq487 iq488 iq489 iq490 iq491 iq492 iq493 iq494 iq495 iq496 iq497 q1 ho HAI N9 hs iq498 iq499 iq500 iq501 iq502 iq503 iq504 iq505 iq506 iq507 iq508 iq509 iq510 iq511 iq512 iq513 iq514 iq515 iq516 iq517 iq518 iq519 iq520 iq521 iq522 iq523 iq524 iq525 iq526 iq527 iq528 iq529 iq530 iq531 iq532 iq533 iq534 iq535 iq536 iq537 iq538 iq539 iq540 iq541 iq542 iq543 iq544 iq545 iq546 iq547 iq548 iq549 iq550 iq551 iq552 iq553 iq554 iq555 iq556 iq557 iq558 iq559 iq560 iq561 iq562 iq563 iq564 iq565 iq566 iq567 iq568 iq569 iq570 iq571 iq572 iq573 iq574 iq575 iq576 iq577 iq578 iq579 iq580 iq581 iq582 iq583 iq584 iq585 iq586 iq587 iq588 iq589 iq590 iq591 iq592 iq593 iq594 iq595 iq596 iq597 iq598 iq599 iq600 iq601 iq602 iq603 iq604 iq605 iq606 iq607 iq608 iq609 iq610 iq611 iq612 iq613 iq614 iq615 iq616 iq617 iq618 iq619 iq620 iq621 iq622 iq623 iq624 iq625 iq626 iq627 iq628 iq629 iq630 iq631 iq632 iq633 iq634 iq635 iq636 iq637 iq638 iq639 iq640 iq641 iq642 iq643 iq644 iq645 iq646 iq647 iq648 iq649 iq650 iq651 iq652 iq653 iq654 iq655 iq656 iq657 iq658 iq659 iq660 iq661 iq662 iq663 iq664 iq665 iq666 iq667 iq668 iq669 iq670 iq671 iq672 iq673 iq674 iq675 iq676 iq677 iq678 iq679 iq680 iq681 iq682 iq683 iq684 iq685 iq686 iq687 iq688 iq689 iq690 iq691 iq692 iq693 iq694 iq695 iq696 iq697 iq698 iq699 iq700 iq701 iq702 iq703 iq704 iq705 iq706 iq707 iq708 iq709 iq710 iq711 iq712 iq713 iq714 iq715 iq716 iq717 iq718 iq719 iq720 iq721 iq722 iq723 iq724 iq725 iq726 iq727 iq728 iq729 iq730 iq731 iq732 iq733 iq734 iq735 iq736 iq737 iq738 iq739 iq740 iq741 iq742 r j HJ j0 j1 Ai HAi HLA jq3 Y2 ok2 M2 iq743 iq744 N10 wd gy2 jq4 jq5 jq6 jq7 jq8 jq9 jq10 jq11 jq12 jq13 jq14 jq15 jq16 jq17 jq18 jq19 jq20 jq21 jq22 jq23 jq24 jq25 jq26 jq27 jq28 jq29 jq30 jq31 jq32 jq33 jq34 jq35 jq36 jq37 jq38 jq39 jq40 jq41 jq42 jq43 jq44 jq45 jq46 jq47 jq48 jq49 jq50 jq51 jq52 jq53 jq54 jq55 jq56 jq57 jq58 jq59 jq60 jq61 jq62 jq63 jq64 jq65 jq66 jq67 jq68 jq69 jq70 jq71 jq72 jq73 jq74 jq75 jq76 jq77 jq78 jq79 jq80 jq81 jq82 jq83 jq84 jq85 jq86 jq87 jq88 jq89 jq90 jq91 jq92 jq93 jq94 jq95 jq96 jq97 jq98 jq99 jq100 jq101 jq102 jq103 jq104 jq105 jq106 jq107 jq108 jq109 jq110 jq111 jq112 jq113 jq114 jq115 jq116 jq117 jq118 jq119 jq120 jq121 jq122 jq123 jq124 jq125 jq126 jq127 jq128 jq129 jq130 jq131 jq132 jq133 jq134 jq135 jq136 jq137 jq138 jq139 jq140 jq141 jq142 jq143 jq144 jq145 jq146 jq147 jq148 jq149 jq150 jq151 jq152 jq153 jq154 jq155 jq156 jq157 jq158 jq159 jq160 jq161 jq162 jq163 jq164 jq165 jq166 jq167 jq168 jq169 jq170 jq171 jq172 jq173 jq174 jq175 jq176 jq177 jq178 jq179 jq180 jq181 jq182 jq183 jq184 jq185 jq186 jq187 jq188 jq189 jq190 jq191 jq192 jq193 jq194 jq195 jq196 jq197 jq198 jq199 jq200 jq201 jq202 jq203 jq204 jq205 jq206 jq207 jq208 jq209 jq210 jq211 jq212 jq213 jq214 jq215 jq216 jq217 jq218 jq219 jq220 jq221 jq222 jq223 jq224 jq225 jq226 jq227 jq228 jq229 jq230 jq231 jq232 jq233 jq234 jq235 jq236 jq237 jq238 jq239 jq240 jq241 jq242 jq243 jq244 jq245 jq246 jq247 q2 wa iq745 iq746 iq747 iq748 iq749 iq750 hP0 hP1 wb jq248 g20 c20 cur jq249 jq250 jq251 jq252 m d c HCD jq253 jq254 jq255 jq256 jq257 jq258 jq259 jq260 jq261 jq262 jq263 jq264 jq265 jq266 jq267 jq268 jq269 jq270 jq271 jq272 jq273 jq274 jq275 jq276 jq277 jq278 jq279 jq280 jq281 jq282 jq283 jq284 jq285 jq286 jq287 jq288 jq289 jq290 jq291 jq292 jq293 jq294 jq295 jq296 jq297 jq298 jq299 jq300 jq301 jq302 jq303 jq304 jq305 jq306 jq307 jq308 jq309 jq310 jq311 jq312 jq313 jq314 jq315 jq316 jq317 jq318 jq319 jq320 jq321 jq322 jq323 jq324 jq325 jq326 jq327 jq328 jq329 jq330 jq331 jq332 jq333 jq334 jq335 jq336 jq337 jq338 jq339 jq340 jq341 jq342 jq343 jq344 jq345 jq346 jq347 jq348 jq349 jq350 jq351 jq352 jq353 jq354 jq355 jq356 jq357 jq358 jq359 jq360 jq361 jq362 jq363 jq364 jq365 jq366 jq367 jq368 jq369 jq370 jq371 jq372 jq373 jq374 jq375 jq376 jq377 jq378 jq379 jq380 jq381 jq382 jq383 jq384 jq385 jq386 jq387 jq388 jq389 jq390 jq391 jq392 jq393 jq394 jq395 jq396 jq397 jq398 jq399 jq400 jq401 jq402 jq403 jq404 jq405 jq406 jq407 jq408 jq409 jq410 jq411 jq412 jq413 jq414 jq415 jq416 jq417 jq418 jq419 jq420 jq421 jq422 jq423 jq424 jq425 jq426 jq427 jq428 jq429 jq430 jq431 jq432 jq433 jq434 jq435 jq436 jq437 jq438 jq439 jq440 jq441 jq442 jq443 jq444 jq445 jq446 jq447 jq448 jq449 jq450 jq451 jq452 jq453 jq454 jq455 jq456 jq457 jq458 jq459 jq460 jq461 jq462 jq463 jq464 jq465 jq466 jq467 jq468 jq469 jq470 jq471 jq472 jq473 jq474 jq475 jq476 jq477 jq478 jq479 jq480 jq481 jq482 jq483 jq484 jq485 jq486 jq487 jq488 jq489 jq490 jq491 jq492 jq493 jq494 jq495 jq496 jq497 HBA wx iL wy Y3 M3 jq498 N11 wz gy3 wc u16 u23 u25 u27 u29 u30 u31 u32 u33 u34 u35 u36 u37 u38 u39 u40 u41 u42 u43 u44 u45 u46 u47 u48 u49 u50 u51 u52 u53 u54 u55 u56 u57 u58 u59 u60 u61 u62 u63 u64 u65 u66 u67 u68 u69 u70 u71 u72 u73 u74 u75 u76 u77 u78 u79 u80 u81 u82 u83 u84 u85 u86 u87 u88 u89 u90 u91 u92 u93 u94 u95 u96 u97 u98 u99 u100 u101 u102 u103 u104 u105 u106 u107 u108 u109 u110 u111 u112 u113 u114 u115 u116 u117 u118 u119 u120 u121 u122 u123 u124 u125 u126 u127 u128 u129 u130 u131 u132 u133 u134 u135 u136 u137 u138 u139 u140 u141 u142 u143 u144 u145 u146 u147 u148 u149 u150 u151 u152 u153 u154 u155 u156 u157 u158 u159 u160 u161 u162 u163 u164 u165 u166 u167 u168 u169 u170 u171 u172 u173 u174 u175 u176 u177 u178 u179 u180 u181 u182 u183 u184 u185 u186 u187 u188 u189 u190 u191 u192 u193 u194 u195 u196 u197 u198 u199 u200 u201 u202 u203 u204 u205 u206 u207 u208 u209 u210 u211 u212 u213 u214 u215 u216 u217 u218 u219 u220 u221 u222 u223 u224 u225 u226 u227 u228 u229 u230 u231 u232 u233 u234 u235 u236 u237 u238 u239 u240 u241 u242 u243 u244 u245 u246 u247 u248 u249 u250 u251 u252 u253 u254 u255 u256 u257 u258 u259 u260 u261 u262 u263 u264 u265 u266 u267 q3 HQ3 wp HSa HOPa jq499 jq500 jq501 jq502 jq503 jq504
  have hP27 := HOPa.out.hs HPP.out.2.1
  obtain ⟨_, _, e27, hc1, hc2⟩ := hP27.form
  cases e27
  obtain ⟨gp, op, hpp, _⟩ := hP27.at (i := 0) (by have := HBA.out; omega)
  have hd27 := hP27.drop 1 (by have := HBA.out; omega)
  have HD27 := (show Hid _ from hd27)
  have n1 : 1 ≤ P.length := by have := HBA.out; omega
  have n2 : P.length ≤ cp := hc1
  have n3 : cp ≤ 9223372036854775807 := by unfold maxLen at hc2; omega
  have i1' : (1 : Int) ≤ (P.length : Int) := by omega
  have i2' : (P.length : Int) ≤ (cp : Int) := by omega
  have i3' : (1 : Int) ≤ (cp : Int) := by omega
  have iL : i < L.length := HI.out
  have lAi := HLA.out
  subst hpp
  clear hP27 hd27 hc1 hc2
  have HSb := (show Hid _ from HSa.out.later (Below.refl _ _).drew)
  have HOPb : Hid (OwnH wp.drew bp (.slice (some ⟨gp, op, none⟩) P.length cp) P) := HOPa.out.later (Below.refl _ _).drew
  have HDb : Hid (HsAt wp.drew (.slice (if cp = 1 then some ⟨gp, op, none⟩ else (some (⟨gp, op, none⟩ : Addr)).map (·.add (1 * 32))) (P.length - 1) (cp - 1)) (P.drop 1)) := HD27.out.later (Below.refl _ _).drew
  refine wp_region_D (fun k => Nat.blt k 9 || k == 13) (fun w' : World => w'.rangeAt g8 (i * 32) (bytesL Ai).toList) (by kernel_rfl) ?_
  clear HSa HOPa HD27
  generalize wp.drew = wb at *
  have HSN : Hid (∀ wn, Below wb.heap.size wb wn → wn.rangeAt g8 (i * 32) (bytesL Ai).toList) := fun wn hb => by rw [← HAi.out.1]; exact hs_range (HSb.out.later hb).hA (by rw [HA.out.2]; exact HI.out)
  obtain ⟨wd, hwd⟩ : ∃ wd, wb = wd := ⟨_, rfl⟩
  have hbw : Below wb.heap.size wb wd := by rw [← hwd]; exact Below.refl _ _
  have hS := HSN.out wd hbw
  rw [hwd]
  clear hwd
  by_cases hcp1 : cp = 1
  · subst hcp1
    rw [if_pos rfl] at HDb
    refine' wpAnyD_take (i := 0) (v := _) rfl (by kernel_rfl) (by kernel_rfl) (by kernel_rfl) (by kernel_rfl) (fun _ _ _ h => h) (Or.inl ⟨by rfl, ?hy1⟩) hS ?re1
    case hy1 => (intro w hSw; (try dsimp only at hSw); go_simp; (try with_reducible rfl))
    simp only [Act.put, List.setIfInBounds_toArray, List.set_cons_zero, List.set_cons_succ]
    refine' wpAnyD_take (i := 1) (v := _) rfl (by kernel_rfl) (by kernel_rfl) (by kernel_rfl) (by kernel_rfl) (fun _ _ _ h => h) (Or.inl ⟨by rfl, ?hy2⟩) hS ?re2
    case hy2 => (intro w hSw; (try dsimp only at hSw); go_simp; (try with_reducible rfl))
    simp only [Act.put, List.setIfInBounds_toArray, List.set_cons_zero, List.set_cons_succ]
    refine' wpAnyD_take (i := 2) (v := _) rfl (by kernel_rfl) (by kernel_rfl) (by kernel_rfl) (by kernel_rfl) (fun _ _ _ h => h) (Or.inl ⟨by rfl, ?hy3⟩) hS ?re3
    case hy3 => (intro w hSw; (try dsimp only at hSw); go_simp; (try with_reducible rfl))
    simp only [Act.put, List.setIfInBounds_toArray, List.set_cons_zero, List.set_cons_succ]
    refine wpAnyD_take (i := 3) rfl (by kernel_rfl) (by kernel_rfl) (by kernel_rfl) (by kernel_rfl) (fun _ _ _ h => h) (yieldsIf_load_mid (by rfl) 28 _ rfl g8 (i * 32) rfl (bytesL Ai).toList _ (fun w' hw' => hw') Tryd.underlying28 rfl lAi) hS ?_
    simp only [Act.put, List.setIfInBounds_toArray, List.set_cons_zero, List.set_cons_succ]
    refine' wpAnyD_take (i := 4) (v := _) rfl (by kernel_rfl) (by kernel_rfl) (by kernel_rfl) (by kernel_rfl) (fun _ _ _ h => h) (Or.inl ⟨by rfl, ?hy4⟩) hS ?re4
    case hy4 => (intro w hSw; (try dsimp only at hSw); go_simp; (try with_reducible rfl))
    simp only [Act.put, List.setIfInBounds_toArray, List.set_cons_zero, List.set_cons_succ]
    refine' wpAnyD_take (i := 5) (v := _) rfl (by kernel_rfl) (by kernel_rfl) (by kernel_rfl) (by kernel_rfl) (fun _ _ _ h => h) (Or.inl ⟨by rfl, ?hy5⟩) hS ?re5
    case hy5 => (intro w hSw; (try dsimp only at hSw); go_simp; (try with_reducible rfl))
    simp only [Act.put, List.setIfInBounds_toArray, List.set_cons_zero, List.set_cons_succ]
    refine' wpAnyD_take (i := 6) (v := _) rfl (by kernel_rfl) (by kernel_rfl) (by kernel_rfl) (by kernel_rfl) (fun _ _ _ h => h) (Or.inl ⟨by rfl, ?hy6⟩) hS ?re6
    case hy6 => (intro w hSw; (try dsimp only at hSw); go_simp; (try with_reducible rfl))
    simp only [Act.put, List.setIfInBounds_toArray, List.set_cons_zero, List.set_cons_succ]
    refine' wpAnyD_take (i := 7) (v := _) rfl (by kernel_rfl) (by kernel_rfl) (by kernel_rfl) (by kernel_rfl) (fun _ _ _ h => h) (Or.inl ⟨by rfl, ?hy7⟩) hS ?re7
    case hy7 => (intro w hSw; (try dsimp only at hSw); go_simp; (try with_reducible rfl))
    simp only [Act.put, List.setIfInBounds_toArray, List.set_cons_zero, List.set_cons_succ]
    refine' wpAnyD_take (i := 8) (v := _) rfl (by kernel_rfl) (by kernel_rfl) (by kernel_rfl) (by kernel_rfl) (fun _ _ _ h => h) (Or.inl ⟨by rfl, ?hy8⟩) hS ?re8
    case hy8 => (intro w hSw; (try dsimp only at hSw); go_simp; (try with_reducible rfl))
    simp only [Act.put, List.setIfInBounds_toArray, List.set_cons_zero, List.set_cons_succ]
    try rw [Array.toArray_toList]
    clear hS lAi
    refine wpAnyD_all (rs := [9, 13]) (by kernel_rfl) (by simp) ?_
    refine AllD.cons (i := 9) rfl (by rfl) (fun K hK => ?_) ?_
    · skip
      go_simp
      refine (climb_len2 _ Ai i L.length _ (P.drop 1) wd HI.out (by have := e64.out.2; omega) HAi.out.2 (by have h := HDb.out.later hbw; first | (simpa [Addr.add] using h) | (have e : P.length - 1 = 0 := (by omega); simpa [Addr.add, e] using h)) (by rw [List.length_drop, HPP.out.2.2.1]; have := HPP.out.2.2.1; have := HBA.out; omega) (HTT.out (HSb.out.later hbw).bw)).mono ?_
      rintro e wn ⟨Z, rfl, hz32, hbn⟩
      try replace r13 := r13.later hbn
      replace hbw := hbw.trans (hbn.mono hbw.size)
      have iZ := info_h32 hz32
      have zZ := z32_size hz32
      have oZ := bytesL_one Z
      refine hK.out _ _ (fun h => by cases h) ?_
      clear hK K hbn
      obtain ⟨wd, rfl⟩ : ∃ wx, wx = wn := ⟨_, rfl⟩
      try simp only [Act.put, List.setIfInBounds_toArray, List.set_cons_zero, List.set_cons_succ]
      refine' wpAnyD_free (i := 10) (v := _) rfl (by kernel_rfl) (by kernel_rfl) (by rfl) (by kernel_rfl) (fun _ _ _ h => h) (Or.inl ⟨by rfl, ?hy9⟩) ?re9
      case hy9 => (intro w hSw; clear hSw; go_simp; (try with_reducible rfl))
      simp only [Act.put, List.setIfInBounds_toArray, List.set_cons_zero, List.set_cons_succ]
      refine' wpAnyD_free (i := 11) (v := _) rfl (by kernel_rfl) (by kernel_rfl) (by rfl) (by kernel_rfl) (fun _ _ _ h => h) (Or.inl ⟨by rfl, ?hy10⟩) ?re10
      case hy10 => (intro w hSw; clear hSw; go_simp; (try with_reducible rfl))
      simp only [Act.put, List.setIfInBounds_toArray, List.set_cons_zero, List.set_cons_succ]
      refine' wpAnyD_free (i := 12) (v := _) rfl (by kernel_rfl) (by kernel_rfl) (by rfl) (by kernel_rfl) (fun _ _ _ h => h) (Or.inl ⟨by rfl, ?hy11⟩) ?re11
      case hy11 => (intro w hSw; clear hSw; go_simp; (try with_reducible rfl))
      simp only [Act.put, List.setIfInBounds_toArray, List.set_cons_zero, List.set_cons_succ]
      refine wpAnyD_only (i := 13) rfl (by kernel_rfl) (by rfl) (fun K hK => ?_)
      go_simp
      rw [zeros32b]
      have r13 := Row.new wd (bytesL (List.replicate 32 0)) 28 rfl
      have hg13 : wb.heap.size ≤ wd.heap.size := hbw.size
      replace hbw := chainA hbw (.cells (bytesL (List.replicate 32 0)) 28)
      have hSn := HSN.out _ hbw
      generalize wd.alloc (.cells (bytesL (List.replicate 32 0)) 28) = wn at *
      generalize wd.heap.size = g13 at *
      try clear wd
      refine hK.out _ _ (fun _ => hSn) ?_
      clear hK K hSn
      obtain ⟨wd, rfl⟩ : ∃ wx, wx = wn := ⟨_, rfl⟩
      try simp only [Act.put, List.setIfInBounds_toArray, List.set_cons_zero, List.set_cons_succ]
      refine wpAnyD_only (i := 14) rfl (by kernel_rfl) (by rfl) (fun K hK => ?_)
      refine wp_store_row 28 _ _ rfl g13 (bytesL Z) rfl rfl 28 _ r13 iZ (by rw [bytesL_size, bytesL_size, hz32.1]; rfl) oZ ?_
      have hbx := Below.row hbw (bytesL Z) hg13
      refine hK.out _ _ (fun h => by cases h) ?_
      clear hK K
      try simp only [Act.put, List.setIfInBounds_toArray, List.set_cons_zero, List.set_cons_succ]
      refine' wpAnyD_free (i := 15) (v := _) rfl (by kernel_rfl) (by kernel_rfl) (by rfl) (by kernel_rfl) (fun _ _ _ h => h) (Or.inl ⟨by rfl, ?hy12⟩) ?re12
      case hy12 => (intro w hSw; clear hSw; go_simp; (try with_reducible rfl))
      simp only [Act.put, List.setIfInBounds_toArray, List.set_cons_zero, List.set_cons_succ]
      refine wpAnyD_done (by kernel_rfl) ?_ _
      go_wp2_with fail
      go_meet
      case rel => exact ⟨rfl, HSb.out.later hbx, HOPb.out.later hbx⟩
    refine AllD.cons (i := 13) rfl (by rfl) (fun K hK => ?_) AllD.nil
    go_simp
    rw [zeros32b]
    have r13 := Row.new wd (bytesL (List.replicate 32 0)) 28 rfl
    have hg13 : wb.heap.size ≤ wd.heap.size := hbw.size
    replace hbw := chainA hbw (.cells (bytesL (List.replicate 32 0)) 28)
    have hSn := HSN.out _ hbw
    generalize wd.alloc (.cells (bytesL (List.replicate 32 0)) 28) = wn at *
    generalize wd.heap.size = g13 at *
    try clear wd
    refine hK.out _ _ (fun _ => hSn) ?_
    clear hK K hSn
    obtain ⟨wd, rfl⟩ : ∃ wx, wx = wn := ⟨_, rfl⟩
    try simp only [Act.put, List.setIfInBounds_toArray, List.set_cons_zero, List.set_cons_succ]
    refine wpAnyD_only (i := 9) rfl (by kernel_rfl) (by rfl) (fun K hK => ?_)
    go_simp
    refine (climb_len2 _ Ai i L.length _ (P.drop 1) wd HI.out (by have := e64.out.2; omega) HAi.out.2 (by have h := HDb.out.later hbw; first | (simpa [Addr.add] using h) | (have e : P.length - 1 = 0 := (by omega); simpa [Addr.add, e] using h)) (by rw [List.length_drop, HPP.out.2.2.1]; have := HPP.out.2.2.1; have := HBA.out; omega) (HTT.out (HSb.out.later hbw).bw)).mono ?_
    rintro e wn ⟨Z, rfl, hz32, hbn⟩
    try replace r13 := r13.later hbn
    replace hbw := hbw.trans (hbn.mono hbw.size)
    have iZ := info_h32 hz32
    have zZ := z32_size hz32
    have oZ := bytesL_one Z
    refine hK.out _ _ (fun h => by cases h) ?_
    clear hK K hbn
    obtain ⟨wd, rfl⟩ : ∃ wx, wx = wn := ⟨_, rfl⟩
    try simp only [Act.put, List.setIfInBounds_toArray, List.set_cons_zero, List.set_cons_succ]
    refine' wpAnyD_free (i := 10) (v := _) rfl (by kernel_rfl) (by kernel_rfl) (by rfl) (by kernel_rfl) (fun _ _ _ h => h) (Or.inl ⟨by rfl, ?hy13⟩) ?re13
    case hy13 => (intro w hSw; clear hSw; go_simp; (try with_reducible rfl))
    simp only [Act.put, List.setIfInBounds_toArray, List.set_cons_zero, List.set_cons_succ]
    refine' wpAnyD_free (i := 11) (v := _) rfl (by kernel_rfl) (by kernel_rfl) (by rfl) (by kernel_rfl) (fun _ _ _ h => h) (Or.inl ⟨by rfl, ?hy14⟩) ?re14
    case hy14 => (intro w hSw; clear hSw; go_simp; (try with_reducible rfl))
    simp only [Act.put, List.setIfInBounds_toArray, List.set_cons_zero, List.set_cons_succ]
    refine' wpAnyD_free (i := 12) (v := _) rfl (by kernel_rfl) (by kernel_rfl) (by rfl) (by kernel_rfl) (fun _ _ _ h => h) (Or.inl ⟨by rfl, ?hy15⟩) ?re15
    case hy15 => (intro w hSw; clear hSw; go_simp; (try with_reducible rfl))
    simp only [Act.put, List.setIfInBounds_toArray, List.set_cons_zero, List.set_cons_succ]
    refine wpAnyD_only (i := 14) rfl (by kernel_rfl) (by rfl) (fun K hK => ?_)
    refine wp_store_row 28 _ _ rfl g13 (bytesL Z) rfl rfl 28 _ r13 iZ (by rw [bytesL_size, bytesL_size, hz32.1]; rfl) oZ ?_
    have hbx := Below.row hbw (bytesL Z) hg13
    refine hK.out _ _ (fun h => by cases h) ?_
    clear hK K
    try simp only [Act.put, List.setIfInBounds_toArray, List.set_cons_zero, List.set_cons_succ]
    refine' wpAnyD_free (i := 15) (v := _) rfl (by kernel_rfl) (by kernel_rfl) (by rfl) (by kernel_rfl) (fun _ _ _ h => h) (Or.inl ⟨by rfl, ?hy16⟩) ?re16
    case hy16 => (intro w hSw; clear hSw; go_simp; (try with_reducible rfl))
    simp only [Act.put, List.setIfInBounds_toArray, List.set_cons_zero, List.set_cons_succ]
    refine wpAnyD_done (by kernel_rfl) ?_ _
    go_wp2_with fail
    go_meet
    case rel => exact ⟨rfl, HSb.out.later hbx, HOPb.out.later hbx⟩
  · rw [if_neg hcp1] at HDb
    refine' wpAnyD_take (i := 0) (v := _) rfl (by kernel_rfl) (by kernel_rfl) (by kernel_rfl) (by kernel_rfl) (fun _ _ _ h => h) (Or.inl ⟨by rfl, ?hy17⟩) hS ?re17
    case hy17 => (intro w hSw; (try dsimp only at hSw); go_simp; (try with_reducible rfl))
    simp only [Act.put, List.setIfInBounds_toArray, List.set_cons_zero, List.set_cons_succ]
    refine' wpAnyD_take (i := 1) (v := _) rfl (by kernel_rfl) (by kernel_rfl) (by kernel_rfl) (by kernel_rfl) (fun _ _ _ h => h) (Or.inl ⟨by rfl, ?hy18⟩) hS ?re18
    case hy18 => (intro w hSw; (try dsimp only at hSw); go_simp; (try with_reducible rfl))
    simp only [Act.put, List.setIfInBounds_toArray, List.set_cons_zero, List.set_cons_succ]
    refine' wpAnyD_take (i := 2) (v := _) rfl (by kernel_rfl) (by kernel_rfl) (by kernel_rfl) (by kernel_rfl) (fun _ _ _ h => h) (Or.inl ⟨by rfl, ?hy19⟩) hS ?re19
    case hy19 => (intro w hSw; (try dsimp only at hSw); go_simp; (try with_reducible rfl))
    simp only [Act.put, List.setIfInBounds_toArray, List.set_cons_zero, List.set_cons_succ]
    refine wpAnyD_take (i := 3) rfl (by kernel_rfl) (by kernel_rfl) (by kernel_rfl) (by kernel_rfl) (fun _ _ _ h => h) (yieldsIf_load_mid (by rfl) 28 _ rfl g8 (i * 32) rfl (bytesL Ai).toList _ (fun w' hw' => hw') Tryd.underlying28 rfl lAi) hS ?_
    simp only [Act.put, List.setIfInBounds_toArray, List.set_cons_zero, List.set_cons_succ]
    refine' wpAnyD_take (i := 4) (v := _) rfl (by kernel_rfl) (by kernel_rfl) (by kernel_rfl) (by kernel_rfl) (fun _ _ _ h => h) (Or.inl ⟨by rfl, ?hy20⟩) hS ?re20
    case hy20 => (intro w hSw; (try dsimp only at hSw); go_simp; (try with_reducible rfl))
    simp only [Act.put, List.setIfInBounds_toArray, List.set_cons_zero, List.set_cons_succ]
    refine' wpAnyD_take (i := 5) (v := _) rfl (by kernel_rfl) (by kernel_rfl) (by kernel_rfl) (by kernel_rfl) (fun _ _ _ h => h) (Or.inl ⟨by rfl, ?hy21⟩) hS ?re21
    case hy21 => (intro w hSw; (try dsimp only at hSw); go_simp; (try with_reducible rfl))
    simp only [Act.put, List.setIfInBounds_toArray, List.set_cons_zero, List.set_cons_succ]
    refine' wpAnyD_take (i := 6) (v := _) rfl (by kernel_rfl) (by kernel_rfl) (by kernel_rfl) (by kernel_rfl) (fun _ _ _ h => h) (Or.inl ⟨by rfl, ?hy22⟩) hS ?re22
    case hy22 => (intro w hSw; (try dsimp only at hSw); go_simp; (try with_reducible rfl))
    simp only [Act.put, List.setIfInBounds_toArray, List.set_cons_zero, List.set_cons_succ]
    refine' wpAnyD_take (i := 7) (v := _) rfl (by kernel_rfl) (by kernel_rfl) (by kernel_rfl) (by kernel_rfl) (fun _ _ _ h => h) (Or.inl ⟨by rfl, ?hy23⟩) hS ?re23
    case hy23 => (intro w hSw; (try dsimp only at hSw); go_simp; (try with_reducible rfl))
    simp only [Act.put, List.setIfInBounds_toArray, List.set_cons_zero, List.set_cons_succ]
    refine' wpAnyD_take (i := 8) (v := _) rfl (by kernel_rfl) (by kernel_rfl) (by kernel_rfl) (by kernel_rfl) (fun _ _ _ h => h) (Or.inl ⟨by rfl, ?hy24⟩) hS ?re24
    case hy24 => (intro w hSw; (try dsimp only at hSw); go_simp; (try with_reducible rfl))
    simp only [Act.put, List.setIfInBounds_toArray, List.set_cons_zero, List.set_cons_succ]
    try rw [Array.toArray_toList]
    clear hS lAi
    refine wpAnyD_all (rs := [9, 13]) (by kernel_rfl) (by simp) ?_
    refine AllD.cons (i := 9) rfl (by rfl) (fun K hK => ?_) ?_
    · skip
      go_simp
      refine (climb_len2 _ Ai i L.length _ (P.drop 1) wd HI.out (by have := e64.out.2; omega) HAi.out.2 (by have h := HDb.out.later hbw; first | (simpa [Addr.add] using h) | (have e : P.length - 1 = 0 := (by omega); simpa [Addr.add, e] using h)) (by rw [List.length_drop, HPP.out.2.2.1]; have := HPP.out.2.2.1; have := HBA.out; omega) (HTT.out (HSb.out.later hbw).bw)).mono ?_
      rintro e wn ⟨Z, rfl, hz32, hbn⟩
      try replace r13 := r13.later hbn
      replace hbw := hbw.trans (hbn.mono hbw.size)
      have iZ := info_h32 hz32
      have zZ := z32_size hz32
      have oZ := bytesL_one Z
      refine hK.out _ _ (fun h => by cases h) ?_
      clear hK K hbn
      obtain ⟨wd, rfl⟩ : ∃ wx, wx = wn := ⟨_, rfl⟩
      try simp only [Act.put, List.setIfInBounds_toArray, List.set_cons_zero, List.set_cons_succ]
      refine' wpAnyD_free (i := 10) (v := _) rfl (by kernel_rfl) (by kernel_rfl) (by rfl) (by kernel_rfl) (fun _ _ _ h => h) (Or.inl ⟨by rfl, ?hy25⟩) ?re25
      case hy25 => (intro w hSw; clear hSw; go_simp; (try with_reducible rfl))
      simp only [Act.put, List.setIfInBounds_toArray, List.set_cons_zero, List.set_cons_succ]
      refine' wpAnyD_free (i := 11) (v := _) rfl (by kernel_rfl) (by kernel_rfl) (by rfl) (by kernel_rfl) (fun _ _ _ h => h) (Or.inl ⟨by rfl, ?hy26⟩) ?re26
      case hy26 => (intro w hSw; clear hSw; go_simp; (try with_reducible rfl))
      simp only [Act.put, List.setIfInBounds_toArray, List.set_cons_zero, List.set_cons_succ]
      refine' wpAnyD_free (i := 12) (v := _) rfl (by kernel_rfl) (by kernel_rfl) (by rfl) (by kernel_rfl) (fun _ _ _ h => h) (Or.inl ⟨by rfl, ?hy27⟩) ?re27
      case hy27 => (intro w hSw; clear hSw; go_simp; (try with_reducible rfl))
      simp only [Act.put, List.setIfInBounds_toArray, List.set_cons_zero, List.set_cons_succ]
      refine wpAnyD_only (i := 13) rfl (by kernel_rfl) (by rfl) (fun K hK => ?_)
      go_simp
      rw [zeros32b]
      have r13 := Row.new wd (bytesL (List.replicate 32 0)) 28 rfl
      have hg13 : wb.heap.size ≤ wd.heap.size := hbw.size
      replace hbw := chainA hbw (.cells (bytesL (List.replicate 32 0)) 28)
      have hSn := HSN.out _ hbw
      generalize wd.alloc (.cells (bytesL (List.replicate 32 0)) 28) = wn at *
      generalize wd.heap.size = g13 at *
      try clear wd
      refine hK.out _ _ (fun _ => hSn) ?_
      clear hK K hSn
      obtain ⟨wd, rfl⟩ : ∃ wx, wx = wn := ⟨_, rfl⟩
      try simp only [Act.put, List.setIfInBounds_toArray, List.set_cons_zero, List.set_cons_succ]
      refine wpAnyD_only (i := 14) rfl (by kernel_rfl) (by rfl) (fun K hK => ?_)
      refine wp_store_row 28 _ _ rfl g13 (bytesL Z) rfl rfl 28 _ r13 iZ (by rw [bytesL_size, bytesL_size, hz32.1]; rfl) oZ ?_
      have hbx := Below.row hbw (bytesL Z) hg13
      refine hK.out _ _ (fun h => by cases h) ?_
      clear hK K
      try simp only [Act.put, List.setIfInBounds_toArray, List.set_cons_zero, List.set_cons_succ]
      refine' wpAnyD_free (i := 15) (v := _) rfl (by kernel_rfl) (by kernel_rfl) (by rfl) (by kernel_rfl) (fun _ _ _ h => h) (Or.inl ⟨by rfl, ?hy28⟩) ?re28
      case hy28 => (intro w hSw; clear hSw; go_simp; (try with_reducible rfl))
      simp only [Act.put, List.setIfInBounds_toArray, List.set_cons_zero, List.set_cons_succ]
      refine wpAnyD_done (by kernel_rfl) ?_ _
      go_wp2_with fail
      go_meet
      case rel => exact ⟨rfl, HSb.out.later hbx, HOPb.out.later hbx⟩
    refine AllD.cons (i := 13) rfl (by rfl) (fun K hK => ?_) AllD.nil
    go_simp
    rw [zeros32b]
    have r13 := Row.new wd (bytesL (List.replicate 32 0)) 28 rfl
    have hg13 : wb.heap.size ≤ wd.heap.size := hbw.size
    replace hbw := chainA hbw (.cells (bytesL (List.replicate 32 0)) 28)
    have hSn := HSN.out _ hbw
    generalize wd.alloc (.cells (bytesL (List.replicate 32 0)) 28) = wn at *
    generalize wd.heap.size = g13 at *
    try clear wd
    refine hK.out _ _ (fun _ => hSn) ?_
    clear hK K hSn
    obtain ⟨wd, rfl⟩ : ∃ wx, wx = wn := ⟨_, rfl⟩
    try simp only [Act.put, List.setIfInBounds_toArray, List.set_cons_zero, List.set_cons_succ]
    refine wpAnyD_only (i := 9) rfl (by kernel_rfl) (by rfl) (fun K hK => ?_)
    go_simp
    refine (climb_len2 _ Ai i L.length _ (P.drop 1) wd HI.out (by have := e64.out.2; omega) HAi.out.2 (by have h := HDb.out.later hbw; first | (simpa [Addr.add] using h) | (have e : P.length - 1 = 0 := (by omega); simpa [Addr.add, e] using h)) (by rw [List.length_drop, HPP.out.2.2.1]; have := HPP.out.2.2.1; have := HBA.out; omega) (HTT.out (HSb.out.later hbw).bw)).mono ?_
    rintro e wn ⟨Z, rfl, hz32, hbn⟩
    try replace r13 := r13.later hbn
    replace hbw := hbw.trans (hbn.mono hbw.size)
    have iZ := info_h32 hz32
    have zZ := z32_size hz32
    have oZ := bytesL_one Z
    refine hK.out _ _ (fun h => by cases h) ?_
    clear hK K hbn
    obtain ⟨wd, rfl⟩ : ∃ wx, wx = wn := ⟨_, rfl⟩
    try simp only [Act.put, List.setIfInBounds_toArray, List.set_cons_zero, List.set_cons_succ]
    refine' wpAnyD_free (i := 10) (v := _) rfl (by kernel_rfl) (by kernel_rfl) (by rfl) (by kernel_rfl) (fun _ _ _ h => h) (Or.inl ⟨by rfl, ?hy29⟩) ?re29
    case hy29 => (intro w hSw; clear hSw; go_simp; (try with_reducible rfl))
    simp only [Act.put, List.setIfInBounds_toArray, List.set_cons_zero, List.set_cons_succ]
    refine' wpAnyD_free (i := 11) (v := _) rfl (by kernel_rfl) (by kernel_rfl) (by rfl) (by kernel_rfl) (fun _ _ _ h => h) (Or.inl ⟨by rfl, ?hy30⟩) ?re30
    case hy30 => (intro w hSw; clear hSw; go_simp; (try with_reducible rfl))
    simp only [Act.put, List.setIfInBounds_toArray, List.set_cons_zero, List.set_cons_succ]
    refine' wpAnyD_free (i := 12) (v := _) rfl (by kernel_rfl) (by kernel_rfl) (by rfl) (by kernel_rfl) (fun _ _ _ h => h) (Or.inl ⟨by rfl, ?hy31⟩) ?re31
    case hy31 => (intro w hSw; clear hSw; go_simp; (try with_reducible rfl))
    simp only [Act.put, List.setIfInBounds_toArray, List.set_cons_zero, List.set_cons_succ]
    refine wpAnyD_only (i := 14) rfl (by kernel_rfl) (by rfl) (fun K hK => ?_)
    refine wp_store_row 28 _ _ rfl g13 (bytesL Z) rfl rfl 28 _ r13 iZ (by rw [bytesL_size, bytesL_size, hz32.1]; rfl) oZ ?_
    have hbx := Below.row hbw (bytesL Z) hg13
    refine hK.out _ _ (fun h => by cases h) ?_
    clear hK K
    try simp only [Act.put, List.setIfInBounds_toArray, List.set_cons_zero, List.set_cons_succ]
    refine' wpAnyD_free (i := 15) (v := _) rfl (by kernel_rfl) (by kernel_rfl) (by rfl) (by kernel_rfl) (fun _ _ _ h => h) (Or.inl ⟨by rfl, ?hy32⟩) ?re32
    case hy32 => (intro w hSw; clear hSw; go_simp; (try with_reducible rfl))
    simp only [Act.put, List.setIfInBounds_toArray, List.set_cons_zero, List.set_cons_succ]
    refine wpAnyD_done (by kernel_rfl) ?_ _
    go_wp2_with fail
    go_meet
    case rel => exact ⟨rfl, HSb.out.later hbx, HOPb.out.later hbx⟩
end Go.Proofs.YtepohpniflmblaaDoor
