
import Derived.Test.YtkamagicnemppaaDkO0
import Derived.Test.YtkamagicnemppaaDkP
namespace Go.Proofs.Ytkamagicnemppaa
open Go.RowKit
set_option maxRecDepth 100000
set_option linter.unusedVariables false
set_option linter.unusedSimpArgs false
set_option maxHeartbeats 8000000 in
theorem dkOPack_ck : dkOPack.p_ck := by
  intro L w cu iq1 w1 iq2 w2 R S M iq3 iq4 w3 wr iq5 u10 u11 iq6 iq7 iq8 iq9 iq10 iq11 iq12 u20 u21 u23 u24 u25 iq13 iq14 iq15 iq16 iq17 iq18 iq19 iq20 iq21 iq22 iq23 iq24 iq25 iq26 iq27 iq28 iq29 iq30 iq31 u58 iq32 iq33 iq34 iq35 iq36 iq37 iq38 iq39 iq40 iq41 iq42 iq43 iq44 iq45 iq46 iq47 iq48 iq49 iq50 iq51 iq52 iq53 iq54 iq55 iq56 iq57 iq58 iq59 iq60 iq61 iq62 iq63 iq64 iq65 iq66 iq67 iq68 iq69 iq70 iq71 iq72 iq73 iq74 iq75 iq76 iq77 iq78 iq79 iq80 iq81 iq82 iq83 iq84 iq85 iq86 iq87 iq88 iq89 iq90 iq91 iq92 iq93 iq94 iq95 iq96 iq97 iq98 iq99 iq100 iq101 iq102 iq103 iq104 iq105 iq106 iq107 iq108 iq109 iq110 iq111 iq112 iq113 iq114 iq115 iq116 iq117 iq118 iq119 iq120 iq121 iq122 iq123 iq124 iq125 iq126 iq127 iq128 iq129 iq130 iq131 iq132 iq133 iq134 iq135 iq136 iq137 iq138 iq139 iq140 iq141 iq142 iq143 iq144 iq145 iq146 iq147 iq148 iq149 iq150 iq151 iq152 iq153 iq154 iq155 iq156 iq157 iq158 iq159 iq160 iq161 iq162 iq163 u191 iq164 iq165 iq166 iq167 iq168 u197 u198 u199 iq169 iq170 iq171 iq172 iq173 iq174 iq175 iq176 iq177 iq178 iq179 iq180 iq181 iq182 iq183 iq184 iq185 iq186 iq187 iq188 iq189 iq190 iq191 iq192 iq193 iq194 iq195 iq196 iq197 k hk v d wl puw cuw hlt hlt' k1 b off hb hL c hmem hok0 iq198 iq199 iq200 w4 rg hX4 hgw hgM hd8 hdm pd cd hdat hcv iq201 q1 q2 d0 d1 hbig' iq202 iq203 iq204 iq205 iq206 iq207 iq208 iq209 iq210 iq211 iq212 iq213 iq214 iq215 iq216 iq217 iq218 iq219 iq220 iq221 iq222 iq223 iq224 iq225 iq226 iq227 iq228 iq229 iq230 iq231 iq232 iq233 iq234 iq235 iq236 iq237 iq238 iq239 iq240 iq241 iq242 iq243 iq244 iq245 iq246 iq247 iq248 iq249 iq250 iq251 iq252 iq253 iq254 iq255 iq256 iq257 iq258 iq259 iq260 iq261 iq262 iq263 iq264 iq265 iq266 iq267 iq268 iq269 iq270 iq271 iq272 iq273 iq274 iq275 iq276 iq277 iq278 iq279 iq280 iq281 iq282 iq283 iq284 iq285 iq286 iq287 iq288 iq289 iq290 iq291 iq292 iq293 iq294 iq295 iq296 iq297 iq298 iq299 iq300 iq301 iq302 iq303 iq304 iq305 iq306 iq307 iq308 iq309 iq310 iq311 iq312 iq313 iq314 iq315 iq316 iq317 iq318 iq319 iq320 iq321 iq322 iq323 iq324 iq325 iq326 iq327 iq328 iq329 iq330 iq331 iq332 iq333 iq334 iq335 iq336 iq337 iq338 iq339 iq340 iq341 iq342 iq343 iq344 iq345 iq346 iq347 iq348 iq349 iq350 iq351 iq352 iq353 iq354 iq355 iq356 iq357 iq358 iq359 iq360 iq361 iq362 iq363 iq364 iq365 iq366 iq367 iq368 iq369 iq370 iq371 iq372 iq373 iq374 iq375 iq376 iq377 q hq wc u2 u5 u6 u7 u12 u13 u15 u16 u17 u18 u19 u39 u40 u41 u42 u43 u44 u45 u46 u47 u48 u49 u50 u51 u52 u53 u54 u55 u56 u57 u59 u60 u61 u62 u63 u64 u65 u66 u67 u68 u69 u70 u71 u72 u73 u74 u75 u76 u77 u78 u79 u80 u81 u82 u83 u84 u85 u86 u87 u88 u89 u90 u91 u92 u93 u94 u95 u96 u97 u98 u99 u100 u101 u102 u103 u104 u105 u106 u107 u108 u109 u110 u111 u112 u113 u114 u115 u116 u117 u118 u119 u120 u121 u122 u123 u124 u125 u126 u127 u128 u129 u130 u131 u132 u133 u134 u135 u136 u137 u138 u139 u140 u141 u142 u143 u144 u145 u146 u147 u148 u149 u150 u151 u152 u153 u154 u155 u156 u157 u158 u159 u160 u161 u162 u163 u164 u165 u166 u167 u168 u169 u170 u171 u172 u173 u174 u175 u176 u177 u178 u179 u180 u181 u182 u183 u184 u185 u186 u187 u188 u189 u190 u192 u193 u194 u195 u196 u200 u201 u202 u203 u204 u205 u206 u207 u208 u209 u210 u211 u212 u213 u214 u215 u216 u217 u218 u219 u220 u221 u222 u223 u224 u225 u226 u227 u228 hcut
  obtain ⟨wo, rfl⟩ : ∃ wo : World, wo = wr := ⟨_, rfl⟩
  generalize decide (0 ≤ c.at0 ∧ c.at0 < 6) = t at *
  clear hX4 rg hgw hgM hd8 hdm hdat q1 q2 d0 d1 hbig' hcv hq hok0 hmem
  obtain ⟨v1, dd, wl1, hX, rfl, rfl⟩ := hcut
  obtain ⟨puw1, nuw1, cuw1, hu, hnu⟩ := ownsRow_form hX.own.own
  subst hu hnu
  have hn6 := hX.n
  have hwl := hX.wl
  have hwsl : dd.ws.length = wl1.length := by rw [hX.ws, List.length_map]
  have hFl : dd.F.length = 64 * 6 := by rw [← hn6]; exact hX.dk.dk.ok.fl
  have w0 : (0 : Int) ≤ (wl1.length : Int) := by omega
  have w1' : (wl1.length : Int) ≤ 201 := by omega
  have HW : Hid (dd.ws = wl1.map CIn.wr) := hX.ws
  go_wp2_with (go_at_call 16; refine stop ?_)
  refine (waits_any _ R S _ _ hX.dk.dk).mono ?_
  rintro e w' ⟨rfl, hw'⟩
  obtain rfl := hw'.symm
  rw [hwsl]
  clear hw'
  go_wp2_with (go_at_call 17; refine stop ?_)
  refine (writes_any _ R S _ _ hX.dk.dk).mono ?_
  rintro e w' ⟨rfl, hw'⟩
  obtain rfl := hw'.symm
  clear hw'
  go_wp2_with (go_at_call 18; refine stop ?_)
  refine (down_any _ R S _ _ hX.dk.dk).mono ?_
  rintro e w' ⟨rfl, hw'⟩
  obtain rfl := hw'.symm
  rw [down_lef]
  clear hw'
  go_wp2_with (go_at_call 19; refine stop ?_)
  refine (len_any _ R S _ _ hX.dk.dk).mono ?_
  rintro e w' ⟨rfl, hw'⟩
  obtain rfl := hw'.symm
  rw [hn6]
  clear hw'
  go_wp2
  go_loopw [191] (fun i wz => ∃ j : Nat, j ≤ 6 ∧ i = .int .i64 j ∧ RunR w wz L R S M (k + 1) (.slice puw1 wl1.length cuw1) v1 dd wl1) (fun i _ => 6 - (intOf i).toNat)
  case atStart => exact ⟨0, Nat.zero_le _, rfl, hX⟩
  case round =>
    clear hX
    obtain ⟨j, hj6, rfl, hX⟩ := hrel
    by_cases hjl : j < 6
    · have hjl' : (j : Int) < 6 := by omega
      have j0 : (0 : Int) ≤ (j : Int) := by omega
      have hrs := hX.own.sec hFl hjl
      have hsl := sec_len hFl hjl
      have hxi := info_arr2 hsl
      have hxj := info_arr' hsl
      have hxk : (bytesL (zs 64)).size = (bytesL (sec dd.F j)).size := by rw [bytesL_size, bytesL_size, zs_len, hsl]
      go_wp2_with (first | refine wpList_load_mid rfl 26 _ rfl M (j * 64) rfl (bytesL (sec dd.F j)).toList _ hrs Try.underlying26 rfl hxi ?_ | (refine wpList_store_row rfl 26 _ _ rfl wr.heap.size (bytesL (sec dd.F j)) rfl rfl 26 _ (heap_alloc_new wr _) hxj (by first | exact hxk | rfl) (bytesL_one _) ?_; refine stop ?_))
      rw [sector_lit]
      unfold Stop
      have rw5 := (Row.new wr (bytesL (zs 64)) 26 rfl).setRow (bytesL (sec dd.F j))
      have b5 : Below wr.heap.size wr ((wr.alloc (.cells (bytesL (zs 64)) 26)).setRow wr.heap.size (bytesL (sec dd.F j))) := Below.row (below1 wr _) _ (Nat.le_refl _)
      generalize (wr.alloc (.cells (bytesL (zs 64)) 26)).setRow wr.heap.size (bytesL (sec dd.F j)) = w5 at *
      have hX5 := hX.later b5
      have hgw := hX.dk.below.size
      clear hX hrs b5 hxi hxj hxk
      obtain ⟨wp, rfl⟩ : ∃ wp : World, wp = wr := ⟨_, rfl⟩
      generalize hgwe : wp.heap.size = gw at *
      go_wp2
      go_loopw [199] (fun i wz => ∃ n : Nat, n ≤ wl1.length ∧ i = .int .i64 n ∧ Row wz gw (bytesL (curW j (sec dd.F j) (dd.ws.take n))) 26 ∧ RunR w wz L R S M (k + 1) (.slice puw1 wl1.length cuw1) v1 dd wl1) (fun i _ => wl1.length - (intOf i).toNat)
      case atStart => exact ⟨0, Nat.zero_le _, rfl, rw5, hX5⟩
      case round =>
        clear rw5 hX5
        obtain ⟨n, hn, rfl, rwz, hXz⟩ := hrel
        by_cases hnl : n < wl1.length
        · have hnl' : (n : Int) < (wl1.length : Int) := by omega
          obtain ⟨g, cap, e, hg, hr⟩ := hXz.own.wait hnl
          cases e
          have hmemj : wl1.getD n CIn.none ∈ wl1 := by simp only [List.getD]; rw [List.getElem?_eq_getElem hnl]; exact List.getElem_mem _
          have hwok := hXz.own.each _ hmemj
          have hokj := hL.each _ hwok.mem
          have hwsj : dd.ws.getD n (0, []) = (wl1.getD n CIn.none).wr := by rw [HW.out]; simp [List.getD, List.getElem?_map, hnl]
          have hct := curW_take j (sec dd.F j) dd.ws n (by omega)
          rw [hwsj] at hct
          have hcl := (curW_ok (n := 6) (k := j) (dd.ws.take n) (sec dd.F j) hsl (hXz.dk.dk.ok.f8.sec j) (fun y hy => by rw [← hn6]; exact hXz.dk.dk.ok.wok y (List.mem_of_mem_take hy))).1
          generalize wl1.getD n CIn.none = x at *
          obtain ⟨a, ha⟩ : ∃ a : Nat, x.at0 = (a : Int) := ⟨x.at0.toNat, by have := hwok.lo; omega⟩
          have hct2 : curW j (sec dd.F j) (dd.ws.take (n + 1)) = if a = j then pad x.data else curW j (sec dd.F j) (dd.ws.take n) := by
            rw [hct]
            show (if x.at0.toNat = j then _ else _) = _
            rw [ha]
            rfl
          generalize curW j (sec dd.F j) (dd.ws.take n) = cj at *
          have hci : (Try.prog.info? 32).map (·.size) = some x.cs.toList.length := by kernel_rfl
          have hcj : (Try.prog.info? 32).map (·.size) = some x.cs.size := by kernel_rfl
          obtain ⟨px, cx, hxv⟩ : ∃ p c, x.v = .slice p x.data.length c := by
            obtain ⟨_, _, p, q, e, _⟩ := hokj.data
            exact ⟨p, q, e⟩
          have hone : x.cs.all (·.oneCell') = true := by simp [CIn.cs, hxv, Value.oneCell']
          go_wp2_with (first | refine wpList_load_mid rfl 32 _ rfl g (n * 6) rfl x.cs.toList _ hr Try.underlying32 rfl hci ?_ | (refine wpList_store_row rfl 32 _ _ rfl wr.heap.size x.cs rfl rfl 32 _ (heap_alloc_new wr _) hcj rfl hone ?_; refine stop ?_))
          unfold Stop
          clear hr
          have rg := (Row.new wr #[.int .i64 0, .int .i64 0, .slice none 0 0, .int .u64 0, .int .i64 0, .int .i64 0] 32 rfl).setRow x.cs
          have b2 : Below wr.heap.size wr ((wr.alloc (.cells #[.int .i64 0, .int .i64 0, .slice none 0 0, .int .u64 0, .int .i64 0, .int .i64 0] 32)).setRow wr.heap.size x.cs) := Below.row (below1 wr _) _ (Nat.le_refl _)
          generalize (wr.alloc (.cells #[.int .i64 0, .int .i64 0, .slice none 0 0, .int .u64 0, .int .i64 0, .int .i64 0] 32)).setRow wr.heap.size x.cs = w6 at *
          have hX6 := hXz.later b2
          have rw6 := rwz.later b2
          have x1 : w6.cell? ⟨wr.heap.size, 1, none⟩ = some (.int .i64 (a : Int)) := by rw [← ha]; exact rg.cell 1
          have x2 : w6.cell? ⟨wr.heap.size, 2, none⟩ = some (.slice px x.data.length cx) := by rw [← hxv]; exact rg.cell 2
          clear hXz rwz hcj hci hone hct ha rg b2
          by_cases haj : a = j
          · rw [if_pos haj] at hct2
            have hajb : ((a : Int) == (j : Int)) = true := by simp [haj]
            have hpl := pad_len hwok.len
            have hxi := info_arr' hpl
            have hxk : (bytesL cj).size = (bytesL (pad x.data)).size := by rw [bytesL_size, bytesL_size, hcl, hpl]
            clear haj
            go_wp2_with (go_at_call 11; refine stop ?_)
            refine (full_any _ x.data w6 (by rw [← hxv]; exact hokj.data.later hX6.dk.below) hwok.len).mono ?_
            rintro e w7 ⟨rfl, hb7⟩
            have hX7 := hX6.later hb7
            have rw7 := rw6.later hb7
            have rw8 : Row (w7.setRow gw (bytesL (pad x.data))) gw (bytesL (curW j (sec dd.F j) (dd.ws.take (n + 1)))) 26 := by
              rw [hct2]
              exact rw7.setRow (bytesL (pad x.data))
            have he8 : Else gw w7 (w7.setRow gw (bytesL (pad x.data))) := ⟨rfl, rfl, rfl, by simp [World.setRow], fun k _ hk => setRow_other w7 gw k _ hk⟩
            have hX8 : RunR w (w7.setRow gw (bytesL (pad x.data))) L R S M (k + 1) (.slice (some ⟨g, 0, none⟩) wl1.length cuw1) v1 dd wl1 :=
              ⟨⟨hX7.dk.dk.keep (he8.block R hX7.dk.dk.row.lt (hX7.dk.dk.row.ne rw7 (by decide))) (he8.block S hX7.dk.dk.sure.lt (hX7.dk.dk.sure.ne rw7 (by decide))) (fun k hk => he8.block k (hX7.dk.dk.vlt hk) (fun e => ownN_ne hX7.dk.dk.own rw7 (by decide) (e ▸ hk))), hX7.dk.below.trans (he8.below hX7.dk.below.size hgw), hX7.dk.hR, hX7.dk.hS, hX7.dk.hv⟩,
                hX7.own.keep (he8.block M hX7.own.row.lt (hX7.own.row.ne rw7 (by decide))) (fun k hk => he8.block k (hX7.own.own.lt k hk).2 (fun e => ownN_ne hX7.own.own rw7 (by decide) (e ▸ hk))), hX7.ws, hX7.n, hX7.cnt, hX7.wl⟩
            clear hX6 rw6 hX7 he8 hb7 x1 x2 hct2
            go_wp2_with (refine wpList_store_row rfl 26 _ _ rfl gw (bytesL (pad x.data)) rfl rfl 26 _ rw7 hxi hxk (bytesL_one _) ?_)
            go_roundw
            case rel => exact ⟨n + 1, by omega, by go_num, rw8, hX8⟩
            case measure => simp [intOf]; omega
          · rw [if_neg haj] at hct2
            have hajb : ((a : Int) == (j : Int)) = false := by simp; omega
            rw [← hct2] at rw6
            clear haj hct2
            go_wp2
            go_roundw
            case rel => exact ⟨n + 1, by omega, by go_num, rw6, hX6⟩
            case measure => simp [intOf]; omega
        · obtain rfl : n = wl1.length := by omega
          have hnn : ¬ (wl1.length : Int) < (wl1.length : Int) := by omega
          rw [List.take_of_length_le (Nat.le_of_eq hwsl)] at rwz
          have hcur : Row _ gw (bytesL (dd.cur j)) 26 := rwz
          obtain ⟨hl, h8⟩ := hXz.dk.dk.ok.cur (k := j) (by omega)
          go_wp2_with (go_at_call 20; refine stop ?_)
          refine (read_any j _ R S _ _ hXz.dk.dk (by omega)).mono ?_
          rintro e w6 ⟨g2, rfl, hg2, hge2, hb6⟩
          have hX6 := hXz.later hb6
          have rw6 := hcur.later hb6
          clear hXz rwz hcur hb6
          go_upto_region 68 with fail
          refine wp_region_D (fun _ => true) (fun w' : World => Row w' g2 (bytesL (dd.cur j)) 5 ∧ Row w' gw (bytesL (dd.cur j)) 26) (by kernel_rfl) ?_
          have hS : (fun w' : World => Row w' g2 (bytesL (dd.cur j)) 5 ∧ Row w' gw (bytesL (dd.cur j)) 26) w6.drew := ⟨hg2, rw6⟩
          have hX7 : RunR w w6.drew L R S M (k + 1) (.slice puw1 wl1.length cuw1) v1 dd wl1 := hX6.later (Below.refl _ w6).drew
          clear hX6 hg2 rw6
          generalize w6.drew = w7 at *
          generalize dd.cur j = cu1 at *
          refine' wpAnyD_take (i := 0) (v := _) rfl (by kernel_rfl) (by kernel_rfl) (by kernel_rfl) (by kernel_rfl) (fun _ _ _ h => h) (Or.inl ⟨by rfl, ?hy1⟩) hS ?re1
          case hy1 => (intro w hSw; (try dsimp only at hSw); go_simp; (try with_reducible rfl))
          simp only [Act.put, List.setIfInBounds_toArray, List.set_cons_zero, List.set_cons_succ]
          refine' wpAnyD_take (i := 1) (v := _) rfl (by kernel_rfl) (by kernel_rfl) (by kernel_rfl) (by kernel_rfl) (fun _ _ _ h => h) (Or.inl ⟨by rfl, ?hy2⟩) hS ?re2
          case hy2 => (intro w hSw; (try dsimp only at hSw); go_simp; (try with_reducible rfl))
          simp only [Act.put, List.setIfInBounds_toArray, List.set_cons_zero, List.set_cons_succ]
          refine' wpAnyD_take (i := 2) (v := _) rfl (by kernel_rfl) (by kernel_rfl) (by kernel_rfl) (by kernel_rfl) (fun _ _ _ h => h) (Or.inl ⟨by rfl, ?hy3⟩) hS ?re3
          case hy3 => (intro w hSw; (try dsimp only at hSw); go_simp; (try with_reducible rfl))
          simp only [Act.put, List.setIfInBounds_toArray, List.set_cons_zero, List.set_cons_succ]
          refine' wpAnyD_take (i := 3) (v := _) rfl (by kernel_rfl) (by kernel_rfl) (by kernel_rfl) (by kernel_rfl) (fun _ _ _ h => h) (Or.inl ⟨by rfl, ?hy4⟩) hS ?re4
          case hy4 => (intro w hSw; (try dsimp only at hSw); go_simp; (try with_reducible rfl))
          simp only [Act.put, List.setIfInBounds_toArray, List.set_cons_zero, List.set_cons_succ]
          refine wpAnyD_take (i := 4) rfl (by kernel_rfl) (by kernel_rfl) (by kernel_rfl) (by kernel_rfl) (fun _ _ _ h => h) (yields_conv (by rfl) _ rfl (.slice (some ⟨g2, 0, none⟩) 64 64) rfl cu1 (fun _ h => h.1.bytes h8 (by rw [hl]; decide) 64 64 hl.symm)) hS ?_
          simp only [Act.put, List.setIfInBounds_toArray, List.set_cons_zero, List.set_cons_succ]
          refine' wpAnyD_take (i := 5) (v := _) rfl (by kernel_rfl) (by kernel_rfl) (by kernel_rfl) (by kernel_rfl) (fun _ _ _ h => h) (Or.inl ⟨by rfl, ?hy5⟩) hS ?re5
          case hy5 => (intro w hSw; (try dsimp only at hSw); go_simp; (try with_reducible rfl))
          simp only [Act.put, List.setIfInBounds_toArray, List.set_cons_zero, List.set_cons_succ]
          refine wpAnyD_take (i := 6) rfl (by kernel_rfl) (by kernel_rfl) (by kernel_rfl) (by kernel_rfl) (fun _ _ _ h => h) (yields_conv (by rfl) _ rfl (.slice (some ⟨gw, 0, none⟩) 64 64) rfl cu1 (fun _ h => h.2.bytes h8 (by rw [hl]; decide) 64 64 hl.symm)) hS ?_
          simp only [Act.put, List.setIfInBounds_toArray, List.set_cons_zero, List.set_cons_succ]
          refine' wpAnyD_take (i := 7) (v := _) rfl (by kernel_rfl) (by kernel_rfl) (by kernel_rfl) (by kernel_rfl) (fun _ _ _ h => h) (Or.inl ⟨by rfl, ?hy6⟩) hS ?re6
          case hy6 => (intro w hSw; (try dsimp only at hSw); go_simp; (try with_reducible rfl))
          simp only [Act.put, List.setIfInBounds_toArray, List.set_cons_zero, List.set_cons_succ]
          refine' wpAnyD_take (i := 8) (v := _) rfl (by kernel_rfl) (by kernel_rfl) (by kernel_rfl) (by kernel_rfl) (fun _ _ _ h => h) (Or.inl ⟨by rfl, ?hy7⟩) hS ?re7
          case hy7 => (intro w hSw; (try dsimp only at hSw); go_simp; (try with_reducible rfl))
          simp only [Act.put, List.setIfInBounds_toArray, List.set_cons_zero, List.set_cons_succ]
          refine wpAnyD_done (by kernel_rfl) ?_ _
          clear hS
          go_wp2
          go_roundw
          case rel => exact ⟨j + 1, by omega, by go_num, hX7⟩
          case measure => simp [intOf]; omega
    · obtain rfl : j = 6 := by omega
      have hX7 : RunX w _ L R S M (k + 1) (.slice puw1 wl1.length cuw1) (.int .i64 dd.lef) (.int .i64 (dd.cnt : Int)) := ⟨v1, dd, wl1, hX, rfl, rfl⟩
      clear hX
      go_wp2
      go_roundw
      case rel => exact ⟨k + 1, by omega, by go_num, hX7⟩
      case measure => simp [intOf]; omega
end Go.Proofs.Ytkamagicnemppaa
