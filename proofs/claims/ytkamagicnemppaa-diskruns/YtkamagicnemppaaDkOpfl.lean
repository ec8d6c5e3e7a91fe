
import Derived.Test.YtkamagicnemppaaDkO0
import Derived.Test.YtkamagicnemppaaDkP
namespace Go.Proofs.Ytkamagicnemppaa
open Go.RowKit
set_option maxRecDepth 100000
set_option linter.unusedVariables false
set_option linter.unusedSimpArgs false

set_option maxHeartbeats 8000000 in
theorem dkOPack_fl : dkOPack.p_fl := by
  intro L w cu iq1 w1 iq2 w2 R S M iq3 iq4 w3 wr u2 u10 u11 u12 u13 u15 u16 u17 u18 u19 u20 u21 u23 u24 u25 iq5 iq6 iq7 iq8 iq9 iq10 iq11 iq12 iq13 iq14 iq15 iq16 iq17 iq18 iq19 iq20 iq21 iq22 iq23 u58 iq24 iq25 iq26 iq27 iq28 iq29 iq30 u66 iq31 iq32 iq33 iq34 iq35 iq36 iq37 iq38 iq39 iq40 iq41 iq42 iq43 u80 iq44 iq45 iq46 iq47 iq48 iq49 iq50 iq51 u89 iq52 iq53 iq54 iq55 iq56 iq57 iq58 iq59 iq60 iq61 u100 iq62 iq63 iq64 u104 u105 u106 iq65 iq66 iq67 iq68 iq69 iq70 iq71 iq72 iq73 iq74 iq75 iq76 iq77 iq78 iq79 u122 iq80 iq81 iq82 iq83 iq84 iq85 iq86 iq87 iq88 u132 u133 u134 iq89 iq90 iq91 iq92 iq93 iq94 iq95 iq96 iq97 iq98 iq99 iq100 iq101 iq102 iq103 iq104 iq105 iq106 iq107 iq108 iq109 iq110 iq111 iq112 iq113 iq114 iq115 iq116 iq117 iq118 iq119 iq120 iq121 iq122 iq123 iq124 iq125 iq126 iq127 iq128 iq129 iq130 iq131 iq132 iq133 iq134 iq135 iq136 iq137 iq138 iq139 iq140 iq141 iq142 iq143 iq144 u191 iq145 iq146 iq147 iq148 iq149 u197 u198 u199 iq150 iq151 iq152 iq153 iq154 iq155 iq156 iq157 iq158 iq159 iq160 iq161 iq162 iq163 iq164 iq165 iq166 iq167 iq168 iq169 iq170 iq171 iq172 iq173 iq174 iq175 iq176 iq177 iq178 k hk v d wl puw cuw hlt hlt' k1 b off hb hL c hmem hok0 iq179 iq180 iq181 w4 rg hX4 hgw hgM hd8 hdm pd cd hdat hcv iq182 q1 q2 d0 d1 hbig' u39 u40 u41 u42 u43 u44 u45 u46 u47 u48 u49 u50 u51 u52 u53 u54 u55 u56 u57 u59 u60 u61 u62 u63 u64 u65 u67 u68 u69 u70 u71 u72 u73 u74 u75 u76 u77 u78 u79 u81 u82 u83 u84 u85 u86 u87 u88 u90 u91 u92 u93 u94 u95 u96 u97 u98 u99 u101 u102 u103 u107 u108 u109 u110 u111 u112 u113 u114 u115 u116 u117 u118 u119 u120 u121 u123 u124 u125 u126 u127 u128 u129 u130 u131 u135 u136 u137 u138 u139 u140 u141 u142 u143 u144 u145 u146 u147 u148 u149 u150 u151 u152 u153 u154 u155 u156 u157 u158 u159 u160 u161 u162 u163 u164 u165 u166 u167 u168 u169 u170 u171 u172 u173 u174 u175 u176 u177 u178 u179 u180 u181 u182 u183 u184 u185 u186 u187 u188 u189 u190 u192 u193 u194 u195 u196 u200 u201 u202 u203 u204 u205 u206 u207 u208 u209 u210 u211 u212 u213 u214 u215 u216 u217 u218 u219 u220 u221 u222 u223 u224 u225 u226 u227 u228 iq183 iq184 iq185 iq186 iq187 iq188
  obtain ⟨wo, rfl⟩ : ∃ wo : World, wo = wr := ⟨_, rfl⟩
  generalize decide (0 ≤ c.at0 ∧ c.at0 < 6) = t at *
  have hwl := hX4.wl
  have hn6 := hX4.n
  have w0 : (0 : Int) ≤ (wl.length : Int) := by omega
  have w1' : (wl.length : Int) ≤ 200 := by omega
  by_cases hl0 : d.lef = 0
  · have hdn : d.down = true := by rw [lef_down]; simpa using hl0
    rw [hl0]
    go_wp2_with (go_at_call 13; refine stop ?_)
    refine (flush_down _ R S _ _ hX4.dk.dk hdn).mono ?_
    rintro e w' ⟨rfl, hw'⟩
    obtain rfl := hw'.symm
    clear hw'
    go_wp2
    go_meet
    case rel => exact ⟨v, d, wl, ⟨hX4.dk, hX4.own, hX4.ws, hX4.n, Nat.le_succ_of_le hX4.cnt, Nat.le_succ_of_le hX4.wl⟩, by rw [hl0], rfl⟩
  · have hdn : d.down = false := by rw [lef_down]; simpa using hl0
    have hl0b : (d.lef == 0) = false := by simpa using hl0
    clear q1 q2 rg hdat hbig' hlt'
    go_wp2
    go_loopw [106] (fun i wz => ∃ j : Nat, j ≤ wl.length ∧ i = .int .i64 j ∧ Mine w wz R S v d ∧ RunW w wz L M (.slice puw wl.length cuw) (setl (fun _ => 64) d.F (d.ws.take j)) wl) (fun i _ => wl.length - (intOf i).toNat)
    case atStart => exact ⟨0, Nat.zero_le _, rfl, hX4.dk, hX4.own⟩
    case round =>
      obtain ⟨j, hj, rfl, hMz, hWz⟩ := hrel
      have hwsl : d.ws.length = wl.length := by rw [hX4.ws, List.length_map]
      by_cases hjl : j < wl.length
      · have hjl' : (j : Int) < (wl.length : Int) := by omega
        obtain ⟨g, cap, e, hg, hr⟩ := hWz.wait hjl
        cases e
        have hmemj : wl.getD j CIn.none ∈ wl := by simp only [List.getD]; rw [List.getElem?_eq_getElem hjl]; exact List.getElem_mem _
        have hwok := hWz.each _ hmemj
        have hokj := hL.each _ hwok.mem
        have hwsj : d.ws.getD j (0, []) = (wl.getD j CIn.none).wr := by rw [hX4.ws]; simp [List.getD, List.getElem?_map, hjl]
        have hsucc := setl_succ (fun _ => 64) d.F d.ws j (by omega)
        rw [hwsj] at hsucc
        generalize wl.getD j CIn.none = x at *
        obtain ⟨a, ha⟩ : ∃ a : Nat, x.at0 = (a : Int) := ⟨x.at0.toNat, by have := hwok.lo; omega⟩
        have han : a < 6 := by have := hwok.hi; omega
        have hsucc2 : setl (fun _ => 64) d.F (d.ws.take (j + 1)) = settle (setl (fun _ => 64) d.F (d.ws.take j)) a (pad x.data) 64 := by
          rw [hsucc]
          show settle _ x.at0.toNat _ _ = _
          rw [ha]
          rfl
        have hFl : (setl (fun _ => 64) d.F (d.ws.take j)).length = 64 * 6 := setl_len _ (fun _ => Nat.le_refl 64) (by rw [← hn6]; exact hX4.dk.dk.ok.fl) (fun y hy => by rw [← hn6]; exact hX4.dk.dk.ok.wok y (List.mem_of_mem_take hy))
        generalize setl (fun _ => 64) d.F (d.ws.take j) = Fj at *
        have hci : (Try.prog.info? 32).map (·.size) = some x.cs.toList.length := by kernel_rfl
        have hcj : (Try.prog.info? 32).map (·.size) = some x.cs.size := by kernel_rfl
        obtain ⟨px, cx, hxv⟩ : ∃ p c, x.v = .slice p x.data.length c := by
          obtain ⟨_, _, p, q, e, _⟩ := hokj.data
          exact ⟨p, q, e⟩
        have hone : x.cs.all (·.oneCell') = true := by simp [CIn.cs, hxv, Value.oneCell']
        go_wp2_with (first | refine wpList_load_mid rfl 32 _ rfl g (j * 6) rfl x.cs.toList _ hr Try.underlying32 rfl hci ?_ | (refine wpList_store_row rfl 32 _ _ rfl wr.heap.size x.cs rfl rfl 32 _ (heap_alloc_new wr _) hcj rfl hone ?_; refine stop ?_))
        unfold Stop
        clear hr
        have rg := (Row.new wr #[.int .i64 0, .int .i64 0, .slice none 0 0, .int .u64 0, .int .i64 0, .int .i64 0] 32 rfl).setRow x.cs
        have b2 : Below wr.heap.size wr ((wr.alloc (.cells #[.int .i64 0, .int .i64 0, .slice none 0 0, .int .u64 0, .int .i64 0, .int .i64 0] 32)).setRow wr.heap.size x.cs) := Below.row (below1 wr _) _ (Nat.le_refl _)
        generalize (wr.alloc (.cells #[.int .i64 0, .int .i64 0, .slice none 0 0, .int .u64 0, .int .i64 0, .int .i64 0] 32)).setRow wr.heap.size x.cs = w5 at *
        have hM5 := hMz.later b2
        have hW5 := hWz.later b2
        have z1 : w5.cell? ⟨wr.heap.size, 1, none⟩ = some (.int .i64 (a : Int)) := by rw [← ha]; exact rg.cell 1
        have z2 : w5.cell? ⟨wr.heap.size, 2, none⟩ = some (.slice px x.data.length cx) := by rw [← hxv]; exact rg.cell 2
        have a0 : (0 : Int) ≤ (a : Int) := by omega
        have a1 : (a : Int) < 6 := by omega
        have hzs : wr.heap.size < w5.heap.size := rg.lt
        have HA : Hid (x.at0 = (a : Int)) := ha
        clear hMz hWz hcj hci hone hsucc ha
        go_upto_region 38 with fail
        refine wp_region_D (fun i => i != 7) (fun w' : World => w'.cell? ⟨wr.heap.size, 1, none⟩ = some (.int .i64 (a : Int)) ∧ w'.cell? ⟨wr.heap.size, 2, none⟩ = some (.slice px x.data.length cx)) (by kernel_rfl) ?_
        have hS : (fun w' : World => w'.cell? ⟨wr.heap.size, 1, none⟩ = some (.int .i64 (a : Int)) ∧ w'.cell? ⟨wr.heap.size, 2, none⟩ = some (.slice px x.data.length cx)) w5.drew := ⟨z1, z2⟩
        have hM6 : Mine w w5.drew R S v d := hM5.drew
        have hW6 : RunW w w5.drew L M (.slice (some ⟨g, 0, none⟩) wl.length cuw) Fj wl := hW5.keep rfl (fun _ _ => rfl)
        have hz6 : wr.heap.size < w5.drew.heap.size := hzs
        clear hM5 hW5 z1 z2 rg b2 hzs
        generalize w5.drew = w6 at *
        refine' wpAnyD_take (i := 0) (v := _) rfl (by kernel_rfl) (by kernel_rfl) (by kernel_rfl) (by kernel_rfl) (fun _ _ _ h => h) (Or.inl ⟨by rfl, ?hy1⟩) hS ?re1
        case hy1 => (intro w hSw; (try dsimp only at hSw); go_simp; (try with_reducible rfl))
        simp only [Act.put, List.setIfInBounds_toArray, List.set_cons_zero, List.set_cons_succ]
        refine' wpAnyD_take (i := 1) (v := _) rfl (by kernel_rfl) (by kernel_rfl) (by kernel_rfl) (by kernel_rfl) (fun _ _ _ h => h) (Or.inl ⟨by rfl, ?hy2⟩) hS ?re2
        case hy2 => (intro w hSw; (try dsimp only at hSw); go_simp; (try with_reducible rfl))
        simp only [Act.put, List.setIfInBounds_toArray, List.set_cons_zero, List.set_cons_succ]
        refine' wpAnyD_take (i := 2) (v := _) rfl (by kernel_rfl) (by kernel_rfl) (by kernel_rfl) (by kernel_rfl) (fun _ _ _ h => h) (Or.inl ⟨by rfl, ?hy3⟩) hS ?re3
        case hy3 => (intro w hSw; (try dsimp only at hSw); go_simp; (try with_reducible rfl))
        simp only [Act.put, List.setIfInBounds_toArray, List.set_cons_zero, List.set_cons_succ]
        refine' wpAnyD_take (i := 3) (v := _) rfl (by kernel_rfl) (by kernel_rfl) (by kernel_rfl) (by kernel_rfl) (fun _ _ _ h => h) (Or.inl ⟨by rfl, ?hy4⟩) hS ?re4
        case hy4 => (intro w hSw; (try dsimp only at hSw); go_simp; (try with_reducible rfl))
        simp only [Act.put, List.setIfInBounds_toArray, List.set_cons_zero, List.set_cons_succ]
        refine' wpAnyD_take (i := 4) (v := _) rfl (by kernel_rfl) (by kernel_rfl) (by kernel_rfl) (by kernel_rfl) (fun _ _ _ h => h) (Or.inl ⟨by rfl, ?hy5⟩) hS ?re5
        case hy5 => (intro w hSw; (try dsimp only at hSw); go_simp; (try with_reducible rfl))
        simp only [Act.put, List.setIfInBounds_toArray, List.set_cons_zero, List.set_cons_succ]
        refine wpAnyD_only (i := 5) rfl (by kernel_rfl) (by rfl) (fun K hK => ?_)
        go_simp
        refine (full_any _ x.data w6 (by rw [← hxv]; exact hokj.data.later hM6.below) hwok.len).mono ?_
        rintro e w7 ⟨rfl, hb7⟩
        try dsimp only
        have hSn := (⟨(hb7.cell (p := ⟨wr.heap.size, 1, none⟩) hz6).trans hS.1, (hb7.cell (p := ⟨wr.heap.size, 2, none⟩) hz6).trans hS.2⟩ : (fun w' : World => w'.cell? ⟨wr.heap.size, 1, none⟩ = some (.int .i64 (a : Int)) ∧ w'.cell? ⟨wr.heap.size, 2, none⟩ = some (.slice px x.data.length cx)) w7)
        refine hK.out _ _ (fun _ => hSn) ?_
        clear hK K hS
        have hS := hSn
        clear hSn
        try simp only [Act.put, List.setIfInBounds_toArray, List.set_cons_zero, List.set_cons_succ]
        have hM7 := hM6.later hb7
        have hW7 := hW6.later hb7
        have hpl := pad_len hwok.len
        obtain ⟨hW8, he8⟩ := hW7.lay hFl han hpl
        have hM8 := hM7.else hW7.row hW7.hM he8
        refine' wpAnyD_take (i := 6) (v := _) rfl (by kernel_rfl) (by kernel_rfl) (by kernel_rfl) (by kernel_rfl) (fun _ _ _ h => h) (Or.inl ⟨by rfl, ?hy6⟩) hS ?re6
        case hy6 => (intro w hSw; (try dsimp only at hSw); go_simp; (try with_reducible rfl))
        simp only [Act.put, List.setIfInBounds_toArray, List.set_cons_zero, List.set_cons_succ]
        refine wpAnyD_only (i := 7) rfl (by kernel_rfl) (by rfl) (fun K hK => ?_)
        refine wp_store_mid 26 _ _ rfl M (a * 64) (bytesL (pad x.data)) rfl rfl (there_row hW7.row _ _ (by rw [bytesL_size, bytesL_size, hpl, hFl]; omega)) (info_arr' hpl) (bytesL_one _) ?_
        refine hK.out _ _ (fun hh => by cases hh) ?_
        clear hK K hS
        try simp only [Act.put, List.setIfInBounds_toArray, List.set_cons_zero, List.set_cons_succ]
        refine wpAnyD_done (by kernel_rfl) ?_ _
        rw [← hsucc2] at hW8
        generalize w7.setCells M (a * 64) (bytesL (pad x.data)).toList = w8 at *
        clear hM6 hW6 hM7 hW7 he8 hb7 hsucc2 hwok hokj
        go_wp2
        go_roundw
        case rel => exact ⟨j + 1, by omega, by go_num, hM8, hW8⟩
        case measure => simp [intOf]; omega
      · obtain rfl : j = wl.length := by omega
        have hnj : ¬ (wl.length : Int) < (wl.length : Int) := by omega
        rw [List.take_of_length_le (Nat.le_of_eq hwsl)] at hWz
        go_wp2_with (go_at_call 13; refine stop ?_)
        refine (flush_any _ R S _ _ hMz.dk hdn).mono ?_
        rintro e w5 ⟨rfl, hd5, hs5⟩
        have hM5 := hMz.step hd5 hs5
        have hW5 := hWz.step hMz.dk hs5
        have hX5 : RunX w w5 L R S M (k + 1) (.slice none 0 0) (.int .i64 d.lef) (.int .i64 (d.cnt : Int)) :=
          ⟨_, _, [], ⟨hM5, ⟨hW5.row, hW5.hM, World.ownsRow_nil _ _ _ _, fun c hc => by cases hc⟩, rfl, hn6, Nat.le_succ_of_le hX4.cnt, Nat.zero_le _⟩, rfl, rfl⟩
        clear hM5 hW5 hd5 hs5 hMz hWz
        go_wp2
        go_meet
        case rel => exact hX5
end Go.Proofs.Ytkamagicnemppaa
