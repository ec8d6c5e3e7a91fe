
import Derived.Test.YtkamagicnemppaaDkO0
import Derived.Test.YtkamagicnemppaaDkP
namespace Go.Proofs.Ytkamagicnemppaa
open Go.RowKit
set_option maxRecDepth 100000
set_option linter.unusedVariables false
set_option linter.unusedSimpArgs false
set_option maxHeartbeats 8000000 in
theorem dkOPack_w0 : dkOPack.p_w0 := by
  intro L w cu iq1 w1 iq2 w2 R S M iq3 iq4 w3 wr u2 u10 u11 u12 u13 u15 u16 u17 u18 u19 u20 u21 u23 u24 u25 iq5 iq6 iq7 iq8 iq9 iq10 iq11 iq12 iq13 iq14 iq15 iq16 iq17 iq18 iq19 iq20 iq21 iq22 iq23 u58 iq24 iq25 iq26 iq27 iq28 iq29 iq30 u66 iq31 iq32 iq33 iq34 iq35 iq36 iq37 iq38 iq39 iq40 iq41 iq42 iq43 u80 iq44 iq45 iq46 iq47 iq48 iq49 iq50 iq51 u89 iq52 iq53 iq54 iq55 iq56 iq57 iq58 iq59 iq60 iq61 u100 iq62 iq63 iq64 u104 u105 u106 iq65 iq66 iq67 iq68 iq69 iq70 iq71 iq72 iq73 iq74 iq75 iq76 iq77 iq78 iq79 u122 iq80 iq81 iq82 iq83 iq84 iq85 iq86 iq87 iq88 u132 u133 u134 iq89 iq90 iq91 iq92 iq93 iq94 iq95 iq96 iq97 iq98 iq99 iq100 iq101 iq102 iq103 iq104 iq105 iq106 iq107 iq108 iq109 iq110 iq111 iq112 iq113 iq114 iq115 iq116 iq117 iq118 iq119 iq120 iq121 iq122 iq123 iq124 iq125 iq126 iq127 iq128 iq129 iq130 iq131 iq132 iq133 iq134 iq135 iq136 iq137 iq138 iq139 iq140 iq141 iq142 iq143 iq144 u191 iq145 iq146 iq147 iq148 iq149 u197 u198 u199 iq150 iq151 iq152 iq153 iq154 iq155 iq156 iq157 iq158 iq159 iq160 iq161 iq162 iq163 iq164 iq165 iq166 iq167 iq168 iq169 iq170 iq171 iq172 iq173 iq174 iq175 iq176 iq177 iq178 k hk v d wl puw cuw hlt hlt' k1 b off hb hL c hmem hok0 iq179 iq180 iq181 w4 rg hX4 hgw hgM hd8 hdm pd cd hdat hcv iq182 q1 q2 d0 d1 hbig' u39 u40 u41 u42 u43 u44 u45 u46 u47 u48 u49 u50 u51 u52 u53 u54 u55 u56 u57 u59 u60 u61 u62 u63 u64 u65 u67 u68 u69 u70 u71 u72 u73 u74 u75 u76 u77 u78 u79 u81 u82 u83 u84 u85 u86 u87 u88 u90 u91 u92 u93 u94 u95 u96 u97 u98 u99 u101 u102 u103 u107 u108 u109 u110 u111 u112 u113 u114 u115 u116 u117 u118 u119 u120 u121 u123 u124 u125 u126 u127 u128 u129 u130 u131 u135 u136 u137 u138 u139 u140 u141 u142 u143 u144 u145 u146 u147 u148 u149 u150 u151 u152 u153 u154 u155 u156 u157 u158 u159 u160 u161 u162 u163 u164 u165 u166 u167 u168 u169 u170 u171 u172 u173 u174 u175 u176 u177 u178 u179 u180 u181 u182 u183 u184 u185 u186 u187 u188 u189 u190 u192 u193 u194 u195 u196 u200 u201 u202 u203 u204 u205 u206 u207 u208 u209 u210 u211 u212 u213 u214 u215 u216 u217 u218 u219 u220 u221 u222 u223 u224 u225 u226 u227 u228 iq183 iq184 iq185 iq186 iq187 iq188
  have hcs : c.cs.size = 6 := rfl
  have hci : (Try.prog.info? 32).map (·.size) = some c.cs.size := by kernel_rfl
  have hone : c.cs.all (·.oneCell') = true := by simp [CIn.cs, hcv, Value.oneCell']
  have hn6 := hX4.n
  have hlb := lef_bound hX4.dk.dk.ok
  generalize hdd : decide (0 ≤ c.at0 ∧ c.at0 < 6) = t at *
  cases t
  case true =>
    have ht : 0 ≤ c.at0 ∧ c.at0 < 6 := of_decide_eq_true hdd
    clear hdd
    by_cases h64 : 64 < c.data.length
    · have h64' : (64 : Int) < (c.data.length : Int) := by omega
      go_wp2_with (go_at_call 12; refine stop ?_)
      refine (write_bad c.at0 _ c.data _ R S _ _ hX4.dk.dk hdat (Or.inr h64)).mono ?_
      rintro e w' ⟨rfl, hw'⟩
      obtain rfl := hw'.symm
      clear hw'
      go_wp2
      go_meet
      case rel => exact ⟨v, d, wl, ⟨hX4.dk, hX4.own, hX4.ws, hX4.n, Nat.le_succ_of_le hX4.cnt, Nat.le_succ_of_le hX4.wl⟩, rfl, rfl⟩
    · have h64' : ¬ (64 : Int) < (c.data.length : Int) := by omega
      obtain ⟨a, ha⟩ : ∃ a : Nat, c.at0 = (a : Int) := ⟨c.at0.toNat, by omega⟩
      rw [ha] at q1
      by_cases hl0 : d.lef = 0
      · have hdn : d.down = true := by rw [lef_down]; simpa using hl0
        rw [hl0]
        go_wp2_with (go_at_call 12; refine stop ?_)
        refine (write_down a _ c.data _ R S _ _ hX4.dk.dk hdat (by omega) (by omega) hdn).mono ?_
        rintro e w' ⟨rfl, hw'⟩
        obtain rfl := hw'.symm
        clear hw'
        go_wp2
        go_meet
        case rel => exact ⟨v, d, wl, ⟨hX4.dk, hX4.own, hX4.ws, hX4.n, Nat.le_succ_of_le hX4.cnt, Nat.le_succ_of_le hX4.wl⟩, by rw [hl0], rfl⟩
      · have hdn : d.down = false := by rw [lef_down]; simpa using hl0
        have hwl := hX4.wl
        have hcn := hX4.cnt
        have c0 : (0 : Int) ≤ (d.cnt : Int) := by omega
        have c1 : (d.cnt : Int) ≤ 200 := by omega
        obtain ⟨lb0, lb1⟩ := hlb
        obtain ⟨u5, w5, run5, own5, gr5, mv5⟩ := append_one Try.underlying22 info_call3 rfl (by decide) (by decide) w4 w.heap.size 22 _ _ _ hX4.own.own c.cs hcs hone (by omega) hX4.dk.below.size _ rfl
        obtain ⟨hM5, hW5, blk⟩ := hX4.grow ⟨hmem, ht.1, ht.2, by omega⟩ gr5 own5
        have rg5 : Row w5 wr.heap.size c.cs 32 := (blk _ rg.lt (fun e => by have := hgw _ e; omega)).trans rg
        have q3 : w5.cell? ⟨wr.heap.size, 1, none⟩ = some (.int .i64 (a : Int)) := by rw [← ha]; exact rg5.cell 1
        have q4 : w5.cell? ⟨wr.heap.size, 2, none⟩ = some (.slice pd c.data.length cd) := by rw [← hcv]; exact rg5.cell 2
        have hdat5 : BytesAt w5 (.slice pd c.data.length cd) c.data := by
          rw [← hcv]
          exact hok0.data.later hM5.below
        have hlef := lef_put a c.data hl0 hX4.dk.dk.ok.ll
        obtain ⟨pu5, nu5, cu5, rfl, hnu5⟩ := ownsRow_form own5
        have hl0b : (d.lef == 0) = false := by simpa using hl0
        clear hnu5 own5 gr5 mv5 blk hlt' hbig'
        have han : a < d.n := by omega
        have HA : Hid (c.at0 = (a : Int)) := ha
        have HC : Hid (c.cs.toList.length = 6) := rfl
        clear ha
        go_wp2_with (first | refine wpList_load_row rfl 32 _ rfl wr.heap.size rfl 32 c.cs (0, 0) _ rg Try.underlying32 rfl hci ?_ | (at_builtin; refine stop ?_))
        rw [lay_all _ c.cs _ hcs rfl]
        unfold Stop
        go_wp2_with (first | (at_builtin; refine Lib.wpList_append_run _ rfl _ _ _ _ rfl _ _ rfl rfl _ _ run5 ?_) | (go_at_call 12; refine stop ?_))
        refine (write_any a _ c.data _ R S _ _ hM5.dk hdat5 han (by omega) hdn (by rw [hX4.ws, List.length_map]; omega) (by omega)).mono ?_
        rintro e w6 ⟨v6, rfl, hd6, hs6⟩
        have hM6 := hM5.step hd6 hs6
        have hW6 := hW5.step hM5.dk hs6
        have hX6 : RunX w w6 L R S M (k + 1) (.slice pu5 nu5 cu5) (.int .i64 (max (d.lef - 1) (min d.lef 0))) (.int .i64 ((d.cnt : Int) + 1)) := by
          refine ⟨v6, d.put a c.data, wl ++ [c], ⟨hM6, hW6, ?_, hX4.n, ?_, ?_⟩, by rw [hlef], ?_⟩
          · show d.ws ++ [(a, pad c.data)] = _
            rw [hX4.ws, List.map_append, List.map_singleton]
            show _ = _ ++ [(c.at0.toNat, pad c.data)]
            rw [HA.out]
            rfl
          · show d.cnt + 1 ≤ _; omega
          · rw [List.length_append]; simp; omega
          · show _ = Value.int .i64 ((d.cnt + 1 : Nat) : Int); rw [show ((d.cnt + 1 : Nat) : Int) = (d.cnt : Int) + 1 by omega]
        clear hM6 hW6 hd6 hs6 hW5 hM5 hX4 rg rg5 hdat5
        go_wp2
        go_meet
        case rel => exact hX6
  case false =>
    have ht : ¬ (0 ≤ c.at0 ∧ c.at0 < 6) := of_decide_eq_false hdd
    clear hdd
    go_wp2_with (go_at_call 12; refine stop ?_)
    refine (write_bad c.at0 _ c.data _ R S _ _ hX4.dk.dk hdat (Or.inl (by omega))).mono ?_
    rintro e w' ⟨rfl, hw'⟩
    obtain rfl := hw'.symm
    clear hw'
    go_wp2
    go_meet
    case rel => exact ⟨v, d, wl, ⟨hX4.dk, hX4.own, hX4.ws, hX4.n, Nat.le_succ_of_le hX4.cnt, Nat.le_succ_of_le hX4.wl⟩, rfl, rfl⟩
end Go.Proofs.Ytkamagicnemppaa
