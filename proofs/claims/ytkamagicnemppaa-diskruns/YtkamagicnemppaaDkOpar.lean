
import Derived.Test.YtkamagicnemppaaDkO0
import Derived.Test.YtkamagicnemppaaDkP
namespace Go.Proofs.Ytkamagicnemppaa
open Go.RowKit
set_option maxRecDepth 100000
set_option linter.unusedVariables false
set_option linter.unusedSimpArgs false

set_option maxHeartbeats 8000000 in
theorem dkOPack_ar : dkOPack.p_ar := by
  intro L w cu iq1 w1 iq2 w2 R S M iq3 iq4 w3 wr u2 u10 u11 u12 u13 u15 u16 u17 u18 u19 u20 u21 u23 u24 u25 iq5 iq6 iq7 iq8 iq9 iq10 iq11 iq12 iq13 iq14 iq15 iq16 iq17 iq18 iq19 iq20 iq21 iq22 iq23 u58 iq24 iq25 iq26 iq27 iq28 iq29 iq30 u66 iq31 iq32 iq33 iq34 iq35 iq36 iq37 iq38 iq39 iq40 iq41 iq42 iq43 u80 iq44 iq45 iq46 iq47 iq48 iq49 iq50 iq51 u89 iq52 iq53 iq54 iq55 iq56 iq57 iq58 iq59 iq60 iq61 u100 iq62 iq63 iq64 u104 u105 u106 iq65 iq66 iq67 iq68 iq69 iq70 iq71 iq72 iq73 iq74 iq75 iq76 iq77 iq78 iq79 u122 iq80 iq81 iq82 iq83 iq84 iq85 iq86 iq87 iq88 u132 u133 u134 iq89 iq90 iq91 iq92 iq93 iq94 iq95 iq96 iq97 iq98 iq99 iq100 iq101 iq102 iq103 iq104 iq105 iq106 iq107 iq108 iq109 iq110 iq111 iq112 iq113 iq114 iq115 iq116 iq117 iq118 iq119 iq120 iq121 iq122 iq123 iq124 iq125 iq126 iq127 iq128 iq129 iq130 iq131 iq132 iq133 iq134 iq135 iq136 iq137 iq138 iq139 iq140 iq141 iq142 iq143 iq144 u191 iq145 iq146 iq147 iq148 iq149 u197 u198 u199 iq150 iq151 iq152 iq153 iq154 iq155 iq156 iq157 iq158 iq159 iq160 iq161 iq162 iq163 iq164 iq165 iq166 iq167 iq168 iq169 iq170 iq171 iq172 iq173 iq174 iq175 iq176 iq177 iq178 k hk v d wl puw cuw hlt hlt' k1 b off hb hL c hmem hok0 iq179 iq180 iq181 w4 rg hX4 hgw hgM hd8 hdm pd cd hdat hcv iq182 q1 q2 d0 d1 hbig' u39 u40 u41 u42 u43 u44 u45 u46 u47 u48 u49 u50 u51 u52 u53 u54 u55 u56 u57 u59 u60 u61 u62 u63 u64 u65 u67 u68 u69 u70 u71 u72 u73 u74 u75 u76 u77 u78 u79 u81 u82 u83 u84 u85 u86 u87 u88 u90 u91 u92 u93 u94 u95 u96 u97 u98 u99 u101 u102 u103 u107 u108 u109 u110 u111 u112 u113 u114 u115 u116 u117 u118 u119 u120 u121 u123 u124 u125 u126 u127 u128 u129 u130 u131 u135 u136 u137 u138 u139 u140 u141 u142 u143 u144 u145 u146 u147 u148 u149 u150 u151 u152 u153 u154 u155 u156 u157 u158 u159 u160 u161 u162 u163 u164 u165 u166 u167 u168 u169 u170 u171 u172 u173 u174 u175 u176 u177 u178 u179 u180 u181 u182 u183 u184 u185 u186 u187 u188 u189 u190 u192 u193 u194 u195 u196 u200 u201 u202 u203 u204 u205 u206 u207 u208 u209 u210 u211 u212 u213 u214 u215 u216 u217 u218 u219 u220 u221 u222 u223 u224 u225 u226 u227 u228 iq183 iq184 iq185 iq186 iq187 iq188
  generalize decide (0 ≤ c.at0 ∧ c.at0 < 6) = t at *
  have hat := hok0.at0
  have hcnt := hX4.cnt
  go_wp2_with (go_at_call 15; refine stop ?_)
  refine (arm_any c.at0 hat.2 _ R S _ _ hX4.dk.dk).mono ?_
  rintro e w5 ⟨rfl, hd5, hs5⟩
  have hM5 := hX4.dk.step hd5 hs5
  have hW5 := hX4.own.step hX4.dk.dk hs5
  have rg5 : Row w5 wr.heap.size c.cs 32 := (hs5.far ⟨rg.ne hX4.dk.dk.row (by decide), rg.ne hX4.dk.dk.sure (by decide), ownN_ne hX4.dk.dk.own rg (by decide)⟩ rg.lt).trans rg
  have q3 : w5.cell? ⟨wr.heap.size, 1, none⟩ = some (.int .i64 c.at0) := rg5.cell 1
  have hX5 : RunX w w5 L R S M (k + 1) (.slice puw wl.length cuw) (.int .i64 (max c.at0 0)) (.int .i64 (d.cnt : Int)) := by
    refine ⟨v, _, wl, ⟨hM5, hW5, hX4.ws, hX4.n, Nat.le_succ_of_le hX4.cnt, Nat.le_succ_of_le hX4.wl⟩, ?_, rfl⟩
    show _ = Value.int .i64 ((c.at0.toNat : Nat) : Int)
    rw [show ((c.at0.toNat : Nat) : Int) = max c.at0 0 by omega]
  clear hM5 hW5 hd5 hs5 hX4 rg rg5 q1
  go_wp2
  go_meet
  case rel => exact hX5
end Go.Proofs.Ytkamagicnemppaa
