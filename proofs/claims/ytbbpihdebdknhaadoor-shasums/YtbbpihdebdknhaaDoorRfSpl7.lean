import Derived.Test.YtbbpihdebdknhaaDoorRfS0
namespace Go.Proofs.YtbbpihdebdknhaaDoor
open Go.RowKit

set_option maxHeartbeats 40000000 in
set_option maxRecDepth 100000 in
theorem rfSPack_l7 : rfSPack.p_l7 := by
  intro m w hw8 p c n hn hl hl0 hl1 iq1 w1 iq2 u1 v2 u2 B hw1 iq3 iq4 u34 u35 u36 u37 u38 u39 u40 vp iq5 iq6 hz64 v0 v1 HV P1 iq7 iq8 iq9 iq10 iq11 u41 u42 u43 u44 u45 u46 u47 u48 u49 u50 u51 u52 u53 vn vc P hp8 gm hcm HPN iq12 iq13 iq14 iq15 w4 gk ck w5 gh ch hmk hkh hwm q0 q1 c0 iq16 iq17 u9 u10 u11 u12 u13 u14 u15 u16 u17 u18 u19 u20 u21 u22 u56 u57 u58 u59 u60 u61 u62 u63 u64 u65 u66 u67 u68 u69 u70 u71 u72 u73 u74 u75 u76 u77 u78 u79 u80 u81 u82 u83 u84 u85 u86 u87 u88 u89 u90 u91 u92 u93 u94 u95 u96 u97 u98 u99 u100 u101 u102 u103 u104 u105 u106 u107 u108 u109 u110 u111 u112 u113 u114 u115 u116 u117 u118 u119 u120 u121 u122 u123 u124 u125 u126 u127 u128 u129 u130 u131 u132 u133 u134 u135 u136 u137 u138 u139 u140 u141 u142 u143 u144 u145 u146 u147 u148 u149 u150 u151 u152 u153 u154 u155 u156 u157 u158 u159 u160 u161 u162 u163 u164 u165 u166 u167 u168 u169 u170 u171 u172 u173 u174 u175 u176 u177 u178 u179 u180 u181 u182 u183 u184 u185 u186 u187 u188 u189 u190 u191 u192 u193 u194 u195 u196 u197 u198 u199 u200 u201 u202 u203 u204 u205 u206 u207 u208 u209 u210 u211 u212 u213 u214 u215 u216 u217 u218 u219 u220 u221 u222 u223 u224 u225 u226 u227 u228 u229 u230 u231 u232 u233 u234 u235 u236 u237 u238 u239 u240 u241 u242 u243 u244 u245 u246 u247 u248 u249 u250 u251 u252 u253 u254 u255 u256 u257 u258 u259 u260 u261 u262 u263 u264 u265 u266 u267 u268 u269 u270 u271 u272 u273 u274 u275 u276 u277 u278 u279 u280 u281 u282 u283 u284 u285 u286 u287 u288 u289 u290 u291 k HNB hk hlt at_ st HF2 hst HGB iq18 iq19 iq20 iq21 iq22 a4 wr1 bb hbb htl wr u292 u293 u294 u295 u296 u297 u298 u299 u300 u301 u302 u303 u304 u305 u306 u307 u308 u309 i hi hr hor hi32
  have c0' := (hr.ph (i / 4) (by omega)).1
  rw [s8L_at st (i / 4) (by omega)] at c0'
  have c1' := (hor.cell i).trans (bytesL_at _ i (by simp; omega))
  have f1' := hor.frozen i
  have b0 := S8.at_lt hst (i / 4)
  have HF := fill_set (tellF st) 32 i htl hi32
  have HT := tellF_at st i hi32
  have HR : Hid (SmR w wr gm gk gh P (s8L st) ∧ Row wr bb (bytesL ((tellF st).take i ++ List.replicate (32 - i) 0)) 24) := ⟨hr, hor⟩
  have HS : Hid (((tellF st).take i ++ List.replicate (32 - i) 0).set i (st.at (i / 4) / 2 ^ (24 - 8 * (i % 4)) % 256) = (tellF st).take (i + 1) ++ List.replicate (32 - (i + 1)) 0) := show _ = _ from by rw [show 24 - 8 * (i % 4) = 8 * (3 - i % 4) from by omega, ← HT]; exact HF
  clear hr hor HF HT
  generalize st.at (i / 4) = x at *
  generalize ((tellF st).take i ++ List.replicate (32 - i) 0) = l at *
  generalize l.getD i 0 = y at *
  have g0 : (0 : Int) ≤ (i : Int) := by omega
  have g1 : (i : Int) < 32 := by omega
  have s0 : (0 : Int) ≤ 24 - 8 * ((i : Int) % 4) := by omega
  have s1 : 24 - 8 * ((i : Int) % 4) ≤ 32 := by omega
  go_wp2
  go_roundw
  case rel =>
    have hR := HR.out
    have e7 : (x : Int) / 2 ^ (24 - 8 * (i % 4)) % 256 = ((x / 2 ^ (24 - 8 * (i % 4)) % 256 : Nat) : Int) := by rw [Int.natCast_emod, Int.natCast_ediv, Int.natCast_pow]; rfl
    rw [e7]
    exact ⟨i + 1, by omega, by go_num, hR.1.setCell (by omega) (by omega) (by omega) (by omega) _, by rw [← HS.out, ← bytesL_set]; exact hR.2.set i _⟩
  case measure => simp [intOf]; omega
end Go.Proofs.YtbbpihdebdknhaaDoor
