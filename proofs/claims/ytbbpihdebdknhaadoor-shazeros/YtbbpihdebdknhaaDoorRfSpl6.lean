import Derived.Test.YtbbpihdebdknhaaDoorRfS0
namespace Go.Proofs.YtbbpihdebdknhaaDoor
open Go.RowKit

set_option maxHeartbeats 40000000 in
set_option maxRecDepth 100000 in
theorem rfSPack_l6 : rfSPack.p_l6 := by
  intro m w hw8 p c n hn hl hl0 hl1 iq1 w1 iq2 u1 v2 u2 B hw1 iq3 iq4 u34 u35 u36 u37 u38 u39 u40 vp iq5 iq6 hz64 v0 v1 HV P1 iq7 iq8 iq9 iq10 iq11 u41 u42 u43 u44 u45 u46 u47 u48 u49 u50 u51 u52 u53 vn vc P hp8 gm hcm HPN iq12 iq13 iq14 iq15 w4 gk ck w5 gh ch hmk hkh hwm nb q0 q1 HNB HF2 c0 iq16 iq17 iq18 u9 u10 iq19 iq20 iq21 u14 u15 iq22 iq23 iq24 iq25 iq26 iq27 u22 u56 u57 u58 u59 u60 u61 u62 iq28 iq29 iq30 iq31 iq32 iq33 iq34 iq35 iq36 iq37 iq38 iq39 iq40 iq41 iq42 iq43 iq44 iq45 iq46 iq47 iq48 iq49 iq50 iq51 iq52 iq53 iq54 iq55 iq56 iq57 iq58 iq59 iq60 iq61 iq62 iq63 iq64 iq65 iq66 iq67 iq68 iq69 iq70 iq71 iq72 iq73 iq74 iq75 iq76 iq77 iq78 iq79 iq80 iq81 iq82 iq83 iq84 iq85 iq86 iq87 iq88 iq89 iq90 iq91 iq92 iq93 iq94 iq95 iq96 iq97 iq98 iq99 iq100 iq101 iq102 iq103 iq104 iq105 iq106 iq107 iq108 iq109 iq110 iq111 iq112 iq113 iq114 iq115 iq116 iq117 iq118 iq119 iq120 iq121 iq122 u158 u159 iq123 iq124 iq125 iq126 iq127 iq128 iq129 iq130 iq131 iq132 iq133 iq134 iq135 iq136 iq137 iq138 iq139 iq140 iq141 iq142 iq143 iq144 iq145 iq146 iq147 iq148 iq149 iq150 iq151 iq152 iq153 iq154 iq155 iq156 iq157 iq158 iq159 iq160 iq161 iq162 iq163 iq164 iq165 iq166 iq167 iq168 iq169 iq170 iq171 iq172 iq173 iq174 iq175 iq176 iq177 iq178 iq179 iq180 iq181 iq182 iq183 iq184 iq185 iq186 iq187 iq188 iq189 iq190 iq191 iq192 iq193 iq194 iq195 iq196 iq197 iq198 iq199 iq200 iq201 iq202 iq203 iq204 iq205 iq206 iq207 iq208 iq209 iq210 iq211 iq212 iq213 iq214 iq215 iq216 iq217 iq218 iq219 iq220 iq221 iq222 iq223 iq224 iq225 iq226 iq227 iq228 iq229 iq230 iq231 iq232 iq233 iq234 iq235 iq236 iq237 iq238 iq239 iq240 iq241 iq242 iq243 iq244 iq245 iq246 iq247 iq248 iq249 iq250 iq251 iq252 iq253 iq254 k hk hlt at_ a0 a1 a2 a3 HAT iq255 iq256 iq257 iq258 z hbl hb8 hbat st hst wr1 bb hbb iq259 u11 u12 u13 u63 u64 u65 u66 u67 u68 u69 u70 u71 u72 u73 u74 u75 u76 u77 u78 u79 u80 u81 u82 u83 u84 u85 u86 u87 u88 u89 u90 u91 u92 u93 u94 u95 u96 u97 u98 u99 u100 u101 u102 u103 u104 u105 u106 u107 u108 u109 u110 u111 u112 u113 u114 u115 u116 u117 u118 u119 u120 u121 u122 u123 u124 u125 u126 u127 u128 u129 u130 u131 u132 u133 u134 u135 u136 u137 u138 u139 u140 u141 u142 u143 u144 u145 u146 u147 u148 u149 u150 u151 u152 u153 u154 u155 u156 u157 W HBK hWl hWo u7 gv cv iq260 iq261 iq262 iq263 iq264 u16 u17 u18 u19 u20 u21 u160 u161 u162 u163 u164 u165 u166 u167 u168 u169 u170 u171 u172 u173 u174 u175 u176 u177 u178 u179 u180 u181 u182 u183 u184 u185 u186 u187 u188 u189 u190 u191 u192 u193 u194 u195 u196 u197 u198 u199 u200 u201 u202 u203 u204 u205 u206 u207 u208 u209 u210 u211 u212 u213 u214 u215 u216 u217 u218 u219 u220 u221 u222 u223 u224 u225 u226 u227 u228 u229 u230 u231 u232 u233 u234 u235 u236 u237 u238 u239 u240 u241 u242 u243 u244 u245 u246 u247 u248 u249 u250 u251 u252 u253 u254 u255 u256 u257 u258 u259 u260 u261 u262 u263 u264 u265 u266 u267 u268 u269 u270 u271 u272 u273 u274 u275 u276 u277 b c' hghb rn ho HMX iq265 iq266 iq267 wr u278 u279 u280 u281 u282 u283 u284 u285 u286 u287 u288 u289 u290 u291 i hi hcb hr hi8
  have i0 : (0 : Int) ≤ (i : Int) := by omega
  have i1 : (i : Int) < 8 := by omega
  obtain ⟨ch0, fh0⟩ := hr.ph i hi8
  have cv0 := hcb i hi8
  rw [adL_ge _ _ i i (Nat.le_refl _)] at ch0
  have bh := (s8L_ok hst).at i
  have bv := (s8L_ok ho).at i
  have HAD : Hid (adL (s8L st) (s8L rn) (i + 1) = (adL (s8L st) (s8L rn) i).set i (((s8L st).getD i 0 + (s8L rn).getD i 0) % 4294967296)) := show _ = _ from rfl
  have HR : Hid ((∀ i, i < 8 → wr.cell? ⟨b, i, none⟩ = some (.int .u32 ((s8L rn).getD i 0 : Nat))) ∧ SmR w wr gm gk gh P (adL (s8L st) (s8L rn) i)) := ⟨hcb, hr⟩
  clear hcb hr
  generalize (s8L st).getD i 0 = xh at *
  generalize hxv : (s8L rn).getD i 0 = xv at *
  clear hxv
  have hne : gh ≠ b := by omega
  go_wp2
  go_region
  go_wp2
  go_roundw
  case rel =>
    have hR := HR.out
    have e6 : ((xh : Int) + xv) % 4294967296 = (((xh + xv) % 4294967296 : Nat) : Int) := by omega
    rw [e6]
    have h6 : (∀ i', i' < 8 → (wr.setCell ⟨gh, i, none⟩ (.int .u32 (((xh + xv) % 4294967296 : Nat) : Int))).drew.cell? ⟨b, i', none⟩ = some (.int .u32 ((s8L rn).getD i' 0 : Nat))) ∧ SmR w (wr.setCell ⟨gh, i, none⟩ (.int .u32 (((xh + xv) % 4294967296 : Nat) : Int))).drew gm gk gh P (adL (s8L st) (s8L rn) (i + 1)) :=
      ⟨fun i' hi' => (cell_setCell_other _ _ _ _ (by simp; omega)).trans (hR.1 i' hi'), by rw [HAD.out]; exact (hR.2.setH i (by rw [adL_len]; exact hi8) (by omega) (by omega) (by omega) hi8 _).drewN1⟩
    first | exact ⟨i + 1, by omega, by go_num, h6⟩ | ((repeat apply Exists.intro); refine ⟨?_, rfl⟩; exact ⟨i + 1, by omega, by go_num, h6⟩)
  case measure => simp [intOf]; omega
end Go.Proofs.YtbbpihdebdknhaaDoor
