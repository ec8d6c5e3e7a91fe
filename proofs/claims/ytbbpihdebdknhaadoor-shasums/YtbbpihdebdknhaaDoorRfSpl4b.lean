import Derived.Test.YtbbpihdebdknhaaDoorRfS0
namespace Go.Proofs.YtbbpihdebdknhaaDoor
open Go.RowKit

set_option maxHeartbeats 40000000 in
set_option maxRecDepth 100000 in
theorem rfSPack_l4b : rfSPack.p_l4b := by
  intro m w hw8 p c n hn hl hl0 hl1 iq1 w1 iq2 u1 v2 u2 B hw1 iq3 iq4 u34 u35 u36 u37 u38 u39 u40 vp iq5 iq6 hz64 v0 v1 HV P1 iq7 iq8 iq9 iq10 iq11 u41 u42 u43 u44 u45 u46 u47 u48 u49 u50 u51 u52 u53 vn vc P hp8 gm hcm HPN iq12 iq13 iq14 iq15 w4 gk ck w5 gh ch hmk hkh hwm nb q0 q1 HNB HF2 c0 iq16 iq17 iq18 u9 u10 iq19 iq20 iq21 u14 u15 u16 u17 u18 u19 u20 u21 u22 u56 u57 u58 u59 u60 u61 u62 iq22 iq23 iq24 iq25 iq26 iq27 iq28 iq29 iq30 iq31 iq32 iq33 iq34 iq35 iq36 iq37 iq38 iq39 iq40 iq41 iq42 iq43 iq44 iq45 iq46 iq47 iq48 iq49 iq50 iq51 iq52 iq53 iq54 iq55 iq56 iq57 iq58 iq59 iq60 iq61 iq62 iq63 iq64 iq65 iq66 iq67 iq68 iq69 iq70 iq71 iq72 iq73 iq74 iq75 iq76 iq77 iq78 iq79 iq80 iq81 iq82 iq83 iq84 iq85 iq86 iq87 iq88 iq89 iq90 iq91 iq92 iq93 iq94 iq95 iq96 iq97 iq98 iq99 iq100 iq101 iq102 iq103 iq104 iq105 iq106 iq107 iq108 iq109 iq110 iq111 iq112 iq113 iq114 iq115 iq116 u158 u159 u160 u161 u162 u163 u164 u165 u166 u167 u168 u169 u170 u171 u172 u173 u174 u175 u176 u177 u178 u179 u180 u181 u182 u183 u184 u185 u186 u187 u188 u189 u190 u191 u192 u193 u194 u195 u196 u197 u198 u199 u200 u201 u202 u203 u204 u205 u206 u207 u208 u209 u210 u211 u212 u213 u214 u215 u216 u217 u218 u219 u220 u221 u222 u223 u224 u225 u226 u227 u228 u229 u230 u231 u232 u233 u234 u235 u236 u237 u238 u239 u240 u241 u242 u243 u244 u245 u246 u247 u248 u249 u250 u251 u252 u253 u254 u255 u256 u257 u258 u259 u260 u261 u262 u263 u264 u265 u266 u267 u268 u269 u270 u271 u272 u273 u274 u275 u276 u277 u278 u279 u280 u281 u282 u283 u284 u285 u286 u287 u288 u289 u290 u291 k hk hlt at_ a0 a1 a2 a3 HAT iq117 iq118 iq119 iq120 iq121 z hbl hb8 hbat st hst HBK wr1 bb hbb wr u11 u12 u13 u63 u64 u65 u66 u67 u68 u69 u70 u71 u72 u73 u74 u75 u76 u77 u78 u79 u80 u81 u82 u83 u84 u85 u86 u87 u88 u89 u90 u91 u92 u93 u94 u95 u96 u97 u98 u99 u100 u101 u102 u103 u104 u105 u106 u107 u108 u109 u110 u111 u112 u113 u114 u115 u116 u117 u118 u119 u120 u121 u122 u123 u124 u125 u126 u127 u128 u129 u130 u131 u132 u133 u134 u135 u136 u137 u138 u139 u140 u141 u142 u143 u144 u145 u146 u147 u148 u149 u150 u151 u152 u153 u154 u155 u156 u157 i hi hr hwrow hfl hfo HFS i0 hi64 i1 c5 f5 HRW hi16
  have i2 : (16 : Int) ≤ (i : Int) := by omega
  have cA := (hwrow.cell (i - 15)).trans (wordsL_at _ (i - 15) (by omega))
  have cB := (hwrow.cell (i - 2)).trans (wordsL_at _ (i - 2) (by omega))
  have cC := (hwrow.cell (i - 16)).trans (wordsL_at _ (i - 16) (by omega))
  have cD := (hwrow.cell (i - 7)).trans (wordsL_at _ (i - 7) (by omega))
  have bA := hfo.at (i - 15)
  have bB := hfo.at (i - 2)
  have bC := hfo.at (i - 16)
  have bD := hfo.at (i - 7)
  have HFS2 : Hid (rfL z (i + 1) = (rfL z i).set i (((((rfL z i).getD (i - 16) 0 + sg0 ((rfL z i).getD (i - 15) 0)) % 4294967296 + (rfL z i).getD (i - 7) 0) % 4294967296 + sg1 ((rfL z i).getD (i - 2) 0)) % 4294967296)) := show _ = _ from by rw [HFS.out, if_neg hi16]; rfl
  generalize (rfL z i).getD (i - 15) 0 = xa at *
  generalize (rfL z i).getD (i - 2) 0 = xb at *
  generalize (rfL z i).getD (i - 16) 0 = xc at *
  generalize (rfL z i).getD (i - 7) 0 = xd at *
  generalize (rfL z i).getD i 0 = x5 at *
  have s0 := sg0_num xa bA
  have s1 := sg1_num xb bB
  have l0 := sg0_lt bA
  have l1 := sg1_lt bB
  clear hr hwrow hfl hfo HFS
  go_wp2
  go_quiet ((go_at_call 17; exact Calls.quiet_of_same (rturn_i _ _ (by decide) (by decide) (by assumption) _)))
  have hq : SmR w (wr.drewN nq) gm gk gh P (s8L st) ∧ Row (wr.drewN nq) bb (wordsL (rfL z i)) 46 := ⟨HRW.out.1.drewN _, HRW.out.2.drewN _⟩
  have cB1 : (wr.drewN nq).cell? ⟨bb, i - 2, none⟩ = some (.int .u32 (xb : Int)) := cB
  have cC1 : (wr.drewN nq).cell? ⟨bb, i - 16, none⟩ = some (.int .u32 (xc : Int)) := cC
  have cD1 : (wr.drewN nq).cell? ⟨bb, i - 7, none⟩ = some (.int .u32 (xd : Int)) := cD
  have c51 : (wr.drewN nq).cell? ⟨bb, i, none⟩ = some (.int .u32 (x5 : Int)) := c5
  have f51 : (wr.drewN nq).frozen? ⟨bb, i, none⟩ = false := f5
  clear cA cB cC cD c5 f5 HRW
  generalize wr.drewN nq = wr3 at *
  go_wp2
  go_quiet ((go_at_call 17; exact Calls.quiet_of_same (rturn_i _ _ (by decide) (by decide) (by assumption) _)))
  have HRW : Hid (SmR w wr3 gm gk gh P (s8L st) ∧ Row wr3 bb (wordsL (rfL z i)) 46) := hq
  clear hq
  go_wp2
  go_region
  go_wp2
  go_roundw
  case rel =>
    have hRW := HRW.out
    have efin : ((xc : Int) + (sg0 xa : Nat) + xd + (sg1 xb : Nat)) % 4294967296 = (((((xc + sg0 xa) % 4294967296 + xd) % 4294967296 + sg1 xb) % 4294967296 : Nat) : Int) := by omega
    rw [efin]
    have hfin : ∀ q, SmR w ((wr3.drewN q).setCell ⟨bb, i, none⟩ (.int .u32 (((((xc + sg0 xa) % 4294967296 + xd) % 4294967296 + sg1 xb) % 4294967296 : Nat) : Int))) gm gk gh P (s8L st) ∧ Row ((wr3.drewN q).setCell ⟨bb, i, none⟩ (.int .u32 (((((xc + sg0 xa) % 4294967296 + xd) % 4294967296 + sg1 xb) % 4294967296 : Nat) : Int))) bb (wordsL (rfL z (i + 1))) 46 := fun q =>
      ⟨(hRW.1.drewN _).setCell (by omega) (by omega) (by omega) (by omega) _, by rw [HFS2.out, ← wordsL_set]; exact Row.set (Row.drewN hRW.2 _) i _⟩
    first | exact ⟨i + 1, by omega, by go_num, hfin _⟩ | ((repeat apply Exists.intro); refine ⟨?_, rfl⟩; exact ⟨i + 1, by omega, by go_num, hfin _⟩)
  case measure => simp [intOf]; omega
end Go.Proofs.YtbbpihdebdknhaaDoor
