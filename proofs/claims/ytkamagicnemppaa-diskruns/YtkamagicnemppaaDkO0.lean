
/-
  The walk of DiskRuns.
-/
import Derived.Test.YtkamagicnemppaaDkN
import Derived.Deep.CutBlock
namespace Go.Proofs.Ytkamagicnemppaa
open Go.RowKit
set_option maxRecDepth 100000
set_option linter.unusedVariables false
set_option linter.unusedSimpArgs false

theorem info_six : (Try.prog.info? 27).map (fun i => (i.zero, i.size, i.bytes)) = some (some (.agg (bytesL (zs 384))), 384, 384) := by kernel_rfl
theorem zero_six (w : World) : (zeroValue 27).run Try.prog w = .ok (.agg (bytesL (zs 384))) w := by
  obtain ⟨i, hi, z0, z1, z2⟩ := info_some info_six
  simp [zeroValue, typeInfo, hi, z0]
theorem kind_mod (x : Int) : (wrap64 (x.tmod 5 + 5)).tmod 5 = x % 5 ∧ (0 ≤ x % 5 ∧ x % 5 < 5) := by
  refine ⟨?_, by omega, by omega⟩
  have h : -5 < x.tmod 5 ∧ x.tmod 5 < 5 ∧ (x.tmod 5 + 5) % 5 = x % 5 := by
    rcases Int.le_total 0 x with hx | hx
    · rw [Int.tmod_eq_emod_of_nonneg hx]; omega
    · obtain ⟨y, rfl⟩ : ∃ y, x = -y := ⟨-x, by omega⟩
      rw [Int.neg_tmod, Int.tmod_eq_emod_of_nonneg (by omega)]; omega
  have hw : wrap64 (x.tmod 5 + 5) = x.tmod 5 + 5 := by unfold wrap64; omega
  rw [hw, Int.tmod_eq_emod_of_nonneg (by omega)]
  exact h.2.2
/-- What DiskRuns holds, behind k calls. -/
def RunX (w wr : World) (L : List CIn) (R S M k : Nat) (uw lf wt : Value) : Prop := ∃ v d wl, RunR w wr L R S M k uw v d wl ∧ lf = .int .i64 d.lef ∧ wt = .int .i64 d.cnt
structure BoxP (p : Prop) : Prop where
  out : p

structure SumCut (G : Prop) where
  p_w0 : Prop
  p_w1 : Prop
  p_fl : Prop
  p_cr : Prop
  p_ar : Prop
  p_ck : Prop
  p_fin : Prop
  out : BoxP p_w0 → BoxP p_w1 → BoxP p_fl → BoxP p_cr → BoxP p_ar → BoxP p_ck → BoxP p_fin → G

set_option maxHeartbeats 8000000 in
noncomputable def dkOPack : SumCut (∀ (u : Value), ∀ (L : List CIn), ∀ (w : World), CallsAt w u L → Calls Try.prog 3 #[u] w fun e w' => e = .returned (.bool true) ∧ Below w.heap.size w w') := by
  apply SumCut.mk
  case out =>
    intro q_w0 q_w1 q_fl q_cr q_ar q_ck q_fin u L w hL
    obtain ⟨hlm, pu, cu, rfl, hrows⟩ := id hL.rows
    clear hrows
    unfold maxLen at hlm
    have l0 : (0 : Int) ≤ (L.length : Int) := by omega
    have l1 : (L.length : Int) ≤ 9223372036854775807 := by omega
    go_enter Try.func3, Try.ntmps3
    go_wp2_with (go_at_call 9; refine stop ?_)
    refine (fit_any _).mono ?_
    rintro e w1 ⟨rfl, hb1⟩
    by_cases hlong : 200 < L.length
    · have hlong' : (200 : Int) < (L.length : Int) := by omega
      go_wp2
      go_ret
      exact ⟨rfl, hb1⟩
    · have hlong' : ¬ (200 : Int) < (L.length : Int) := by omega
      go_wp2_with (go_at_call 10; refine stop ?_)
      refine (new_any 6 (by decide) (by decide) w1).mono ?_
      rintro e w2 ⟨R, S, rfl, hd, hb, hR, hS⟩
      have m2 := Mine.new hb1 hd hb hR hS
      clear hd hb hR hS hb1
      have hz := zero_six w2
      have m3 : RunX w (w2.alloc (.cells (bytesL (zs 384)) 27)) L R S w2.heap.size 0 (.slice none 0 0) (.int .i64 (-1)) (.int .i64 0) :=
        ⟨_, Dk.new 6, [], ⟨m2.later (below1 _ _), ⟨Row.new w2 _ _ rfl, m2.below.size, World.ownsRow_nil _ _ _ _, fun c hc => by cases hc⟩, rfl, rfl, Nat.le_refl _, Nat.le_refl _⟩, rfl, rfl⟩
      clear m2
      generalize hM : w2.heap.size = M at *
      go_upto_region 10 with fail
      clear hz
      generalize w2.alloc (.cells (bytesL (zs 384)) 27) = w3 at *
      clear hM
      go_wp2
      go_loopw [38, 5, 6, 7] (fun i uw lf wt wr => ∃ k : Nat, k ≤ L.length ∧ i = .int .i64 k ∧ RunX w wr L R S M k uw lf wt) (fun i _ _ _ _ => L.length - (intOf i).toNat)
      case atStart => exact ⟨0, Nat.zero_le _, rfl, m3⟩
      case round =>
        clear m3
        obtain ⟨k, hk, rfl, v, d, wl, hX, rfl, rfl⟩ := hrel
        obtain ⟨puw, nuw, cuw, rfl, hnuw⟩ := ownsRow_form hX.own.own
        subst hnuw
        by_cases hlt : k < L.length
        · have hlt' : (k : Int) < (L.length : Int) := by omega
          have k0 : (0 : Int) ≤ (k : Int) := by omega
          have k1 : (k : Int) < 200 := by omega
          have hmem : L.getD k CIn.none ∈ L := by simp only [List.getD]; rw [List.getElem?_eq_getElem hlt]; exact List.getElem_mem _
          have hok0 : (L.getD k CIn.none).ok w := hL.each _ hmem
          obtain ⟨b, off, cc, e, hb, hr, hok⟩ := (hL.later hX.dk.below).at hlt
          cases e
          generalize L.getD k CIn.none = c at *
          have hci : (Try.prog.info? 32).map (·.size) = some c.cs.toList.length := by kernel_rfl
          have hcj : (Try.prog.info? 32).map (·.size) = some c.cs.size := by kernel_rfl
          have hone : c.cs.all (·.oneCell') = true := by
            obtain ⟨_, _, p, q, e, _⟩ := hok.data
            simp [CIn.cs, e, Value.oneCell']
          go_wp2_with (first | refine wpList_load_mid rfl 32 _ rfl b (off + k * 6) rfl c.cs.toList _ hr Try.underlying32 rfl hci ?_ | (refine wpList_store_row rfl 32 _ _ rfl wr.heap.size c.cs rfl rfl 32 _ (heap_alloc_new wr _) hcj rfl hone ?_; refine stop ?_))
          unfold Stop
          clear hr
          have rg := (Row.new wr #[.int .i64 0, .int .i64 0, .slice none 0 0, .int .u64 0, .int .i64 0, .int .i64 0] 32 rfl).setRow c.cs
          have b2 : Below wr.heap.size wr ((wr.alloc (.cells #[.int .i64 0, .int .i64 0, .slice none 0 0, .int .u64 0, .int .i64 0, .int .i64 0] 32)).setRow wr.heap.size c.cs) := Below.row (below1 wr _) _ (Nat.le_refl _)
          generalize (wr.alloc (.cells #[.int .i64 0, .int .i64 0, .slice none 0 0, .int .u64 0, .int .i64 0, .int .i64 0] 32)).setRow wr.heap.size c.cs = w4 at *
          have hX4 := hX.later b2
          have hgw : ∀ j, (Value.slice puw wl.length cuw).ownBlock = some j → j < wr.heap.size := fun j hj => (hX.own.own.lt j hj).2
          have hgM : M < wr.heap.size := hX.own.row.lt
          clear hX
          have hdat := hok.data.later b2
          obtain ⟨hd8, hdm, pd, cd, hcv, _⟩ := id hdat
          have q0 : w4.cell? ⟨wr.heap.size, 0, none⟩ = some (.int .i64 c.kind) := rg.cell 0
          have q1 : w4.cell? ⟨wr.heap.size, 1, none⟩ = some (.int .i64 c.at0) := rg.cell 1
          have q2 : w4.cell? ⟨wr.heap.size, 2, none⟩ = some c.v := rg.cell 2
          rw [hcv] at q2 hdat
          unfold maxLen at hdm
          have d0 : (0 : Int) ≤ (c.data.length : Int) := by omega
          have d1 : (c.data.length : Int) ≤ 9223372036854775807 := by omega
          clear hok hci
          by_cases hbig : 100 < c.data.length
          · have hbig' : (100 : Int) < (c.data.length : Int) := by omega
            go_wp2
            go_ret
            exact ⟨rfl, hX4.dk.below⟩
          · have hbig' : ¬ (100 : Int) < (c.data.length : Int) := by omega
            go_upto_region 15 with fail
            go_cut [11] (fun th wc => th = .bool (decide (0 ≤ c.at0 ∧ c.at0 < 6)) ∧ wc = w4)
            case first =>
              by_cases t0 : 0 ≤ c.at0
              · by_cases t1 : c.at0 < 6
                · go_wp2
                  go_meet
                  case rel => exact ⟨by simp [t0, t1], rfl⟩
                · go_wp2
                  go_meet
                  case rel => exact ⟨by simp [t1], rfl⟩
              · go_wp2
                go_meet
                case rel => exact ⟨by rw [decide_eq_false (by omega)], rfl⟩
            case rest =>
              obtain ⟨rfl, hw4⟩ := hcut
              obtain rfl := hw4.symm
              clear hw4
              go_upto_block 2 with fail
              obtain ⟨hkq, hq⟩ := kind_mod c.kind
              rw [hkq]
              clear hkq
              generalize c.kind % 5 = q at *
              clear q0 hbig hone hcj b2 hlong hlong' hlm l0 l1 k0
              go_cut [5, 6, 7] (fun uw lf wt wc => RunX w wc L R S M (k + 1) uw lf wt)
              case first =>
                have hq' : q = 0 ∨ q = 1 ∨ q = 2 ∨ q = 3 ∨ q = 4 := by omega
                clear hq
                rcases hq' with rfl | rfl | rfl | rfl | rfl
                · skip
                  rename_i iq1 iq2 iq3 iq4 iq5 iq6 iq7 iq8 iq9 iq10 iq11 iq12 iq13 iq14 iq15 iq16 iq17 iq18 iq19 iq20 iq21 iq22 iq23 iq24 iq25 iq26 iq27 iq28 iq29 iq30 iq31 iq32 iq33 iq34 iq35 iq36 iq37 iq38 iq39 iq40 iq41 iq42 iq43 iq44 iq45 iq46 iq47 iq48 iq49 iq50 iq51 iq52 iq53 iq54 iq55 iq56 iq57 iq58 iq59 iq60 iq61 iq62 iq63 iq64 iq65 iq66 iq67 iq68 iq69 iq70 iq71 iq72 iq73 iq74 iq75 iq76 iq77 iq78 iq79 iq80 iq81 iq82 iq83 iq84 iq85 iq86 iq87 iq88 iq89 iq90 iq91 iq92 iq93 iq94 iq95 iq96 iq97 iq98 iq99 iq100 iq101 iq102 iq103 iq104 iq105 iq106 iq107 iq108 iq109 iq110 iq111 iq112 iq113 iq114 iq115 iq116 iq117 iq118 iq119 iq120 iq121 iq122 iq123 iq124 iq125 iq126 iq127 iq128 iq129 iq130 iq131 iq132 iq133 iq134 iq135 iq136 iq137 iq138 iq139 iq140 iq141 iq142 iq143 iq144 iq145 iq146 iq147 iq148 iq149 iq150 iq151 iq152 iq153 iq154 iq155 iq156 iq157 iq158 iq159 iq160 iq161 iq162 iq163 iq164 iq165 iq166 iq167 iq168 iq169 iq170 iq171 iq172 iq173 iq174 iq175 iq176 iq177 iq178 iq179 iq180 iq181 iq182 iq183 iq184 iq185 iq186 iq187 iq188
                  revert L w cu iq1 w1 iq2 w2 R S M iq3 iq4 w3 wr u2 u10 u11 u12 u13 u15 u16 u17 u18 u19 u20 u21 u23 u24 u25 iq5 iq6 iq7 iq8 iq9 iq10 iq11 iq12 iq13 iq14 iq15 iq16 iq17 iq18 iq19 iq20 iq21 iq22 iq23 u58 iq24 iq25 iq26 iq27 iq28 iq29 iq30 u66 iq31 iq32 iq33 iq34 iq35 iq36 iq37 iq38 iq39 iq40 iq41 iq42 iq43 u80 iq44 iq45 iq46 iq47 iq48 iq49 iq50 iq51 u89 iq52 iq53 iq54 iq55 iq56 iq57 iq58 iq59 iq60 iq61 u100 iq62 iq63 iq64 u104 u105 u106 iq65 iq66 iq67 iq68 iq69 iq70 iq71 iq72 iq73 iq74 iq75 iq76 iq77 iq78 iq79 u122 iq80 iq81 iq82 iq83 iq84 iq85 iq86 iq87 iq88 u132 u133 u134 iq89 iq90 iq91 iq92 iq93 iq94 iq95 iq96 iq97 iq98 iq99 iq100 iq101 iq102 iq103 iq104 iq105 iq106 iq107 iq108 iq109 iq110 iq111 iq112 iq113 iq114 iq115 iq116 iq117 iq118 iq119 iq120 iq121 iq122 iq123 iq124 iq125 iq126 iq127 iq128 iq129 iq130 iq131 iq132 iq133 iq134 iq135 iq136 iq137 iq138 iq139 iq140 iq141 iq142 iq143 iq144 u191 iq145 iq146 iq147 iq148 iq149 u197 u198 u199 iq150 iq151 iq152 iq153 iq154 iq155 iq156 iq157 iq158 iq159 iq160 iq161 iq162 iq163 iq164 iq165 iq166 iq167 iq168 iq169 iq170 iq171 iq172 iq173 iq174 iq175 iq176 iq177 iq178 k hk v d wl puw cuw hlt hlt' k1 b off hb hL c hmem hok0 iq179 iq180 iq181 w4 rg hX4 hgw hgM hd8 hdm pd cd hdat hcv iq182 q1 q2 d0 d1 hbig' u39 u40 u41 u42 u43 u44 u45 u46 u47 u48 u49 u50 u51 u52 u53 u54 u55 u56 u57 u59 u60 u61 u62 u63 u64 u65 u67 u68 u69 u70 u71 u72 u73 u74 u75 u76 u77 u78 u79 u81 u82 u83 u84 u85 u86 u87 u88 u90 u91 u92 u93 u94 u95 u96 u97 u98 u99 u101 u102 u103 u107 u108 u109 u110 u111 u112 u113 u114 u115 u116 u117 u118 u119 u120 u121 u123 u124 u125 u126 u127 u128 u129 u130 u131 u135 u136 u137 u138 u139 u140 u141 u142 u143 u144 u145 u146 u147 u148 u149 u150 u151 u152 u153 u154 u155 u156 u157 u158 u159 u160 u161 u162 u163 u164 u165 u166 u167 u168 u169 u170 u171 u172 u173 u174 u175 u176 u177 u178 u179 u180 u181 u182 u183 u184 u185 u186 u187 u188 u189 u190 u192 u193 u194 u195 u196 u200 u201 u202 u203 u204 u205 u206 u207 u208 u209 u210 u211 u212 u213 u214 u215 u216 u217 u218 u219 u220 u221 u222 u223 u224 u225 u226 u227 u228 iq183 iq184 iq185 iq186 iq187 iq188
                  exact q_w0.out
                · clear q_w0
                  skip
                  rename_i iq1 iq2 iq3 iq4 iq5 iq6 iq7 iq8 iq9 iq10 iq11 iq12 iq13 iq14 iq15 iq16 iq17 iq18 iq19 iq20 iq21 iq22 iq23 iq24 iq25 iq26 iq27 iq28 iq29 iq30 iq31 iq32 iq33 iq34 iq35 iq36 iq37 iq38 iq39 iq40 iq41 iq42 iq43 iq44 iq45 iq46 iq47 iq48 iq49 iq50 iq51 iq52 iq53 iq54 iq55 iq56 iq57 iq58 iq59 iq60 iq61 iq62 iq63 iq64 iq65 iq66 iq67 iq68 iq69 iq70 iq71 iq72 iq73 iq74 iq75 iq76 iq77 iq78 iq79 iq80 iq81 iq82 iq83 iq84 iq85 iq86 iq87 iq88 iq89 iq90 iq91 iq92 iq93 iq94 iq95 iq96 iq97 iq98 iq99 iq100 iq101 iq102 iq103 iq104 iq105 iq106 iq107 iq108 iq109 iq110 iq111 iq112 iq113 iq114 iq115 iq116 iq117 iq118 iq119 iq120 iq121 iq122 iq123 iq124 iq125 iq126 iq127 iq128 iq129 iq130 iq131 iq132 iq133 iq134 iq135 iq136 iq137 iq138 iq139 iq140 iq141 iq142 iq143 iq144 iq145 iq146 iq147 iq148 iq149 iq150 iq151 iq152 iq153 iq154 iq155 iq156 iq157 iq158 iq159 iq160 iq161 iq162 iq163 iq164 iq165 iq166 iq167 iq168 iq169 iq170 iq171 iq172 iq173 iq174 iq175 iq176 iq177 iq178 iq179 iq180 iq181 iq182 iq183 iq184 iq185 iq186 iq187 iq188
                  revert L w cu iq1 w1 iq2 w2 R S M iq3 iq4 w3 wr u2 u10 u11 u12 u13 u15 u16 u17 u18 u19 u20 u21 u23 u24 u25 iq5 iq6 iq7 iq8 iq9 iq10 iq11 iq12 iq13 iq14 iq15 iq16 iq17 iq18 iq19 iq20 iq21 iq22 iq23 u58 iq24 iq25 iq26 iq27 iq28 iq29 iq30 u66 iq31 iq32 iq33 iq34 iq35 iq36 iq37 iq38 iq39 iq40 iq41 iq42 iq43 u80 iq44 iq45 iq46 iq47 iq48 iq49 iq50 iq51 u89 iq52 iq53 iq54 iq55 iq56 iq57 iq58 iq59 iq60 iq61 u100 iq62 iq63 iq64 u104 u105 u106 iq65 iq66 iq67 iq68 iq69 iq70 iq71 iq72 iq73 iq74 iq75 iq76 iq77 iq78 iq79 u122 iq80 iq81 iq82 iq83 iq84 iq85 iq86 iq87 iq88 u132 u133 u134 iq89 iq90 iq91 iq92 iq93 iq94 iq95 iq96 iq97 iq98 iq99 iq100 iq101 iq102 iq103 iq104 iq105 iq106 iq107 iq108 iq109 iq110 iq111 iq112 iq113 iq114 iq115 iq116 iq117 iq118 iq119 iq120 iq121 iq122 iq123 iq124 iq125 iq126 iq127 iq128 iq129 iq130 iq131 iq132 iq133 iq134 iq135 iq136 iq137 iq138 iq139 iq140 iq141 iq142 iq143 iq144 u191 iq145 iq146 iq147 iq148 iq149 u197 u198 u199 iq150 iq151 iq152 iq153 iq154 iq155 iq156 iq157 iq158 iq159 iq160 iq161 iq162 iq163 iq164 iq165 iq166 iq167 iq168 iq169 iq170 iq171 iq172 iq173 iq174 iq175 iq176 iq177 iq178 k hk v d wl puw cuw hlt hlt' k1 b off hb hL c hmem hok0 iq179 iq180 iq181 w4 rg hX4 hgw hgM hd8 hdm pd cd hdat hcv iq182 q1 q2 d0 d1 hbig' u39 u40 u41 u42 u43 u44 u45 u46 u47 u48 u49 u50 u51 u52 u53 u54 u55 u56 u57 u59 u60 u61 u62 u63 u64 u65 u67 u68 u69 u70 u71 u72 u73 u74 u75 u76 u77 u78 u79 u81 u82 u83 u84 u85 u86 u87 u88 u90 u91 u92 u93 u94 u95 u96 u97 u98 u99 u101 u102 u103 u107 u108 u109 u110 u111 u112 u113 u114 u115 u116 u117 u118 u119 u120 u121 u123 u124 u125 u126 u127 u128 u129 u130 u131 u135 u136 u137 u138 u139 u140 u141 u142 u143 u144 u145 u146 u147 u148 u149 u150 u151 u152 u153 u154 u155 u156 u157 u158 u159 u160 u161 u162 u163 u164 u165 u166 u167 u168 u169 u170 u171 u172 u173 u174 u175 u176 u177 u178 u179 u180 u181 u182 u183 u184 u185 u186 u187 u188 u189 u190 u192 u193 u194 u195 u196 u200 u201 u202 u203 u204 u205 u206 u207 u208 u209 u210 u211 u212 u213 u214 u215 u216 u217 u218 u219 u220 u221 u222 u223 u224 u225 u226 u227 u228 iq183 iq184 iq185 iq186 iq187 iq188
                  exact q_w1.out
                · clear q_w0 q_w1
                  skip
                  rename_i iq1 iq2 iq3 iq4 iq5 iq6 iq7 iq8 iq9 iq10 iq11 iq12 iq13 iq14 iq15 iq16 iq17 iq18 iq19 iq20 iq21 iq22 iq23 iq24 iq25 iq26 iq27 iq28 iq29 iq30 iq31 iq32 iq33 iq34 iq35 iq36 iq37 iq38 iq39 iq40 iq41 iq42 iq43 iq44 iq45 iq46 iq47 iq48 iq49 iq50 iq51 iq52 iq53 iq54 iq55 iq56 iq57 iq58 iq59 iq60 iq61 iq62 iq63 iq64 iq65 iq66 iq67 iq68 iq69 iq70 iq71 iq72 iq73 iq74 iq75 iq76 iq77 iq78 iq79 iq80 iq81 iq82 iq83 iq84 iq85 iq86 iq87 iq88 iq89 iq90 iq91 iq92 iq93 iq94 iq95 iq96 iq97 iq98 iq99 iq100 iq101 iq102 iq103 iq104 iq105 iq106 iq107 iq108 iq109 iq110 iq111 iq112 iq113 iq114 iq115 iq116 iq117 iq118 iq119 iq120 iq121 iq122 iq123 iq124 iq125 iq126 iq127 iq128 iq129 iq130 iq131 iq132 iq133 iq134 iq135 iq136 iq137 iq138 iq139 iq140 iq141 iq142 iq143 iq144 iq145 iq146 iq147 iq148 iq149 iq150 iq151 iq152 iq153 iq154 iq155 iq156 iq157 iq158 iq159 iq160 iq161 iq162 iq163 iq164 iq165 iq166 iq167 iq168 iq169 iq170 iq171 iq172 iq173 iq174 iq175 iq176 iq177 iq178 iq179 iq180 iq181 iq182 iq183 iq184 iq185 iq186 iq187 iq188
                  revert L w cu iq1 w1 iq2 w2 R S M iq3 iq4 w3 wr u2 u10 u11 u12 u13 u15 u16 u17 u18 u19 u20 u21 u23 u24 u25 iq5 iq6 iq7 iq8 iq9 iq10 iq11 iq12 iq13 iq14 iq15 iq16 iq17 iq18 iq19 iq20 iq21 iq22 iq23 u58 iq24 iq25 iq26 iq27 iq28 iq29 iq30 u66 iq31 iq32 iq33 iq34 iq35 iq36 iq37 iq38 iq39 iq40 iq41 iq42 iq43 u80 iq44 iq45 iq46 iq47 iq48 iq49 iq50 iq51 u89 iq52 iq53 iq54 iq55 iq56 iq57 iq58 iq59 iq60 iq61 u100 iq62 iq63 iq64 u104 u105 u106 iq65 iq66 iq67 iq68 iq69 iq70 iq71 iq72 iq73 iq74 iq75 iq76 iq77 iq78 iq79 u122 iq80 iq81 iq82 iq83 iq84 iq85 iq86 iq87 iq88 u132 u133 u134 iq89 iq90 iq91 iq92 iq93 iq94 iq95 iq96 iq97 iq98 iq99 iq100 iq101 iq102 iq103 iq104 iq105 iq106 iq107 iq108 iq109 iq110 iq111 iq112 iq113 iq114 iq115 iq116 iq117 iq118 iq119 iq120 iq121 iq122 iq123 iq124 iq125 iq126 iq127 iq128 iq129 iq130 iq131 iq132 iq133 iq134 iq135 iq136 iq137 iq138 iq139 iq140 iq141 iq142 iq143 iq144 u191 iq145 iq146 iq147 iq148 iq149 u197 u198 u199 iq150 iq151 iq152 iq153 iq154 iq155 iq156 iq157 iq158 iq159 iq160 iq161 iq162 iq163 iq164 iq165 iq166 iq167 iq168 iq169 iq170 iq171 iq172 iq173 iq174 iq175 iq176 iq177 iq178 k hk v d wl puw cuw hlt hlt' k1 b off hb hL c hmem hok0 iq179 iq180 iq181 w4 rg hX4 hgw hgM hd8 hdm pd cd hdat hcv iq182 q1 q2 d0 d1 hbig' u39 u40 u41 u42 u43 u44 u45 u46 u47 u48 u49 u50 u51 u52 u53 u54 u55 u56 u57 u59 u60 u61 u62 u63 u64 u65 u67 u68 u69 u70 u71 u72 u73 u74 u75 u76 u77 u78 u79 u81 u82 u83 u84 u85 u86 u87 u88 u90 u91 u92 u93 u94 u95 u96 u97 u98 u99 u101 u102 u103 u107 u108 u109 u110 u111 u112 u113 u114 u115 u116 u117 u118 u119 u120 u121 u123 u124 u125 u126 u127 u128 u129 u130 u131 u135 u136 u137 u138 u139 u140 u141 u142 u143 u144 u145 u146 u147 u148 u149 u150 u151 u152 u153 u154 u155 u156 u157 u158 u159 u160 u161 u162 u163 u164 u165 u166 u167 u168 u169 u170 u171 u172 u173 u174 u175 u176 u177 u178 u179 u180 u181 u182 u183 u184 u185 u186 u187 u188 u189 u190 u192 u193 u194 u195 u196 u200 u201 u202 u203 u204 u205 u206 u207 u208 u209 u210 u211 u212 u213 u214 u215 u216 u217 u218 u219 u220 u221 u222 u223 u224 u225 u226 u227 u228 iq183 iq184 iq185 iq186 iq187 iq188
                  exact q_fl.out
                · clear q_w0 q_w1 q_fl
                  skip
                  rename_i iq1 iq2 iq3 iq4 iq5 iq6 iq7 iq8 iq9 iq10 iq11 iq12 iq13 iq14 iq15 iq16 iq17 iq18 iq19 iq20 iq21 iq22 iq23 iq24 iq25 iq26 iq27 iq28 iq29 iq30 iq31 iq32 iq33 iq34 iq35 iq36 iq37 iq38 iq39 iq40 iq41 iq42 iq43 iq44 iq45 iq46 iq47 iq48 iq49 iq50 iq51 iq52 iq53 iq54 iq55 iq56 iq57 iq58 iq59 iq60 iq61 iq62 iq63 iq64 iq65 iq66 iq67 iq68 iq69 iq70 iq71 iq72 iq73 iq74 iq75 iq76 iq77 iq78 iq79 iq80 iq81 iq82 iq83 iq84 iq85 iq86 iq87 iq88 iq89 iq90 iq91 iq92 iq93 iq94 iq95 iq96 iq97 iq98 iq99 iq100 iq101 iq102 iq103 iq104 iq105 iq106 iq107 iq108 iq109 iq110 iq111 iq112 iq113 iq114 iq115 iq116 iq117 iq118 iq119 iq120 iq121 iq122 iq123 iq124 iq125 iq126 iq127 iq128 iq129 iq130 iq131 iq132 iq133 iq134 iq135 iq136 iq137 iq138 iq139 iq140 iq141 iq142 iq143 iq144 iq145 iq146 iq147 iq148 iq149 iq150 iq151 iq152 iq153 iq154 iq155 iq156 iq157 iq158 iq159 iq160 iq161 iq162 iq163 iq164 iq165 iq166 iq167 iq168 iq169 iq170 iq171 iq172 iq173 iq174 iq175 iq176 iq177 iq178 iq179 iq180 iq181 iq182 iq183 iq184 iq185 iq186 iq187 iq188
                  revert L w cu iq1 w1 iq2 w2 R S M iq3 iq4 w3 wr u2 u10 u11 u12 u13 u15 u16 u17 u18 u19 u20 u21 u23 u24 u25 iq5 iq6 iq7 iq8 iq9 iq10 iq11 iq12 iq13 iq14 iq15 iq16 iq17 iq18 iq19 iq20 iq21 iq22 iq23 u58 iq24 iq25 iq26 iq27 iq28 iq29 iq30 u66 iq31 iq32 iq33 iq34 iq35 iq36 iq37 iq38 iq39 iq40 iq41 iq42 iq43 u80 iq44 iq45 iq46 iq47 iq48 iq49 iq50 iq51 u89 iq52 iq53 iq54 iq55 iq56 iq57 iq58 iq59 iq60 iq61 u100 iq62 iq63 iq64 u104 u105 u106 iq65 iq66 iq67 iq68 iq69 iq70 iq71 iq72 iq73 iq74 iq75 iq76 iq77 iq78 iq79 u122 iq80 iq81 iq82 iq83 iq84 iq85 iq86 iq87 iq88 u132 u133 u134 iq89 iq90 iq91 iq92 iq93 iq94 iq95 iq96 iq97 iq98 iq99 iq100 iq101 iq102 iq103 iq104 iq105 iq106 iq107 iq108 iq109 iq110 iq111 iq112 iq113 iq114 iq115 iq116 iq117 iq118 iq119 iq120 iq121 iq122 iq123 iq124 iq125 iq126 iq127 iq128 iq129 iq130 iq131 iq132 iq133 iq134 iq135 iq136 iq137 iq138 iq139 iq140 iq141 iq142 iq143 iq144 u191 iq145 iq146 iq147 iq148 iq149 u197 u198 u199 iq150 iq151 iq152 iq153 iq154 iq155 iq156 iq157 iq158 iq159 iq160 iq161 iq162 iq163 iq164 iq165 iq166 iq167 iq168 iq169 iq170 iq171 iq172 iq173 iq174 iq175 iq176 iq177 iq178 k hk v d wl puw cuw hlt hlt' k1 b off hb hL c hmem hok0 iq179 iq180 iq181 w4 rg hX4 hgw hgM hd8 hdm pd cd hdat hcv iq182 q1 q2 d0 d1 hbig' u39 u40 u41 u42 u43 u44 u45 u46 u47 u48 u49 u50 u51 u52 u53 u54 u55 u56 u57 u59 u60 u61 u62 u63 u64 u65 u67 u68 u69 u70 u71 u72 u73 u74 u75 u76 u77 u78 u79 u81 u82 u83 u84 u85 u86 u87 u88 u90 u91 u92 u93 u94 u95 u96 u97 u98 u99 u101 u102 u103 u107 u108 u109 u110 u111 u112 u113 u114 u115 u116 u117 u118 u119 u120 u121 u123 u124 u125 u126 u127 u128 u129 u130 u131 u135 u136 u137 u138 u139 u140 u141 u142 u143 u144 u145 u146 u147 u148 u149 u150 u151 u152 u153 u154 u155 u156 u157 u158 u159 u160 u161 u162 u163 u164 u165 u166 u167 u168 u169 u170 u171 u172 u173 u174 u175 u176 u177 u178 u179 u180 u181 u182 u183 u184 u185 u186 u187 u188 u189 u190 u192 u193 u194 u195 u196 u200 u201 u202 u203 u204 u205 u206 u207 u208 u209 u210 u211 u212 u213 u214 u215 u216 u217 u218 u219 u220 u221 u222 u223 u224 u225 u226 u227 u228 iq183 iq184 iq185 iq186 iq187 iq188
                  exact q_cr.out
                · clear q_w0 q_w1 q_fl q_cr
                  skip
                  rename_i iq1 iq2 iq3 iq4 iq5 iq6 iq7 iq8 iq9 iq10 iq11 iq12 iq13 iq14 iq15 iq16 iq17 iq18 iq19 iq20 iq21 iq22 iq23 iq24 iq25 iq26 iq27 iq28 iq29 iq30 iq31 iq32 iq33 iq34 iq35 iq36 iq37 iq38 iq39 iq40 iq41 iq42 iq43 iq44 iq45 iq46 iq47 iq48 iq49 iq50 iq51 iq52 iq53 iq54 iq55 iq56 iq57 iq58 iq59 iq60 iq61 iq62 iq63 iq64 iq65 iq66 iq67 iq68 iq69 iq70 iq71 iq72 iq73 iq74 iq75 iq76 iq77 iq78 iq79 iq80 iq81 iq82 iq83 iq84 iq85 iq86 iq87 iq88 iq89 iq90 iq91 iq92 iq93 iq94 iq95 iq96 iq97 iq98 iq99 iq100 iq101 iq102 iq103 iq104 iq105 iq106 iq107 iq108 iq109 iq110 iq111 iq112 iq113 iq114 iq115 iq116 iq117 iq118 iq119 iq120 iq121 iq122 iq123 iq124 iq125 iq126 iq127 iq128 iq129 iq130 iq131 iq132 iq133 iq134 iq135 iq136 iq137 iq138 iq139 iq140 iq141 iq142 iq143 iq144 iq145 iq146 iq147 iq148 iq149 iq150 iq151 iq152 iq153 iq154 iq155 iq156 iq157 iq158 iq159 iq160 iq161 iq162 iq163 iq164 iq165 iq166 iq167 iq168 iq169 iq170 iq171 iq172 iq173 iq174 iq175 iq176 iq177 iq178 iq179 iq180 iq181 iq182 iq183 iq184 iq185 iq186 iq187 iq188
                  revert L w cu iq1 w1 iq2 w2 R S M iq3 iq4 w3 wr u2 u10 u11 u12 u13 u15 u16 u17 u18 u19 u20 u21 u23 u24 u25 iq5 iq6 iq7 iq8 iq9 iq10 iq11 iq12 iq13 iq14 iq15 iq16 iq17 iq18 iq19 iq20 iq21 iq22 iq23 u58 iq24 iq25 iq26 iq27 iq28 iq29 iq30 u66 iq31 iq32 iq33 iq34 iq35 iq36 iq37 iq38 iq39 iq40 iq41 iq42 iq43 u80 iq44 iq45 iq46 iq47 iq48 iq49 iq50 iq51 u89 iq52 iq53 iq54 iq55 iq56 iq57 iq58 iq59 iq60 iq61 u100 iq62 iq63 iq64 u104 u105 u106 iq65 iq66 iq67 iq68 iq69 iq70 iq71 iq72 iq73 iq74 iq75 iq76 iq77 iq78 iq79 u122 iq80 iq81 iq82 iq83 iq84 iq85 iq86 iq87 iq88 u132 u133 u134 iq89 iq90 iq91 iq92 iq93 iq94 iq95 iq96 iq97 iq98 iq99 iq100 iq101 iq102 iq103 iq104 iq105 iq106 iq107 iq108 iq109 iq110 iq111 iq112 iq113 iq114 iq115 iq116 iq117 iq118 iq119 iq120 iq121 iq122 iq123 iq124 iq125 iq126 iq127 iq128 iq129 iq130 iq131 iq132 iq133 iq134 iq135 iq136 iq137 iq138 iq139 iq140 iq141 iq142 iq143 iq144 u191 iq145 iq146 iq147 iq148 iq149 u197 u198 u199 iq150 iq151 iq152 iq153 iq154 iq155 iq156 iq157 iq158 iq159 iq160 iq161 iq162 iq163 iq164 iq165 iq166 iq167 iq168 iq169 iq170 iq171 iq172 iq173 iq174 iq175 iq176 iq177 iq178 k hk v d wl puw cuw hlt hlt' k1 b off hb hL c hmem hok0 iq179 iq180 iq181 w4 rg hX4 hgw hgM hd8 hdm pd cd hdat hcv iq182 q1 q2 d0 d1 hbig' u39 u40 u41 u42 u43 u44 u45 u46 u47 u48 u49 u50 u51 u52 u53 u54 u55 u56 u57 u59 u60 u61 u62 u63 u64 u65 u67 u68 u69 u70 u71 u72 u73 u74 u75 u76 u77 u78 u79 u81 u82 u83 u84 u85 u86 u87 u88 u90 u91 u92 u93 u94 u95 u96 u97 u98 u99 u101 u102 u103 u107 u108 u109 u110 u111 u112 u113 u114 u115 u116 u117 u118 u119 u120 u121 u123 u124 u125 u126 u127 u128 u129 u130 u131 u135 u136 u137 u138 u139 u140 u141 u142 u143 u144 u145 u146 u147 u148 u149 u150 u151 u152 u153 u154 u155 u156 u157 u158 u159 u160 u161 u162 u163 u164 u165 u166 u167 u168 u169 u170 u171 u172 u173 u174 u175 u176 u177 u178 u179 u180 u181 u182 u183 u184 u185 u186 u187 u188 u189 u190 u192 u193 u194 u195 u196 u200 u201 u202 u203 u204 u205 u206 u207 u208 u209 u210 u211 u212 u213 u214 u215 u216 u217 u218 u219 u220 u221 u222 u223 u224 u225 u226 u227 u228 iq183 iq184 iq185 iq186 iq187 iq188
                  exact q_ar.out
              case rest =>
                rename_i iq1 iq2 iq3 iq4 iq5 iq6 iq7 iq8 iq9 iq10 iq11 iq12 iq13 iq14 iq15 iq16 iq17 iq18 iq19 iq20 iq21 iq22 iq23 iq24 iq25 iq26 iq27 iq28 iq29 iq30 iq31 iq32 iq33 iq34 iq35 iq36 iq37 iq38 iq39 iq40 iq41 iq42 iq43 iq44 iq45 iq46 iq47 iq48 iq49 iq50 iq51 iq52 iq53 iq54 iq55 iq56 iq57 iq58 iq59 iq60 iq61 iq62 iq63 iq64 iq65 iq66 iq67 iq68 iq69 iq70 iq71 iq72 iq73 iq74 iq75 iq76 iq77 iq78 iq79 iq80 iq81 iq82 iq83 iq84 iq85 iq86 iq87 iq88 iq89 iq90 iq91 iq92 iq93 iq94 iq95 iq96 iq97 iq98 iq99 iq100 iq101 iq102 iq103 iq104 iq105 iq106 iq107 iq108 iq109 iq110 iq111 iq112 iq113 iq114 iq115 iq116 iq117 iq118 iq119 iq120 iq121 iq122 iq123 iq124 iq125 iq126 iq127 iq128 iq129 iq130 iq131 iq132 iq133 iq134 iq135 iq136 iq137 iq138 iq139 iq140 iq141 iq142 iq143 iq144 iq145 iq146 iq147 iq148 iq149 iq150 iq151 iq152 iq153 iq154 iq155 iq156 iq157 iq158 iq159 iq160 iq161 iq162 iq163 iq164 iq165 iq166 iq167 iq168 iq169 iq170 iq171 iq172 iq173 iq174 iq175 iq176 iq177 iq178 iq179 iq180 iq181 iq182 iq183 iq184 iq185 iq186 iq187 iq188 iq189 iq190 iq191 iq192 iq193 iq194 iq195 iq196 iq197 iq198 iq199 iq200 iq201 iq202 iq203 iq204 iq205 iq206 iq207 iq208 iq209 iq210 iq211 iq212 iq213 iq214 iq215 iq216 iq217 iq218 iq219 iq220 iq221 iq222 iq223 iq224 iq225 iq226 iq227 iq228 iq229 iq230 iq231 iq232 iq233 iq234 iq235 iq236 iq237 iq238 iq239 iq240 iq241 iq242 iq243 iq244 iq245 iq246 iq247 iq248 iq249 iq250 iq251 iq252 iq253 iq254 iq255 iq256 iq257 iq258 iq259 iq260 iq261 iq262 iq263 iq264 iq265 iq266 iq267 iq268 iq269 iq270 iq271 iq272 iq273 iq274 iq275 iq276 iq277 iq278 iq279 iq280 iq281 iq282 iq283 iq284 iq285 iq286 iq287 iq288 iq289 iq290 iq291 iq292 iq293 iq294 iq295 iq296 iq297 iq298 iq299 iq300 iq301 iq302 iq303 iq304 iq305 iq306 iq307 iq308 iq309 iq310 iq311 iq312 iq313 iq314 iq315 iq316 iq317 iq318 iq319 iq320 iq321 iq322 iq323 iq324 iq325 iq326 iq327 iq328 iq329 iq330 iq331 iq332 iq333 iq334 iq335 iq336 iq337 iq338 iq339 iq340 iq341 iq342 iq343 iq344 iq345 iq346 iq347 iq348 iq349 iq350 iq351 iq352 iq353 iq354 iq355 iq356 iq357 iq358 iq359 iq360 iq361 iq362 iq363 iq364 iq365 iq366 iq367 iq368 iq369 iq370 iq371 iq372 iq373 iq374 iq375 iq376 iq377
                revert L w cu iq1 w1 iq2 w2 R S M iq3 iq4 w3 wr iq5 u10 u11 iq6 iq7 iq8 iq9 iq10 iq11 iq12 u20 u21 u23 u24 u25 iq13 iq14 iq15 iq16 iq17 iq18 iq19 iq20 iq21 iq22 iq23 iq24 iq25 iq26 iq27 iq28 iq29 iq30 iq31 u58 iq32 iq33 iq34 iq35 iq36 iq37 iq38 iq39 iq40 iq41 iq42 iq43 iq44 iq45 iq46 iq47 iq48 iq49 iq50 iq51 iq52 iq53 iq54 iq55 iq56 iq57 iq58 iq59 iq60 iq61 iq62 iq63 iq64 iq65 iq66 iq67 iq68 iq69 iq70 iq71 iq72 iq73 iq74 iq75 iq76 iq77 iq78 iq79 iq80 iq81 iq82 iq83 iq84 iq85 iq86 iq87 iq88 iq89 iq90 iq91 iq92 iq93 iq94 iq95 iq96 iq97 iq98 iq99 iq100 iq101 iq102 iq103 iq104 iq105 iq106 iq107 iq108 iq109 iq110 iq111 iq112 iq113 iq114 iq115 iq116 iq117 iq118 iq119 iq120 iq121 iq122 iq123 iq124 iq125 iq126 iq127 iq128 iq129 iq130 iq131 iq132 iq133 iq134 iq135 iq136 iq137 iq138 iq139 iq140 iq141 iq142 iq143 iq144 iq145 iq146 iq147 iq148 iq149 iq150 iq151 iq152 iq153 iq154 iq155 iq156 iq157 iq158 iq159 iq160 iq161 iq162 iq163 u191 iq164 iq165 iq166 iq167 iq168 u197 u198 u199 iq169 iq170 iq171 iq172 iq173 iq174 iq175 iq176 iq177 iq178 iq179 iq180 iq181 iq182 iq183 iq184 iq185 iq186 iq187 iq188 iq189 iq190 iq191 iq192 iq193 iq194 iq195 iq196 iq197 k hk v d wl puw cuw hlt hlt' k1 b off hb hL c hmem hok0 iq198 iq199 iq200 w4 rg hX4 hgw hgM hd8 hdm pd cd hdat hcv iq201 q1 q2 d0 d1 hbig' iq202 iq203 iq204 iq205 iq206 iq207 iq208 iq209 iq210 iq211 iq212 iq213 iq214 iq215 iq216 iq217 iq218 iq219 iq220 iq221 iq222 iq223 iq224 iq225 iq226 iq227 iq228 iq229 iq230 iq231 iq232 iq233 iq234 iq235 iq236 iq237 iq238 iq239 iq240 iq241 iq242 iq243 iq244 iq245 iq246 iq247 iq248 iq249 iq250 iq251 iq252 iq253 iq254 iq255 iq256 iq257 iq258 iq259 iq260 iq261 iq262 iq263 iq264 iq265 iq266 iq267 iq268 iq269 iq270 iq271 iq272 iq273 iq274 iq275 iq276 iq277 iq278 iq279 iq280 iq281 iq282 iq283 iq284 iq285 iq286 iq287 iq288 iq289 iq290 iq291 iq292 iq293 iq294 iq295 iq296 iq297 iq298 iq299 iq300 iq301 iq302 iq303 iq304 iq305 iq306 iq307 iq308 iq309 iq310 iq311 iq312 iq313 iq314 iq315 iq316 iq317 iq318 iq319 iq320 iq321 iq322 iq323 iq324 iq325 iq326 iq327 iq328 iq329 iq330 iq331 iq332 iq333 iq334 iq335 iq336 iq337 iq338 iq339 iq340 iq341 iq342 iq343 iq344 iq345 iq346 iq347 iq348 iq349 iq350 iq351 iq352 iq353 iq354 iq355 iq356 iq357 iq358 iq359 iq360 iq361 iq362 iq363 iq364 iq365 iq366 iq367 iq368 iq369 iq370 iq371 iq372 iq373 iq374 iq375 iq376 iq377 q hq wc u2 u5 u6 u7 u12 u13 u15 u16 u17 u18 u19 u39 u40 u41 u42 u43 u44 u45 u46 u47 u48 u49 u50 u51 u52 u53 u54 u55 u56 u57 u59 u60 u61 u62 u63 u64 u65 u66 u67 u68 u69 u70 u71 u72 u73 u74 u75 u76 u77 u78 u79 u80 u81 u82 u83 u84 u85 u86 u87 u88 u89 u90 u91 u92 u93 u94 u95 u96 u97 u98 u99 u100 u101 u102 u103 u104 u105 u106 u107 u108 u109 u110 u111 u112 u113 u114 u115 u116 u117 u118 u119 u120 u121 u122 u123 u124 u125 u126 u127 u128 u129 u130 u131 u132 u133 u134 u135 u136 u137 u138 u139 u140 u141 u142 u143 u144 u145 u146 u147 u148 u149 u150 u151 u152 u153 u154 u155 u156 u157 u158 u159 u160 u161 u162 u163 u164 u165 u166 u167 u168 u169 u170 u171 u172 u173 u174 u175 u176 u177 u178 u179 u180 u181 u182 u183 u184 u185 u186 u187 u188 u189 u190 u192 u193 u194 u195 u196 u200 u201 u202 u203 u204 u205 u206 u207 u208 u209 u210 u211 u212 u213 u214 u215 u216 u217 u218 u219 u220 u221 u222 u223 u224 u225 u226 u227 u228 hcut
                exact q_ck.out
        · clear q_w0 q_w1 q_fl q_cr q_ar q_ck
          skip
          rename_i iq1 iq2 iq3 iq4
          revert L w hlm pu cu hL l0 l1 iq1 w1 hlong hlong' iq2 w2 R S M iq3 iq4 w3 wr u2 u10 u11 u12 u13 u15 u16 u17 u18 u19 u20 u21 u23 u24 u25 u39 u40 u41 u42 u43 u44 u45 u46 u47 u48 u49 u50 u51 u52 u53 u54 u55 u56 u57 u58 u59 u60 u61 u62 u63 u64 u65 u66 u67 u68 u69 u70 u71 u72 u73 u74 u75 u76 u77 u78 u79 u80 u81 u82 u83 u84 u85 u86 u87 u88 u89 u90 u91 u92 u93 u94 u95 u96 u97 u98 u99 u100 u101 u102 u103 u104 u105 u106 u107 u108 u109 u110 u111 u112 u113 u114 u115 u116 u117 u118 u119 u120 u121 u122 u123 u124 u125 u126 u127 u128 u129 u130 u131 u132 u133 u134 u135 u136 u137 u138 u139 u140 u141 u142 u143 u144 u145 u146 u147 u148 u149 u150 u151 u152 u153 u154 u155 u156 u157 u158 u159 u160 u161 u162 u163 u164 u165 u166 u167 u168 u169 u170 u171 u172 u173 u174 u175 u176 u177 u178 u179 u180 u181 u182 u183 u184 u185 u186 u187 u188 u189 u190 u191 u192 u193 u194 u195 u196 u197 u198 u199 u200 u201 u202 u203 u204 u205 u206 u207 u208 u209 u210 u211 u212 u213 u214 u215 u216 u217 u218 u219 u220 u221 u222 u223 u224 u225 u226 u227 u228 k hk v d wl puw cuw hX hlt
          exact q_fin.out
  
end Go.Proofs.Ytkamagicnemppaa
