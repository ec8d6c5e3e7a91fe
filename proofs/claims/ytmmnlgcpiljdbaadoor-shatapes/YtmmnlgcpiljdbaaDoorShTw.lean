
/-
  The walk of ShaTapes.
-/
import Derived.Test.YtmmnlgcpiljdbaaDoorShTv
namespace Go.Proofs.YtmmnlgcpiljdbaaDoor
open Go.RowKit
set_option maxRecDepth 100000
set_option linter.unusedVariables false
set_option linter.unusedSimpArgs false
attribute [local go_sem] Oper.semAt_some

theorem Own.noted2 {w w1 : World} {base base' T : Nat} {vN u : Value} {ns : List Value} {xs : List Nat} (hu : Own w base' u xs) (h : TapeAt w base T vN ns) (k : KeptBut w w1 T vN) : Own w1 base' u xs := by
  refine ownsRow_keep hu fun g hg => k.block g (ownsRow_lt hu g hg).2 (fun hh => own_ne hu h.row (by decide) (by rw [hg, hh])) (fun hh => ?_)
  rcases own_own h.own hu (by decide) with h1 | h1
  · rw [h1] at hh; cases hh
  · exact h1 (by rw [hg, hh])
/-- An append in a fence, by its run. -/
theorem wpListIn_append_r {F : Fence} {n : Nat} {P : Program} (w : World) {ops : Array Oper} {rest : List Oper} {o : Oper} {a : Act} {Q : Exit → Act → World → Prop} (hgd : o.guard = none) (s x : Operand) (t tn : TypeId)
    (ho : o.op = .call { callee := .builtin .append, args := #[s, x], argTypes := #[t, tn] }) (vs vx : Value) (hs : a.eval s = vs) (hx : a.eval x = vx)
    (v' : Value) (w' : World) (hr : (Builtin.append_ #[t, tn] o.type #[vs, vx]).run P w = .ok v' w') (h : wpListIn F n P ops Q rest (a.put o.dst v') w') : wpListIn F n P ops Q (o :: rest) a w := by
  refine wpListIn_plain hgd fun K hK => ⟨?_, ?_⟩
  · simp [Oper.about, ho, resolve, Target.leads, Sem.run_pure]
  · rw [Oper.semAt_plain F _ _ (by rw [ho]; intro c hc; cases hc)]
    simp [execOp, ho, resolve, invoke, builtin, hs, hx, hr, Result.andThen]
    exact hK _ _ h
theorem strL_size (l : List Nat) : (strL l).size = l.length := by unfold strL; rw [strOfNums_size, List.length_map]
theorem add_seven (B : List Nat) (h : B.length ≤ 200) (w : World) : (binOp .add 9 (.string (strL B)) (.string ⟨#[7]⟩)).run Tryd.prog w = .ok (.string (strL B ++ ⟨#[7]⟩)) w := by
  have e := strL_size B
  simp only [binOp, Op.stringOp]
  generalize strL B = S at *
  have e2 : (S ++ ⟨#[7]⟩ : ByteArray).size = B.length + 1 := by simp [ByteArray.size_append, e]; rfl
  first | rfl | (simp [go_sem]; done) | (simp [go_sem, e, e2, maxLen]; done) | (simp [go_sem, e, e2, maxLen]; omega) | (simp [go_sem, e, e2, maxLen]; trace_state; done)
theorem W8.seven : W8 [7] := by intro x hx; simp at hx; omega
set_option maxHeartbeats 4000000 in
theorem tapes_walk (v0 : Value) (L : List (List Nat)) (st : Int) (w : World) (hL : PartsAt w v0 L) (hcap0 : ∀ q n c, v0 = .slice q n c → n ≤ c) (s0 : -9223372036854775808 ≤ st) (s1 : st ≤ 9223372036854775807) (ht : Tab w) :
    Calls Tryd.prog 4 #[v0, .int .i64 st] w fun e w' => e = .returned (.bool true) ∧ Below w.heap.size w w' := by
  obtain ⟨hlm, p0, c0, rfl, hcells⟩ := id hL
  have hcap := hcap0 _ _ _ rfl
  clear hcells hcap0
  unfold maxLen at hlm
  have l0 : (0 : Int) ≤ (L.length : Int) := by omega
  have l1 : (L.length : Int) ≤ 9223372036854775807 := by omega
  have hw0 := ht.pos
  refine (callsIn_wide (n := 3)).1 ?_
  refine callsIn_of_wp_marks Tryd.func4 rfl trivial ?_ rfl
  simp only [Tryd.ntmps4, List.size_toArray, List.length_cons, List.length_nil, Nat.reduceAdd, Nat.reduceSub, Array.replicate_succ, Array.replicate_zero, List.push_toArray, List.append_toArray, List.nil_append, List.cons_append]
  have hB0 := below2 w (.cells #[.int .i64 st] 3) (.cells #[.bool false] 4)
  have r30 : Row ((w.alloc (.cells #[.int .i64 st] 3)).alloc (.cells #[.bool false] 4)) w.heap.size #[.int .i64 st] 3 := (Row.new w _ _ rfl).alloc _
  have r40 : Row ((w.alloc (.cells #[.int .i64 st] 3)).alloc (.cells #[.bool false] 4)) (w.heap.size + 1) #[.bool false] 4 := Row.new _ _ _ (by simp)
  have z0 : ((w.alloc (.cells #[.int .i64 st] 3)).alloc (.cells #[.bool false] 4)).heap.size = w.heap.size + 2 := by simp
  gi_wp2_with (refine ⟨trivial, ?_⟩; gi_at_call 8; refine stop ?_)
  generalize (w.alloc (.cells #[.int .i64 st] 3)).alloc (.cells #[.bool false] 4) = W0 at *
  refine CallsIn.mono (callsIn_wide.2 (fit_any _ (ht.later hB0))) ?_
  rintro e w1 ⟨rfl, hb1⟩
  have hB1 := chain hB0 hb1
  have r31 := r30.later hb1
  have r41 := r40.later hb1
  have z1 := hb1.size
  have c41 := r41.cell 0
  simp only [List.getElem?_toArray, List.getElem?_cons_zero] at c41
  have f41 := r41.frozen 0
  clear hb1 r30 r40
  by_cases hlong : 20 < L.length
  · have hlong' : (20 : Int) < (L.length : Int) := by omega
    gi_wp2
    refine ⟨.bool true, ?_, rfl, hB1.setCell (p := ⟨w.heap.size + 1, 0, none⟩) (by simp) _⟩
    have hc := World.cell?_setCell_same' w1 ⟨w.heap.size + 1, 0, none⟩ (.bool true) (by rw [c41]; rfl)
    simp [results, Tryd.f4, go_sem, hc]
  · have hlong' : ¬ (20 : Int) < (L.length : Int) := by omega
    have hB2 := chainA (chainA hB1 (.cells #[.slice none 0 0] 32)) (.cells #[.slice none 0 0] 33)
    have hR0 : TpR w ((w1.alloc (.cells #[.slice none 0 0] 32)).alloc (.cells #[.slice none 0 0] 33)) L w.heap.size (w.heap.size + 1) (w1.heap.size + 1) w1.heap.size 0 st (.slice none 0 0) (.slice none 0 0) [] :=
      ⟨⟨(Row.new w1 _ _ rfl).alloc _, World.ownsRow_nil _ _ _ _, fun e => (by cases e), hB1.size⟩, rfl, fun i hi => by omega, (r31.alloc _).alloc _, (r41.alloc _).alloc _, Row.new _ _ _ (by simp), World.ownsRow_nil _ _ _ _, hB2, Nat.le_refl _, by omega, by have := hB1.size; omega⟩
    gi_wp2
    generalize (w1.alloc (.cells #[.slice none 0 0] 32)).alloc (.cells #[.slice none 0 0] 33) = w2 at *
    have hb6 : w1.heap.size ≠ w.heap.size + 1 := by omega
    have hTb : w.heap.size + 2 ≤ w1.heap.size := by omega
    clear c41 f41 r31 r41 hb6 hB2
    generalize hT : w1.heap.size = T at *
    gi_loopw [23] (fun i wr => ∃ (k : Nat) (vN vW : Value) (ns : List Value), k ≤ L.length ∧ i = .int .i64 k ∧ TpR w wr L w.heap.size (w.heap.size + 1) (T + 1) T k st vN vW ns ∧ ∀ i, i < k → (L.getD i []).length ≤ 200) (fun i _ => L.length - (intOf i).toNat)
    case atStart => exact ⟨0, _, _, _, Nat.zero_le _, rfl, hR0, fun i hi => by omega⟩
    case round =>
      clear hR0
      obtain ⟨k, vN, vW, ns, hk, rfl, hR, h200⟩ := hrel
      have H200 := (show Hid _ from h200)
      clear h200
      by_cases hlt : k < L.length
      · have hlt' : (k : Int) < (L.length : Int) := by omega
        have k0 : (0 : Int) ≤ (k : Int) := by omega
        have k1 : (k : Int) < 20 := by omega
        obtain ⟨_, _, _, e, hc⟩ := id hL
        cases e
        obtain ⟨b, off, ub, rfl, hb, hcellw, hubw⟩ := hc k hlt
        clear hc
        obtain ⟨hb8, hbm, pb, cb, rfl, _⟩ := id hubw
        have hub := hubw.later hR.below
        have hcell := (hR.below.cell (p := ⟨b, off + k, none⟩) hb).trans hcellw
        clear hcellw
        unfold maxLen at hbm
        have d0 : (0 : Int) ≤ ((L.getD k []).length : Int) := by omega
        have d1 : ((L.getD k []).length : Int) ≤ 9223372036854775807 := by omega
        have c4 := hR.r4.cell 0
        simp only [List.getElem?_toArray, List.getElem?_cons_zero] at c4
        have f4 := hR.r4.frozen 0
        generalize hB : L.getD k [] = B at *
        have HB : Hid (L.getD k [] = B) := hB
        clear hB
        by_cases hbig : 200 < B.length
        · have hbig' : (200 : Int) < (B.length : Int) := by omega
          gi_wp2
          refine ⟨.bool true, ?_, rfl, hR.below.setCell (p := ⟨w.heap.size + 1, 0, none⟩) (by simp) _⟩
          have hc := World.cell?_setCell_same' wr ⟨w.heap.size + 1, 0, none⟩ (.bool true) (by rw [c4]; rfl)
          simp [results, Tryd.f4, go_sem, hc]
        · have hbig' : ¬ (200 : Int) < (B.length : Int) := by omega
          obtain ⟨x, w3, run3, ownx, gr3, nilx⟩ := append_bytes wr wr.heap.size 22 (.slice none 0 0) [] (World.ownsRow_nil _ _ _ _) _ B hub (by simp; omega) (Nat.le_refl _)
          have hb3 : Below wr.heap.size wr w3 := below_grown (Below.refl _ _) (Nat.le_refl _) gr3 (fun k h => by cases h)
          have hR3 := hR.later hb3
          rw [List.nil_append] at ownx
          obtain ⟨px, nx, cx, rfl, hnx⟩ := ownx.form
          have HNX : Hid (nx = B.length) := hnx
          clear hnx gr3 nilx c4 f4
          gi_wp2_with (first | (gi_at_builtin; refine wpListIn_append_r _ rfl _ _ _ _ rfl _ _ rfl rfl _ _ run3 ?_) | (refine ⟨trivial, ?_⟩; gi_at_call 9; refine stop ?_))
          have hu4 := hub.later hb3
          have hb5 := below2 w3 (.cells #[.int .u8 7] 5) (.cells #[.slice px nx cx, .slice (some ⟨w3.heap.size, 0, none⟩) 1 1] 22)
          have hR5 := hR3.later hb5
          have hx3 := ownx.bytes hb8 (by unfold maxLen; omega)
          have h7 : BytesAt (w3.alloc (.cells #[.int .u8 7] 5)) (.slice (some ⟨w3.heap.size, 0, none⟩) 1 1) [7] := (Row.new w3 _ _ rfl : Row (w3.alloc (.cells (bytesL [7]) 5)) w3.heap.size (bytesL [7]) 5).bytes W8.seven (by unfold maxLen; decide) 1 1 rfl
          have hP := parts2 (w3.alloc (.cells #[.int .u8 7] 5)) 22 (hx3.later (below1 _ _)) h7 2
          rw [show (w3.alloc (.cells #[.int .u8 7] 5)).heap.size = w3.heap.size + 1 from by simp] at hP
          have hT0 : T ≠ 0 := by omega
          have hN0 : some 0 ≠ vN.ownBlock := fun hh => by have := (ownsRow_lt hR5.ta.own 0 hh.symm).1; omega
          have hsame := hash_same (hashF KW (B ++ [7])) (hash_len _)
          generalize hHH : hashF KW (B ++ [7]) = H at *
          have HH : Hid (hashF KW (B ++ [7]) = H) := hHH
          clear hHH
          refine CallsIn.mono (callsIn_wide.2 (of_tape _ [B, [7]] (B ++ [7]) H w.heap.size T vN ns _ hP (by simp) (by simp; omega) (ht.later hR5.below) HH.out hR5.ta (by have := hR5.len; omega) hT0 hN0)) ?_
          rintro e w6 ⟨vN', u, rfl, ta6, hu6, kb6⟩
          obtain ⟨n6, r36, r46, r66, want6, bel6⟩ := hR5.noted kb6 ta6 (by rw [HB.out]; exact hu6)
          have x6 : Own w6 wr.heap.size (.slice px nx cx) B := Own.noted2 (ownsRow_later ownx hb5) hR5.ta kb6
          have hxlt : ∀ g, (Value.slice px nx cx).ownBlock = some g → wr.heap.size ≤ g ∧ g < w3.heap.size := fun g hg => ownsRow_lt ownx g hg
          have hk6 := hR.len
          have hlt6 : ∀ i, i < k → ∀ g, (ns.getD i undef).ownBlock = some g → g < wr.heap.size := fun i hi g hg => (ownsRow_lt (hR.notes i hi) g hg).2
          have hub6 : ∀ g, u.ownBlock = some g → w3.heap.size ≤ g := fun g hg => by have := (ownsRow_lt hu6 g hg).1; simp at this; omega
          have HX : Hid (∀ g, (Value.slice px nx cx).ownBlock = some g → wr.heap.size ≤ g ∧ g < w3.heap.size) := hxlt
          have HN : Hid (∀ i, i < k → ∀ g, (ns.getD i undef).ownBlock = some g → g < wr.heap.size) := hlt6
          have HU : Hid (∀ g, u.ownBlock = some g → w3.heap.size ≤ g) := hub6
          clear kb6 hR5 hP h7 hx3 hb5 hu4 hu6 hR3 run3 ownx hxlt hlt6 hub6
          gi_wp2_with (refine ⟨trivial, ?_⟩; gi_at_call 9; refine stop ?_)
          have h7 : BytesAt (w6.alloc (.cells #[.int .u8 7] 5)) (.slice (some ⟨w6.heap.size, 0, none⟩) 1 1) [7] := (Row.new w6 _ _ rfl : Row (w6.alloc (.cells (bytesL [7]) 5)) w6.heap.size (bytesL [7]) 5).bytes W8.seven (by unfold maxLen; decide) 1 1 rfl
          have hP := parts2 (w6.alloc (.cells #[.int .u8 7] 5)) 22 (hubw.later (chainA bel6 _)) h7 2
          rw [show (w6.alloc (.cells #[.int .u8 7] 5)).heap.size = w6.heap.size + 1 from by simp] at hP
          refine CallsIn.mono (callsIn_wide.2 (of_eq _ [B, [7]] (B ++ [7]) H _ hP (by simp) (by simp; omega) (ht.later (chainA (chainA bel6 _) _)) HH.out)) ?_
          rintro e w9 ⟨rfl, hb9⟩
          have hb69 := chain (below2 w6 (.cells #[.int .u8 7] 5) (.cells #[.slice pb B.length cb, .slice (some ⟨w6.heap.size, 0, none⟩) 1 1] 22)) hb9
          have ta9 := ta6.later hb69
          have n9 := fun i hi => ownsRow_later (n6 i hi) hb69
          have r39 := r36.later hb69
          have r49 := r46.later hb69
          have r69 := r66.later hb69
          have want9 := ownsRow_later want6 hb69
          have x9 := ownsRow_later x6 hb69
          have bel9 := chain bel6 hb69
          clear hb9 hP h7 ta6 n6 r36 r46 r66 want6 x6 hb69 bel6
          have cv := conv_str (hubw.later bel9)
          have hadd := add_seven B (by omega)
          have c6 := r69.cell 0
          simp only [List.getElem?_toArray, List.getElem?_cons_zero] at c6
          have f6 := r69.frozen 0
          obtain ⟨pW, nW, cW, rfl, hnW⟩ := ownsRow_at want9
          have hnW' := hnW.symm
          subst hnW'
          clear hnW
          have hwl : (List.map (fun i => Value.string (strL (L.getD i [] ++ [7]))) (List.range k)).length = k := by simp
          obtain ⟨vW', w10, run10, own10, gr10⟩ := append_want w9 w.heap.size 33 _ _ (by rw [hwl]; exact want9) (.string (strL B ++ ⟨#[7]⟩)) rfl (by rw [hwl]; omega) bel9.size
          have r310 : Row w10 w.heap.size #[.int .i64 st] 3 := (gr10.block _ (r39.alloc (.cells #[.string (strL B ++ ⟨#[7]⟩)] 9)).lt (fun e => own_ne want9 r39 (by decide) e.symm)).trans (r39.alloc _)
          have r410 : Row w10 (w.heap.size + 1) #[.bool false] 4 := (gr10.block _ (r49.alloc (.cells #[.string (strL B ++ ⟨#[7]⟩)] 9)).lt (fun e => own_ne want9 r49 (by decide) e.symm)).trans (r49.alloc _)
          have r610 : Row w10 (T + 1) #[.slice pW k cW] 33 := (gr10.block _ (r69.alloc (.cells #[.string (strL B ++ ⟨#[7]⟩)] 9)).lt (fun e => own_ne want9 r69 (by decide) e.symm)).trans (r69.alloc _)
          have c610 := r610.cell 0
          simp only [List.getElem?_toArray, List.getElem?_cons_zero] at c610
          have f610 := r610.frozen 0
          obtain ⟨pV, nV, cV, rfl, hnV⟩ := ownsRow_at own10
          clear hnV
          have hss : ¬ (9223372036854775807 < (strL B).size + 1) := by rw [strL_size]; omega
          gi_wp2_with (gi_at_builtin; refine wpListIn_append_r _ rfl _ _ _ _ rfl _ _ rfl rfl _ _ run10 ?_)
          have hR11 : TpR w (w10.setCell ⟨T + 1, 0, none⟩ (.slice pV nV cV)) L w.heap.size (w.heap.size + 1) (T + 1) T (k + 1) st vN' (.slice pV nV cV) (ns ++ [u]) :=
            tp_wrote HB.out hb8 ta9 (by simp [hk6]) n9 r39 r49 r69 want9 bel9 (by rw [hwl] at own10; exact own10) gr10 (Nat.le_refl _) (by omega) (by omega) (by omega) (by omega) (by omega)
          have x11 : Own (w10.setCell ⟨T + 1, 0, none⟩ (.slice pV nV cV)) wr.heap.size (.slice px nx cx) B := own_wrote x9 r69 want9 gr10
          have HQ : Hid (∀ i, i < k + 1 → ∀ g, (Value.slice px nx cx).ownBlock = some g → ((ns ++ [u]).getD i undef).ownBlock ≠ some g) := by
            intro i hi g hg hh
            have h1 := HX.out g hg
            by_cases hik : i < k
            · have e : (ns ++ [u]).getD i undef = ns.getD i undef := by simp [List.getD, List.getElem?_append_left, hk6, hik]
              rw [e] at hh
              have := HN.out i hik g hh
              omega
            · obtain rfl : i = k := by omega
              have e : (ns ++ [u]).getD i undef = u := by simp [List.getD, ← hk6]
              rw [e] at hh
              have := HU.out g hh
              omega
          have hwsz := hR.below.size
          have hn0 := HNX.out
          subst hn0
          generalize w10.setCell ⟨T + 1, 0, none⟩ (.slice pV nV cV) = w11 at *
          clear own10 gr10 run10 want9 x9 n9 ta9 r39 r49 r69 r310 r410 r610 c610 f610 c6 f6 cv hadd hss bel9 hsame hwl hR hb3 hub hcell
          gi_loopw [50] (fun j wq => ∃ (m : Nat) (l : List Nat), m ≤ B.length ∧ j = .int .i64 m ∧ l.length = B.length ∧ W8 l ∧ Own wq wr.heap.size (.slice px B.length cx) l ∧ TpR w wq L w.heap.size (w.heap.size + 1) (T + 1) T (k + 1) st vN' (.slice pV nV cV) (ns ++ [u])) (fun j _ => B.length - (intOf j).toNat)
          case atStart => exact ⟨0, B, Nat.zero_le _, rfl, rfl, hb8, x11, hR11⟩
          case round =>
            clear hR11 x11
            obtain ⟨m, l, hm, rfl, hll, hl8, hx, hRq⟩ := hrel
            by_cases hmlt : m < B.length
            · have hm1 : (m : Int) < (B.length : Int) := by omega
              have m0 : (0 : Int) ≤ (m : Int) := by omega
              obtain ⟨g, cg, cs, e, hge, hrow⟩ := hx.rowOf (fun e => by rw [e] at hll; simp at hll; omega)
              rw [hll] at e
              cases e
              have hcx := hx.bytes hl8 (by unfold maxLen; omega)
              obtain ⟨_, _, _, _, e, hc⟩ := hcx
              rw [hll] at e
              cases e
              obtain ⟨_, _, e, _, hcell⟩ := hc m (by omega)
              cases e
              rw [Nat.zero_add] at hcell
              have hfz := hrow.frozen m
              have hl256 : l.getD m 0 < 256 := hl8 _ (by simp [List.getD, show m < l.length by omega])
              generalize hy : l.getD m 0 = y at *
              have y0 : (0 : Int) ≤ (y : Int) := by omega
              have y1 : (y : Int) < 256 := by omega
              clear hc
              gi_wp2
              have e : ((y : Int) + 1) % 256 = (((y + 1) % 256 : Nat) : Int) := by omega
              rw [e]
              refine ⟨⟨m + 1, l.set m ((y + 1) % 256), by omega, by simp, by simp [hll], hl8.setN _ _ (by omega), hx.setAt m (by omega) _, hRq.other hrow (by omega) (fun i hi => HQ.out i hi g rfl) m _⟩, ?_⟩
              simp [intOf]
              omega
            · have hm1 : ¬ (m : Int) < (B.length : Int) := by omega
              gi_wp2
              refine ⟨⟨k + 1, _, _, _, by omega, by simp, hRq, fun i hi => ?_⟩, ?_⟩
              · by_cases hik : i = k
                · subst hik; rw [HB.out]; omega
                · exact H200.out i (by omega)
              simp [intOf]
              omega
      · have hlt' : ¬ (k : Int) < (L.length : Int) := by omega
        obtain rfl : k = L.length := by omega
        have h8 : ∀ i, i < L.length → W8 (L.getD i []) := fun i hi => by
          obtain ⟨_, _, _, _, hc⟩ := hL
          obtain ⟨_, _, _, _, _, _, hx⟩ := hc i hi
          exact hx.1
        have hPN := hR.parts h8 H200.out (by omega)
        have HPN : Hid (PartsAt wr vN (L.map fun l => l ++ [7])) := hPN
        have HR : Hid (TpR w wr L w.heap.size (w.heap.size + 1) (T + 1) T L.length st vN vW ns) := hR
        have hTl : T < wr.heap.size := hR.ta.row.lt
        have cT := (hR.ta.row.alloc (.cells #[.int .i64 0] 3)).cell 0
        simp only [List.getElem?_toArray, List.getElem?_cons_zero] at cT
        have H8 := (show Hid _ from h8)
        clear h8 hPN hR hlt hlt' hk
        gi_wp2
        have hI0 : TwI wr (wr.alloc (.cells #[.int .i64 0] 3)) st 0 := ⟨below1 wr _, Row.new wr _ _ rfl, fun j hj => by omega⟩
        have sz8 : (wr.alloc (.cells #[.int .i64 0] 3)).heap.size = wr.heap.size + 1 := by simp
        generalize (wr.alloc (.cells #[.int .i64 0] 3)) = w8 at *
        have HS8 : Hid (w8.heap.size = wr.heap.size + 1) := sz8
        refine' wpIn_range_all T vN (L.map fun l => l ++ [7]) rfl rfl (by omega) ?hT (fun k W => TwI wr W st k) (fun c W => TwX wr W st L.length c) (fun k W h => HPN.out.later h.1) (fun k W W' h kb => h.kb kb (by have := HS8.out; omega)) (fun c W W' h kb => h.kb kb (by have := HS8.out; omega)) (fun k hk => ?hlen) hI0 _ ?hassign ?hbody ?hdone ?hstop
        case hT => simpa using cT
        case hlen =>
          rw [List.length_map] at hk
          have := H200.out k hk
          rw [show (L.map fun l => l ++ [7]).getD k [] = L.getD k [] ++ [7] by simp [List.getD, hk], List.length_append, List.length_singleton]
          omega
        case hassign =>
          intro u W K hK
          gi_wp2
          exact hK
        case hbody =>
          rintro k W u hk ⟨hbel, hrow, hne⟩ hu hsz
          rw [List.length_map] at hk
          rw [show (L.map fun l => l ++ [7]).getD k [] = L.getD k [] ++ [7] by simp [List.getD, hk]] at hu
          obtain ⟨g, c, hvW, hg, hsc⟩ := HR.out.wantAt hk
          subst hvW
          have HRW := HR.out.later hbel
          have c11 := hrow.cell 0
          have f11 := hrow.frozen 0
          have c3 := HRW.r3.cell 0
          have c6 := HRW.r6.cell 0
          simp only [List.getElem?_toArray, List.getElem?_cons_zero] at c11 c3 c6
          have csW := (hbel.cell (p := ⟨g, 0 + k, none⟩) hg).trans hsc
          have k0 : (0 : Int) ≤ (k : Int) := by omega
          have k1 : (k : Int) < 1000 := by omega
          have hkL : L.length ≤ 1000 := by omega
          have HB := (show Hid _ from hbel)
          have HROW : Hid (Row W wr.heap.size #[.int .i64 (k : Nat)] 3) := hrow
          have HNE := (show Hid _ from hne)
          clear HRW hsc hg hrow hbel hne
          generalize L.getD k [] ++ [7] = B at *
          by_cases hst : st = (k : Int)
          · subst hst
            gi_wp2
            exact ⟨⟨rfl, rfl⟩, rfl, HB.out, k, rfl, hk, HROW.out⟩
          · have hst' : ¬ (k : Int) = st := fun e => hst e.symm
            gi_wp2
            refine region26 (fun _ => trivial) _ _ W k L.length g 0 c (T + 1) wr.heap.size u B (by simp) rfl rfl rfl c11 c6 hk hkL csW hu ?_
            rintro Tm hTm
            simp only [layT, List.setIfInBounds_toArray, List.set_cons_zero, List.set_cons_succ]
            rw [hTm]
            have c11 : W.drew.cell? ⟨wr.heap.size, 0, none⟩ = some (.int .i64 (k : Nat)) := c11
            have f11 : W.drew.frozen? ⟨wr.heap.size, 0, none⟩ = false := f11
            clear c3 c6 csW hu
            gi_wp2
            have e1 : ((k : Int) + 1) = ((k + 1 : Nat) : Int) := by omega
            rw [e1]
            refine ⟨⟨(heap_setCell_other W.drew ⟨wr.heap.size, 0, none⟩ _ _ (by have := HS8.out; show w8.heap.size ≠ wr.heap.size; omega)).trans rfl, (heap_setCell_other W.drew ⟨wr.heap.size, 0, none⟩ _ _ (by have := HS8.out; show w8.heap.size + 1 ≠ wr.heap.size; omega)).trans rfl⟩, HB.out.drew.setCell (p := ⟨wr.heap.size, 0, none⟩) (Nat.le_refl _) _, heap_setCell_same W.drew wr.heap.size 0 _ _ _ HROW.out, fun j hj => ?_⟩
            by_cases hjk : j = k
            · subst hjk; exact hst
            · exact HNE.out j (by omega)
        case hdone =>
          rintro W ⟨hbel, hrow, hne⟩ hK
          clear hne
          rw [List.length_map] at hrow
          rename_i hKa
          simp only [Exit.inBlock, Exit.then]
          refine hKa _ _ ?_
          clear hKa
          gi_wp2
          have hmb : L.length ≤ 1000 := by omega
          obtain ⟨m, hm⟩ : ∃ m, m = L.length := ⟨_, rfl⟩
          rw [← hm] at hrow
          replace hmb : m ≤ 1000 := by omega
          have hml : (m : Int) = (L.length : Int) := by omega
          refine wpIn_rangeFunc_none (by omega) 11 #[.pointer none] rfl (Go.Proofs.enters_of Tryd.func11 (by kernel_rfl) rfl) (fun l W hb => all_nil W l) ?_
          intro W2 hb2 hK2
          have HB2 : Hid (Below wr.heap.size wr W2) := hbel.trans (hb2.mono hbel.size)
          have HK1 : Hid (W2.heap[w8.heap.size]? = some (.deferred (some []))) := (hb2.block _ (Array.getElem?_eq_some_iff.1 hK).1).trans hK
          have HK2 : Hid (W2.heap[W.heap.size]? = some (.deferred (some []))) := hK2
          have HD : Hid (w8.heap.size < W.heap.size ∧ w8.heap.size = wr.heap.size + 1) := ⟨(Array.getElem?_eq_some_iff.1 hK).1, HS8.out⟩
          have HRW := HR.out.later (hbel.trans (hb2.mono hbel.size))
          have c11 := (hrow.later hb2).cell 0
          have c3 := HRW.r3.cell 0
          have c4 := HRW.r4.cell 0
          have f4 := HRW.r4.frozen 0
          have cT2 := HRW.ta.row.cell 0
          simp only [List.getElem?_toArray, List.getElem?_cons_zero] at c11 c3 c4 cT2
          have hnl := HRW.len
          obtain ⟨pN, cN, rfl⟩ : ∃ pN cN, vN = .slice pN L.length cN := by
            obtain ⟨_, ⟨rfl, h0⟩ | ⟨g, cap, cur, rfl, _⟩⟩ := HRW.ta.own
            · exact ⟨none, 0, by rw [← hnl, h0]⟩
            · exact ⟨_, cap, by rw [hnl]⟩
          have m0 : (0 : Int) ≤ (m : Int) := by omega
          have m1 : (m : Int) ≤ 1000 := by omega
          clear hbel hrow hK hb2 hK2 HRW hnl
          rename_i hKa
          simp only [Exit.inBlock, Exit.then]
          refine hKa _ _ ?_
          clear hKa
          gi_wp2_with (refine ⟨trivial, ?_⟩; gi_at_call 12; refine stop ?_)
          refine CallsIn.mono (callsIn_wide.2 (len_any W2 T _ _ _ cT2)) ?_
          rintro e W3 ⟨rfl, hW3⟩
          obtain rfl := hW3.symm
          clear hW3
          gi_wp2_with (refine ⟨trivial, ?_⟩; gi_at_call 12; refine stop ?_)
          refine CallsIn.mono (callsIn_wide.2 (len_nil W2)) ?_
          rintro e W3 ⟨rfl, hW3⟩
          obtain rfl := hW3.symm
          clear hW3
          gi_wp2
          have hK2' := (KeepsOthers.setCell W2 ⟨w.heap.size + 1, 0, none⟩ (.bool true)).same W.heap.size _ HK2.out rfl
          have hK1' := (KeepsOthers.setCell W2 ⟨w.heap.size + 1, 0, none⟩ (.bool true)).same w8.heap.size _ HK1.out rfl
          have hlt := HD.out
          have hc5 := World.cell?_setCell_same' W2 ⟨w.heap.size + 1, 0, none⟩ (.bool true) (by rw [c4]; rfl)
          have hbb := (HR.out.below.trans (HB2.out.mono HR.out.below.size)).setCell (p := ⟨w.heap.size + 1, 0, none⟩) (by simp) (.bool true)
          have hsw := HR.out.below.size
          clear c11 c3 c4 f4 cT2 cT
          generalize W2.setCell ⟨w.heap.size + 1, 0, none⟩ (.bool true) = W4 at *
          refine ⟨by simp, .inl ⟨_, _, rfl, run_takeDeferred hK2', ?_⟩⟩
          have hK1'' : (W4.putObj W.heap.size (.deferred none)).heap[wr.heap.size + 1]? = some (.deferred (some [])) := by
            rw [← hlt.2]
            exact (World.putObj_heap_other (by omega)).trans hK1'
          refine ⟨by simp, .inl ⟨_, _, rfl, run_takeDeferred hK1'', ?_⟩⟩
          have hc6 := cell_kept hc5 (grownBy_putObj' _ W.heap.size (.deferred none)) (fun r e => by cases e; exact ⟨_, hK2', rfl⟩)
          have hc7 := cell_kept hc6 (grownBy_putObj' _ (wr.heap.size + 1) (.deferred none)) (fun r e => by cases e; exact ⟨_, hK1'', rfl⟩)
          have hb5 := hbb.trans (belowK_b (w := w) (Nat.le_refl _) W4 W.heap.size _ (.deferred none) (by omega) hK2' rfl rfl)
          have hb6 := hb5.trans (belowK_b (w := w) (Nat.le_refl _) _ (wr.heap.size + 1) _ (.deferred none) (by omega) hK1'' rfl rfl)
          refine ⟨.bool true, ?_, rfl, hb6⟩
          simp [results, Tryd.f4, go_sem, hc7]
        case hstop =>
          rintro c W ⟨rfl, hbel, m, hst, hm, hrow⟩ hK
          subst hst
          have hmb : m ≤ 1000 := by omega
          have hml : ¬ (m : Int) = (L.length : Int) := by omega
          gi_wp2
          refine wpIn_rangeFunc_none (by omega) 11 #[.pointer none] rfl (Go.Proofs.enters_of Tryd.func11 (by kernel_rfl) rfl) (fun l W hb => all_nil W l) ?_
          intro W2 hb2 hK2
          have HB2 : Hid (Below wr.heap.size wr W2) := hbel.trans (hb2.mono hbel.size)
          have HK1 : Hid (W2.heap[w8.heap.size]? = some (.deferred (some []))) := (hb2.block _ (Array.getElem?_eq_some_iff.1 hK).1).trans hK
          have HK2 : Hid (W2.heap[W.heap.size]? = some (.deferred (some []))) := hK2
          have HD : Hid (w8.heap.size < W.heap.size ∧ w8.heap.size = wr.heap.size + 1) := ⟨(Array.getElem?_eq_some_iff.1 hK).1, HS8.out⟩
          have HRW := HR.out.later (hbel.trans (hb2.mono hbel.size))
          have c11 := (hrow.later hb2).cell 0
          have c3 := HRW.r3.cell 0
          have c4 := HRW.r4.cell 0
          have f4 := HRW.r4.frozen 0
          have cT2 := HRW.ta.row.cell 0
          simp only [List.getElem?_toArray, List.getElem?_cons_zero] at c11 c3 c4 cT2
          have hnl := HRW.len
          obtain ⟨pN, cN, rfl⟩ : ∃ pN cN, vN = .slice pN L.length cN := by
            obtain ⟨_, ⟨rfl, h0⟩ | ⟨g, cap, cur, rfl, _⟩⟩ := HRW.ta.own
            · exact ⟨none, 0, by rw [← hnl, h0]⟩
            · exact ⟨_, cap, by rw [hnl]⟩
          have m0 : (0 : Int) ≤ (m : Int) := by omega
          have m1 : (m : Int) ≤ 1000 := by omega
          clear hbel hrow hK hb2 hK2 HRW hnl
          rename_i hKa
          simp only [Exit.inBlock, Exit.then]
          refine hKa _ _ ?_
          clear hKa
          gi_wp2_with (refine ⟨trivial, ?_⟩; gi_at_call 12; refine stop ?_)
          refine CallsIn.mono (callsIn_wide.2 (len_any W2 T _ _ _ cT2)) ?_
          rintro e W3 ⟨rfl, hW3⟩
          obtain rfl := hW3.symm
          clear hW3
          gi_wp2_with (refine ⟨trivial, ?_⟩; gi_at_call 12; refine stop ?_)
          refine CallsIn.mono (callsIn_wide.2 (len_nil W2)) ?_
          rintro e W3 ⟨rfl, hW3⟩
          obtain rfl := hW3.symm
          clear hW3
          gi_wp2
          have hK2' := (KeepsOthers.setCell W2 ⟨w.heap.size + 1, 0, none⟩ (.bool true)).same W.heap.size _ HK2.out rfl
          have hK1' := (KeepsOthers.setCell W2 ⟨w.heap.size + 1, 0, none⟩ (.bool true)).same w8.heap.size _ HK1.out rfl
          have hlt := HD.out
          have hc5 := World.cell?_setCell_same' W2 ⟨w.heap.size + 1, 0, none⟩ (.bool true) (by rw [c4]; rfl)
          have hbb := (HR.out.below.trans (HB2.out.mono HR.out.below.size)).setCell (p := ⟨w.heap.size + 1, 0, none⟩) (by simp) (.bool true)
          have hsw := HR.out.below.size
          clear c11 c3 c4 f4 cT2 cT
          generalize W2.setCell ⟨w.heap.size + 1, 0, none⟩ (.bool true) = W4 at *
          refine ⟨by simp, .inl ⟨_, _, rfl, run_takeDeferred hK2', ?_⟩⟩
          have hK1'' : (W4.putObj W.heap.size (.deferred none)).heap[wr.heap.size + 1]? = some (.deferred (some [])) := by
            rw [← hlt.2]
            exact (World.putObj_heap_other (by omega)).trans hK1'
          refine ⟨by simp, .inl ⟨_, _, rfl, run_takeDeferred hK1'', ?_⟩⟩
          have hc6 := cell_kept hc5 (grownBy_putObj' _ W.heap.size (.deferred none)) (fun r e => by cases e; exact ⟨_, hK2', rfl⟩)
          have hc7 := cell_kept hc6 (grownBy_putObj' _ (wr.heap.size + 1) (.deferred none)) (fun r e => by cases e; exact ⟨_, hK1'', rfl⟩)
          have hb5 := hbb.trans (belowK_b (w := w) (Nat.le_refl _) W4 W.heap.size _ (.deferred none) (by omega) hK2' rfl rfl)
          have hb6 := hb5.trans (belowK_b (w := w) (Nat.le_refl _) _ (wr.heap.size + 1) _ (.deferred none) (by omega) hK1'' rfl rfl)
          refine ⟨.bool true, ?_, rfl, hb6⟩
          simp [results, Tryd.f4, go_sem, hc7]
end Go.Proofs.YtmmnlgcpiljdbaaDoor
