
/-
  Clash, on a tape of notes: if two unlike ones have one hash, it says so.
-/
import Derived.Test.YtepohpniflmblaaDoorClB
import Derived.Test.YtepohpniflmblaaDoorClU
import Derived.Test.YtepohpniflmblaaDoorHiF
namespace Go.Proofs.YtepohpniflmblaaDoor
open Go.RowKit
set_option maxRecDepth 100000
set_option linter.unusedVariables false
set_option linter.unusedSimpArgs false
attribute [local go_sem] Oper.semAt_some

/-- The notes of a tape as parts. -/
theorem TpAt.rows {w : World} {base T : Nat} {N : List (List Nat)} (h : TpAt w base (.pointer (some ⟨T, 0, none⟩)) N) (hl : N.length ≤ 1000) (hs : ∀ l ∈ N, l.length ≤ 1000) : ∃ vN, Row w T #[vN] 40 ∧ PartsAt w vN N := by
  rcases h with h | ⟨T', vN, ns, e, ht, hln, ho, h8⟩
  · cases h
  · cases e
    refine ⟨vN, ht.row, by unfold maxLen; omega, ?_⟩
    obtain ⟨_, ⟨rfl, h0⟩ | ⟨g, cap, cur, rfl, hb, hg, h1, h2, h3, h4⟩⟩ := ht.own
    · have hN0 : N = [] := List.eq_nil_of_length_eq_zero (by omega)
      subst hN0
      exact ⟨none, 0, rfl, fun i hi => by simp at hi⟩
    · refine ⟨_, cap, by rw [← hln], fun i hi => ?_⟩
      have hi' : i < ns.length := by omega
      refine ⟨g, 0, ns.getD i undef, rfl, (Array.getElem?_eq_some_iff.1 hg).1, ?_, (ho i hi).bytes ?_ ?_⟩
      · rw [cell_of_row w g (0 + i) cur _ _ hg, Nat.zero_add]
        have e := congrArg (fun x : List Value => x[i]?) h4
        simp only [Nat.mul_one, List.getElem?_take, hi', if_true] at e
        rw [← Array.getElem?_toList, e]
        simp [List.getD, hi']
      · exact h8 _ (by simp [List.getD, hi])
      · have := hs (N.getD i []) (by simp [List.getD, hi])
        unfold maxLen
        omega
/-- What the range's rounds hold: w: the world ahead of Clash; its result, the map, the map's variable lie in the next three blocks. -/
structure CkI (w W : World) (vN : Value) (N : List (List Nat)) (k : Nat) : Prop where
  res : Row W w.heap.size #[.bool false] 4
  var : Row W (w.heap.size + 1 + 1) #[.map (some (w.heap.size + 1))] 59
  parts : PartsAt W vN N
  tab : Tab W
  bel : Below w.heap.size w W
  map : ∃ es, MapH W (w.heap.size + 1) es ∧ (∀ p ∈ es, H32 p.1 ∧ ∃ M, W8 M ∧ p.2 = strL M) ∧ ∀ j, j < k → lookH es (hsh (N.getD j [])) = some (strL (N.getD j []))
def CkX (w : World) (c : Code) (W : World) : Prop := c = .ret ∧ Row W w.heap.size #[.bool true] 4 ∧ Below w.heap.size w W
theorem PartsAt.kb {W W' : World} {v : Value} {L : List (List Nat)} {D : Nat} (h : PartsAt W v L) (hk : Kb D W W') : PartsAt W' v L := by
  obtain ⟨hm, p, c, rfl, hc⟩ := h
  have cell : ∀ (b o : Nat) (x : Value), W.cell? ⟨b, o, none⟩ = some x → W'.cell? ⟨b, o, none⟩ = some x := by
    intro b o x hx
    have hbD : b ≠ D := by
      rintro rfl
      cases ho : W.heap[b]? with
      | none => simp [World.cell?, ho] at hx
      | some ob =>
        cases ob with
        | cells cs t f => exact hk.nc _ _ _ ho
        | _ => simp [World.cell?, ho] at hx
    have hlt : b < W.heap.size := block_lt_of_cell hx
    rw [← hx]
    unfold World.cell?
    rw [hk.block b hlt hbD]
  refine ⟨hm, p, c, rfl, fun i hi => ?_⟩
  obtain ⟨b, off, u, e, hb, hcell, h8, hmm, pu, cu, rfl, hu⟩ := hc i hi
  refine ⟨b, off, _, e, Nat.lt_of_lt_of_le hb hk.size, cell _ _ _ hcell, h8, hmm, pu, cu, rfl, fun j hj => ?_⟩
  obtain ⟨b2, o2, e2, hb2, hc2⟩ := hu j hj
  exact ⟨b2, o2, e2, Nat.lt_of_lt_of_le hb2 hk.size, cell _ _ _ hc2⟩
theorem Row.kb {W W' : World} {g D : Nat} {cs : Array Value} {t : TypeId} (h : Row W g cs t) (hk : Kb D W W') : Row W' g cs t := by
  have hne : g ≠ D := by
    rintro rfl
    exact hk.nc _ _ _ h
  exact (hk.block g h.lt hne).trans h
theorem Tab.kb {W W' : World} {D : Nat} (h : Tab W) (hk : Kb D W W') (hD : D ≠ 0) : Tab W' := by
  intro i hi
  have hp := h.pos
  have e := hk.block 0 hp (Ne.symm hD)
  rw [← h i hi]
  unfold World.cell?
  rw [e]
theorem bel_kb {w W W' : World} {D : Nat} (h : Below w.heap.size w W) (hk : Kb D W W') (hD : w.heap.size ≤ D) : Below w.heap.size w W' :=
  ⟨hk.os.trans h.os, hk.tape.trans h.tape, hk.output.trans h.output, Nat.le_trans h.size hk.size, fun i hi => (hk.block i (Nat.lt_of_lt_of_le hi h.size) (by omega)).trans (h.block i hi)⟩
theorem CkI.kb {w W W' : World} {vN : Value} {N : List (List Nat)} {k D : Nat} (h : CkI w W vN N k) (hk : Kb D W W') (hD : w.heap.size + 2 < D) : CkI w W' vN N k :=
  ⟨h.res.kb hk, h.var.kb hk, h.parts.kb hk, h.tab.kb hk (by omega), bel_kb h.bel hk (by omega), by
    obtain ⟨es, hM, r⟩ := h.map
    exact ⟨es, (hk.block _ (Array.getElem?_eq_some_iff.1 hM).1 (by omega)).trans hM, r⟩⟩
theorem ck_next {w W W2 : World} {vN : Value} {N : List (List Nat)} {k : Nat} {o : Obj} {es es' : List (List Nat × ByteArray)} (hI : CkI w W vN N k) (hb : Below W.heap.size W W2) (hM : MapH W2 (w.heap.size + 1) es) (hM' : MapH (W2.putObj (w.heap.size + 1) o) (w.heap.size + 1) es')
    (h1 : ∀ p ∈ es', H32 p.1 ∧ ∃ M, W8 M ∧ p.2 = strL M) (h2 : ∀ j, j < k + 1 → lookH es' (hsh (N.getD j [])) = some (strL (N.getD j []))) : CkI w (W2.putObj (w.heap.size + 1) o) vN N (k + 1) := by
  have kb : Kb (w.heap.size + 1) W2 (W2.putObj (w.heap.size + 1) o) := Kb.put _ _ _ (fun cs t f e => by unfold MapH at hM; rw [hM] at e; cases e)
  exact ⟨(hI.res.later hb).kb kb, (hI.var.later hb).kb kb, (hI.parts.later hb).kb kb, (hI.tab.later hb).kb kb (by omega), bel_kb (hI.bel.trans (hb.mono hI.bel.size)) kb (by omega), es', hM', h1, h2⟩
theorem lookH_mem {es : List (List Nat × ByteArray)} {h : List Nat} {y : ByteArray} (e : lookH es h = some y) : (h, y) ∈ es := by
  unfold lookH at e
  cases hq : ixH h es.zipIdx 0 with
  | none => rw [hq] at e; cases e
  | some q =>
    obtain ⟨i, s⟩ := q
    rw [hq] at e
    cases e
    obtain ⟨j, n, _, e2⟩ := ixH_some h _ _ _ _ hq
    have hm := List.mem_of_getElem? e2
    have := List.mem_zipIdx' hm
    have e3 : (h, s) = es[n]'this.1 := this.2
    rw [e3]
    exact List.getElem_mem _
theorem put_at {W W2 : World} {D i : Nat} {o : Obj} (hb : Below W.heap.size W W2) (hi : i < W.heap.size) (hne : i ≠ D) : (W2.putObj D o).heap[i]? = W.heap[i]? := (World.putObj_heap_other hne).trans (hb.block i hi)
theorem set_at {W W2 : World} {i : Nat} {a : Addr} {v : Value} (hb : Below W.heap.size W W2) (hi : i < W.heap.size) (hne : i ≠ a.block) : (W2.setCell a v).heap[i]? = W.heap[i]? := (heap_setCell_other W2 a i v hne).trans (hb.block i hi)
theorem str_neq (s t : ByteArray) (h : ¬ s.toList = t.toList) (w : World) : (binOp .neq 9 (.string s) (.string t)).run Tryd.prog w = .ok (.bool true) w := by
  simp [go_sem, h]
def ClashQ (w : World) (N : List (List Nat)) (e : Ending) (w' : World) : Prop := ∃ b : Bool, e = .returned (.bool b) ∧ (ClN N → b = true) ∧ Below w.heap.size w w'

set_option maxHeartbeats 4000000 in
theorem clash_tp (base T : Nat) (N : List (List Nat)) (w : World) (htp : TpAt w base (.pointer (some ⟨T, 0, none⟩)) N) (ht : Tab w) (hn : N.length ≤ 1000) (hl : ∀ l ∈ N, l.length ≤ 1000) (h8 : ∀ l ∈ N, W8 l) :
    Calls Tryd.prog 21 #[.pointer (some ⟨T, 0, none⟩)] w (ClashQ w N) := by
  obtain ⟨vN, rT, hP⟩ := htp.rows hn hl
  refine (callsIn_wide (n := 3)).1 ?_
  refine callsIn_of_wp_marks Tryd.func21 rfl trivial ?_ rfl
  simp only [Tryd.ntmps21, List.size_toArray, List.length_cons, List.length_nil, Nat.reduceAdd, Nat.reduceSub, Array.replicate_succ, Array.replicate_zero, List.push_toArray, List.append_toArray, List.nil_append, List.cons_append]
  have hmm := @run_makeMap Tryd.prog
  gi_wp2
  have hB0 := below3 w (.cells #[.bool false] 4) (.map #[] 0) (.cells #[.map (some (w.heap.size + 1))] 59)
  have hI0 : CkI w (((w.alloc (.cells #[.bool false] 4)).alloc (.map #[] 0)).alloc (.cells #[.map (some (w.heap.size + 1))] 59)) vN N 0 :=
    ⟨((Row.new w _ _ rfl).alloc _).alloc _, Row.new _ _ _ (by simp), hP.later hB0, ht.later hB0, hB0, [], by
      unfold MapH
      have e := heap_alloc_old ((w.alloc (.cells #[.bool false] 4)).alloc (.map #[] 0)) (.cells #[.map (some (w.heap.size + 1))] 59) (show w.heap.size + 1 < _ by simp)
      rw [e]
      have := heap_alloc_new (w.alloc (.cells #[.bool false] 4)) (.map #[] 0)
      simpa [entH] using this, (fun p hp => by cases hp), fun j hj => absurd hj (Nat.not_lt_zero j)⟩
  have sz0 : (((w.alloc (.cells #[.bool false] 4)).alloc (.map #[] 0)).alloc (.cells #[.map (some (w.heap.size + 1))] 59)).heap.size = w.heap.size + 3 := by simp
  have cT0 := (rT.later hB0).cell 0
  generalize ((w.alloc (.cells #[.bool false] 4)).alloc (.map #[] 0)).alloc (.cells #[.map (some (w.heap.size + 1))] 59) = W0 at *
  have HS : Hid (W0.heap.size = w.heap.size + 3) := sz0
  have hTlt : T < W0.heap.size := by have := rT.lt; omega
  clear sz0
  refine' wpIn_range_all T vN N rfl rfl hTlt ?hT (fun k W => CkI w W vN N k) (CkX w) (fun k W h => h.parts) (fun k W W' h kb => h.kb kb (by have := HS.out; omega)) (fun c W W' h kb => ⟨h.1, h.2.1.kb kb, bel_kb h.2.2 kb (by have := HS.out; omega)⟩) (fun k hk => hl _ (by simp [List.getD, hk])) hI0 _ ?hassign ?hbody ?hdone ?hstop
  case hT => simpa using cT0
  case hassign =>
    intro u W K hK
    gi_wp2
    exact hK
  case hbody =>
    rintro k W u hk hI hu hsz
    obtain ⟨B, hB⟩ : ∃ B, B = N.getD k [] := ⟨_, rfl⟩
    rw [← hB] at hu
    have HB : Hid (B = N.getD k []) := hB
    have hB8 := hu.1
    have hBl : B.length ≤ 1000 := by rw [hB]; exact hl _ (by simp [List.getD, hk])
    have HK : Hid (k < N.length) := hk
    have HI : Hid (CkI w W vN N k) := hI
    have HZ : Hid (W0.heap.size + 2 ≤ W.heap.size) := hsz
    obtain ⟨_, _, pb, cb, rfl, _⟩ := id hu
    have HU : Hid (BytesAt W (.slice pb B.length cb) B) := hu
    have HBl : Hid (B.length ≤ 1000) := hBl
    have HB8 : Hid (W8 B) := hB8
    clear hB hk hI hsz hu hBl hB8
    gi_wp2_with (refine ⟨trivial, ?_⟩; gi_at_call 25; refine stop ?_)
    have h32 := hsh_32 B
    have hof := of_e _ [B] B _ (parts1 W 37 HU.out 1) (by simp) (by have := HBl.out; omega) (HI.out.tab.later (below1 _ _))
    generalize hH : hsh B = H at *
    have HH : Hid (hsh B = H) := hH
    clear hH
    refine CallsIn.mono (CallsIn.inRound _ (callsIn_wide.2 hof)) ?_
    rintro e W1 ⟨rfl, hb1⟩
    have iH := info_h32 h32
    have oH := bytesL_one H
    have zL := z32_size h32
    rw [← zeros32b] at zL
    gi_wp2_with (refine wpListIn_store_row rfl 28 _ _ rfl W1.heap.size (bytesL H) rfl rfl 28 _ (heap_alloc_new W1 _) iH zL oH ?_; refine stop ?_)
    unfold Stop
    rw [zeros32b]
    have r5 : Row ((W1.alloc (.cells (bytesL (List.replicate 32 0)) 28)).setRow W1.heap.size (bytesL H)) W1.heap.size (bytesL H) 28 := (Row.new W1 (bytesL (List.replicate 32 0)) 28 rfl).setRow (bytesL H)
    have hb2 := Below.row (below1 W1 (.cells (bytesL (List.replicate 32 0)) 28)) (bytesL H) (Nat.le_refl _)
    have hb3 := (below1 W (.cells #[.slice pb B.length cb] 37)).trans (((hb1.trans (hb2.mono hb1.size))).mono (by simp))
    clear hb1 hb2 zL oH
    generalize (W1.alloc (.cells (bytesL (List.replicate 32 0)) 28)).setRow W1.heap.size (bytesL H) = W2 at *
    have hI2 := HI.out
    have rv := hI2.var.later hb3
    have rr := hI2.res.later hb3
    have cv := rv.cell 0
    have cr := rr.cell 0
    have fr := rr.frozen 0
    simp only [List.getElem?_toArray, List.getElem?_cons_zero] at cv cr
    have hu2 := HU.out.later hb3
    have hcv := conv_str hu2
    obtain ⟨es, hM, hes, hlk⟩ := hI2.map
    have hM2 : MapH W2 (w.heap.size + 1) es := (hb3.block _ (Array.getElem?_eq_some_iff.1 hM).1).trans hM
    have hlook := run_lookH hM2 (fun p hp => (hes p hp).1) H h32
    have HB3 : Hid (Below W.heap.size W W2) := hb3
    have HM2 : Hid (MapH W2 (w.heap.size + 1) es) := hM2
    have HES : Hid (∀ p ∈ es, H32 p.1 ∧ ∃ M, W8 M ∧ p.2 = strL M) := hes
    have HLK : Hid (∀ j, j < k → lookH es (hsh (N.getD j [])) = some (strL (N.getD j []))) := hlk
    have HRV : Hid (Row W2 (w.heap.size + 1 + 1) #[.map (some (w.heap.size + 1))] 59) := rv
    have HRR : Hid (Row W2 w.heap.size #[.bool false] 4) := rr
    have HR5 : Hid (Row W2 W1.heap.size (bytesL H) 28) := r5
    clear hb3 hM hM2 hes hlk hI2 rv rr hu2
    have hLq : Hid (lookH es H = lookH es H) := rfl
    cases hq : lookH es H with
    | none =>
      have HQ : Hid (lookH es H = none) := hq
      rw [hq] at hlook
      simp only [Option.getD_none, Option.isSome_none] at hlook
      obtain ⟨o, hup, hMu⟩ := run_updH HM2.out (fun p hp => (HES.out p hp).1) H h32 (strL B) (fun y hy => by rw [HQ.out] at hy; cases hy)
      rw [if_pos HQ.out] at hMu
      clear hq
      have HMu : Hid (MapH (W2.putObj (w.heap.size + 1) o) (w.heap.size + 1) (es ++ [(H, strL B)])) := hMu
      clear hMu
      gi_wp2_with (first | (refine wpListIn_load_row rfl 28 _ rfl W1.heap.size rfl 28 (bytesL H) (0, 0) _ r5 Tryd.underlying28 rfl iH ?_) | (refine wpListIn_lookup_r rfl _ _ _ _ rfl _ _ _ rfl rfl hlook ?_) | (refine wpListIn_update_r rfl _ _ _ _ rfl _ _ _ _ rfl rfl rfl hup ?_))
      refine ⟨⟨put_at HB3.out (by have := HZ.out; omega) (by have := HS.out; omega), put_at HB3.out (by have := HZ.out; omega) (by have := HS.out; omega)⟩, ck_next HI.out HB3.out HM2.out HMu.out (fun p hp => ?_) (fun j hj => ?_)⟩
      · rcases List.mem_append.1 hp with hp | hp
        · exact HES.out p hp
        · obtain rfl := List.mem_singleton.1 hp
          exact ⟨h32, B, HB8.out, rfl⟩
      · rcases Nat.lt_or_ge j k with hj' | hj'
        · exact lookH_old _ (HLK.out j hj')
        · obtain rfl : j = k := by omega
          rw [← HB.out, HH.out]
          exact lookH_new HQ.out
    | some y =>
      have HQ : Hid (lookH es H = some y) := hq
      obtain ⟨_, M, hM8, hyM⟩ := HES.out _ (lookH_mem HQ.out)
      replace hyM : y = strL M := hyM
      rw [hq] at hlook
      simp only [Option.getD_some, Option.isSome_some] at hlook
      subst hyM
      clear hq
      by_cases hMB : M = B
      · subst hMB
        obtain ⟨o, hup, hMu⟩ := run_updH HM2.out (fun p hp => (HES.out p hp).1) H h32 (strL M) (fun y hy => by rw [HQ.out] at hy; cases hy; rfl)
        rw [if_neg (by rw [HQ.out]; simp)] at hMu
        have HMu : Hid (MapH (W2.putObj (w.heap.size + 1) o) (w.heap.size + 1) es) := hMu
        clear hMu
        gi_wp2_with (first | (refine wpListIn_load_row rfl 28 _ rfl W1.heap.size rfl 28 (bytesL H) (0, 0) _ r5 Tryd.underlying28 rfl iH ?_) | (refine wpListIn_lookup_r rfl _ _ _ _ rfl _ _ _ rfl rfl hlook ?_) | (refine wpListIn_update_r rfl _ _ _ _ rfl _ _ _ _ rfl rfl rfl hup ?_))
        refine ⟨⟨put_at HB3.out (by have := HZ.out; omega) (by have := HS.out; omega), put_at HB3.out (by have := HZ.out; omega) (by have := HS.out; omega)⟩, ck_next HI.out HB3.out HM2.out HMu.out HES.out (fun j hj => ?_)⟩
        rcases Nat.lt_or_ge j k with hj' | hj'
        · exact HLK.out j hj'
        · obtain rfl : j = k := by omega
          rw [← HB.out, HH.out]
          exact HQ.out
      · have hneq : (!(strL M).toList == (strL B).toList) = true := by
          have := strL_ne hM8 HB8.out hMB
          simpa using this
        clear hMB hM8
        gi_wp2_with (first | (refine wpListIn_load_row rfl 28 _ rfl W1.heap.size rfl 28 (bytesL H) (0, 0) _ r5 Tryd.underlying28 rfl iH ?_) | (refine wpListIn_lookup_r rfl _ _ _ _ rfl _ _ _ rfl rfl hlook ?_))
        refine ⟨⟨set_at HB3.out (by have := HZ.out; omega) (by have := HS.out; show _ ≠ w.heap.size; omega), set_at HB3.out (by have := HZ.out; omega) (by have := HS.out; show _ ≠ w.heap.size; omega)⟩, rfl, HRR.out.set 0 _, (HI.out.bel.trans (HB3.out.mono HI.out.bel.size)).setCell (p := ⟨w.heap.size, 0, none⟩) (Nat.le_refl _) _⟩
  case hdone =>
    rintro W hI hK
    obtain ⟨es, hMx, hes, hlk⟩ := hI.map
    have HN : Hid (¬ ClN N) := by
      rintro ⟨x, hx, y, hy, hxy, e⟩
      obtain ⟨i, hi, rfl⟩ := List.getElem_of_mem hx
      obtain ⟨j, hj, rfl⟩ := List.getElem_of_mem hy
      have e1 := hlk i hi
      have e2 := hlk j hj
      simp only [List.getD_eq_getElem?_getD, List.getElem?_eq_getElem hi, List.getElem?_eq_getElem hj, Option.getD_some] at e1 e2
      rw [e, e2] at e1
      exact hxy (strL_inj (h8 _ hx) (h8 _ hy) (Option.some.inj e1).symm)
    have hr := hI.res
    have hB := hI.bel
    have HD : Hid (w.heap.size + 3 ≤ W0.heap.size) := by have := HS.out; show _ ≤ _; omega
    clear hI hes hlk hMx es
    generalize W0.heap.size = D at *
    have hcr := hr.cell 0
    simp only [List.getElem?_toArray, List.getElem?_cons_zero] at hcr
    have hfr := hr.frozen 0
    gi_wp2
    have hK' := (KeepsOthers.setCell W ⟨w.heap.size, 0, none⟩ (.bool false)).same D _ hK rfl
    refine ⟨by simp, .inl ⟨_, _, rfl, run_takeDeferred hK', ?_⟩⟩
    have hc5 := cell_kept (World.cell?_setCell_same' W ⟨w.heap.size, 0, none⟩ (.bool false) (by rw [hcr]; rfl)) (grownBy_putObj' _ D (.deferred none)) (fun r e => by cases e; exact ⟨_, hK', rfl⟩)
    refine ⟨.bool false, ?_, false, rfl, fun h => absurd h HN.out, (hB.setCell (p := ⟨w.heap.size, 0, none⟩) (Nat.le_refl _) _).trans (belowK_b (w := w) (Nat.le_refl _) _ D _ _ (by have := HD.out; omega) hK' rfl rfl)⟩
    simp [results, Tryd.f21, go_sem, hc5]
  case hstop =>
    rintro c W ⟨rfl, hr, hB⟩ hK
    have HD : Hid (w.heap.size + 3 ≤ W0.heap.size) := by have := HS.out; show _ ≤ _; omega
    generalize W0.heap.size = D at *
    have hcr := hr.cell 0
    simp only [List.getElem?_toArray, List.getElem?_cons_zero] at hcr
    gi_wp2
    refine ⟨by simp, .inl ⟨_, _, rfl, run_takeDeferred hK, ?_⟩⟩
    have hc5 := cell_kept hcr (grownBy_putObj' _ D (.deferred none)) (fun r e => by cases e; exact ⟨_, hK, rfl⟩)
    refine ⟨.bool true, ?_, true, rfl, fun _ => rfl, hB.trans (belowK_b (w := w) (Nat.le_refl _) _ D _ _ (by have := HD.out; omega) hK rfl rfl)⟩
    simp [results, Tryd.f21, go_sem, hc5]
end Go.Proofs.YtepohpniflmblaaDoor
