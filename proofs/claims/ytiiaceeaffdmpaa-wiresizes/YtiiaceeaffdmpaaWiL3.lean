
/-
  The walk of WireRequests.
-/
import Derived.Test.YtiiaceeaffdmpaaWiSa
import Derived.Test.YtiiaceeaffdmpaaWiP
import Derived.Test.YtiiaceeaffdmpaaWiL1
namespace Go.Proofs.Ytiiaceeaffdmpaa
open Go.RowKit
set_option maxRecDepth 100000
set_option linter.unusedSimpArgs false

theorem RInAt.row {w : World} {v : Value} {q : RIn} (h : RInAt w v q) : ∃ cs : Array Value, v = .agg cs ∧ cs.size = 8 := by
  obtain ⟨⟨va, vt, e, _⟩, _⟩ := h
  exact ⟨_, e, rfl⟩
theorem info_rq' {cs : Array Value} (h : cs.size = 8) : (Try.prog.info? 28).map (·.size) = some cs.size := by rw [h]; exact info_rq
theorem light_len {q : RIn} (h : q.light = true) : q.acs.length ≤ 1000 ∧ q.trs.length ≤ 1000 := by
  unfold RIn.light at h
  simp at h
  omega
theorem Rq.good_len {q : Rq} (h : q.good) : q.acs.length ≤ 1000 ∧ q.trs.length ≤ 1000 := by
  rcases h with ⟨L, rfl, hL, _⟩ | ⟨L, rfl, hL, _⟩ | ⟨x, rfl, _⟩ | ⟨k, hi, lo, rfl, _⟩ | ⟨k, hi, lo, fr, to, lim, rfl, _⟩ | ⟨fr, to, rfl, _⟩ <;> simp <;> omega
theorem Rq.good_bytes {q : Rq} (h : q.good) : 1 ≤ q.bytes.length ∧ q.bytes.length ≤ 1000 := by
  have hl := Rq.good_len h
  rcases h with ⟨L, rfl, hL, _⟩ | ⟨L, rfl, hL, _⟩ | ⟨x, rfl, _⟩ | ⟨k, hi, lo, rfl, hk, _⟩ | ⟨k, hi, lo, fr, to, lim, rfl, hk, _⟩ | ⟨fr, to, rfl, _⟩
  · simp [Rq.bytes, Rq.body, intB_len, flat_len Ac.bytes 22 Ac.bytes_len]; omega
  · simp [Rq.bytes, Rq.body, intB_len, flat_len Tr.bytes 90 Tr.bytes_len]; omega
  · simp [Rq.bytes, Rq.body, intB_len]
  · rcases hk with rfl | rfl | rfl <;> simp [Rq.bytes, Rq.body, intB_len, numB_len]
  · rcases hk with rfl | rfl <;> simp [Rq.bytes, Rq.body, intB_len, numB_len]
  · simp [Rq.bytes, Rq.body, intB_len]
theorem Own.cap {w : World} {base : Nat} {p : Option Addr} {n c : Nat} {l : List Nat} (h : Own w base (.slice p n c) l) : n ≤ c := by
  obtain ⟨_, ⟨e, _⟩ | ⟨g, cap, cur, e, _, _, h1, _⟩⟩ := h
  · cases e; exact Nat.le_refl _
  · cases e; exact h1
theorem Own.later {w w' : World} {base : Nat} {v : Value} {l : List Nat} (h : Own w base v l) (hb : Below w.heap.size w w') : Own w' base v l := ownsRow_later h hb
/-- The first bytes of some. -/
theorem BytesAt.cut {w : World} {p : Option Addr} {n c c' : Nat} {l m : List Nat} (h : BytesAt w (.slice p n c) (l ++ m)) (k : Nat) (hk : k = l.length) : BytesAt w (.slice p k c') l := by
  subst hk
  obtain ⟨h1, h2, p', c'', e, hc⟩ := h
  cases e
  refine ⟨fun x hx => h1 x (by simp [hx]), by simp at h2; omega, p, c', rfl, fun i hi => ?_⟩
  obtain ⟨b, off, e, hb, hcell⟩ := hc i (by simp; omega)
  exact ⟨b, off, e, hb, by rw [hcell, getD_app_l _ _ _ hi]⟩

theorem wpList_load_w {ops : Array Oper} {rest : List Oper} {o : Oper} {a : Act} {w : World} {Q : Exit → Act → World → Prop} (hw : Region.wanted o (yielded ops a.tmps) = true) (ty : TypeId) (x : Operand) (ho : o.op = .load ty x)
    (g : Nat) (hx : a.eval x = .pointer (some ⟨g, 0, none⟩)) (t : TypeId) (cs : Array Value) (fr : Nat × Nat) (d : TypeDesc) (hg : w.heap[g]? = some (.cells cs t fr))
    (hu : Try.prog.underlying ty = some d) (hd : (match d with | .struct _ | .array _ _ => true | _ => false) = true) (hi : (Try.prog.info? ty).map (·.size) = some cs.size)
    (h : wpList Try.prog ops Q rest (a.put o.dst (.agg cs)) w) : wpList Try.prog ops Q (o :: rest) a w :=
  wpList_step fun _ hK => by rw [if_pos hw]; exact wp_load_row (P := Try.prog) ty x ho g hx t cs fr d hg hu (by cases d <;> simp_all) hi (hK _ _ h)
theorem split_last {l : List Nat} (h : 1 ≤ l.length) : ∃ m x, l = m ++ [x] := by
  have hne : l ≠ [] := fun e => by subst e; simp at h
  exact ⟨l.dropLast, l.getLast hne, (List.dropLast_concat_getLast hne).symm⟩

set_option maxHeartbeats 8000000 in
theorem requests_walk (v : Value) (q : RIn) (w : World) (h : RInAt w v q ∧ (q.acs.length ≤ 1000000000000000 ∧ q.trs.length ≤ 1000000000000000)) :
    Calls Try.prog 3 #[v] w fun e w' => e = .returned (.bool true) ∧ Below w.heap.size w w' := by
  obtain ⟨h, hl1, hl2⟩ := h
  obtain ⟨cs, rfl, hcs⟩ := h.row
  have hinf := info_rq' hcs
  have r0 := Row.new w cs 28 rfl
  clear hcs
  go_enter Try.func3, Try.ntmps3
  go_wp2_with (go_at_call 11; refine stop ?_)
  refine (fit_any _).mono ?_
  rintro e w1 ⟨rfl, hb1⟩
  have r1 := r0.later hb1
  have B1 := chain (below1 w _) hb1
  clear r0 hb1
  go_wp2_with (first | refine wpList_load_row rfl 28 _ rfl w.heap.size rfl 28 cs (0, 0) _ r1 Try.underlying28 rfl hinf ?_ | (go_at_call 12; refine stop ?_))
  refine (light_any (.agg cs) q w1 (h.later B1) hl1 hl2).mono ?_
  rintro e w2 ⟨rfl, hb2⟩
  have r2 := r1.later hb2
  have B2 := chain B1 hb2
  clear r1 hb2
  cases hl : q.light with
  | false =>
    go_wp2
    go_ret
    exact ⟨rfl, B2⟩
  | true =>
    obtain ⟨n1, n2⟩ := light_len hl
    have hgood := tame_good q h.aok h.tok h.w
    go_wp2_with (first | refine wpList_load_row rfl 28 _ rfl w.heap.size rfl 28 cs (0, 0) _ r2 Try.underlying28 rfl hinf ?_ | (go_at_call 13; refine stop ?_))
    refine (tame_any (.agg cs) q w2 (h.later B2) n1 n2).mono ?_
    have hpar := parse_bytes q.tame hgood
    obtain ⟨t1, t2⟩ := Rq.good_len hgood
    obtain ⟨by1, by2⟩ := Rq.good_bytes hgood
    have hmore := parse_more q.tame hgood 0 []
    have hless := parse_less q.tame hgood
    have hw8 := good_w8 q.tame
    generalize q.tame = Q at *
    rintro e w3 ⟨u3, rfl, hq3, hb3⟩
    obtain ⟨c3, rfl, hs3, ho3⟩ := hq3.row
    have r3 := r2.later hb3
    have B3 := chain B2 hb3
    have zA : w.heap.size < w2.heap.size := r2.lt
    have r4 := r3.setRow c3
    have B4 : Below w.heap.size w (w3.setRow w.heap.size c3) := Below.row B3 _ (Nat.le_refl _)
    have hq4 : RqAt (w3.setRow w.heap.size c3) w2.heap.size (.agg c3) Q := hq3.keep (Nat.le_refl _) (fun k hk _ => setRow_other _ _ _ _ (by omega))
    go_wp2_with (refine wpList_store_row rfl 28 _ _ rfl w.heap.size c3 rfl rfl 28 _ r3 (info_rq' hs3) (by rw [hs3]; simpa using (Option.some.inj (hinf.symm.trans info_rq))) ho3 ?_; refine stop ?_)
    unfold Stop
    have hinf3 := info_rq' hs3
    clear r2 r3 B3 hb3 hq3 hinf h
    generalize w3.setRow w.heap.size c3 = w4 at *
    go_wp2_with (first | refine wpList_load_row rfl 28 _ rfl w.heap.size rfl 28 c3 (0, 0) _ r4 Try.underlying28 rfl hinf3 ?_ | (go_at_call 14; refine stop ?_))
    refine (request_any (.agg c3) Q w2.heap.size w4 hq4 hgood).mono ?_
    rintro e w5 ⟨vb, rfl, ob, hb5⟩
    have r5 := r4.later hb5
    have B5 := chain B4 hb5
    have hq5 : RqAt w5 w2.heap.size (.agg c3) Q := hq4.keep (Nat.le_refl _) (fun k _ hk => hb5.block k hk)
    have hby := ob.bytes hw8 (by unfold maxLen; omega)
    clear r4 B4 hq4 hb5
    obtain ⟨pb, nb, cb, rfl, hnb⟩ := ob.form
    have hcap := ob.cap
    have HN : Hid (nb = Q.bytes.length) := hnb
    have nb0 : (1 : Int) ≤ (nb : Int) := by omega
    have nb1 : (nb : Int) ≤ 1000 := by omega
    have nbc : (nb : Int) ≤ (cb : Int) := by omega
    clear hnb
    go_wp2_with (go_at_call 15; refine stop ?_)
    refine (readReq_any _ _ w5 hby (by omega)).mono ?_
    rw [hpar]
    dsimp only
    rintro e w6 ⟨uw6, rfl, hqw6, hbw6⟩
    obtain ⟨cw6, rfl, hsw6, how6⟩ := hqw6.row
    have B6 := chain B5 hbw6
    have z6 : w.heap.size < w6.heap.size := Nat.lt_of_lt_of_le r5.lt hbw6.size
    have rw6 := (Row.new w6 (rqC 0 (.slice none 0 0) (.slice none 0 0) 0 0 0 0 0) 28 rfl).setRow cw6
    have bw6 : Below w6.heap.size w6 ((w6.alloc (.cells (rqC 0 (.slice none 0 0) (.slice none 0 0) 0 0 0 0 0) 28)).setRow w6.heap.size cw6) := Below.row (below1 w6 _) _ (Nat.le_refl _)
    go_wp2_with (refine wpList_store_row rfl 28 _ _ rfl w6.heap.size cw6 rfl rfl 28 _ (heap_alloc_new w6 _) (info_rq' hsw6) (by rw [hsw6]; rfl) how6 ?_; refine stop ?_)
    rw [rq_lit]
    unfold Stop
    generalize (w6.alloc (.cells (rqC 0 (.slice none 0 0) (.slice none 0 0) 0 0 0 0 0) 28)).setRow w6.heap.size cw6 = w7 at *
    have hq7 : RqAt w7 w5.heap.size (.agg cw6) Q := hqw6.keep (Nat.le_refl _) (fun k _ hk => bw6.block k hk)
    have hA7 : RqAt w7 w2.heap.size (.agg c3) Q := hq5.keep (Nat.le_refl _) (fun k _ hk => (chain hbw6 bw6).block k hk)
    have r7 := (r5.later hbw6).later bw6
    have hby7 := (hby.later hbw6).later bw6
    have B7 := chain B6 bw6
    clear hqw6 hq5 r5 hby B6 hbw6 bw6
    obtain ⟨va, wa, runa, owna, gra, _, _⟩ := append_bytes w7 w7.heap.size 32 (.slice none 0 0) [] (World.ownsRow_nil _ _ _ _) _ Q.bytes hby7 (by simp; omega) (Nat.le_refl _)
    have ba : Below w7.heap.size w7 wa := below_grown (Below.refl _ _) (Nat.le_refl _) gra (fun k h => by cases h)
    rw [List.nil_append] at owna
    have hz : BytesAt (wa.alloc (.cells (bytesL [0]) 5)) (.slice (some ⟨wa.heap.size, 0, none⟩) 1 1) [0] := lit_bytes wa [0] (W8.of (by decide)) (by decide) 1 1 _ rfl rfl
    obtain ⟨vc, wc, runc, ownc, grc, _, _⟩ := append_bytes (wa.alloc (.cells (bytesL [0]) 5)) w7.heap.size 32 va Q.bytes (owna.later (below1 _ _)) _ [0] hz (by simp; omega) (by have := ba.size; simp; omega)
    have bc : Below w7.heap.size w7 wc := below_grown (chainA ba _) (by have := ba.size; simp; omega) grc (fun k h => (owna.lt k h).1)
    have hvc := ownc.bytes (hw8.append (W8.of (by decide))) (by simp [maxLen]; omega)
    obtain ⟨pa, na, ca, rfl, hna⟩ := owna.form
    obtain ⟨pc, nc, cc, rfl, hnc⟩ := ownc.form
    clear hna hnc gra grc hz owna ownc
    go_wp2_with (at_builtin; refine Lib.wpList_append_run _ rfl _ _ _ _ rfl _ _ rfl rfl _ _ runa ?_; refine stop ?_)
    unfold Stop
    go_wp2_with (at_builtin; refine stop ?_)
    rw [show (#[.int .u8 0] : Array Value) = bytesL [0] from rfl]
    unfold Stop
    go_wp2_with (first | (at_builtin; refine Lib.wpList_append_run _ rfl _ _ _ _ rfl _ _ rfl rfl _ _ runc ?_) | (go_at_call 15; refine stop ?_))
    refine (readReq_any _ _ wc hvc (by simp; omega)).mono ?_
    rw [hmore]
    rintro e w8 ⟨uw8, rfl, hqw8, hbw8⟩
    obtain ⟨cw8, rfl, hsw8, how8⟩ := hqw8.row
    clear hqw8 runa runc hvc
    have rw8 := (Row.new w8 (rqC 0 (.slice none 0 0) (.slice none 0 0) 0 0 0 0 0) 28 rfl).setRow cw8
    have bw8 : Below w8.heap.size w8 ((w8.alloc (.cells (rqC 0 (.slice none 0 0) (.slice none 0 0) 0 0 0 0 0) 28)).setRow w8.heap.size cw8) := Below.row (below1 w8 _) _ (Nat.le_refl _)
    go_wp2_with (refine wpList_store_row rfl 28 _ _ rfl w8.heap.size cw8 rfl rfl 28 _ (heap_alloc_new w8 _) (info_rq' hsw8) (by rw [hsw8]; rfl) how8 ?_; refine stop ?_)
    rw [rq_lit]
    unfold Stop
    generalize (w8.alloc (.cells (rqC 0 (.slice none 0 0) (.slice none 0 0) 0 0 0 0 0) 28)).setRow w8.heap.size cw8 = w9 at *
    have b79 : Below w7.heap.size w7 w9 := chain (chain bc hbw8) bw8
    have hq9 : RqAt w9 w5.heap.size (.agg cw6) Q := hq7.keep (Nat.le_refl _) (fun k _ hk => b79.block k hk)
    have hA9 : RqAt w9 w2.heap.size (.agg c3) Q := hA7.keep (Nat.le_refl _) (fun k _ hk => b79.block k hk)
    have r9 := r7.later b79
    have rX9 := rw6.later b79
    have hby9 := hby7.later b79
    have B9 := chain B7 b79
    clear hq7 hA7 r7 rw6 hby7 B7 b79 bc hbw8 bw8 rw8 ba
    obtain ⟨m, x, hmx⟩ := split_last by1
    have hm0 := hless m x hmx
    rw [hmx] at hby9
    have hbm := hby9.cut (c' := cb) m.length rfl
    have hnm : Hid (nb = m.length + 1) := by show _ = _; rw [HN.out, hmx]; simp
    obtain ⟨qm, Em, hpm⟩ : ∃ q E, parse m = (q, E) := ⟨_, _, rfl⟩
    rw [hpm] at hm0
    have hE : ((Em : Int) != 0) = true := by simp; exact hm0
    have hlm : m.length ≤ 1000 := by have := hnm.out; omega
    clear hless hmore hm0 hby9 hmx
    go_wp2_with (go_at_call 15; refine stop ?_)
    rw [show nb - 1 = m.length from by have := hnm.out; omega]
    refine (readReq_any _ m w9 hbm (by omega)).mono ?_
    rw [hpm]
    dsimp only
    rintro e w10 ⟨uw10, rfl, hqw10, hbw10⟩
    obtain ⟨cw10, rfl, hsw10, how10⟩ := hqw10.row
    clear hqw10 hbm hnm hpm HN
    have rw10 := (Row.new w10 (rqC 0 (.slice none 0 0) (.slice none 0 0) 0 0 0 0 0) 28 rfl).setRow cw10
    have bw10 : Below w10.heap.size w10 ((w10.alloc (.cells (rqC 0 (.slice none 0 0) (.slice none 0 0) 0 0 0 0 0) 28)).setRow w10.heap.size cw10) := Below.row (below1 w10 _) _ (Nat.le_refl _)
    go_wp2_with (refine wpList_store_row rfl 28 _ _ rfl w10.heap.size cw10 rfl rfl 28 _ (heap_alloc_new w10 _) (info_rq' hsw10) (by rw [hsw10]; rfl) how10 ?_; refine stop ?_)
    rw [rq_lit]
    unfold Stop
    generalize (w10.alloc (.cells (rqC 0 (.slice none 0 0) (.slice none 0 0) 0 0 0 0 0) 28)).setRow w10.heap.size cw10 = w11 at *
    have b11 : Below w9.heap.size w9 w11 := chain hbw10 bw10
    have hq11 : RqAt w11 w5.heap.size (.agg cw6) Q := hq9.keep (Nat.le_refl _) (fun k _ hk => b11.block k hk)
    have hA11 : RqAt w11 w2.heap.size (.agg c3) Q := hA9.keep (Nat.le_refl _) (fun k _ hk => b11.block k hk)
    have r11 := r9.later b11
    have rX11 := rX9.later b11
    have B11 := chain B9 b11
    have hinf6 := info_rq' hsw6
    clear hq9 hA9 r9 rX9 B9 b11 hbw10 bw10 rw10
    have hsame := same_any Q Q (.agg cw6) (.agg c3) w5.heap.size w2.heap.size w11 hq11 hA11 t1 t2 t1 t2
    go_wp2_with (first | refine wpList_load_w (by rfl) 28 _ rfl w6.heap.size rfl 28 cw6 (0, 0) _ rX11 Try.underlying28 rfl hinf6 ?_ | refine wpList_load_w (by rfl) 28 _ rfl w.heap.size rfl 28 c3 (0, 0) _ r11 Try.underlying28 rfl hinf3 ?_ | (go_at_call 16; refine stop ?_))
    refine hsame.mono ?_
    rintro e w12 ⟨r, rfl, hr, hb12⟩
    obtain rfl : r = true := by simpa using hr
    clear hr hsame
    go_wp2
    go_ret
    exact ⟨rfl, chain B11 hb12⟩
end Go.Proofs.Ytiiaceeaffdmpaa
