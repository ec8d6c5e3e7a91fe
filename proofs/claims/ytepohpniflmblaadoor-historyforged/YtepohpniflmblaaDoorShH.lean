
/-
  sha.hash: for every message of at most a million bytes it is the hash of the plain reckoning.
-/
import Derived.Test.YtepohpniflmblaaDoorShC
import Derived.Test.YtepohpniflmblaaDoorHeld
import Derived.Laws.CopyOwn
namespace Go.Proofs.YtepohpniflmblaaDoor
open Go.RowKit

theorem zeros64b : (#[.int .u8 0, .int .u8 0, .int .u8 0, .int .u8 0, .int .u8 0, .int .u8 0, .int .u8 0, .int .u8 0, .int .u8 0, .int .u8 0, .int .u8 0, .int .u8 0, .int .u8 0, .int .u8 0, .int .u8 0, .int .u8 0, .int .u8 0, .int .u8 0, .int .u8 0, .int .u8 0, .int .u8 0, .int .u8 0, .int .u8 0, .int .u8 0, .int .u8 0, .int .u8 0, .int .u8 0, .int .u8 0, .int .u8 0, .int .u8 0, .int .u8 0, .int .u8 0, .int .u8 0, .int .u8 0, .int .u8 0, .int .u8 0, .int .u8 0, .int .u8 0, .int .u8 0, .int .u8 0, .int .u8 0, .int .u8 0, .int .u8 0, .int .u8 0, .int .u8 0, .int .u8 0, .int .u8 0, .int .u8 0, .int .u8 0, .int .u8 0, .int .u8 0, .int .u8 0, .int .u8 0, .int .u8 0, .int .u8 0, .int .u8 0, .int .u8 0, .int .u8 0, .int .u8 0, .int .u8 0, .int .u8 0, .int .u8 0, .int .u8 0, .int .u8 0] : Array Value) = bytesL (List.replicate 64 0) := by kernel_rfl
theorem zeros32b : (#[.int .u8 0, .int .u8 0, .int .u8 0, .int .u8 0, .int .u8 0, .int .u8 0, .int .u8 0, .int .u8 0, .int .u8 0, .int .u8 0, .int .u8 0, .int .u8 0, .int .u8 0, .int .u8 0, .int .u8 0, .int .u8 0, .int .u8 0, .int .u8 0, .int .u8 0, .int .u8 0, .int .u8 0, .int .u8 0, .int .u8 0, .int .u8 0, .int .u8 0, .int .u8 0, .int .u8 0, .int .u8 0, .int .u8 0, .int .u8 0, .int .u8 0, .int .u8 0] : Array Value) = bytesL (List.replicate 32 0) := by kernel_rfl
theorem info_block : (Tryd.prog.info? 74).map (·.size) = some 64 := by kernel_rfl
theorem info_byte : (Tryd.prog.info? 5).map (·.size) = some 1 := by kernel_rfl

theorem padded_ok {m : List Nat} (h : W8 m) : W8 (padded m) := by
  intro x hx
  rcases List.mem_append.1 hx with hx | hx
  · exact h x hx
  · exact padL_ok _ _ x hx
theorem padded_len (m : List Nat) : (padded m).length = m.length + padFree m.length := by simp [padded, padL_len]
theorem padded_mod (m : List Nat) : (padded m).length % 64 = 0 ∧ 64 ≤ (padded m).length := by
  rw [padded_len]
  unfold padFree
  split <;> omega
theorem blocks_ok (p : List Nat) : ∀ k, (blocks KW p start8 k).ok
  | 0 => show start8.ok by unfold S8.ok; decide
  | _ + 1 => mixF_ok _ _ _

theorem exec_load_row {P : Program} {ev : Operand → Value} {o : Oper} {ty : TypeId} {x : Operand} (ho : o.op = .load ty x) (g : Nat) (hx : ev x = .pointer (some ⟨g, 0, none⟩)) {w : World} (t : TypeId) (cs : Array Value) (d : TypeDesc) (hg : Row w g cs t)
    (hu : P.underlying ty = some d) (hd : (match d with | .struct _ | .array _ _ => true | _ => false) = true) (hi : (P.info? ty).map (·.size) = some cs.size) :
    (execOp ev o).run P w = .ok (.value (.agg cs)) w := by
  unfold execOp
  simp only [ho, hx, Instr.loadAt, Instr.sureAddr, Sem.run_bind, Sem.run_pure, Result.andThen_ok, run_loadVar_row w g t ty cs (0, 0) d hg hu hd hi]

theorem wp_copy_row {P : Program} {o : Oper} {a : Act} {w : World} {K : Act → World → Prop} {Q : Exit → Act → World → Prop} (d s : Operand) (dT sT : TypeId)
    (ho : o.op = .call { callee := .builtin .copy, args := #[d, s], argTypes := #[dT, sT] }) (elem : TypeId) (hu : P.underlying dT = some (.slice elem)) (hsz : (P.info? elem).map (·.size) = some 1)
    (g off dLen dCap : Nat) (ad : Addr) (sLen sCap : Nat) (hd : a.eval d = .slice (some ⟨g, off, none⟩) dLen dCap) (hs : a.eval s = .slice (some ad) sLen sCap)
    (cur : Array Value) (t : TypeId) (hg : Row w g cur t) (cs : List Value) (hn : cs.length = Nat.min sLen dLen)
    (hsrc : ∀ j v, cs[j]? = some v → w.cell? (ad.add j) = some v) (hfit : off + cs.length ≤ cur.size) (h1 : ∀ v ∈ cs, v.oneCell' = true)
    (h : K (a.put o.dst (goInt cs.length)) (w.setRow g (cur.toList.take off ++ cs ++ cur.toList.drop (off + cs.length)).toArray)) : o.wp P a w K Q := by
  have hrun := run_copy_row (P := P) w dT sT o.type elem g off dLen dCap ad sLen sCap cur t cs hu hsz hg hn hsrc hfit h1
  unfold Oper.wp execOp
  simp only [ho, resolve, invoke, builtin, Sem.run_bind, Sem.run_pure, Result.andThen_ok, List.map_toArray, List.map_cons, List.map_nil, hd, hs, hrun]
  exact h

/-- The bytes of block k. -/
def blk (P : List Nat) (k : Nat) : List Nat := (P.drop (k * 64)).take 64
theorem blk_len {P : List Nat} {k nb : Nat} (h : P.length = 64 * nb) (hk : k < nb) : (blk P k).length = 64 := by
  unfold blk
  rw [List.length_take, List.length_drop, h]
  omega
theorem blk_ok {P : List Nat} (h : W8 P) (k : Nat) : W8 (blk P k) := fun x hx => h x (List.drop_subset _ _ (List.take_subset _ _ hx))
theorem blk_at (P : List Nat) (k j : Nat) (h : j < 64) : (blk P k)[j]? = P[k * 64 + j]? := by
  unfold blk
  rw [List.getElem?_take, if_pos h, List.getElem?_drop]

theorem s8V_size (s : S8) : (s8V s).size = 8 := rfl
theorem s8V_one (s : S8) : (s8V s).all (·.oneCell') = true := by simp [s8V, Value.oneCell']
theorem spread_len (z : List Nat) : (spreadF z).length = 64 := exL_len _ (pwL_len z 64) 48
theorem spread_ok (z : List Nat) (h : W8 z) : W32 (spreadF z) := exL_ok _ (pwL_ok z h 64) 48
/-- What holds ahead of each round. -/
structure HsR (w wr : World) (g : Nat) (cur : Array Value) (s : S8) : Prop where
  rr : Row wr w.heap.size (bytesL (List.replicate 32 0)) 28
  sr : Row wr (w.heap.size + 1) (s8V s) 72
  pr : Row wr g cur 5
  bel : Below w.heap.size w wr
theorem HsR.later {w wr w1 : World} {g : Nat} {cur : Array Value} {s : S8} (h : HsR w wr g cur s) (hb : Below wr.heap.size wr w1) : HsR w w1 g cur s :=
  ⟨h.rr.later hb, h.sr.later hb, h.pr.later hb, chain h.bel hb⟩

set_option maxHeartbeats 1000000 in
set_option maxRecDepth 100000 in
theorem hash_any (mv : Value) (m : List Nat) (w : World) (hm : BytesAt w mv m) (hl : m.length ≤ 1000000) (ht : Tab w) :
    Calls Tryd.prog 33 #[mv] w fun e w' => e = .returned (.agg (bytesL (hashF KW m))) ∧ Below w.heap.size w w' := by
  obtain ⟨hw8, hmx, p, c, rfl, hc⟩ := id hm
  have hl0 : (0 : Int) ≤ (m.length : Int) := by omega
  have hl1 : (m.length : Int) ≤ 1000000 := by omega
  generalize hn : m.length = n at *
  have HN : Hid (m.length = n) := hn
  clear hn
  go_enter Tryd.func33, Tryd.ntmps33
  go_wp2_with (go_at_call 38; refine (padding_any _ _ (by omega)).mono ?_; rintro e w1 ⟨B, hB, rfl, hrow, hb1⟩)
  have hN : w.heap.size + 2 ≤ B := by simpa using hB
  rw [zeros32b] at hb1
  have r0 : Row w1 w.heap.size (bytesL (List.replicate 32 0)) 28 := ((Row.new _ _ _ rfl).alloc _).later hb1
  have s0 : Row w1 (w.heap.size + 1) (s8V start8) 72 := Row.later (Row.new _ _ _ (by simp)) hb1
  have b0 : Below w.heap.size w w1 := chain (below2 _ _ _) hb1
  clear hb1 hB
  have hpad : BytesAt w1 (.slice (some ⟨B, 0, none⟩) (padFree n) (padFree n)) (padL n 8) := hrow.bytes (padL_ok _ _) (by rw [padL_len]; have := padFree_le n; unfold maxLen; omega) _ _ (by rw [padL_len])
  have hparts := parts2 w1 37 (hm.later b0) hpad 2
  have hfl : [m, padL n 8].flatten = padded m := by simp [padded, HN.out]
  have hpl := padded_len m
  rw [HN.out] at hpl
  have hpf := padFree_le n
  have HF : Hid (hashF KW m = tellF (blocks KW (padded m) start8 ((padded m).length / 64))) := show _ = _ from rfl
  have hpm := padded_mod m
  have hp8 := padded_ok hw8
  refine (concat_any _ [m, padL n 8] _ hparts (by rw [hfl]; omega)).mono ?_
  rintro e w2 ⟨v, rfl, hown, hb2⟩
  rw [hfl] at hown
  generalize padded m = P at *
  obtain ⟨_, ⟨rfl, h0⟩ | ⟨g, cap, cur, rfl, hbg, hg, hcap1, hcap2, hcur1, hcur2⟩⟩ := hown
  · omega
  have hg2 : w.heap.size + 2 ≤ g := by have := r0.lt; have := s0.lt; simp at hbg; omega
  have hr2 : HsR w w2 g cur start8 := ⟨(r0.alloc _).later hb2, (s0.alloc _).later hb2, hg, chain b0 (chain (below1 _ _) hb2)⟩
  have hPl : (P.length : Int) ≤ 1000072 := by omega
  have hPl0 : (0 : Int) ≤ (P.length : Int) := by omega
  have hPl2 : (P.length : Int) % 64 = 0 := by omega
  have hcell : ∀ j, j < P.length → cur[j]? = some (.int .u8 (P.getD j 0 : Nat)) := fun j hj => by
    have e := congrArg (fun x : List Value => x[j]?) hcur2
    simp only [Nat.mul_one, List.getElem?_take, hj, if_true] at e
    rw [← Array.getElem?_toList, e]
    simp [hj]
  clear hb2 hg hbg hparts hpad hrow r0 s0 b0 hfl hc hm hpf hpl hcur2
  generalize hPn : P.length = pn at *
  rename_i hpx
  clear hpx
  obtain ⟨nb, hnb⟩ : ∃ nb : Nat, pn = 64 * nb := ⟨pn / 64, by omega⟩
  have hq : (pn : Int) / 64 = (nb : Nat) := by omega
  have hq' : pn / 64 = nb := by omega
  rw [hq'] at HF
  have HP : Hid (P.length = pn) := hPn
  have HB : Hid (pn = 64 * nb) := hnb
  have hc0 : (pn : Int) ≤ (cap : Int) := by omega
  clear hPn hnb hq' hPl2 hpm
  go_wp2
  go_loopw [17] (fun i wr => ∃ k : Nat, k ≤ nb ∧ i = .int .i64 k ∧ HsR w wr g cur (blocks KW P start8 k)) (fun i _ => nb - (intOf i).toNat)
  case atStart => exact ⟨0, Nat.zero_le _, rfl, hr2⟩
  case round =>
    clear hr2
    obtain ⟨k, hk, rfl, hr⟩ := hrel
    by_cases hlt : k < nb
    · have g0 : (0 : Int) ≤ (k : Int) := by omega
      have g1 : (k : Int) * 64 + 64 ≤ (pn : Int) := by have := HB.out; omega
      have hbl := blk_len (by rw [HP.out, HB.out]) hlt
      have HR : Hid (HsR w wr g cur (blocks KW P start8 k)) := hr
      clear hr
      obtain ⟨o, ho⟩ : ∃ o : Nat, o = k * 64 := ⟨_, rfl⟩
      have e1 : IntKind.i64.wrap ((k : Int) * 64) = (o : Int) := by rw [IntKind.wrap_i64]; omega
      have o0 : (o : Int) ≤ (pn : Int) := by omega
      have o1 : ¬ cap = o := by omega
      have o2 : o + 64 ≤ pn := by omega
      have HO : Hid (o = k * 64) := ho
      clear ho
      go_wp2_with fail
      rw [zeros64b]
      refine wp_region_D (fun _ => true) (fun _ => True) (by kernel_rfl) ?_
      have hS : True := trivial
      refine' wpAnyD_take (i := 0) (v := _) rfl (by kernel_rfl) (by kernel_rfl) (by kernel_rfl) (by kernel_rfl) (fun _ _ _ h => h) (Or.inl ⟨by rfl, ?hy1⟩) hS ?re1
      case hy1 => (intro w hSw; (try dsimp only at hSw); go_simp; (try with_reducible rfl))
      simp only [Act.put, List.setIfInBounds_toArray, List.set_cons_zero, List.set_cons_succ]
      refine' wpAnyD_take (i := 1) (v := _) rfl (by kernel_rfl) (by kernel_rfl) (by kernel_rfl) (by kernel_rfl) (fun _ _ _ h => h) (Or.inl ⟨by rfl, ?hy2⟩) hS ?re2
      case hy2 => (intro w hSw; (try dsimp only at hSw); go_simp; (try with_reducible rfl))
      simp only [Act.put, List.setIfInBounds_toArray, List.set_cons_zero, List.set_cons_succ]
      refine' wpAnyD_take (i := 2) (v := _) rfl (by kernel_rfl) (by kernel_rfl) (by kernel_rfl) (by kernel_rfl) (fun _ _ _ h => h) (Or.inl ⟨by rfl, ?hy3⟩) hS ?re3
      case hy3 => (intro w hSw; (try dsimp only at hSw); go_simp; (try with_reducible rfl))
      simp only [Act.put, List.setIfInBounds_toArray, List.set_cons_zero, List.set_cons_succ]
      refine' wpAnyD_take (i := 3) (v := _) rfl (by kernel_rfl) (by kernel_rfl) (by kernel_rfl) (by kernel_rfl) (fun _ _ _ h => h) (Or.inl ⟨by rfl, ?hy4⟩) hS ?re4
      case hy4 => (intro w hSw; (try dsimp only at hSw); go_simp; (try with_reducible rfl))
      simp only [Act.put, List.setIfInBounds_toArray, List.set_cons_zero, List.set_cons_succ]
      refine' wpAnyD_take (i := 4) (v := _) rfl (by kernel_rfl) (by kernel_rfl) (by kernel_rfl) (by kernel_rfl) (fun _ _ _ h => h) (Or.inl ⟨by rfl, ?hy5⟩) hS ?re5
      case hy5 => (intro w hSw; (try dsimp only at hSw); go_simp; (try with_reducible rfl))
      simp only [Act.put, List.setIfInBounds_toArray, List.set_cons_zero, List.set_cons_succ]
      have hr := HR.out
      have hrow : Row (wr.alloc (.cells (bytesL (List.replicate 64 0)) 74)).drew wr.heap.size (bytesL (List.replicate 64 0)) 74 := Row.new _ _ _ rfl
      have hsrc : ∀ j v, ((blk P k).map fun x : Nat => Value.int .u8 (x : Int))[j]? = some v → (wr.alloc (.cells (bytesL (List.replicate 64 0)) 74)).drew.cell? ((⟨g, o, none⟩ : Addr).add j) = some v := by
        intro j v hv
        have hj : j < 64 := by have := (List.getElem?_eq_some_iff.1 hv).1; simpa [hbl] using this
        rw [show (⟨g, o, none⟩ : Addr).add j = ⟨g, o + j, none⟩ from Addr.add_lit .., show (wr.alloc (.cells (bytesL (List.replicate 64 0)) 74)).drew.cell? ⟨g, o + j, none⟩ = cur[o + j]? from Row.cell (hr.pr.alloc _) (o + j), hcell (o + j) (by omega), ← hv, List.getElem?_map, blk_at P k j hj, ← HO.out]
        simp [List.getD, List.getElem?_eq_getElem (show o + j < P.length by rw [HP.out]; omega)]
      refine wpAnyD_only (i := 5) rfl (by kernel_rfl) (by rfl) (fun K hK => ?_)
      refine wp_copy_row _ _ _ _ rfl 5 under_bytes info_byte wr.heap.size 0 64 64 ⟨g, o, none⟩ (pn - o) (cap - o) rfl rfl _ _ hrow _ (by rw [List.length_map, hbl]; exact (Nat.min_eq_right (by omega)).symm) hsrc (by simp [hbl, bytesL_size]) (fun v hv => by obtain ⟨y, _, rfl⟩ := List.mem_map.1 hv; rfl) ?_
      refine hK.out _ _ (fun _ => trivial) ?_
      clear hK K hS
      refine wpAnyD_done (by kernel_rfl) ?_ _
      have ecells : ((bytesL (List.replicate 64 0)).toList.take 0 ++ ((blk P k).map fun x : Nat => Value.int .u8 (x : Int)) ++ (bytesL (List.replicate 64 0)).toList.drop (0 + ((blk P k).map fun x : Nat => Value.int .u8 (x : Int)).length)).toArray = bytesL (blk P k) := by
        rw [List.take_zero, List.nil_append, List.drop_of_length_le (by simp [hbl, bytesL_size]), List.append_nil]
        rfl
      rw [ecells]
      have hr2 : HsR w ((wr.alloc (.cells (bytesL (List.replicate 64 0)) 74)).drew.setRow wr.heap.size (bytesL (blk P k))) g cur (blocks KW P start8 k) := by
        have h2 := hr.later (below1 wr (.cells (bytesL (List.replicate 64 0)) 74)).drew
        have l1 := hr.rr.lt
        have l2 := hr.sr.lt
        have l3 := hr.pr.lt
        exact ⟨h2.rr.setRowOther _ (by omega), h2.sr.setRowOther _ (by omega), h2.pr.setRowOther _ (by omega), Below.row h2.bel _ hr.bel.size⟩
      have hk2 : Row ((wr.alloc (.cells (bytesL (List.replicate 64 0)) 74)).drew.setRow wr.heap.size (bytesL (blk P k))) wr.heap.size (bytesL (blk P k)) 74 := hrow.setRow _
      have hlw := hr.sr.lt
      generalize (wr.alloc (.cells (bytesL (List.replicate 64 0)) 74)).drew.setRow wr.heap.size (bytesL (blk P k)) = w3 at *
      generalize wr.heap.size = bb at *
      clear hr hrow hsrc ecells HR e1 hcell
      have hst := blocks_ok P k
      have hz8 := blk_ok hp8 k
      have HX : Hid (blocks KW P start8 (k + 1) = mixF KW (blocks KW P start8 k) (spreadF (blk P k))) := show _ = _ from rfl
      generalize blocks KW P start8 k = st at *
      generalize blk P k = z at *
      go_wp2_with fail
      refine wp_region_D (fun i => i != 4) (fun w' => HsR w w' g cur st ∧ Row w' bb (bytesL z) 74) (by kernel_rfl) ?_
      have hS : HsR w w3.drew g cur st ∧ Row w3.drew bb (bytesL z) 74 := ⟨⟨hr2.rr, hr2.sr, hr2.pr, hr2.bel.drew⟩, hk2⟩
      refine' wpAnyD_take (i := 0) (v := .agg (s8V st)) rfl (by kernel_rfl) (by kernel_rfl) (by kernel_rfl) (by kernel_rfl) (fun _ _ _ h => h) (Or.inl ⟨by rfl, ?hyA⟩) hS ?reA
      case hyA => (intro w' hSw; exact exec_load_row rfl (w.heap.size + 1) rfl 72 (s8V st) _ hSw.1.sr Tryd.underlying72 rfl info_sum)
      simp only [Act.put, List.setIfInBounds_toArray, List.set_cons_zero, List.set_cons_succ]
      refine' wpAnyD_take (i := 1) (v := .agg (bytesL z)) rfl (by kernel_rfl) (by kernel_rfl) (by kernel_rfl) (by kernel_rfl) (fun _ _ _ h => h) (Or.inl ⟨by rfl, ?hyB⟩) hS ?reB
      case hyB => (intro w' hSw; exact exec_load_row rfl bb rfl 74 (bytesL z) _ hSw.2 Tryd.underlying74 rfl (by rw [bytesL_size, hbl]; exact info_block))
      simp only [Act.put, List.setIfInBounds_toArray, List.set_cons_zero, List.set_cons_succ]
      refine wpAnyD_only (i := 2) rfl (by kernel_rfl) (by rfl) (fun K hK => ?_)
      go_simp
      refine (spread_any z _ hbl hz8).mono ?_
      rintro e w4 ⟨rfl, hb4⟩
      try dsimp only
      have hSn := And.intro (hS.1.later hb4) (hS.2.later hb4)
      refine hK.out _ _ (fun _ => hSn) ?_
      clear hK K hS
      have hS := hSn
      clear hSn
      try simp only [Act.put, List.setIfInBounds_toArray, List.set_cons_zero, List.set_cons_succ]
      clear hb4
      refine wpAnyD_only (i := 3) rfl (by kernel_rfl) (by rfl) (fun K hK => ?_)
      go_simp
      refine (mix_any st (spreadF z) _ hst (spread_len z) (spread_ok z hz8) (ht.later hS.1.bel)).mono ?_
      rintro e w5 ⟨rfl, hb5⟩
      try dsimp only
      have hSn := And.intro (hS.1.later hb5) (hS.2.later hb5)
      refine hK.out _ _ (fun _ => hSn) ?_
      clear hK K hS
      have hS := hSn
      clear hSn
      try simp only [Act.put, List.setIfInBounds_toArray, List.set_cons_zero, List.set_cons_succ]
      clear hb5
      refine wpAnyD_only (i := 4) rfl (by kernel_rfl) (by rfl) (fun K hK => ?_)
      refine wp_store_row 72 _ _ rfl (w.heap.size + 1) (s8V (mixF KW st (spreadF z))) rfl rfl 72 (s8V st) hS.1.sr (by rw [s8V_size]; exact info_sum) (by rw [s8V_size, s8V_size]) (s8V_one _) ?_
      refine hK.out _ _ (fun h => by cases h) ?_
      clear hK K
      refine wpAnyD_done (by kernel_rfl) ?_ _
      have hr5 : HsR w (w5.setRow (w.heap.size + 1) (s8V (mixF KW st (spreadF z)))) g cur (mixF KW st (spreadF z)) :=
        ⟨hS.1.rr.setRowOther _ (by omega), hS.1.sr.setRow _, hS.1.pr.setRowOther _ (by omega), Below.row hS.1.bel _ (by omega)⟩
      generalize w5.setRow (w.heap.size + 1) (s8V (mixF KW st (spreadF z))) = w6 at *
      clear hS hr2 hk2
      go_wp2
      go_roundw
      case rel =>
        refine ⟨k + 1, by omega, by go_num, ?_⟩
        rw [HX.out]
        exact hr5
      case measure => simp [intOf]; omega
    · obtain rfl : k = nb := by omega
      have hst := blocks_ok P k
      have hrr := hr.rr
      have hsr := hr.sr
      have hbel := hr.bel
      clear hr
      generalize blocks KW P start8 k = st at *
      have hlen := tellF_len st
      have hsz : (Tryd.prog.info? 28).map (·.size) = some (bytesL (tellF st)).size := by rw [bytesL_size, hlen]; exact info_hash
      go_wp2_with (first | refine wpList_load_row rfl 72 _ rfl (w.heap.size + 1) rfl 72 (s8V st) (0, 0) _ hsr Tryd.underlying72 rfl info_sum ?_ | (go_at_call 41; refine (tell_any st _ hst).mono ?_; rintro e w9 ⟨rfl, hb9⟩; have hrr9 := hrr.later hb9; have hbel9 := chain hbel hb9) | refine wpList_store_row rfl 28 _ _ rfl w.heap.size (bytesL (tellF st)) rfl rfl 28 _ hrr9 hsz (by simp [bytesL_size, hlen]) (bytesL_one _) ?_)
      refine bodyPost_ret (v := .agg (bytesL (tellF st))) (results_cell_row Tryd.results33 _ _ w.heap.size 28 (bytesL (tellF st)) (0, 0) _ ?hp ?hg Tryd.underlying28 rfl hsz) rfl ⟨by rw [HF.out], Below.row hbel9 _ (Nat.le_refl _)⟩
      case hp => rfl
      case hg => exact hrr9.setRow _
end Go.Proofs.YtepohpniflmblaaDoor
