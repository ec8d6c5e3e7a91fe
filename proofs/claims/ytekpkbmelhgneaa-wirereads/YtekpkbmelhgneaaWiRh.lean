
/-
  WireReads: the statement that writes a hash, a number and raw bytes, in whatever order.
-/
import Derived.Test.YtekpkbmelhgneaaWiRg
import Derived.Test.YtekpkbmelhgneaaWiHa
import Derived.Test.YtekpkbmelhgneaaWiI
import Derived.Test.YtekpkbmelhgneaaWiV
import Derived.Test.YtekpkbmelhgneaaWiAe
import Derived.Deep.MidRow
namespace Go.Proofs.Ytekpkbmelhgneaa
open Go.RowKit
set_option maxRecDepth 100000
set_option linter.unusedSimpArgs false
set_option linter.unusedVariables false

def ops16 : Array Oper :=
  #[{ dst := some 54, op := Op.load 40 (Operand.tmp 4), type := 40, pos := "law.go:127", after := #[], guard := none },
    { dst := some 55, op := Op.buildSlice 81 1 #[(0, Operand.tmp 54)], type := 81, pos := "law.go:127", after := #[{ on := 0, ground := Ground.data }], guard := none },
    { dst := some 56, op := Op.call { callee := Callee.value (Operand.func 25), args := #[Operand.tmp 8, Operand.tmp 55], argTypes := #[54, 81] }, type := 55, pos := "law.go:127", after := #[{ on := 1, ground := Ground.data }], guard := none },
    { dst := some 57, op := Op.load 26 (Operand.tmp 7), type := 26, pos := "law.go:127", after := #[], guard := none },
    { dst := some 58, op := Op.buildSlice 82 1 #[(0, Operand.tmp 57)], type := 82, pos := "law.go:127", after := #[{ on := 3, ground := Ground.data }], guard := none },
    { dst := some 59, op := Op.call { callee := Callee.value (Operand.func 26), args := #[Operand.tmp 56, Operand.tmp 58], argTypes := #[55, 82] }, type := 55, pos := "law.go:127", after := #[{ on := 2, ground := Ground.data }, { on := 4, ground := Ground.data }, { on := 2, ground := Ground.chain }], guard := none },
    { dst := some 60, op := Op.buildSlice 32 1 #[(0, Operand.const (Value.int IntKind.u8 9))], type := 32, pos := "law.go:127", after := #[], guard := none },
    { dst := some 61, op := Op.buildSlice 84 2 #[(0, Operand.const (Value.slice none 0 0)), (1, Operand.tmp 60)], type := 84, pos := "law.go:127", after := #[{ on := 6, ground := Ground.data }], guard := none },
    { dst := some 62, op := Op.call { callee := Callee.value (Operand.func 27), args := #[Operand.tmp 59, Operand.tmp 61], argTypes := #[55, 84] }, type := 55, pos := "law.go:127", after := #[{ on := 5, ground := Ground.data }, { on := 7, ground := Ground.data }, { on := 5, ground := Ground.chain }], guard := none }]

theorem ready_done : ∀ b0 b1 b2 b3 b4 b5 b6 b7 b8 : Bool, Region.ready .any ops16 #[b0, b1, b2, b3, b4, b5, b6, b7, b8] = [] → (b0 && b1 && b2 && b3 && b4 && b5 && b6 && b7 && b8) = true := by decide +kernel
def need (i : Nat) (b0 b1 b2 b3 b4 b5 b6 b7 b8 : Bool) : Bool :=
  match i with
  | 0 => !b0
  | 1 => !b1 && b0
  | 2 => !b2 && b1
  | 3 => !b3
  | 4 => !b4 && b3
  | 5 => !b5 && b2 && b4
  | 6 => !b6
  | 7 => !b7 && b6
  | 8 => !b8 && b5 && b7
  | _ => false
theorem ready_need : ∀ b0 b1 b2 b3 b4 b5 b6 b7 b8 : Bool, ((Region.ready .any ops16 #[b0, b1, b2, b3, b4, b5, b6, b7, b8]).all fun i => need i b0 b1 b2 b3 b4 b5 b6 b7 b8) = true := by decide +kernel
theorem wpOp_of {P : Program} {ops : Array Oper} {Q : Exit → Act → World → Prop} {i : Nat} {oi : Oper} {K : Act → World → Prop} {a : Act} {w : World} (hi' : ops.toList[i]? = some oi) (hg : oi.guard = none) (h : ∀ K' : Act → World → Prop, Shut (∀ a' w', K a' w' → K' a' w') → oi.wp P a w K' Q) : wpOp P ops Q i K a w := by
  have hi : ops[i]? = some oi := by simpa using hi'
  unfold wpOp
  rw [hi]
  simp only [Region.wanted, hg]
  exact Or.inl (h _ (fun _ _ h => h))
/-- b with number i set. -/
def on (b : Nat → Bool) (i : Nat) : Nat → Bool := fun j => if j = i then true else b j

set_option maxHeartbeats 4000000 in
theorem region16 (Q : Exit → Act → World → Prop) (a0 : Act) (w wz : World) (l : List Int) (t : List Nat) (X Nb Wb : Nat) (v u : Value) (hz : 62 < a0.tmps.size) (h4 : a0.tmps[4]? = some (.pointer (some ⟨w.heap.size, 0, none⟩))) (h7 : a0.tmps[7]? = some (.pointer (some ⟨Nb, 0, none⟩))) (h8 : a0.tmps[8]? = some (.pointer (some ⟨Wb, 0, none⟩)))
    (hR : RdsR w wz l t X Nb Wb l.length v u) (hl : l.length ≤ 30) (ht : t.length = 32) (ht8 : W8 t) (hX : X < 18446744073709551616)
    (hQ : ∀ s54 s55 s56 s57 s58 s59 s60 s61 s62 w' v', RgB w w' l t X Nb u → WrAt w' Wb v' (bytes16 l t X true true true) → (∀ j, v'.ownBlock = some j → w.heap.size ≤ j) → w.heap.size ≤ Wb →
      Q .normal { tmps := ((((((((a0.tmps.setIfInBounds 54 s54).setIfInBounds 55 s55).setIfInBounds 56 s56).setIfInBounds 57 s57).setIfInBounds 58 s58).setIfInBounds 59 s59).setIfInBounds 60 s60).setIfInBounds 61 s61).setIfInBounds 62 s62, defers := a0.defers } w') :
    (Code.region 16 ops16 true).wp Try.prog Q a0 wz := by
  refine wp_region_any (by kernel_rfl) ?_
  refine wpAny_states (fun listed a wr => ∃ b v, listed = #[b 0, b 1, b 2, b 3, b 4, b 5, b 6, b 7, b 8] ∧ RgJ w wr l t X Nb Wb u a0 a b v) ?hdone ?hstep _ _ _ _ (by decide) ?hstart
  case hstart =>
    refine ⟨fun _ => false, v, rfl, ⟨rfl, rfl, (fun _ _ => rfl), nofun, nofun, nofun, nofun, nofun, nofun, nofun, nofun, ?_, hR.hW, hR.hv, ⟨hR.rh, hR.rn, hR.own, hR.below.drew⟩, nofun, nofun⟩⟩
    simpa [bytes16] using (hR.wt.later (Below.refl _ wz).drew)
  case hdone =>
    rintro listed a wr ⟨b, v, rfl, h⟩ hr
    have hb := ready_done _ _ _ _ _ _ _ _ _ hr
    simp only [Bool.and_eq_true] at hb
    obtain ⟨⟨⟨⟨⟨⟨⟨⟨b0, b1⟩, b2⟩, b3⟩, b4⟩, b5⟩, b6⟩, b7⟩, b8⟩ := hb
    have e := mid_ext a.tmps a0.tmps h.sz hz h.fr
    have ea : a = { tmps := a.tmps, defers := a0.defers } := by cases a; have := h.df; simp at this; simp [this]
    have hw := h.wt
    rw [b2, b5, b8] at hw
    rw [ea, e]
    exact hQ _ _ _ _ _ _ _ _ _ wr v h.st hw h.hv h.hW
  case hstep =>
    rintro listed a wr i ⟨b, v, rfl, h⟩ hi
    have hn := List.all_eq_true.1 (ready_need (b 0) (b 1) (b 2) (b 3) (b 4) (b 5) (b 6) (b 7) (b 8)) i hi
    have hi9 : i = 0 ∨ i = 1 ∨ i = 2 ∨ i = 3 ∨ i = 4 ∨ i = 5 ∨ i = 6 ∨ i = 7 ∨ i = 8 := by
      rcases Nat.lt_or_ge i 9 with h' | h'
      · omega
      · obtain ⟨k, rfl⟩ : ∃ k, i = k + 9 := ⟨i - 9, by omega⟩
        simp [need] at hn
    clear hi
    unfold ops16
    rcases hi9 with rfl | rfl | rfl | rfl | rfl | rfl | rfl | rfl | rfl
    · refine wpOp_of rfl rfl (fun K hK => ?_)
      have e4 : a.eval (.tmp 4) = .pointer (some ⟨w.heap.size, 0, none⟩) := by
        have := (h.fr 4 (by omega)).trans h4
        simp [Act.eval, this]
      refine wp_load_mid 40 _ rfl w.heap.size 0 e4 (bytesL t).toList _ (fun j x hx => by rw [Nat.zero_add, h.st.rh.cell]; simpa using hx) Try.underlying40 rfl (by rw [Array.length_toList]; exact info_hash' ht) ?_
      exact hK.out _ _ ⟨on b 0, v, rfl, h.put 54 (by omega) hz _ (on b 0) (fun j hj => if_neg (by omega)) rfl rfl rfl (fun _ => rfl) (by omega) (by omega) (by omega) (by omega) (by omega) (by omega) (by omega)⟩
    · refine wpOp_of rfl rfl (fun K hK => ?_)
      simp only [need, Bool.and_eq_true, Bool.not_eq_true'] at hn
      have e54 : a.tmps[54]? = some (.agg (bytesL t)) := h.s0 hn.2
      have hcs : (bytesL t).size = 32 := by rw [bytesL_size, ht]
      generalize hcse : bytesL t = cs at *
      go_simp
      rw [lay_all _ cs _ hcs rfl]
      exact hK.out _ _ ⟨on b 1, v, rfl, (h.world (below1 wr (.cells cs 40))).put 55 (by omega) hz _ (on b 1) (fun j hj => if_neg (by omega)) rfl rfl rfl (by omega) (fun _ => ⟨_, rfl, by rw [hcse]; exact Row.new wr _ _ rfl⟩) (by omega) (by omega) (by omega) (by omega) (by omega) (by omega)⟩
    · refine wpOp_of rfl rfl (fun K hK => ?_)
      simp only [need, Bool.and_eq_true, Bool.not_eq_true'] at hn
      obtain ⟨g, e55, hg⟩ := h.s1 hn.2
      have e8 := (h.fr 8 (by omega)).trans h8
      have b5 : b 5 = false := by cases hb : b 5 with | false => rfl | true => have := h.c5 hb; rw [hn.1] at this; cases this
      have b8 : b 8 = false := by cases hb : b 8 with | false => rfl | true => have := h.c8 hb; rw [b5] at this; cases this
      have hw := h.wt
      rw [hn.1, b5, b8] at hw
      have hlen : (bytes16 l t X false false false).length ≤ 1000000 := by have := wB_le l l.length; simp [bytes16]; omega
      have hfar := far_row h.wt hg (by decide) (by decide)
      go_simp
      refine (whash_any g t ht ht8 wr Wb v _ hw hg hfar hlen).mono ?_
      rintro e w' ⟨v', rfl, hw', hs⟩
      refine hK.out _ _ ⟨on b 2, v', rfl, ?_⟩
      have hp := h.put 56 (by omega) hz (.pointer (some ⟨Wb, 0, none⟩)) b (fun _ _ => rfl) rfl rfl rfl (by omega) (by omega) (fun _ => rfl) (by omega) (by omega) (by omega) (by omega) (by omega)
      refine hp.wrote hs ?_ rfl rfl rfl rfl rfl rfl (fun _ => put_at (by rw [h.sz]; omega) _) (fun hh => ?_) (fun _ => rfl) (fun hh => ?_)
      · show WrAt w' Wb v' (bytes16 l t X true (b 5) (b 8))
        rw [b5, b8]
        simpa [bytes16] using hw'
      · rw [show on b 2 5 = b 5 from rfl, b5] at hh; cases hh
      · rw [show on b 2 8 = b 8 from rfl, b8] at hh; cases hh
    · refine wpOp_of rfl rfl (fun K hK => ?_)
      have e7 : a.eval (.tmp 7) = .pointer (some ⟨Nb, 0, none⟩) := by
        have := (h.fr 7 (by omega)).trans h7
        simp [Act.eval, this]
      refine wp_load_mid 26 _ rfl Nb 0 e7 [.int .u64 (X : Nat), .int .u64 (l.length : Nat)] _ (fun j x hx => by rw [Nat.zero_add, h.st.rn.cell]; simpa using hx) Try.underlying26 rfl (by kernel_rfl) ?_
      exact hK.out _ _ ⟨on b 3, v, rfl, h.put 57 (by omega) hz _ (on b 3) (fun j hj => if_neg (by omega)) rfl rfl rfl (by omega) (by omega) (by omega) (fun _ => rfl) (by omega) (by omega) (by omega) (by omega)⟩
    · refine wpOp_of rfl rfl (fun K hK => ?_)
      simp only [need, Bool.and_eq_true, Bool.not_eq_true'] at hn
      have e57 := h.s3 hn.2
      go_simp
      exact hK.out _ _ ⟨on b 4, v, rfl, (h.world (below1 wr (.cells #[.int .u64 (X : Nat), .int .u64 (l.length : Nat)] 26))).put 58 (by omega) hz _ (on b 4) (fun j hj => if_neg (by omega)) rfl rfl rfl (by omega) (by omega) (by omega) (by omega) (fun _ => ⟨_, rfl, Row.new wr _ _ rfl⟩) (by omega) (by omega) (by omega)⟩
    · refine wpOp_of rfl rfl (fun K hK => ?_)
      simp only [need, Bool.and_eq_true, Bool.not_eq_true'] at hn
      obtain ⟨⟨n5, n2⟩, n4⟩ := hn
      obtain ⟨g, e58, hg⟩ := h.s4 n4
      have e56 := h.s2 n2
      have b8 : b 8 = false := by cases hb : b 8 with | false => rfl | true => have := h.c8 hb; rw [n5] at this; cases this
      have hw := h.wt
      rw [n2, n5, b8] at hw
      have hlen : (bytes16 l t X true false false).length ≤ 1000000 := by have := wB_le l l.length; simp [bytes16]; omega
      have hno : NumsOff wr (Far Wb v) (.slice (some ⟨g, 0, none⟩) 1 1) [(X, l.length)] := by
        refine ⟨by simp, _, _, rfl, fun i hi => ?_⟩
        obtain rfl : i = 0 := by simpa using hi
        exact ⟨g, 0, rfl, far_row h.wt hg (by decide) (by decide), hg.lt, hg.cell 0, hg.cell 1, hX, (show l.length < 18446744073709551616 by omega)⟩
      go_simp
      refine (wnum_any _ [(X, l.length)] wr Wb v _ hw hno hlen).mono ?_
      rintro e w' ⟨v', rfl, hw', hs⟩
      refine hK.out _ _ ⟨on b 5, v', rfl, ?_⟩
      have hp := h.put 59 (by omega) hz (.pointer (some ⟨Wb, 0, none⟩)) b (fun _ _ => rfl) rfl rfl rfl (by omega) (by omega) (by omega) (by omega) (by omega) (fun _ => rfl) (by omega) (by omega)
      refine hp.wrote hs ?_ rfl rfl rfl rfl rfl rfl (fun _ => hp.s2 n2) (fun _ => put_at (by rw [h.sz]; omega) _) (fun _ => n2) (fun hh => ?_)
      · show WrAt w' Wb v' (bytes16 l t X (b 2) true (b 8))
        rw [n2, b8]
        simpa [bytes16] using hw'
      · rfl
    · refine wpOp_of rfl rfl (fun K hK => ?_)
      go_simp
      exact hK.out _ _ ⟨on b 6, v, rfl, (h.world (below1 wr (.cells (bytesL [9]) 5))).put 60 (by omega) hz _ (on b 6) (fun j hj => if_neg (by omega)) rfl rfl rfl (by omega) (by omega) (by omega) (by omega) (by omega) (by omega) (fun _ => ⟨_, rfl, Row.new wr _ _ rfl, h.wt.far (Nat.le_refl _)⟩) (by omega)⟩
    · refine wpOp_of rfl rfl (fun K hK => ?_)
      simp only [need, Bool.and_eq_true, Bool.not_eq_true'] at hn
      obtain ⟨g, e60, hg, hgf⟩ := h.s6 hn.2
      go_simp
      exact hK.out _ _ ⟨on b 7, v, rfl, (h.world (below1 wr (.cells #[.slice none 0 0, .slice (some ⟨g, 0, none⟩) 1 1] 32))).put 61 (by omega) hz _ (on b 7) (fun j hj => if_neg (by omega)) rfl rfl rfl (by omega) (by omega) (by omega) (by omega) (by omega) (by omega) (by omega) (fun _ => ⟨_, g, rfl, Row.new wr _ _ rfl, hg.alloc _, hgf⟩)⟩
    · refine wpOp_of rfl rfl (fun K hK => ?_)
      simp only [need, Bool.and_eq_true, Bool.not_eq_true'] at hn
      obtain ⟨⟨n8, n5⟩, n7⟩ := hn
      have n2 := h.c5 n5
      obtain ⟨g, g', e61, hg, hg', hgf⟩ := h.s7 n7
      have e59 := h.s5 n5
      have hw := h.wt
      rw [n2, n5, n8] at hw
      have hlen : (bytes16 l t X true true false).length + ([[], [9]] : List (List Nat)).flatten.length ≤ 1048576 := by have := wB_le l l.length; simp [bytes16, numB_len]; omega
      have hpo : PartsOff wr (Far Wb v) (.slice (some ⟨g, 0, none⟩) 2 2) [[], [9]] := by
        refine ⟨by simp [maxLen], _, _, rfl, fun i hi => ?_⟩
        have hc : i = 0 ∨ i = 1 := by simp at hi; omega
        rcases hc with rfl | rfl
        · exact ⟨g, 0, _, rfl, far_row h.wt hg (by decide) (by decide), hg.lt, hg.cell 0, BytesOff.nil _ _⟩
        · refine ⟨g, 0, _, rfl, far_row h.wt hg (by decide) (by decide), hg.lt, hg.cell 1, ⟨W8.of rfl, by simp [maxLen], _, 1, rfl, fun j hj => ?_⟩⟩
          obtain rfl : j = 0 := by simpa using hj
          exact ⟨g', 0, rfl, hgf, hg'.lt, by rw [hg'.cell]; rfl⟩
      go_simp
      refine (raw_any _ [[], [9]] wr Wb v _ hw hpo hlen).mono ?_
      rintro e w' ⟨v', rfl, hw', hs⟩
      refine hK.out _ _ ⟨on b 8, v', rfl, ?_⟩
      have hp := h.put 62 (by omega) hz (.pointer (some ⟨Wb, 0, none⟩)) b (fun _ _ => rfl) rfl rfl rfl (by omega) (by omega) (by omega) (by omega) (by omega) (by omega) (by omega) (by omega)
      refine hp.wrote hs ?_ rfl rfl rfl rfl rfl rfl (fun _ => hp.s2 n2) (fun _ => hp.s5 n5) (fun _ => n2) (fun _ => n5)
      show WrAt w' Wb v' (bytes16 l t X (b 2) (b 5) true)
      rw [n2, n5]
      simpa [bytes16] using hw'

/-- What is left to read from number j on. -/
def wR (l : List Int) (j : Nat) : List Nat := ((List.range l.length).drop j).flatMap fun i => intB (kf i) (wv l i : Nat)
theorem wR_zero (l : List Int) : wR l 0 = wB l l.length := rfl
theorem wR_all (l : List Int) : wR l l.length = [] := by unfold wR; rw [List.drop_of_length_le (by simp)]; rfl
theorem wR_succ (l : List Int) (j : Nat) (h : j < l.length) : wR l j = intB (kf j) (wv l j : Nat) ++ wR l (j + 1) := by
  unfold wR
  rw [List.drop_eq_getElem_cons (by simpa using h)]
  simp
theorem RgB.else {w wr w' : World} {l : List Int} {t : List Nat} {X Nb R : Nat} {u : Value} (h : RgB w wr l t X Nb u) {cs : Array Value} (hr : Row wr R cs 79) (hR : w.heap.size ≤ R) (he : Else R wr w') : RgB w w' l t X Nb u :=
  ⟨h.rh.else he (RowN.ne h.rh hr (by decide)), h.rn.else he (RowN.ne h.rn hr (by decide)), ownsRow_keep h.own (fun k _ hk e => he.block k hk (fun e2 => own_ne h.own hr (by decide) (e2 ▸ e))), h.below.trans (he.below h.below.size hR)⟩
theorem own_else {w wr w' : World} {R base : Nat} {v : Value} {L : List Nat} (h : Own wr base v L) {cs : Array Value} (hr : Row wr R cs 79) (he : Else R wr w') : Own w' base v L :=
  ownsRow_keep h (fun k _ hk e => he.block k hk (fun e2 => own_ne h hr (by decide) (e2 ▸ e)))
theorem RdAt.row {w : World} {R D : Nat} {s : List Nat × Bool} (h : RdAt w R D s) : ∃ cs, Row w R cs 79 := by obtain ⟨_, _, r, _⟩ := h.ex; exact ⟨_, r⟩
theorem want_at {wr : World} {base n c g : Nat} {l : List Int} {k : Nat} (h : wr.ownsRow base 3 1 (.slice (some ⟨g, 0, none⟩) n c) k (wants l k)) {j : Nat} (hj : j < k) : wr.cell? ⟨g, j, none⟩ = some (.int .i64 (wv l j : Nat)) := by
  have := h.cells (g := g) rfl j (.int .i64 (wv l j : Nat)) (by simp [wants, hj])
  rwa [Addr.add_lit, Nat.zero_add] at this
theorem hash_neq_self (t : List Nat) (ht : t.length = 32) (w : World) : (binOp .neq 40 (.agg (bytesL t)) (.agg (bytesL t))).run Try.prog w = .ok (.bool false) w := by
  rw [run_neq_struct, hash_self 9998 t ht]
  rfl
theorem hash_eql_self (t : List Nat) (ht : t.length = 32) (w : World) : (binOp .eql 40 (.agg (bytesL t)) (.agg (bytesL t))).run Try.prog w = .ok (.bool true) w := by
  rw [run_eql_struct, hash_self 9998 t ht]
  rfl
theorem cut_mod (x : Int) (n : Nat) (h1 : 1 ≤ n) (h2 : n ≤ 1000) : ∃ m : Nat, (wrap64 (x.tmod n + n)).tmod n = (m : Int) ∧ m < n := by
  have hn : (0 : Int) < (n : Int) := by omega
  have h : -(n : Int) < x.tmod n ∧ x.tmod n < n := by
    rcases Int.le_total 0 x with hx | hx
    · rw [Int.tmod_eq_emod_of_nonneg hx]
      have a := Int.emod_nonneg x (show (n : Int) ≠ 0 by omega)
      have b := Int.emod_lt_of_pos x hn
      omega
    · obtain ⟨y, rfl⟩ : ∃ y, x = -y := ⟨-x, by omega⟩
      rw [Int.neg_tmod, Int.tmod_eq_emod_of_nonneg (by omega)]
      have a := Int.emod_nonneg y (show (n : Int) ≠ 0 by omega)
      have b := Int.emod_lt_of_pos y hn
      omega
  generalize x.tmod n = z at *
  have hw : wrap64 (z + n) = z + n := by unfold wrap64; omega
  rw [hw, Int.tmod_eq_emod_of_nonneg (by omega)]
  have a := Int.emod_nonneg (z + n) (show (n : Int) ≠ 0 by omega)
  have b := Int.emod_lt_of_pos (z + n) hn
  generalize (z + n) % (n : Int) = q at *
  exact ⟨q.toNat, by omega, by omega⟩
theorem bytes_take {w : World} {p : Option Addr} {c : Nat} {l : List Nat} {k : Nat} (h : BytesAt w (.slice p k c) l) (hk : k = l.length) (n : Nat) (hn : n ≤ l.length) (c' : Nat) : BytesAt w (.slice p n c') (l.take n) := by
  subst hk
  obtain ⟨h1, h2, p', cc, e, h3⟩ := h
  cases e
  refine ⟨fun x hx => h1 x (List.mem_of_mem_take hx), by rw [List.length_take]; omega, p, c', by rw [List.length_take, Nat.min_eq_left hn], fun i hi => ?_⟩
  rw [List.length_take] at hi
  obtain ⟨b, off, e, hb, hc⟩ := h3 i (by omega)
  refine ⟨b, off, e, hb, ?_⟩
  rw [hc]
  simp [List.getD, List.getElem?_take, show i < n by omega]
theorem own_cap {w : World} {base n c : Nat} {p : Option Addr} {L : List Nat} (h : Own w base (.slice p n c) L) : n ≤ c := by
  obtain ⟨_, ⟨e, h0⟩ | ⟨g, cap, cur, e, _, _, h1, _⟩⟩ := h
  · cases e; exact Nat.le_refl _
  · cases e; simpa using h1
theorem hash_zero_eq (Z : Array Value) (hZ : Z = bytesL (List.replicate 32 0)) (w : World) : (Op.equalIn 10000 40 (.agg Z) (.agg #[.int .u8 0, .int .u8 0, .int .u8 0, .int .u8 0, .int .u8 0, .int .u8 0, .int .u8 0, .int .u8 0, .int .u8 0, .int .u8 0, .int .u8 0, .int .u8 0, .int .u8 0, .int .u8 0, .int .u8 0, .int .u8 0, .int .u8 0, .int .u8 0, .int .u8 0, .int .u8 0, .int .u8 0, .int .u8 0, .int .u8 0, .int .u8 0, .int .u8 0, .int .u8 0, .int .u8 0, .int .u8 0, .int .u8 0, .int .u8 0, .int .u8 0, .int .u8 0])).run Try.prog w = .ok true w := by
  rw [h32, hZ]
  exact hash_self 9998 _ (by simp) w
theorem rH_bad {s : List Nat × Bool} (h : s.2 = true) : rH s = List.replicate 32 0 := by
  unfold rH
  rw [rTake_bad h]
  rfl
theorem rHi_bad {s : List Nat × Bool} (h : s.2 = true) : rHi s = 0 := by unfold rHi; rw [rTake_bad h]; rfl
theorem rLo_bad {s : List Nat × Bool} (h : s.2 = true) : rLo s = 0 := by unfold rLo; rw [rTake_bad h]; rfl
/-- A reader that has read n times one byte. -/
theorem bad_after (l : List Nat) : ∀ n, n ≤ l.length → itS (rDrop 1) n (l, false) = (l.drop n, false)
  | 0, _ => by simp [itS]
  | n + 1, h => by
    rw [itS, bad_after l n (by omega), rDrop_yes rfl (by show 1 ≤ (l.drop n).length; rw [List.length_drop]; omega)]
    simp [List.drop_drop, Nat.add_comm]
theorem bad_stays (s : List Nat × Bool) (h : s.2 = true) : ∀ n, (itS (rDrop 1) n s).2 = true
  | 0 => h
  | n + 1 => by rw [itS, rDrop_bad (bad_stays s h n)]
theorem itS_add {α : Type} (f : List Nat × Bool → List Nat × Bool) (n : Nat) (s : List Nat × Bool) : ∀ m, itS f (n + m) s = itS f m (itS f n s)
  | 0 => rfl
  | m + 1 => by rw [← Nat.add_assoc, itS, itS_add (α := α) f n s m, itS]
theorem bad_past (l : List Nat) (n : Nat) (h : l.length < n) : (itS (rDrop 1) n (l, false)).2 = true := by
  obtain ⟨m, rfl⟩ : ∃ m, n = l.length + 1 + m := ⟨n - (l.length + 1), by omega⟩
  rw [itS_add (α := Nat)]
  apply bad_stays
  rw [itS, bad_after l l.length (Nat.le_refl _)]
  rw [rDrop_few (by simp)]
end Go.Proofs.Ytekpkbmelhgneaa
