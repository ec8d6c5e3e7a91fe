
/-
  WalAgainst: its walk. For every input.
-/
import Derived.Test.YtfhaphbfbmpbiaaWaK
import Derived.Test.YtfhaphbfbmpbiaaStJ
namespace Go.Proofs.Ytfhaphbfbmpbiaa
open Go.RowKit
set_option maxRecDepth 100000
set_option linter.unusedVariables false
set_option linter.unusedSimpArgs false

/-- The sector of the law. -/
def agS (a nu le z : Nat) : List Nat := enc 4 a ++ ((enc 4 nu ++ (enc 4 le ++ zs 48)) ++ enc 4 z)
theorem agS_len (a nu le z : Nat) : (agS a nu le z).length = 64 := by unfold agS; simp only [List.length_append, enc_len, zs_len]
theorem agS_w8 (a nu le z : Nat) : W8 (agS a nu le z) := (enc_w8 _ _).append (((enc_w8 _ _).append ((enc_w8 _ _).append (zs_w8 _))).append (enc_w8 _ _))
theorem ag_front {a nu le z : Nat} (h : a < 8) : front (agS a nu le z) = a := by
  unfold front agS
  rw [List.take_left' (enc_len 4 a), be_enc_lt (by simp; omega)]
theorem ag_load (a nu le z : Nat) : load (agS a nu le z) = enc 4 nu ++ (enc 4 le ++ zs 48) := by
  unfold load agS
  rw [List.drop_left' (enc_len 4 a), List.take_left' (by simp only [List.length_append, enc_len, zs_len])]
theorem ag_back {a nu le z : Nat} (h : z < 8) : back (agS a nu le z) = z := by
  unfold back agS
  rw [← List.append_assoc, List.drop_left' (by simp only [List.length_append, enc_len, zs_len]), List.take_of_length_le (by rw [enc_len]; exact Nat.le_refl _), be_enc_lt (by simp; omega)]
theorem ag_num {a nu le z : Nat} (h : nu < 8) : wnum (agS a nu le z) = nu := by
  unfold wnum
  rw [ag_load, List.take_left' (enc_len 4 nu), be_enc_lt (by simp; omega)]
theorem ag_len {a nu le z : Nat} (h : le < 64) : wlen (agS a nu le z) = le := by
  unfold wlen
  rw [ag_load, List.drop_left' (enc_len 4 nu), List.take_left' (enc_len 4 le), be_enc_lt (by simp; omega)]
theorem ag_rl {Z L : List (List Nat)} {e a nu le z : Nat} (hl : Z.length = 4) (h0 : Z.getD 0 [] = agS a nu le z) (h1 : ∀ i, 1 ≤ i → i < 4 → Z.getD i [] = zs 64) (ha : a < 8) (hn : nu < 8) (hle : le < 64) (hz : z < 8) (h : Rl Z [] 0 L e) :
    ((a = z ∧ 0 < a ∧ nu = 1 ∧ le ≤ 48) ∧ ∃ x, L = [x] ∧ x.length = le) ∨ (¬ (a = z ∧ 0 < a ∧ nu = 1 ∧ le ≤ 48) ∧ L = []) := by
  have ef : front (Z.getD 0 []) = a := by rw [h0, ag_front ha]
  have eb : back (Z.getD 0 []) = z := by rw [h0, ag_back hz]
  have en : wnum (Z.getD 0 []) = nu := by rw [h0, ag_num hn]
  have el : wlen (Z.getD 0 []) = le := by rw [h0, ag_len hle]
  cases h with
  | stop hn =>
    refine Or.inr ⟨fun ⟨c1, c2, c3, c4⟩ => hn ⟨by omega, by omega, by rw [en, c3]; rfl, by omega, by rw [el]; unfold secs; omega, fun k hk => ?_⟩, rfl⟩
    have k0 : k = 0 := by rw [el] at hk; unfold secs at hk; omega
    subst k0
    rw [Nat.zero_add, ef, eb]
    exact ⟨rfl, c1.symm⟩
  | step hw h2 =>
    have b0 := (hw.all 0 (by rw [el]; exact secs_pos _)).2
    rw [Nat.zero_add, ef, eb] at b0
    have st := hw.st
    rw [ef] at st
    have nu1 := hw.nu
    rw [en] at nu1
    have le48 : le ≤ 48 := by
      apply Nat.le_of_not_lt
      intro hc
      have := (hw.all 1 (by rw [el]; unfold secs; omega)).1
      rw [Nat.zero_add, ef, h1 1 (by omega) (by omega)] at this
      have z0 : front (zs 64) = 0 := by decide
      omega
    have s1 : secs le = 1 := by unfold secs; omega
    rw [el, s1, Nat.zero_add] at h2
    have hrl : (recAt Z 0).length = le := by
      unfold recAt
      rw [el, s1, List.length_take, List.length_drop]
      have : (loadsOf Z 0 1).length = 56 := by
        rw [loadsOf_succ Z 0 0 (by omega), Nat.add_zero, h0, ag_load]
        simp only [loadsOf, List.length_append, enc_len, zs_len, List.take_zero, List.flatMap_nil, List.length_nil]
      omega
    refine Or.inl ⟨⟨b0.symm, by omega, by simpa using nu1, le48⟩, recAt Z 0, ?_, hrl⟩
    cases h2 with
    | stop _ => rfl
    | step hw2 _ => exact absurd hw2 (zs_not fun _ => h1 1 (by omega) (by omega))

theorem far_row {wr : World} {Wb : Nat} {v : Value} {L : List Nat} (h : WrAt wr Wb v L) {g : Nat} {cs : Array Value} {ty : TypeId} (hr : Row wr g cs ty) (h1 : ty ≠ 53) (h2 : 5 ≠ ty) : Far Wb v g := ⟨Row.ne hr h.row h1, own_ne h.own hr h2⟩
theorem WStep.row {wr w' : World} {Wb : Nat} {v v' : Value} (hs : WStep wr w' Wb v v') {g : Nat} {cs : Array Value} {ty : TypeId} (hr : Row wr g cs ty) (hf : Far Wb v g) : Row w' g cs ty := (hs.far hf hr.lt).trans hr
theorem WStep.farOn {wr w' : World} {Wb : Nat} {v v' : Value} (hs : WStep wr w' Wb v v') {g : Nat} (hf : Far Wb v g) (hg : g < wr.heap.size) : Far Wb v' g := ⟨hf.1, fun e => by
  rcases hs.moved g e with e | e
  · exact hf.2 e
  · omega⟩
theorem ints_row {w : World} {N : Nat → Prop} {g : Nat} {L : List Int} {cs : Array Value} {ty : TypeId} (hr : Row w g cs ty) (hcs : ∀ i, i < L.length → cs[i]? = some (.int .i64 (L.getD i 0))) (hN : N g) (hl : L.length ≤ 1000) (n : Nat) (hn : n = L.length) : IntsOff w N (.slice (some ⟨g, 0, none⟩) n n) L := by
  subst hn
  exact ⟨hl, _, _, rfl, fun i hi => ⟨g, 0, rfl, hN, hr.lt, by rw [hr.cell, Nat.zero_add]; exact hcs i hi⟩⟩
/-- What the statement's slots hold. -/
def agG (a nu le z : Int) (Wb : Nat) (wr : World) (v : Value) : Nat → Value → Prop
  | 0, x => x = .int .i64 a
  | 1, x => x = .int .i64 nu
  | 2, x => x = .int .i64 le
  | 3, x => ∃ g, x = .slice (some ⟨g, 0, none⟩) 3 3 ∧ Row wr g #[.int .i64 a, .int .i64 nu, .int .i64 le] 3
  | 5, x => ∃ g, x = .slice (some ⟨g, 0, none⟩) 48 48 ∧ Row wr g (bytesL (zs 48)) 5 ∧ Far Wb v g
  | 6, x => ∃ g g', x = .slice (some ⟨g, 0, none⟩) 1 1 ∧ Row wr g #[.slice (some ⟨g', 0, none⟩) 48 48] 31 ∧ Row wr g' (bytesL (zs 48)) 5 ∧ Far Wb v g'
  | 8, x => x = .int .i64 z
  | 9, x => ∃ g, x = .slice (some ⟨g, 0, none⟩) 1 1 ∧ Row wr g #[.int .i64 z] 3
  | _, x => x = .pointer (some ⟨Wb, 0, none⟩)
theorem agG_later {a nu le z : Int} {Wb : Nat} {wr w' : World} {v : Value} (hb : Below wr.heap.size wr w') : ∀ k x, agG a nu le z Wb wr v k x → agG a nu le z Wb w' v k x := by
  intro k x h
  unfold agG at h ⊢
  split at h <;> try exact h
  · obtain ⟨g, e, h1⟩ := h; exact ⟨g, e, h1.later hb⟩
  · obtain ⟨g, e, h1, h2⟩ := h; exact ⟨g, e, h1.later hb, h2⟩
  · obtain ⟨g, g', e, h1, h2, h3⟩ := h; exact ⟨g, g', e, h1.later hb, h2.later hb, h3⟩
  · obtain ⟨g, e, h1⟩ := h; exact ⟨g, e, h1.later hb⟩
theorem agG_wrote {a nu le z : Int} {Wb : Nat} {wr w' : World} {v v' : Value} {l : List Nat} (hw : WrAt wr Wb v l) (hs : WStep wr w' Wb v v') : ∀ k x, agG a nu le z Wb wr v k x → agG a nu le z Wb w' v' k x := by
  intro k x h
  unfold agG at h ⊢
  split at h <;> try exact h
  · obtain ⟨g, e, h1⟩ := h; exact ⟨g, e, hs.row h1 (far_row hw h1 (by decide) (by decide))⟩
  · obtain ⟨g, e, h1, h2⟩ := h; exact ⟨g, e, hs.row h1 h2, hs.farOn h2 h1.lt⟩
  · obtain ⟨g, g', e, h1, h2, h3⟩ := h; exact ⟨g, g', e, hs.row h1 (far_row hw h1 (by decide) (by decide)), hs.row h2 h3, hs.farOn h3 h2.lt⟩
  · obtain ⟨g, e, h1⟩ := h; exact ⟨g, e, hs.row h1 (far_row hw h1 (by decide) (by decide))⟩
def agB (a nu le z : Int) (b4 b7 b10 : Bool) : List Nat := (if b4 then [a, nu, le].flatMap (intB 4) else []) ++ ((if b7 then zs 48 else []) ++ (if b10 then [z].flatMap (intB 4) else []))
structure AgS (a nu le z : Int) (Wb : Nat) (w0 : World) (a0 : Act) (b : Nat → Bool) (ac : Act) (wr : World) (v : Value) : Prop where
  st : StJ (agG a nu le z Wb wr v) 28 11 a0 ac b
  wt : WrAt wr Wb v (agB a nu le z (b 4) (b 7) (b 10))
  hv : ∀ j, v.ownBlock = some j → w0.heap.size ≤ j
  below : Below w0.heap.size w0 wr
  c7 : b 7 = true → b 4 = true
  c10 : b 10 = true → b 7 = true
/-- One that makes memory, or none. -/
theorem AgS.mk1 {a nu le z : Int} {Wb : Nat} {w0 : World} {a0 : Act} {b : Nat → Bool} {ac : Act} {wr w' : World} {v : Value} (h : AgS a nu le z Wb w0 a0 b ac wr v) (hb : Below wr.heap.size wr w') (k d : Nat) (hd : d = 28 + k) (hk : k < 11) (x : Value) (hx : agG a nu le z Wb w' v k x) (h4 : k ≠ 4) (h7 : k ≠ 7) (h10 : k ≠ 10) :
    AgS a nu le z Wb w0 a0 (onb b k) (ac.put (some d) x) w' v := by
  have e4 := onb_ne b (i := k) (j := 4) (fun e => h4 e.symm)
  have e7 := onb_ne b (i := k) (j := 7) (fun e => h7 e.symm)
  have e10 := onb_ne b (i := k) (j := 10) (fun e => h10 e.symm)
  exact ⟨(h.st.mono (agG_later hb)).put k hk d hd x hx, by rw [e4, e7, e10]; exact h.wt.later hb, h.hv, h.below.trans (hb.mono h.below.size), by rw [e4, e7]; exact h.c7, by rw [e7, e10]; exact h.c10⟩
/-- One that writes. -/
theorem AgS.mk2 {a nu le z : Int} {Wb : Nat} {w0 : World} {a0 : Act} {b : Nat → Bool} {ac : Act} {wr w' : World} {v v' : Value} (h : AgS a nu le z Wb w0 a0 b ac wr v) (hW : w0.heap.size ≤ Wb) (hs : WStep wr w' Wb v v') (k d : Nat) (hd : d = 28 + k) (hk : k < 11) (hx : agG a nu le z Wb w' v' k (.pointer (some ⟨Wb, 0, none⟩)))
    (hw : WrAt w' Wb v' (agB a nu le z (onb b k 4) (onb b k 7) (onb b k 10))) (c7 : onb b k 7 = true → onb b k 4 = true) (c10 : onb b k 10 = true → onb b k 7 = true) : AgS a nu le z Wb w0 a0 (onb b k) (ac.put (some d) (.pointer (some ⟨Wb, 0, none⟩))) w' v' := by
  refine ⟨(h.st.mono (agG_wrote h.wt hs)).put k hk d hd _ hx, hw, fun j hj => ?_, ?_, c7, c10⟩
  · rcases hs.moved j hj with e | e
    · exact h.hv j e
    · exact Nat.le_trans h.below.size e
  · exact h.below.trans ⟨hs.os, hs.tape, hs.output, hs.size, fun j hj => hs.block j (Nat.lt_of_lt_of_le hj h.below.size) (by omega) (fun e => by have := h.hv j e; omega)⟩
def agOps : Array Oper :=
  #[{ dst := some 28, op := Op.move (Operand.tmp 5), type := 3, pos := "law.go:244", after := #[], guard := none },
    { dst := some 29, op := Op.move (Operand.tmp 3), type := 3, pos := "law.go:244", after := #[], guard := none },
    { dst := some 30, op := Op.move (Operand.tmp 4), type := 3, pos := "law.go:244", after := #[], guard := none },
    { dst := some 31, op := Op.buildSlice 59 3 #[(0, Operand.tmp 28), (1, Operand.tmp 29), (2, Operand.tmp 30)], type := 59, pos := "law.go:244", after := #[{ on := 0, ground := Ground.data }, { on := 1, ground := Ground.data }, { on := 2, ground := Ground.data }], guard := none },
    { dst := some 32, op := Op.call { callee := Callee.value (Operand.func 24), args := #[Operand.tmp 8, Operand.const (Value.int IntKind.i64 4), Operand.tmp 31], argTypes := #[53, 3, 59] }, type := 54, pos := "law.go:244", after := #[{ on := 3, ground := Ground.data }], guard := none },
    { dst := some 33, op := Op.makeSlice 31 (Operand.const (Value.int IntKind.i64 48)) (Operand.const (Value.int IntKind.i64 48)), type := 31, pos := "law.go:244", after := #[], guard := none },
    { dst := some 34, op := Op.buildSlice 27 1 #[(0, Operand.tmp 33)], type := 27, pos := "law.go:244", after := #[{ on := 5, ground := Ground.data }], guard := none },
    { dst := some 35, op := Op.call { callee := Callee.value (Operand.func 25), args := #[Operand.tmp 32, Operand.tmp 34], argTypes := #[54, 27] }, type := 54, pos := "law.go:244", after := #[{ on := 4, ground := Ground.data }, { on := 6, ground := Ground.data }, { on := 4, ground := Ground.chain }], guard := none },
    { dst := some 36, op := Op.move (Operand.tmp 6), type := 3, pos := "law.go:244", after := #[], guard := none },
    { dst := some 37, op := Op.buildSlice 59 1 #[(0, Operand.tmp 36)], type := 59, pos := "law.go:244", after := #[{ on := 8, ground := Ground.data }], guard := none },
    { dst := some 38, op := Op.call { callee := Callee.value (Operand.func 24), args := #[Operand.tmp 35, Operand.const (Value.int IntKind.i64 4), Operand.tmp 37], argTypes := #[54, 3, 59] }, type := 54, pos := "law.go:244", after := #[{ on := 7, ground := Ground.data }, { on := 9, ground := Ground.data }, { on := 7, ground := Ground.chain }], guard := none }]
set_option maxHeartbeats 4000000 in
theorem region6 (Q : Exit → Act → World → Prop) (a0 : Act) (w0 wz : World) (a nu le z : Int) (Wb : Nat) (v : Value) (hz : 28 + 11 ≤ a0.tmps.size) (h3 : a0.tmps[3]? = some (.int .i64 nu)) (h4 : a0.tmps[4]? = some (.int .i64 le)) (h5 : a0.tmps[5]? = some (.int .i64 a)) (h6 : a0.tmps[6]? = some (.int .i64 z)) (h8 : a0.tmps[8]? = some (.pointer (some ⟨Wb, 0, none⟩)))
    (hw : WrAt wz Wb v []) (hW : w0.heap.size ≤ Wb) (hv : ∀ j, v.ownBlock = some j → w0.heap.size ≤ j) (hb : Below w0.heap.size w0 wz)
    (hQ : ∀ T w' v', WrAt w' Wb v' (agB a nu le z true true true) → Below w0.heap.size w0 w' → Q .normal { tmps := layT a0.tmps T 28 11, defers := a0.defers } w') :
    (Code.region 6 agOps true).wp Try.prog Q a0 wz := by
  refine wp_region_st (by kernel_rfl) (by decide +kernel) (fun b ac wr => ∃ v, AgS a nu le z Wb w0 a0 b ac wr v) ⟨v, StJ.start hz, hw.later (Below.refl _ wz).drew, hv, hb.drew, nofun, nofun⟩ ?_ ?_
  · rintro b ac wr hall ⟨v, h⟩
    rw [h.st.all]
    have hw := h.wt
    rw [hall 4 (by decide), hall 7 (by decide), hall 10 (by decide)] at hw
    exact hQ _ _ _ hw h.below
  · rintro b ac wr i oi hi hoi hbi hed ⟨v, h⟩
    have hi11 : i < 11 := hi
    have hi9 : i = 0 ∨ i = 1 ∨ i = 2 ∨ i = 3 ∨ i = 4 ∨ i = 5 ∨ i = 6 ∨ i = 7 ∨ i = 8 ∨ i = 9 ∨ i = 10 := by omega
    clear hi hi11
    unfold agOps at hoi ⊢
    rcases hi9 with rfl | rfl | rfl | rfl | rfl | rfl | rfl | rfl | rfl | rfl | rfl
    all_goals (cases hoi; refine wpOp_op rfl rfl (fun K hK => ?_))
    · have e := h.st.old (by omega) h5
      go_simp
      exact hK.out _ _ ⟨v, h.mk1 (Below.refl _ _) 0 28 rfl (by decide) _ rfl (by decide) (by decide) (by decide)⟩
    · have e := h.st.old (by omega) h3
      go_simp
      exact hK.out _ _ ⟨v, h.mk1 (Below.refl _ _) 1 29 rfl (by decide) _ rfl (by decide) (by decide) (by decide)⟩
    · have e := h.st.old (by omega) h4
      go_simp
      exact hK.out _ _ ⟨v, h.mk1 (Below.refl _ _) 2 30 rfl (by decide) _ rfl (by decide) (by decide) (by decide)⟩
    · obtain ⟨_, e0, rfl⟩ := h.st.got 0 (by decide) (hed ⟨0, .data⟩ (by simp) rfl)
      obtain ⟨_, e1, rfl⟩ := h.st.got 1 (by decide) (hed ⟨1, .data⟩ (by simp) rfl)
      obtain ⟨_, e2, rfl⟩ := h.st.got 2 (by decide) (hed ⟨2, .data⟩ (by simp) rfl)
      go_simp
      exact hK.out _ _ ⟨v, h.mk1 (below1 wr _) 3 31 rfl (by decide) _ ⟨_, rfl, Row.new wr _ _ rfl⟩ (by decide) (by decide) (by decide)⟩
    · obtain ⟨_, e3, g, rfl, hg⟩ := h.st.got 3 (by decide) (hed ⟨3, .data⟩ (by simp) rfl)
      have e8 := h.st.old (by omega) h8
      have b7 : b 7 = false := by cases hb : b 7 with | false => rfl | true => have := h.c7 hb; rw [hbi] at this; cases this
      have b10 : b 10 = false := by cases hb : b 10 with | false => rfl | true => have := h.c10 hb; rw [b7] at this; cases this
      have hw := h.wt
      rw [hbi, b7, b10] at hw
      have hio : IntsOff wr (Far Wb v) (.slice (some ⟨g, 0, none⟩) 3 3) [a, nu, le] := ints_row hg (fun i hi => by
        have hi3 : i < 3 := hi
        rcases i with _ | _ | _ | i
        · rfl
        · rfl
        · rfl
        · omega) (far_row h.wt hg (by decide) (by decide)) (by simp) 3 rfl
      go_simp
      refine (wint_any 4 (by decide) _ [a, nu, le] wr Wb v _ hw hio (by simp [agB])).mono ?_
      rintro en w' ⟨v', rfl, hw', hs⟩
      refine hK.out _ _ ⟨v', h.mk2 hW hs 4 32 rfl (by decide) rfl ?_ (fun _ => rfl) (fun hh => ?_)⟩
      · rw [onb_self, onb_ne b (by decide), onb_ne b (by decide), b7, b10]
        simpa [agB] using hw'
      · rw [onb_ne b (by decide), b10] at hh; cases hh
    · have hmk : (Instr.makeSlice 31 (.int .i64 48) (.int .i64 48)).run Try.prog wr = .ok (.slice (some ⟨wr.heap.size, 0, none⟩) 48 48) (wr.alloc (.cells (bytesL (zs 48)) 5)) := make_bytes 48 (by decide) wr
      go_simp
      exact hK.out _ _ ⟨v, h.mk1 (below1 wr _) 5 33 rfl (by decide) _ ⟨_, rfl, Row.new wr _ _ rfl, h.wt.far (Nat.le_refl _)⟩ (by decide) (by decide) (by decide)⟩
    · obtain ⟨_, e5, g, rfl, hg, hgf⟩ := h.st.got 5 (by decide) (hed ⟨5, .data⟩ (by simp) rfl)
      go_simp
      exact hK.out _ _ ⟨v, h.mk1 (below1 wr _) 6 34 rfl (by decide) _ ⟨_, g, rfl, Row.new wr _ _ rfl, hg.alloc _, hgf⟩ (by decide) (by decide) (by decide)⟩
    · have b4 : b 4 = true := hed ⟨4, .data⟩ (by simp) rfl
      obtain ⟨_, e4, rfl⟩ := h.st.got 4 (by decide) b4
      obtain ⟨_, e6, g, g', rfl, hg, hg', hgf⟩ := h.st.got 6 (by decide) (hed ⟨6, .data⟩ (by simp) rfl)
      have b10 : b 10 = false := by cases hb : b 10 with | false => rfl | true => have := h.c10 hb; rw [hbi] at this; cases this
      have hw := h.wt
      rw [b4, hbi, b10] at hw
      have hpo : PartsOff wr (Far Wb v) (.slice (some ⟨g, 0, none⟩) 1 1) [zs 48] := by
        refine ⟨by simp [maxLen], _, _, rfl, fun i hi => ?_⟩
        obtain rfl : i = 0 := by simpa using hi
        refine ⟨g, 0, _, rfl, far_row h.wt hg (by decide) (by decide), hg.lt, hg.cell 0, ⟨zs_w8 48, by simp [zs_len, maxLen], _, 48, rfl, fun j hj => ⟨g', 0, rfl, hgf, hg'.lt, ?_⟩⟩⟩
        rw [hg'.cell, Nat.zero_add]
        exact bytesL_at (zs 48) j hj
      go_simp
      refine (raw_any _ [zs 48] wr Wb v _ hw hpo (by simp [agB, intB_len, zs_len])).mono ?_
      rintro en w' ⟨v', rfl, hw', hs⟩
      refine hK.out _ _ ⟨v', h.mk2 hW hs 7 35 rfl (by decide) rfl ?_ (fun _ => by rw [onb_ne b (by decide)]; exact b4) (fun _ => rfl)⟩
      rw [onb_self, onb_ne b (by decide), onb_ne b (by decide), b4, b10]
      simpa [agB] using hw'
    · have e := h.st.old (by omega) h6
      go_simp
      exact hK.out _ _ ⟨v, h.mk1 (Below.refl _ _) 8 36 rfl (by decide) _ rfl (by decide) (by decide) (by decide)⟩
    · obtain ⟨_, e8, rfl⟩ := h.st.got 8 (by decide) (hed ⟨8, .data⟩ (by simp) rfl)
      go_simp
      exact hK.out _ _ ⟨v, h.mk1 (below1 wr _) 9 37 rfl (by decide) _ ⟨_, rfl, Row.new wr _ _ rfl⟩ (by decide) (by decide) (by decide)⟩
    · have b7 : b 7 = true := hed ⟨7, .data⟩ (by simp) rfl
      have b4 := h.c7 b7
      obtain ⟨_, e7, rfl⟩ := h.st.got 7 (by decide) b7
      obtain ⟨_, e9, g, rfl, hg⟩ := h.st.got 9 (by decide) (hed ⟨9, .data⟩ (by simp) rfl)
      have hw := h.wt
      rw [b4, b7, hbi] at hw
      have hio : IntsOff wr (Far Wb v) (.slice (some ⟨g, 0, none⟩) 1 1) [z] := ints_row hg (fun i hi => by
        obtain rfl : i = 0 := by simpa using hi
        rfl) (far_row h.wt hg (by decide) (by decide)) (by simp) 1 rfl
      go_simp
      refine (wint_any 4 (by decide) _ [z] wr Wb v _ hw hio (by simp [agB, intB_len, zs_len])).mono ?_
      rintro en w' ⟨v', rfl, hw', hs⟩
      refine hK.out _ _ ⟨v', h.mk2 hW hs 10 38 rfl (by decide) rfl ?_ (fun _ => by rw [onb_ne b (by decide)]; exact b4) (fun _ => by rw [onb_ne b (by decide)]; exact b7)⟩
      rw [onb_self, onb_ne b (by decide), onb_ne b (by decide), b4, b7]
      simpa [agB] using hw'
theorem agB_S {a nu le z : Nat} (ha : a < 8) (hn : nu < 8) (hl : le < 64) (hz : z < 8) : agB (a : Int) (nu : Int) (le : Int) (z : Int) true true true = agS a nu le z := by
  unfold agB agS
  simp [intB4 (show a < 4294967296 by omega), intB4 (show nu < 4294967296 by omega), intB4 (show le < 4294967296 by omega), intB4 (show z < 4294967296 by omega)]
set_option maxHeartbeats 4000000 in
theorem walAgainst_walk (x : Int × Int × Int × Int) (w : World) (_h : True) :
    Calls Try.prog 8 #[.agg #[.int .i64 x.1, .int .i64 x.2.1, .int .i64 x.2.2.1, .int .i64 x.2.2.2]] w fun e w' => e = .returned (.bool true) ∧ Below w.heap.size w w' := by
  obtain ⟨x0, x1, x2, x3⟩ := x
  obtain ⟨nu, hnu, enu⟩ := and_low x0 3 (by decide)
  obtain ⟨le, hle, ele⟩ := and_low x1 6 (by decide)
  obtain ⟨a, ha, ea⟩ := and_low x2 3 (by decide)
  obtain ⟨z, hz, ez⟩ := and_low x3 3 (by decide)
  replace enu : bits .and .i64 x0 7 = (nu : Int) := enu
  replace ele : bits .and .i64 x1 63 = (le : Int) := ele
  replace ea : bits .and .i64 x2 7 = (a : Int) := ea
  replace ez : bits .and .i64 x3 7 = (z : Int) := ez
  have HNU : Hid (nu < 8) := hnu
  have HLE : Hid (le < 64) := hle
  have HA : Hid (a < 8) := ha
  have HZ : Hid (z < 8) := hz
  clear hnu hle ha hz _h
  go_enter Try.func8, Try.ntmps8
  go_wp2_with (go_at_call 10; refine stop ?_)
  have hr0 := Row.new w #[.int .i64 x0, .int .i64 x1, .int .i64 x2, .int .i64 x3] 51 rfl
  have hb0 := below1 w (.cells #[.int .i64 x0, .int .i64 x1, .int .i64 x2, .int .i64 x3] 51)
  generalize w.alloc (.cells #[.int .i64 x0, .int .i64 x1, .int .i64 x2, .int .i64 x3] 51) = w0 at *
  refine (fit5_any w0).mono ?_
  rintro e w1 ⟨rfl, hb1'⟩
  have hr1 := hr0.later hb1'
  have hb1 := hb0.trans (hb1'.mono hb0.size)
  have c0 := hr1.cell 0
  have c1 := hr1.cell 1
  have c2 := hr1.cell 2
  have c3 := hr1.cell 3
  simp only [List.getElem?_toArray, List.getElem?_cons_zero, List.getElem?_cons_succ] at c0 c1 c2 c3
  clear hr0 hb0 hb1' hr1
  go_wp2_with fail
  refine wp_region_D (fun _ => true) (fun w' : World => (w'.cell? ⟨w.heap.size, 0, none⟩ = some (.int .i64 x0) ∧ w'.cell? ⟨w.heap.size, 1, none⟩ = some (.int .i64 x1)) ∧ w'.cell? ⟨w.heap.size, 2, none⟩ = some (.int .i64 x2) ∧ w'.cell? ⟨w.heap.size, 3, none⟩ = some (.int .i64 x3)) (by kernel_rfl) ?_
  have hS : (fun w' : World => (w'.cell? ⟨w.heap.size, 0, none⟩ = some (.int .i64 x0) ∧ w'.cell? ⟨w.heap.size, 1, none⟩ = some (.int .i64 x1)) ∧ w'.cell? ⟨w.heap.size, 2, none⟩ = some (.int .i64 x2) ∧ w'.cell? ⟨w.heap.size, 3, none⟩ = some (.int .i64 x3)) w1.drew := ⟨⟨c0, c1⟩, c2, c3⟩
  have hbd := hb1.drew
  clear c0 c1 c2 c3 hb1
  generalize w1.drew = w1 at *
  refine' wpAnyD_take (i := 0) (v := _) rfl (by kernel_rfl) (by kernel_rfl) (by kernel_rfl) (by kernel_rfl) (fun _ _ _ h => h) (Or.inl ⟨by rfl, ?hy1⟩) hS ?re1
  case hy1 => (intro w hSw; (try dsimp only at hSw); go_simp; (try with_reducible rfl))
  simp only [Act.put, List.setIfInBounds_toArray, List.set_cons_zero, List.set_cons_succ]
  refine' wpAnyD_take (i := 1) (v := _) rfl (by kernel_rfl) (by kernel_rfl) (by kernel_rfl) (by kernel_rfl) (fun _ _ _ h => h) (Or.inl ⟨by rfl, ?hy2⟩) hS ?re2
  case hy2 => (intro w hSw; (try dsimp only at hSw); go_simp; (try with_reducible rfl))
  simp only [Act.put, List.setIfInBounds_toArray, List.set_cons_zero, List.set_cons_succ]
  refine' wpAnyD_take (i := 2) (v := _) rfl (by kernel_rfl) (by kernel_rfl) (by kernel_rfl) (by kernel_rfl) (fun _ _ _ h => h) (Or.inl ⟨by rfl, ?hy3⟩) hS ?re3
  case hy3 => (intro w hSw; (try dsimp only at hSw); go_simp; (try with_reducible rfl))
  simp only [Act.put, List.setIfInBounds_toArray, List.set_cons_zero, List.set_cons_succ]
  refine' wpAnyD_take (i := 3) (v := _) rfl (by kernel_rfl) (by kernel_rfl) (by kernel_rfl) (by kernel_rfl) (fun _ _ _ h => h) (Or.inl ⟨by rfl, ?hy4⟩) hS ?re4
  case hy4 => (intro w hSw; (try dsimp only at hSw); go_simp; (try with_reducible rfl))
  simp only [Act.put, List.setIfInBounds_toArray, List.set_cons_zero, List.set_cons_succ]
  refine' wpAnyD_take (i := 4) (v := _) rfl (by kernel_rfl) (by kernel_rfl) (by kernel_rfl) (by kernel_rfl) (fun _ _ _ h => h) (Or.inl ⟨by rfl, ?hy5⟩) hS ?re5
  case hy5 => (intro w hSw; (try dsimp only at hSw); go_simp; (try with_reducible rfl))
  simp only [Act.put, List.setIfInBounds_toArray, List.set_cons_zero, List.set_cons_succ]
  refine' wpAnyD_take (i := 5) (v := _) rfl (by kernel_rfl) (by kernel_rfl) (by kernel_rfl) (by kernel_rfl) (fun _ _ _ h => h) (Or.inl ⟨by rfl, ?hy6⟩) hS ?re6
  case hy6 => (intro w hSw; (try dsimp only at hSw); go_simp; (try with_reducible rfl))
  simp only [Act.put, List.setIfInBounds_toArray, List.set_cons_zero, List.set_cons_succ]
  refine' wpAnyD_take (i := 6) (v := _) rfl (by kernel_rfl) (by kernel_rfl) (by kernel_rfl) (by kernel_rfl) (fun _ _ _ h => h) (Or.inl ⟨by rfl, ?hy7⟩) hS ?re7
  case hy7 => (intro w hSw; (try dsimp only at hSw); go_simp; (try with_reducible rfl))
  simp only [Act.put, List.setIfInBounds_toArray, List.set_cons_zero, List.set_cons_succ]
  refine' wpAnyD_take (i := 7) (v := _) rfl (by kernel_rfl) (by kernel_rfl) (by kernel_rfl) (by kernel_rfl) (fun _ _ _ h => h) (Or.inl ⟨by rfl, ?hy8⟩) hS ?re8
  case hy8 => (intro w hSw; (try dsimp only at hSw); go_simp; (try with_reducible rfl))
  simp only [Act.put, List.setIfInBounds_toArray, List.set_cons_zero, List.set_cons_succ]
  refine' wpAnyD_take (i := 8) (v := _) rfl (by kernel_rfl) (by kernel_rfl) (by kernel_rfl) (by kernel_rfl) (fun _ _ _ h => h) (Or.inl ⟨by rfl, ?hy9⟩) hS ?re9
  case hy9 => (intro w hSw; (try dsimp only at hSw); go_simp; (try with_reducible rfl))
  simp only [Act.put, List.setIfInBounds_toArray, List.set_cons_zero, List.set_cons_succ]
  refine' wpAnyD_take (i := 9) (v := _) rfl (by kernel_rfl) (by kernel_rfl) (by kernel_rfl) (by kernel_rfl) (fun _ _ _ h => h) (Or.inl ⟨by rfl, ?hy10⟩) hS ?re10
  case hy10 => (intro w hSw; (try dsimp only at hSw); go_simp; (try with_reducible rfl))
  simp only [Act.put, List.setIfInBounds_toArray, List.set_cons_zero, List.set_cons_succ]
  refine' wpAnyD_take (i := 10) (v := _) rfl (by kernel_rfl) (by kernel_rfl) (by kernel_rfl) (by kernel_rfl) (fun _ _ _ h => h) (Or.inl ⟨by rfl, ?hy11⟩) hS ?re11
  case hy11 => (intro w hSw; (try dsimp only at hSw); go_simp; (try with_reducible rfl))
  simp only [Act.put, List.setIfInBounds_toArray, List.set_cons_zero, List.set_cons_succ]
  refine' wpAnyD_take (i := 11) (v := _) rfl (by kernel_rfl) (by kernel_rfl) (by kernel_rfl) (by kernel_rfl) (fun _ _ _ h => h) (Or.inl ⟨by rfl, ?hy12⟩) hS ?re12
  case hy12 => (intro w hSw; (try dsimp only at hSw); go_simp; (try with_reducible rfl))
  simp only [Act.put, List.setIfInBounds_toArray, List.set_cons_zero, List.set_cons_succ]
  refine' wpAnyD_take (i := 12) (v := _) rfl (by kernel_rfl) (by kernel_rfl) (by kernel_rfl) (by kernel_rfl) (fun _ _ _ h => h) (Or.inl ⟨by rfl, ?hy13⟩) hS ?re13
  case hy13 => (intro w hSw; (try dsimp only at hSw); go_simp; (try with_reducible rfl))
  simp only [Act.put, List.setIfInBounds_toArray, List.set_cons_zero, List.set_cons_succ]
  refine' wpAnyD_take (i := 13) (v := _) rfl (by kernel_rfl) (by kernel_rfl) (by kernel_rfl) (by kernel_rfl) (fun _ _ _ h => h) (Or.inl ⟨by rfl, ?hy14⟩) hS ?re14
  case hy14 => (intro w hSw; (try dsimp only at hSw); go_simp; (try with_reducible rfl))
  simp only [Act.put, List.setIfInBounds_toArray, List.set_cons_zero, List.set_cons_succ]
  refine' wpAnyD_take (i := 14) (v := _) rfl (by kernel_rfl) (by kernel_rfl) (by kernel_rfl) (by kernel_rfl) (fun _ _ _ h => h) (Or.inl ⟨by rfl, ?hy15⟩) hS ?re15
  case hy15 => (intro w hSw; (try dsimp only at hSw); go_simp; (try with_reducible rfl))
  simp only [Act.put, List.setIfInBounds_toArray, List.set_cons_zero, List.set_cons_succ]
  refine' wpAnyD_take (i := 15) (v := _) rfl (by kernel_rfl) (by kernel_rfl) (by kernel_rfl) (by kernel_rfl) (fun _ _ _ h => h) (Or.inl ⟨by rfl, ?hy16⟩) hS ?re16
  case hy16 => (intro w hSw; (try dsimp only at hSw); go_simp; (try with_reducible rfl))
  simp only [Act.put, List.setIfInBounds_toArray, List.set_cons_zero, List.set_cons_succ]
  refine wpAnyD_done (by kernel_rfl) ?_ _
  clear hS
  go_wp2_with (go_at_call 11; refine stop ?_)
  refine (new_any 4 (by omega) (by omega) w1).mono ?_
  rintro e w2 ⟨R, S, rfl, hd, hb, hR, hS⟩
  have m2 := Mine.new hbd hd hb hR hS
  clear hd hb hR hS hbd
  go_wp2_with fail
  have wt0 : WrAt (w2.alloc (.cells #[.slice none 0 0] 53)) w2.heap.size (.slice none 0 0) [] := ⟨Row.new w2 _ _ rfl, World.ownsRow_nil _ _ _ _, fun x hx => by cases hx⟩
  have hb0 := below1 w2 (.cells #[.slice none 0 0] 53)
  refine region6 _ _ w2 _ (a : Int) (nu : Int) (le : Int) (z : Int) w2.heap.size (.slice none 0 0) (by simp) rfl rfl rfl rfl rfl wt0 (Nat.le_refl _) (fun k hk => by cases hk) hb0 ?_
  rintro T w3 v3 hw3 hB3
  rw [agB_S HA.out HNU.out HLE.out HZ.out] at hw3
  simp only [layT, List.setIfInBounds_toArray, List.set_cons_zero, List.set_cons_succ]
  have m3 := m2.later hB3
  clear wt0 hb0 hB3 m2
  generalize w2.heap.size = Wb at *
  go_wp2_with (go_at_call 26; refine stop ?_)
  refine (wbytes_any w3 Wb v3 _ hw3 (by rw [agS_len]; decide)).mono ?_
  rintro e w4 ⟨v4, rfl, ho4, hb4⟩
  have m4 := m3.later hb4
  have hu4 := ho4.bytes (agS_w8 _ _ _ _) (by rw [agS_len]; decide)
  clear hw3 hb4 m3
  go_wp2_with (go_at_call 19; refine stop ?_)
  refine (write_any 0 _ (agS a nu le z) w4 R S _ _ m4.dk hu4 (by decide) (by rw [agS_len]; decide) rfl (by decide) (by decide)).mono ?_
  rintro e w5 ⟨v5, rfl, hD5, hs5⟩
  have m5 := m4.step hD5 hs5
  clear m4 hD5 hs5 hu4 ho4
  go_wp2_with (go_at_call 20; refine stop ?_)
  refine (flush_any w5 R S _ _ m5.dk rfl).mono ?_
  rintro e w6 ⟨rfl, hD6, hs6⟩
  have ok5 := m5.dk.ok
  have m6 : Mine w w6 R S _ ((Dk.new 4).put 0 (agS a nu le z)).flushed := m5.step hD6 hs6
  clear m5 hD6 hs6
  go_wp2_with (go_at_call 12; refine stop ?_)
  refine (open_c w w6 R S _ _ m6 rfl (show 0 + 4 < 1000 by decide) (show 0 + 1 + 4 < 1000000 by decide)).mono ?_
  rintro e w7 ⟨W7, u7, v7, st7, L7, e7, d7, rfl, hrl, lw7, _, hL7, _, _, _, _⟩
  have hBw := lw7.mine.below
  obtain ⟨pf, nf, cf, rfl, hnf⟩ := hL7.form
  have hcur : ∀ i, i < 4 → ((Dk.new 4).put 0 (agS a nu le z)).flushed.cur i = if 0 = i then agS a nu le z else zs 64 := fun i hi => by
    rw [flushed_cur ok5 hi, put_cur]
    by_cases c : 0 = i
    · rw [if_pos c, if_pos c]
      unfold pad
      rw [agS_len]
      simp [zs]
    · rw [if_neg c, if_neg c]
      exact new_cur 4 i hi
  have hcase := ag_rl (by rw [curs_len]; rfl) (by rw [curs_getD _ (show 0 < ((Dk.new 4).put 0 (agS a nu le z)).flushed.n from (by decide : 0 < 4)), hcur 0 (by decide), if_pos rfl]) (fun i h1 h2 => by rw [curs_getD _ (show i < ((Dk.new 4).put 0 (agS a nu le z)).flushed.n from h2), hcur i h2, if_neg (by omega)]) HA.out HNU.out HLE.out HZ.out hrl
  clear hrl hcur ok5 m6 lw7
  have a0 : (0 : Int) ≤ (a : Int) := by omega
  have le0 : (0 : Int) ≤ (le : Int) := by omega
  rcases hcase with ⟨⟨rfl, ha0, hnu, hle⟩, x, rfl, hx⟩ | ⟨hno, rfl⟩
  · obtain ⟨g, cap, u, hpf, hcu, hbu⟩ := hL7.at (i := 0) (Nat.zero_lt_one)
    cases hpf
    obtain ⟨_, _, px, cx, rfl, _⟩ := id hbu
    have hxl : ([x].getD 0 []).length = le := hx
    rw [hxl] at hcu
    have nu1 : (nu : Int) = 1 := by omega
    have ha : (0 : Int) < (a : Int) := by omega
    have hl : (le : Int) ≤ 48 := by omega
    clear hbu hL7 hxl hnu hle ha0 hx
    go_wp2
    go_ret
    exact ⟨rfl, hBw⟩
  · obtain rfl : nf = 0 := hnf
    clear hL7
    by_cases h1 : a = z
    · subst h1
      by_cases h2 : 0 < a
      · have h2' : (0 : Int) < (a : Int) := by omega
        by_cases h3 : nu = 1
        · have h4 : (48 : Int) < (le : Int) := by
            have : ¬ le ≤ 48 := fun hc => hno ⟨rfl, h2, h3, hc⟩
            omega
          have h3' : (nu : Int) = 1 := by omega
          clear hno h3 h2
          go_wp2
          go_ret
          exact ⟨rfl, hBw⟩
        · have h3' : ((nu : Int) == 1) = false := by simp; omega
          clear hno h3 h2
          go_wp2
          go_ret
          exact ⟨rfl, hBw⟩
      · have h2' : (a : Int) ≤ 0 := by omega
        clear hno h2
        go_wp2
        go_ret
        exact ⟨rfl, hBw⟩
    · have h1' : ((a : Int) == (z : Int)) = false := by simp; omega
      clear hno h1
      go_wp2
      go_ret
      exact ⟨rfl, hBw⟩
end Go.Proofs.Ytfhaphbfbmpbiaa
