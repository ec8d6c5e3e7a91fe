
/-
  ShTapes, the body of its range: what is told is what was wanted (a region that draws its order, in a round).
-/
import Derived.Test.YtmmnlgcpiljdbaaDoorStI
import Derived.Test.YtmmnlgcpiljdbaaDoorShTq
set_option maxRecDepth 100000
namespace Go.Proofs.YtmmnlgcpiljdbaaDoor
open Go.RowKit
set_option linter.unusedVariables false
set_option linter.unusedSimpArgs false
/-- The region's operations, as the program has them. -/
def tpOps : Array Oper :=
  #[{ dst := some 67, op := Op.load 3 (Operand.tmp 11), type := 3, pos := "law.go:70", after := #[], guard := none },
    { dst := some 68, op := Op.load 33 (Operand.tmp 6), type := 33, pos := "law.go:70", after := #[], guard := none },
    { dst := some 69, op := Op.call { callee := Callee.builtin Builtin.len, args := #[Operand.tmp 68], argTypes := #[33] }, type := 3, pos := "law.go:70", after := #[{ on := 1, ground := Ground.data }], guard := none },
    { dst := some 70, op := Op.binOp BinOp.geq 3 (Operand.tmp 67) (Operand.tmp 69) 3, type := 4, pos := "law.go:70", after := #[{ on := 0, ground := Ground.data }, { on := 2, ground := Ground.data }], guard := none },
    { dst := some 71, op := Op.move (Operand.tmp 70), type := 4, pos := "law.go:70", after := #[{ on := 3, ground := Ground.data }], guard := none },
    { dst := some 72, op := Op.move (Operand.tmp 12), type := 22, pos := "law.go:70", after := #[{ on := 4, ground := Ground.guard }], guard := some (4, false) },
    { dst := some 73, op := Op.convert 22 9 (Operand.tmp 72), type := 9, pos := "law.go:70", after := #[{ on := 5, ground := Ground.data }, { on := 4, ground := Ground.guard }], guard := some (4, false) },
    { dst := some 74, op := Op.load 33 (Operand.tmp 6), type := 33, pos := "law.go:70", after := #[{ on := 4, ground := Ground.guard }], guard := some (4, false) },
    { dst := some 75, op := Op.load 3 (Operand.tmp 11), type := 3, pos := "law.go:70", after := #[{ on := 4, ground := Ground.guard }], guard := some (4, false) },
    { dst := some 76, op := Op.indexAddr 33 (Operand.tmp 74) (Operand.tmp 75), type := 0, pos := "law.go:70", after := #[{ on := 7, ground := Ground.data }, { on := 8, ground := Ground.data }, { on := 4, ground := Ground.guard }], guard := some (4, false) },
    { dst := some 77, op := Op.load 9 (Operand.tmp 76), type := 9, pos := "law.go:70", after := #[{ on := 9, ground := Ground.data }, { on := 4, ground := Ground.guard }], guard := some (4, false) },
    { dst := some 78, op := Op.binOp BinOp.neq 9 (Operand.tmp 73) (Operand.tmp 77) 9, type := 4, pos := "law.go:70", after := #[{ on := 6, ground := Ground.data }, { on := 10, ground := Ground.data }, { on := 4, ground := Ground.guard }], guard := some (4, false) },
    { dst := some 79, op := Op.pick (Operand.tmp 71) (Operand.const (Value.bool true)) (Operand.tmp 78), type := 4, pos := "law.go:70", after := #[{ on := 4, ground := Ground.data }, { on := 11, ground := Ground.data }], guard := none }]
def tpV (m k g o c : Nat) (u : Value) (l : List Nat) : Nat → Value
  | 0 => .int .i64 (m : Nat)
  | 1 => .slice (some ⟨g, o, none⟩) k c
  | 2 => .int .i64 (k : Nat)
  | 3 => .bool false
  | 4 => .bool false
  | 5 => u
  | 6 => .string (strL l)
  | 7 => .slice (some ⟨g, o, none⟩) k c
  | 8 => .int .i64 (m : Nat)
  | 9 => .pointer (some ⟨g, o + m, none⟩)
  | 10 => .string (strL l)
  | 11 => .bool false
  | 12 => .bool false
  | _ => undef
set_option maxHeartbeats 4000000 in
theorem region26 {F : Fence} {n : Nat} (hF : ∀ f, F.fn f) (Q : Exit → Act → World → Prop) (a0 : Act) (W : World) (m k g o c b6 b7 : Nat) (u : Value) (l : List Nat) (hz : 67 + 13 ≤ a0.tmps.size)
    (h6 : a0.tmps[6]? = some (.pointer (some ⟨b6, 0, none⟩))) (h11 : a0.tmps[11]? = some (.pointer (some ⟨b7, 0, none⟩))) (h12 : a0.tmps[12]? = some u)
    (c7 : W.cell? ⟨b7, 0, none⟩ = some (.int .i64 (m : Nat))) (c6 : W.cell? ⟨b6, 0, none⟩ = some (.slice (some ⟨g, o, none⟩) k c)) (hmk : m < k) (hk : k ≤ 1000) (hs : W.cell? ⟨g, o + m, none⟩ = some (.string (strL l))) (hu : BytesAt W u l)
    (hQ : ∀ T : Array Value, T.getD 79 undef = .bool false → Q .normal { tmps := layT a0.tmps T 67 13, defers := a0.defers } W.drew) :
    (Code.region 26 tpOps true).wpIn F n Tryd.prog Q a0 W := by
  obtain ⟨hu8, hum, pu, cu, rfl, _⟩ := id hu
  have c7 : W.drew.cell? ⟨b7, 0, none⟩ = some (.int .i64 (m : Nat)) := c7
  have c6 : W.drew.cell? ⟨b6, 0, none⟩ = some (.slice (some ⟨g, o, none⟩) k c) := c6
  have hs : W.drew.cell? ⟨g, o + m, none⟩ = some (.string (strL l)) := hs
  have hcv := conv_str (hu.later (Below.refl W.heap.size W).drew)
  have q1 : (m : Int) < (k : Int) := by omega
  have q2 : (0 : Int) ≤ (m : Int) := by omega
  have q3 : (k : Int) ≤ 1000 := by omega
  refine wpIn_region_st (by kernel_rfl) (by decide +kernel) (fun b ac wr => wr = W.drew ∧ StJ (fun j x => x = tpV m k g o c (.slice pu l.length cu) l j) 67 13 a0 ac b) ⟨rfl, StJ.start hz⟩ ?_ ?_
  · rintro b ac wr hall ⟨rfl, h⟩
    obtain ⟨_, e, rfl⟩ := h.got 12 (by decide) (hall 12 (by decide))
    have e : ac.tmps[79]? = some (.bool false) := e
    rw [h.all]
    exact hQ _ (by simp [Array.getD_eq_getD_getElem?, e])
  · rintro b ac wr i oi hi hoi hbi hed ⟨rfl, h⟩
    have hi13 : i < 13 := hi
    have hi9 : i = 0 ∨ i = 1 ∨ i = 2 ∨ i = 3 ∨ i = 4 ∨ i = 5 ∨ i = 6 ∨ i = 7 ∨ i = 8 ∨ i = 9 ∨ i = 10 ∨ i = 11 ∨ i = 12 := by omega
    clear hi hi13
    generalize W.drew = wd at *
    unfold tpOps at hoi ⊢
    rcases hi9 with rfl | rfl | rfl | rfl | rfl | rfl | rfl | rfl | rfl | rfl | rfl | rfl | rfl
    all_goals cases hoi
    · have o11 := h.old (k := 11) (by omega) h11
      refine wpOpIn_val (v := .int .i64 (m : Nat)) rfl rfl hF (fun c hc => by cases hc) ?_ ⟨rfl, h.put 0 (by decide) 67 rfl _ rfl⟩
      go_simp
      try rfl
    · have o6 := h.old (k := 6) (by omega) h6
      refine wpOpIn_val (v := .slice (some ⟨g, o, none⟩) k c) rfl rfl hF (fun c hc => by cases hc) ?_ ⟨rfl, h.put 1 (by decide) 68 rfl _ rfl⟩
      go_simp
      try rfl
    · obtain ⟨_, e1, rfl⟩ := h.got 1 (by decide) (hed ⟨1, .data⟩ (by simp) rfl)
      replace e1 : ac.tmps[68]? = some (.slice (some ⟨g, o, none⟩) k c) := e1
      refine wpOpIn_val (v := .int .i64 (k : Nat)) rfl rfl hF (fun c hc => by cases hc) ?_ ⟨rfl, h.put 2 (by decide) 69 rfl _ rfl⟩
      go_simp
      try rfl
    · obtain ⟨_, e0, rfl⟩ := h.got 0 (by decide) (hed ⟨0, .data⟩ (by simp) rfl)
      replace e0 : ac.tmps[67]? = some (.int .i64 (m : Nat)) := e0
      obtain ⟨_, e2, rfl⟩ := h.got 2 (by decide) (hed ⟨2, .data⟩ (by simp) rfl)
      replace e2 : ac.tmps[69]? = some (.int .i64 (k : Nat)) := e2
      refine wpOpIn_val (v := .bool false) rfl rfl hF (fun c hc => by cases hc) ?_ ⟨rfl, h.put 3 (by decide) 70 rfl _ rfl⟩
      go_simp
      try rfl
    · obtain ⟨_, e3, rfl⟩ := h.got 3 (by decide) (hed ⟨3, .data⟩ (by simp) rfl)
      replace e3 : ac.tmps[70]? = some (.bool false) := e3
      refine wpOpIn_val (v := .bool false) rfl rfl hF (fun c hc => by cases hc) ?_ ⟨rfl, h.put 4 (by decide) 71 rfl _ rfl⟩
      go_simp
      try rfl
    · have o12 := h.old (k := 12) (by omega) h12
      obtain ⟨_, g4, rfl⟩ := h.got 4 (by decide) (hed ⟨4, .guard⟩ (by simp) rfl)
      replace g4 : ac.tmps[71]? = some (.bool false) := g4
      refine wpOpIn_val (v := .slice pu l.length cu) rfl (by simp [Region.wanted, yielded, g4]) hF (fun c hc => by cases hc) ?_ ⟨rfl, h.put 5 (by decide) 72 rfl _ rfl⟩
      go_simp
      try rfl
    · obtain ⟨_, e5, rfl⟩ := h.got 5 (by decide) (hed ⟨5, .data⟩ (by simp) rfl)
      replace e5 : ac.tmps[72]? = some (.slice pu l.length cu) := e5
      obtain ⟨_, g4, rfl⟩ := h.got 4 (by decide) (hed ⟨4, .guard⟩ (by simp) rfl)
      replace g4 : ac.tmps[71]? = some (.bool false) := g4
      refine wpOpIn_val (v := .string (strL l)) rfl (by simp [Region.wanted, yielded, g4]) hF (fun c hc => by cases hc) ?_ ⟨rfl, h.put 6 (by decide) 73 rfl _ rfl⟩
      go_simp
      try rfl
    · have o6 := h.old (k := 6) (by omega) h6
      obtain ⟨_, g4, rfl⟩ := h.got 4 (by decide) (hed ⟨4, .guard⟩ (by simp) rfl)
      replace g4 : ac.tmps[71]? = some (.bool false) := g4
      refine wpOpIn_val (v := .slice (some ⟨g, o, none⟩) k c) rfl (by simp [Region.wanted, yielded, g4]) hF (fun c hc => by cases hc) ?_ ⟨rfl, h.put 7 (by decide) 74 rfl _ rfl⟩
      go_simp
      try rfl
    · have o11 := h.old (k := 11) (by omega) h11
      obtain ⟨_, g4, rfl⟩ := h.got 4 (by decide) (hed ⟨4, .guard⟩ (by simp) rfl)
      replace g4 : ac.tmps[71]? = some (.bool false) := g4
      refine wpOpIn_val (v := .int .i64 (m : Nat)) rfl (by simp [Region.wanted, yielded, g4]) hF (fun c hc => by cases hc) ?_ ⟨rfl, h.put 8 (by decide) 75 rfl _ rfl⟩
      go_simp
      try rfl
    · obtain ⟨_, e7, rfl⟩ := h.got 7 (by decide) (hed ⟨7, .data⟩ (by simp) rfl)
      replace e7 : ac.tmps[74]? = some (.slice (some ⟨g, o, none⟩) k c) := e7
      obtain ⟨_, e8, rfl⟩ := h.got 8 (by decide) (hed ⟨8, .data⟩ (by simp) rfl)
      replace e8 : ac.tmps[75]? = some (.int .i64 (m : Nat)) := e8
      obtain ⟨_, g4, rfl⟩ := h.got 4 (by decide) (hed ⟨4, .guard⟩ (by simp) rfl)
      replace g4 : ac.tmps[71]? = some (.bool false) := g4
      refine wpOpIn_val (v := .pointer (some ⟨g, o + m, none⟩)) rfl (by simp [Region.wanted, yielded, g4]) hF (fun c hc => by cases hc) ?_ ⟨rfl, h.put 9 (by decide) 76 rfl _ rfl⟩
      go_simp
      try rfl
    · obtain ⟨_, e9, rfl⟩ := h.got 9 (by decide) (hed ⟨9, .data⟩ (by simp) rfl)
      replace e9 : ac.tmps[76]? = some (.pointer (some ⟨g, o + m, none⟩)) := e9
      obtain ⟨_, g4, rfl⟩ := h.got 4 (by decide) (hed ⟨4, .guard⟩ (by simp) rfl)
      replace g4 : ac.tmps[71]? = some (.bool false) := g4
      refine wpOpIn_val (v := .string (strL l)) rfl (by simp [Region.wanted, yielded, g4]) hF (fun c hc => by cases hc) ?_ ⟨rfl, h.put 10 (by decide) 77 rfl _ rfl⟩
      go_simp
      try rfl
    · obtain ⟨_, e6, rfl⟩ := h.got 6 (by decide) (hed ⟨6, .data⟩ (by simp) rfl)
      replace e6 : ac.tmps[73]? = some (.string (strL l)) := e6
      obtain ⟨_, e10, rfl⟩ := h.got 10 (by decide) (hed ⟨10, .data⟩ (by simp) rfl)
      replace e10 : ac.tmps[77]? = some (.string (strL l)) := e10
      obtain ⟨_, g4, rfl⟩ := h.got 4 (by decide) (hed ⟨4, .guard⟩ (by simp) rfl)
      replace g4 : ac.tmps[71]? = some (.bool false) := g4
      refine wpOpIn_val (v := .bool false) rfl (by simp [Region.wanted, yielded, g4]) hF (fun c hc => by cases hc) ?_ ⟨rfl, h.put 11 (by decide) 78 rfl _ rfl⟩
      go_simp
      try rfl
    · obtain ⟨_, e4, rfl⟩ := h.got 4 (by decide) (hed ⟨4, .data⟩ (by simp) rfl)
      replace e4 : ac.tmps[71]? = some (.bool false) := e4
      obtain ⟨_, e11, rfl⟩ := h.got 11 (by decide) (hed ⟨11, .data⟩ (by simp) rfl)
      replace e11 : ac.tmps[78]? = some (.bool false) := e11
      refine wpOpIn_val (v := .bool false) rfl rfl hF (fun c hc => by cases hc) ?_ ⟨rfl, h.put 12 (by decide) 79 rfl _ rfl⟩
      go_simp
      try rfl
end Go.Proofs.YtmmnlgcpiljdbaaDoor
