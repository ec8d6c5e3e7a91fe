
/-
  Rows of cells and of bytes in memory; append of bytes; bytes as a string. Laws over any world, for all bytes. (My own texts of the stage before, over this seat's types.)
-/
import Derived.Test.YtfhaphbfbmpbiaaByt
import Derived.Laws.BitsAllLaws
import Derived.Laws.Rows
import Derived.Laws.MakeOwn
import Derived.Lib.AppendZeros
import Derived.Deep.Upon
import Derived.Maps.AppendAt
import Derived.ChangeKeysEq
import Derived.Laws.StructEq
import Derived.Laws.BytesArg
namespace Go.Proofs.Ytfhaphbfbmpbiaa
open Go.RowKit

theorem under_byte : Try.prog.underlying 5 = some (.int .u8) := by kernel_rfl
def bytesL (l : List Nat) : Array Value := (l.map fun x : Nat => Value.int .u8 (x : Int)).toArray
theorem bytesL_size (l : List Nat) : (bytesL l).size = l.length := by simp [bytesL]
theorem bytesL_at (l : List Nat) (i : Nat) (h : i < l.length) : (bytesL l)[i]? = some (.int .u8 (l.getD i 0 : Nat)) := by simp [bytesL, h]
theorem bytesL_set (l : List Nat) (i x : Nat) : (bytesL l).setIfInBounds i (.int .u8 (x : Nat)) = bytesL (l.set i x) := by
  simp [bytesL, List.map_set]
theorem bytesL_one (l : List Nat) : (bytesL l).all (·.oneCell') = true := by
  rw [Array.all_eq_true_iff_forall_mem]
  intro v hv
  simp [bytesL] at hv
  obtain ⟨x, _, rfl⟩ := hv
  rfl
def W8 (l : List Nat) : Prop := ∀ x ∈ l, x < 256
theorem getD_mem_or (l : List Nat) (i : Nat) : l.getD i 0 ∈ l ∨ l.getD i 0 = 0 := by
  rcases Nat.lt_or_ge i l.length with h | h
  · left; simp [List.getD, h]
  · right; simp [List.getD, List.getElem?_eq_none h]
theorem W8.at {l : List Nat} (h : W8 l) (i : Nat) : l.getD i 0 < 256 := by
  rcases getD_mem_or l i with e | e
  · exact h _ e
  · rw [e]; decide
theorem W8.set {l : List Nat} (h : W8 l) (i : Nat) {x : Nat} (hx : x < 256) : W8 (l.set i x) := by
  intro y hy
  rcases List.mem_or_eq_of_mem_set hy with e | e
  · exact h _ e
  · rw [e]; exact hx
/-- A block that is a row of cells. -/
def Row (w : World) (b : Nat) (cs : Array Value) (t : TypeId) : Prop := w.heap[b]? = some (.cells cs t (0, 0))
theorem Row.lt {w : World} {b : Nat} {cs : Array Value} {t : TypeId} (h : Row w b cs t) : b < w.heap.size := (Array.getElem?_eq_some_iff.1 h).1
theorem Row.cell {w : World} {b : Nat} {cs : Array Value} {t : TypeId} (h : Row w b cs t) (i : Nat) : w.cell? ⟨b, i, none⟩ = cs[i]? := cell_of_row w b i cs t _ h
theorem Row.frozen {w : World} {b : Nat} {cs : Array Value} {t : TypeId} (h : Row w b cs t) (i : Nat) : w.frozen? ⟨b, i, none⟩ = false := frozen_of_row w b i cs t h
theorem Row.later {w w1 : World} {b : Nat} {cs : Array Value} {t : TypeId} (h : Row w b cs t) (hb : Below w.heap.size w w1) : Row w1 b cs t :=
  (hb.block b h.lt).trans h
theorem Row.set {w : World} {b : Nat} {cs : Array Value} {t : TypeId} (h : Row w b cs t) (i : Nat) (v : Value) : Row (w.setCell ⟨b, i, none⟩ v) b (cs.setIfInBounds i v) t := heap_setCell_same w b i cs t v h
theorem Row.setOther {w : World} {b : Nat} {cs : Array Value} {t : TypeId} (h : Row w b cs t) {a : Addr} (v : Value) (hne : b ≠ a.block) : Row (w.setCell a v) b cs t := (heap_setCell_other w a b v hne).trans h
theorem Row.new (w : World) (cs : Array Value) (t : TypeId) {b : Nat} (hb : b = w.heap.size) : Row (w.alloc (.cells cs t)) b cs t := by subst hb; exact heap_alloc_new w _
theorem Row.alloc {w : World} {b : Nat} {cs : Array Value} {t : TypeId} (h : Row w b cs t) (o : Obj) : Row (w.alloc o) b cs t := (heap_alloc_old w o h.lt).trans h
theorem Row.drew {w : World} {b : Nat} {cs : Array Value} {t : TypeId} (h : Row w b cs t) : Row w.drew b cs t := h
theorem Row.setRow {w : World} {b : Nat} {cs : Array Value} {t : TypeId} (h : Row w b cs t) (ds : Array Value) : Row (w.setRow b ds) b ds t := setRow_heap w b cs ds t _ h
theorem Row.setRowOther {w : World} {b : Nat} {cs : Array Value} {t : TypeId} (h : Row w b cs t) {g : Nat} (ds : Array Value) (hne : b ≠ g) : Row (w.setRow g ds) b cs t := (setRow_other w g b ds hne).trans h
theorem Below.row {B : Nat} {w w1 : World} (h : Below B w w1) {g : Nat} (ds : Array Value) (hg : B ≤ g) : Below B w (w1.setRow g ds) :=
  h.trans ⟨rfl, rfl, rfl, by simp [World.setRow], fun k hk => setRow_other w1 g k ds (by omega)⟩
theorem below_drewN {B : Nat} {w w1 : World} (h : Below B w w1) (n : Nat) : Below B w (w1.drewN n) := ⟨h.os, h.tape, h.output, h.size, h.block⟩
theorem info_u8' : ∃ i, Try.prog.info? 5 = some i ∧ i.zero = some (.int .u8 0) ∧ i.size = 1 ∧ i.bytes = 1 := by
  cases hi : Try.prog.info? 5 with
  | none => have h := info_u8; rw [hi] at h; cases h
  | some i =>
    have h := info_u8
    rw [hi] at h
    have h' : (i.zero, i.size, i.bytes) = (some (.int .u8 0), 1, 1) := Option.some.inj h
    exact ⟨i, rfl, congrArg (·.1) h', congrArg (·.2.1) h', congrArg (·.2.2) h'⟩
theorem made_bytes (n : Nat) : madeCells (Value.int .u8 0).cells n = bytesL (List.replicate n 0) := by
  have e : ∀ x, (Value.int .u8 0).cells[x % (Value.int .u8 0).cells.size]! = .int .u8 0 := fun x => by show (#[Value.int .u8 0])[x % 1]! = _; rw [Nat.mod_one]; rfl
  unfold madeCells bytesL
  simp only [e]
  apply Array.ext
  · simp
  · intro i h1 h2; simp
theorem make_bytes (n : Nat) (hn : n ≤ 1048576) (w : World) : (Instr.makeSlice 31 (.int .i64 n) (.int .i64 n)).run Try.prog w = .ok (.slice (some ⟨w.heap.size, 0, none⟩) n n) (w.alloc (.cells (bytesL (List.replicate n 0)) 5)) := by
  obtain ⟨i, hi, z0, z1, z2⟩ := info_u8'
  have e := run_makeSlice (P := Try.prog) w 31 5 i _ (by kernel_rfl) hi z0 .i64 .i64 n n (by omega) (by omega) (by rw [z1]; omega) (by rw [z2]; omega) (by omega)
  rw [z1, Int.toNat_natCast, Nat.mul_one, made_bytes] at e
  exact e
/-- A slice value with these bytes. -/
def BytesAt (w : World) (v : Value) (l : List Nat) : Prop :=
  W8 l ∧ l.length ≤ maxLen ∧ ∃ p c, v = .slice p l.length c ∧ ∀ i, i < l.length → ∃ b off, p = some ⟨b, off, none⟩ ∧ b < w.heap.size ∧ w.cell? ⟨b, off + i, none⟩ = some (.int .u8 (l.getD i 0 : Nat))
theorem BytesAt.later {w w1 : World} {v : Value} {l : List Nat} (h : BytesAt w v l) (hb : Below w.heap.size w w1) : BytesAt w1 v l := by
  obtain ⟨h1, h2, p, c, e, h⟩ := h
  refine ⟨h1, h2, p, c, e, fun i hi => ?_⟩
  obtain ⟨b, off, e, hlt, hc⟩ := h i hi
  exact ⟨b, off, e, Nat.lt_of_lt_of_le hlt hb.size, (hb.cell (p := ⟨b, off + i, none⟩) hlt).trans hc⟩
theorem BytesAt.below {B : World} {w1 : World} {v : Value} {l : List Nat} (h : BytesAt B v l) (hb : Below B.heap.size B w1) : BytesAt w1 v l := h.later hb
/-- A slice of such. -/
def PartsAt (w : World) (v : Value) (L : List (List Nat)) : Prop :=
  L.length ≤ maxLen ∧ ∃ p c, v = .slice p L.length c ∧ ∀ i, i < L.length → ∃ b off u, p = some ⟨b, off, none⟩ ∧ b < w.heap.size ∧ w.cell? ⟨b, off + i, none⟩ = some u ∧ BytesAt w u (L.getD i [])
theorem PartsAt.later {w w1 : World} {v : Value} {L : List (List Nat)} (h : PartsAt w v L) (hb : Below w.heap.size w w1) : PartsAt w1 v L := by
  obtain ⟨h2, p, c, e, h⟩ := h
  refine ⟨h2, p, c, e, fun i hi => ?_⟩
  obtain ⟨b, off, u, e, hlt, hc, hu⟩ := h i hi
  exact ⟨b, off, u, e, Nat.lt_of_lt_of_le hlt hb.size, (hb.cell (p := ⟨b, off + i, none⟩) hlt).trans hc, hu.later hb⟩
theorem Row.bytes {w : World} {b : Nat} {l : List Nat} {t : TypeId} (h : Row w b (bytesL l) t) (hw : W8 l) (hl : l.length ≤ maxLen) (n c : Nat) (hn : n = l.length) : BytesAt w (.slice (some ⟨b, 0, none⟩) n c) l := by
  subst hn
  exact ⟨hw, hl, _, _, rfl, fun i hi => ⟨b, 0, rfl, h.lt, by rw [h.cell, Nat.zero_add]; exact bytesL_at _ i hi⟩⟩
theorem parts0 (w : World) : PartsAt w (.slice none 0 0) [] := ⟨Nat.zero_le _, none, 0, rfl, fun i hi => by simp at hi⟩
theorem parts1 (w : World) {u : Value} {l : List Nat} (t : TypeId) (h : BytesAt w u l) (c : Nat) : PartsAt (w.alloc (.cells #[u] t)) (.slice (some ⟨w.heap.size, 0, none⟩) 1 c) [l] :=
  ⟨by simp [maxLen], _, _, rfl, fun i hi => by
    obtain rfl : i = 0 := by simpa using hi
    exact ⟨_, 0, u, rfl, by simp, by rw [World.cell?_alloc_at _ _ _ _ rfl]; rfl, h.later (below1 _ _)⟩⟩
theorem parts2 (w : World) {u v : Value} {l k : List Nat} (t : TypeId) (h : BytesAt w u l) (g : BytesAt w v k) (c : Nat) : PartsAt (w.alloc (.cells #[u, v] t)) (.slice (some ⟨w.heap.size, 0, none⟩) 2 c) [l, k] :=
  ⟨by simp [maxLen], _, _, rfl, fun i hi => by
    match i, hi with
    | 0, _ => exact ⟨_, 0, u, rfl, by simp, by rw [World.cell?_alloc_at _ _ _ _ rfl]; rfl, h.later (below1 _ _)⟩
    | 1, _ => exact ⟨_, 0, v, rfl, by simp, by rw [World.cell?_alloc_at _ _ _ _ rfl]; rfl, g.later (below1 _ _)⟩⟩
theorem parts3 (w : World) {u v x : Value} {l k m : List Nat} (t : TypeId) (h : BytesAt w u l) (g : BytesAt w v k) (f : BytesAt w x m) (c : Nat) : PartsAt (w.alloc (.cells #[u, v, x] t)) (.slice (some ⟨w.heap.size, 0, none⟩) 3 c) [l, k, m] :=
  ⟨by simp [maxLen], _, _, rfl, fun i hi => by
    match i, hi with
    | 0, _ => exact ⟨_, 0, u, rfl, by simp, by rw [World.cell?_alloc_at _ _ _ _ rfl]; rfl, h.later (below1 _ _)⟩
    | 1, _ => exact ⟨_, 0, v, rfl, by simp, by rw [World.cell?_alloc_at _ _ _ _ rfl]; rfl, g.later (below1 _ _)⟩
    | 2, _ => exact ⟨_, 0, x, rfl, by simp, by rw [World.cell?_alloc_at _ _ _ _ rfl]; rfl, f.later (below1 _ _)⟩⟩
theorem BytesAt.nil (w : World) : BytesAt w (.slice none 0 0) [] := ⟨(fun _ h => by cases h), by simp [maxLen], none, 0, rfl, fun i hi => by simp at hi⟩
/-- A row of bytes of the call's own. -/
def Own (w : World) (base : Nat) (v : Value) (l : List Nat) : Prop := w.ownsRow base 5 1 v l.length (l.map fun x : Nat => Value.int .u8 (x : Int))
theorem Own.bytes {w : World} {base : Nat} {v : Value} {l : List Nat} (h : Own w base v l) (hw : W8 l) (hl : l.length ≤ maxLen) : BytesAt w v l := by
  obtain ⟨_, ⟨rfl, h0⟩ | ⟨g, cap, cur, rfl, hb, hg, h1, h2, h3, h4⟩⟩ := h
  · obtain rfl := List.eq_nil_of_length_eq_zero h0
    exact ⟨hw, hl, none, 0, rfl, fun i hi => by simp at hi⟩
  · refine ⟨hw, hl, _, _, rfl, fun i hi => ⟨g, 0, rfl, (Array.getElem?_eq_some_iff.1 hg).1, ?_⟩⟩
    rw [cell_of_row w g (0 + i) cur _ _ hg, Nat.zero_add]
    have e := congrArg (fun x : List Value => x[i]?) h4
    simp only [Nat.mul_one, List.getElem?_take, hi, if_true] at e
    rw [← Array.getElem?_toList, e]
    simp [hi]
theorem below_grown {B : Nat} {w w1 w2 : World} {row : Option Nat} (h : Below B w w1) (hB : B ≤ w1.heap.size) (hg : w1.grownBy w2 row) (hr : ∀ k, row = some k → B ≤ k) : Below B w w2 :=
  h.trans ⟨hg.os, hg.tape, hg.output, hg.size, fun k hk => hg.block k (by omega) (fun e => by have := hr k e.symm; omega)⟩
theorem under_bytes : Try.prog.underlying 31 = some (.slice 5) := by kernel_rfl
theorem src_empty (w : World) (i : TypeInfo) (p : Option Addr) (c : Nat) : Src Try.prog i.size 31 (.slice p ([] : List Nat).length c) 0 [] w := by
  cases p with
  | none => exact Src.ofNil w under_bytes c
  | some a => exact Src.ofSlice w under_bytes a 0 c [] (by simp) (fun j u h => by simp at h) (fun u h => by cases h)
theorem ownsRow_at {w : World} {base : Nat} {e : TypeId} {v : Value} {ns : List Value} {n : Nat} (h : w.ownsRow base e 1 v n ns) : ∃ p n' c, v = .slice p n' c ∧ n' = n := by
  obtain ⟨_, ⟨rfl, h0⟩ | ⟨g, cap, cur, rfl, _⟩⟩ := h
  · exact ⟨_, _, _, rfl, h0.symm⟩
  · exact ⟨_, _, _, rfl, rfl⟩
theorem ownsRow_later {w w1 : World} {base : Nat} {e : TypeId} {v : Value} {ns : List Value} {n : Nat} (h : w.ownsRow base e 1 v n ns) (hb : Below w.heap.size w w1) : w1.ownsRow base e 1 v n ns :=
  ⟨h.1, h.2.imp id fun ⟨g, cap, cur, e, h1, h2, h3⟩ => ⟨g, cap, cur, e, h1, (hb.block g (Array.getElem?_eq_some_iff.1 h2).1).trans h2, h3⟩⟩
theorem ownsRow_set {w : World} {base : Nat} {e : TypeId} {v : Value} {ns : List Value} {n : Nat} (h : w.ownsRow base e 1 v n ns) {T i : Nat} (hne : v.ownBlock ≠ some T) (u : Value) : (w.setCell ⟨T, i, none⟩ u).ownsRow base e 1 v n ns :=
  ⟨h.1, h.2.imp id fun ⟨g, cap, cur, e, h1, h2, h3⟩ => ⟨g, cap, cur, e, h1, (heap_setCell_other w ⟨T, i, none⟩ g u (fun hh => hne (by rw [e]; simp [Value.ownBlock, hh]))).trans h2, h3⟩⟩
theorem ownsRow_row {w : World} {base : Nat} {e : TypeId} {v : Value} {ns : List Value} {n : Nat} (h : w.ownsRow base e 1 v n ns) {T : Nat} (hne : v.ownBlock ≠ some T) (ds : Array Value) : (w.setRow T ds).ownsRow base e 1 v n ns :=
  ⟨h.1, h.2.imp id fun ⟨g, cap, cur, e, h1, h2, h3⟩ => ⟨g, cap, cur, e, h1, (setRow_other w T g ds (fun hh => hne (by rw [e]; simp [Value.ownBlock, hh]))).trans h2, h3⟩⟩
/-- A row of one type is none of another one. -/
theorem own_ne {w : World} {base : Nat} {e t : TypeId} {v : Value} {ns : List Value} {n T : Nat} {cs : Array Value} (h : w.ownsRow base e 1 v n ns) (hr : Row w T cs t) (hne : e ≠ t) : v.ownBlock ≠ some T := by
  intro hh
  obtain ⟨_, ⟨rfl, _⟩ | ⟨g, cap, cur, rfl, _, hg, _⟩⟩ := h
  · cases hh
  · simp [Value.ownBlock] at hh
    subst hh
    unfold Row at hr
    rw [hg] at hr
    simp at hr
    exact hne hr.2
theorem own_own {w : World} {b c : Nat} {e e' : TypeId} {v u : Value} {xs ys : List Value} {n m : Nat} (h : w.ownsRow b e 1 v n xs) (k : w.ownsRow c e' 1 u m ys) (hne : e ≠ e') : v.ownBlock = none ∨ v.ownBlock ≠ u.ownBlock := by
  obtain ⟨_, ⟨rfl, _⟩ | ⟨g, cap, cur, rfl, _, hg, _⟩⟩ := h
  · exact Or.inl rfl
  · right
    intro hh
    obtain ⟨_, ⟨rfl, _⟩ | ⟨g', cap', cur', rfl, _, hg', _⟩⟩ := k
    · cases hh
    · simp [Value.ownBlock] at hh
      subst hh
      rw [hg] at hg'
      simp at hg'
      exact hne hg'.2
/-- append(v, x...) where v is the call's own row. -/
theorem append_bytes (w : World) (base : Nat) (ty : TypeId) (v : Value) (xs : List Nat) (hown : Own w base v xs) (x : Value) (l : List Nat) (hx : BytesAt w x l) (hn : xs.length + l.length ≤ 1048576) (hb : base ≤ w.heap.size) :
    ∃ v' w', (Builtin.append_ #[31, 31] ty #[v, x]).run Try.prog w = .ok v' w' ∧ Own w' base v' (xs ++ l) ∧ w.grownBy w' v.ownBlock ∧ (v' = .slice none 0 0 ↔ v = .slice none 0 0 ∧ l = []) ∧ (v'.ownBlock = v.ownBlock ∨ v'.ownBlock = some w.heap.size) := by
  obtain ⟨i, hi, z0, z1, z2⟩ := info_u8'
  obtain ⟨_, hm, p, c, rfl, hc⟩ := hx
  by_cases hl : l = []
  · subst hl
    refine ⟨v, w, ?_, by simpa using hown, ⟨rfl, rfl, rfl, Nat.le_refl _, fun _ _ _ => rfl⟩, by simp, Or.inl rfl⟩
    obtain ⟨_, ⟨rfl, h0⟩ | ⟨g, cap, cur, rfl, hb, hg, h1, h2, h3, h4⟩⟩ := hown
    · exact run_append_nothing w _ _ ty _ i under_bytes hi none 0 0 (Nat.le_refl _) _ (src_empty w i p c)
    · exact run_append_nothing w _ _ ty _ i under_bytes hi _ _ cap h1 _ (src_empty w i p c)
  · have hpos : 0 < l.length := List.length_pos_iff.2 hl
    obtain ⟨b, off, rfl, _, _⟩ := hc 0 hpos
    obtain ⟨v', w', h1, h2, h3, h4, h5⟩ := run_append_own_at (P := Try.prog) w base 31 ty 5 i _ 1 1 under_bytes hi z0 z1 z2 rfl (by decide) v xs.length _ hown ⟨b, off, none⟩ l.length c (l.map fun x : Nat => Value.int .u8 (x : Int)) (by simp)
      (fun j u hu => by
        have hj : j < l.length := by
          have := (List.getElem?_eq_some_iff.1 hu).1
          simpa using this
        obtain ⟨b', off', e', _, hcell⟩ := hc j hj
        cases e'
        rw [show (⟨b, off, none⟩ : Addr).add j = ⟨b, off + j, none⟩ from Addr.add_lit .., hcell, ← hu]
        simp [hj]) (fun u hu => by obtain ⟨y, _, rfl⟩ := List.mem_map.1 hu; rfl) (by unfold maxLen; omega) (by omega) hb
    refine ⟨v', w', h1, ?_, h3, by rw [h4]; simp [hl], h5⟩
    unfold Own
    rw [List.map_append, List.length_append]
    exact h2
/-- The bytes as a string. -/
def strL (l : List Nat) : ByteArray := strOfNums (l.map fun x : Nat => (x : Int))
theorem conv_str {w : World} {v : Value} {l : List Nat} (h : BytesAt w v l) : (convert 31 9 v).run Try.prog w = .ok (.string (strL l)) w := by
  obtain ⟨hw, hm, p, c, rfl, hc⟩ := h
  have hs : Try.prog.underlying 9 = some .string := by kernel_rfl
  by_cases hl : l = []
  · subst hl
    cases p with
    | none => exact run_convert_bytes_nil w _ _ under_bytes under_byte _ _ _ hs
    | some a =>
      rw [run_convert_bytes_string w _ _ _ _ _ _ under_bytes under_byte hs, run_bytesToString w _ _ c [] (by simp [loadCells, loadCellsFrom])]
      rfl
  · obtain ⟨b, off, rfl, _, _⟩ := hc 0 (List.length_pos_iff.2 hl)
    refine run_convert_bytes_arg w _ _ under_bytes under_byte b off _ c (l.map fun x : Nat => (x : Int)) (by simp) (fun i hi => ?_) _ hs
    obtain ⟨b', off', e', _, hcell⟩ := hc i hi
    cases e'
    rw [hcell]
    simp [List.getD, hi]
theorem strL_inj {l m : List Nat} (hl : W8 l) (hm : W8 m) (h : strL l = strL m) : l = m := by
  have h1 := congrArg (fun s : ByteArray => s.data.toList) h
  simp only [strL, strOfNums_data, List.map_map] at h1
  have h2 := congrArg (List.map UInt8.toNat) h1
  simp only [List.map_map] at h2
  have k : ∀ n : List Nat, W8 n → n.map (UInt8.toNat ∘ ((fun n : Int => UInt8.ofNat n.toNat) ∘ fun x : Nat => (x : Int))) = n := by
    intro n hn
    conv => rhs; rw [← List.map_id n]
    apply List.map_congr_left
    intro x hx
    have := hn x hx
    simp only [Function.comp, Int.toNat_natCast, id]
    rw [UInt8.toNat_ofNat']
    omega
  rw [k l hl, k m hm] at h2
  exact h2
theorem strL_ne {l m : List Nat} (hl : W8 l) (hm : W8 m) (h : l ≠ m) : ¬ (strL l).toList = (strL m).toList := by
  intro e
  apply h
  apply strL_inj hl hm
  rw [Go.ByteArray.toList_eq, Go.ByteArray.toList_eq] at e
  generalize strL l = a at e
  generalize strL m = b at e
  obtain ⟨⟨x⟩⟩ := a
  obtain ⟨⟨y⟩⟩ := b
  exact congrArg (fun z : List UInt8 => (⟨⟨z⟩⟩ : ByteArray)) e
theorem Own.form {w : World} {base : Nat} {v : Value} {l : List Nat} (h : Own w base v l) : ∃ p n c, v = .slice p n c ∧ n = l.length := by
  obtain ⟨_, ⟨rfl, h0⟩ | ⟨g, cap, cur, rfl, _⟩⟩ := h
  · exact ⟨_, _, _, rfl, h0.symm⟩
  · exact ⟨_, _, _, rfl, rfl⟩
/-- An append under a guard that says yes. -/
theorem wpList_append_w {P : Program} (w : World) {ops : Array Oper} {rest : List Oper} {o : Oper} {a : Act} {Q : Exit → Act → World → Prop} (hw : Region.wanted o (yielded ops a.tmps) = true) (s x : Operand) (t tn : TypeId)
    (ho : o.op = .call { callee := .builtin .append, args := #[s, x], argTypes := #[t, tn] }) (vs vx : Value) (hs : a.eval s = vs) (hx : a.eval x = vx)
    (v' : Value) (w' : World) (hr : (Builtin.append_ #[t, tn] o.type #[vs, vx]).run P w = .ok v' w') (h : wpList P ops Q rest (a.put o.dst v') w') : wpList P ops Q (o :: rest) a w :=
  wpList_step fun _ hK => by rw [if_pos hw]; exact Lib.wp_append_run w s x t tn ho vs vx hs hx v' w' hr (hK _ _ h)
/-- A goal at which the walk stands still. -/
def Stop (p : Prop) : Prop := p
theorem stop {p : Prop} (h : Stop p) : p := h
/-- Every block but R is as it was. -/
structure Else (R : Nat) (w w' : World) : Prop where
  os : w'.os = w.os
  tape : w'.tape = w.tape
  output : w'.output = w.output
  size : w.heap.size ≤ w'.heap.size
  block : ∀ k, k < w.heap.size → k ≠ R → w'.heap[k]? = w.heap[k]?
theorem Else.refl (R : Nat) (w : World) : Else R w w := ⟨rfl, rfl, rfl, Nat.le_refl _, fun _ _ _ => rfl⟩
theorem Else.trans {R : Nat} {a b c : World} (h : Else R a b) (k : Else R b c) : Else R a c :=
  ⟨k.os.trans h.os, k.tape.trans h.tape, k.output.trans h.output, Nat.le_trans h.size k.size, fun i hi hn => (k.block i (Nat.lt_of_lt_of_le hi h.size) hn).trans (h.block i hi hn)⟩
theorem Else.of {R : Nat} {a b : World} (h : Below a.heap.size a b) : Else R a b := ⟨h.os, h.tape, h.output, h.size, fun i hi _ => h.block i hi⟩
theorem Else.set {R : Nat} {a b : World} (h : Else R a b) (i : Nat) (v : Value) : Else R a (b.setCell ⟨R, i, none⟩ v) :=
  ⟨h.os, h.tape, h.output, by simpa [World.setCell] using h.size, fun k hk hn => (heap_setCell_other b ⟨R, i, none⟩ k v hn).trans (h.block k hk hn)⟩
/-- A block that is new to a may be turned, too. -/
theorem Else.setNew {R : Nat} {a b : World} (h : Else R a b) {A : Nat} (hA : a.heap.size ≤ A) (i : Nat) (v : Value) : Else R a (b.setCell ⟨A, i, none⟩ v) :=
  ⟨h.os, h.tape, h.output, by simpa [World.setCell] using h.size, fun k hk hn => (heap_setCell_other b ⟨A, i, none⟩ k v (by simp; omega)).trans (h.block k hk hn)⟩
theorem Else.rowNew {R : Nat} {a b : World} (h : Else R a b) {A : Nat} (hA : a.heap.size ≤ A) (ds : Array Value) : Else R a (b.setRow A ds) :=
  ⟨h.os, h.tape, h.output, by simpa [World.setRow] using h.size, fun k hk hn => (setRow_other b A k ds (by omega)).trans (h.block k hk hn)⟩
theorem Else.alloc {R : Nat} {a b : World} (h : Else R a b) (o : Obj) : Else R a (b.alloc o) :=
  ⟨h.os, h.tape, h.output, by have := h.size; simp; omega, fun k hk hn => (heap_alloc_old b o (Nat.lt_of_lt_of_le hk h.size)).trans (h.block k hk hn)⟩
theorem Else.drew {R : Nat} {a b : World} (h : Else R a b) : Else R a b.drew := ⟨h.os, h.tape, h.output, h.size, h.block⟩
theorem Else.below {R B : Nat} {a b : World} (h : Else R a b) (hB : B ≤ a.heap.size) (hR : B ≤ R) : Below B a b := ⟨h.os, h.tape, h.output, h.size, fun k hk => h.block k (by omega) (by omega)⟩
theorem Row.else {R : Nat} {w w' : World} {b : Nat} {cs : Array Value} {t : TypeId} (h : Row w b cs t) (e : Else R w w') (hne : b ≠ R) : Row w' b cs t := (e.block b h.lt hne).trans h
end Go.Proofs.Ytfhaphbfbmpbiaa
