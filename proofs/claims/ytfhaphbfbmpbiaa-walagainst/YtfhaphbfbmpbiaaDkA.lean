
/-
  package disk: a disk in memory, and as plain lists. Laws over any world.
-/
import Derived.Test.YtfhaphbfbmpbiaaWiA
import Derived.Test.YtfhaphbfbmpbiaaHeld
import Derived.Deep.MidRow
import Derived.Lib.SlBuf
import Derived.Laws.IdiomCopy
namespace Go.Proofs.Ytfhaphbfbmpbiaa
open Go.RowKit
set_option maxRecDepth 100000
set_option linter.unusedVariables false
set_option linter.unusedSimpArgs false

theorem info_byte : (Try.prog.info? 5).map (·.size) = some 1 := by kernel_rfl

/-- Zeros. -/
def zs (n : Nat) : List Nat := List.replicate n 0
theorem zs_len (n : Nat) : (zs n).length = n := by simp [zs]
theorem zs_w8 (n : Nat) : W8 (zs n) := fun x hx => by rw [List.eq_of_mem_replicate hx]; decide
/-- A disk: its sectors one behind the other, how many they are, what waits (place, bytes), how many writes there were, is it armed, with how many left. -/
structure Dk where
  F : List Nat
  n : Nat
  ws : List (Nat × List Nat)
  cnt : Nat
  armed : Bool
  left : Nat
/-- Sector k. -/
def sec (F : List Nat) (k : Nat) : List Nat := (F.drop (64 * k)).take 64
/-- The first m bytes of b laid at sector k. -/
def settle (F : List Nat) (k : Nat) (b : List Nat) (m : Nat) : List Nat := F.take (64 * k) ++ b.take m ++ F.drop (64 * k + m)
/-- What sector k is, behind these writes. -/
def curW (k : Nat) (s : List Nat) (ws : List (Nat × List Nat)) : List Nat := ws.foldl (fun a x => if x.1 = k then x.2 else a) s
def Dk.cur (d : Dk) (k : Nat) : List Nat := curW k (sec d.F k) d.ws
def Dk.down (d : Dk) : Bool := d.armed && d.left == 0

theorem sec_len {F : List Nat} {n k : Nat} (h : F.length = 64 * n) (hk : k < n) : (sec F k).length = 64 := by
  unfold sec; rw [List.length_take, List.length_drop]; omega
theorem sec_getD (F : List Nat) (k i : Nat) (hi : i < 64) : (sec F k).getD i 0 = F.getD (64 * k + i) 0 := by
  unfold sec; simp [List.getD, List.getElem?_take, List.getElem?_drop, hi]
theorem settle_len {F b : List Nat} {n k m : Nat} (h : F.length = 64 * n) (hk : k < n) (hb : b.length = 64) (hm : m ≤ 64) : (settle F k b m).length = 64 * n := by
  unfold settle; simp only [List.length_append, List.length_take, List.length_drop]; omega
theorem settle_getD {F b : List Nat} {n k m : Nat} (h : F.length = 64 * n) (hk : k < n) (hb : b.length = 64) (hm : m ≤ 64) (i : Nat) :
    (settle F k b m).getD i 0 = if 64 * k ≤ i ∧ i < 64 * k + m then b.getD (i - 64 * k) 0 else F.getD i 0 := by
  unfold settle
  have e1 : (F.take (64 * k)).length = 64 * k := by rw [List.length_take]; omega
  have e2 : (b.take m).length = m := by rw [List.length_take]; omega
  simp only [List.getD, List.append_assoc]
  rw [List.getElem?_append, List.getElem?_append, e1, e2]
  by_cases c1 : i < 64 * k
  · rw [if_pos c1, if_neg (by omega), List.getElem?_take, if_pos c1]
  · rw [if_neg c1]
    by_cases c2 : i - 64 * k < m
    · rw [if_pos c2, if_pos (by omega), List.getElem?_take, if_pos c2]
    · rw [if_neg c2, if_neg (by omega), List.getElem?_drop]
      congr 2
      omega
theorem list_ext_getD {l m : List Nat} (h : l.length = m.length) (hg : ∀ i, i < l.length → l.getD i 0 = m.getD i 0) : l = m := by
  apply List.ext_getElem h
  intro i h1 h2
  have := hg i h1
  simpa [List.getD, h1, h2] using this
/-- What a sector is behind that. -/
theorem sec_settle {F b : List Nat} {n k m : Nat} (h : F.length = 64 * n) (hk : k < n) (hb : b.length = 64) (hm : m ≤ 64) (j : Nat) (hj : j < n) :
    sec (settle F k b m) j = if j = k then b.take m ++ (sec F k).drop m else sec F j := by
  have hl := settle_len h hk hb hm
  by_cases c : j = k
  · subst c
    rw [if_pos rfl]
    apply list_ext_getD
    · rw [sec_len hl hj, List.length_append, List.length_take, List.length_drop, sec_len h hj]; omega
    · intro i hi
      rw [sec_len hl hj] at hi
      rw [sec_getD _ _ _ hi, settle_getD h hk hb hm]
      have e2 : (b.take m).length = m := by rw [List.length_take]; omega
      by_cases c2 : i < m
      · rw [if_pos (by omega)]
        simp only [List.getD]
        rw [List.getElem?_append, e2, if_pos c2, List.getElem?_take, if_pos c2]
        congr 2
        omega
      · rw [if_neg (by omega)]
        have e3 : (b.take m ++ (sec F j).drop m).getD i 0 = (sec F j).getD i 0 := by
          simp only [List.getD]
          rw [List.getElem?_append, e2, if_neg c2, List.getElem?_drop]
          congr 2
          omega
        rw [e3, sec_getD _ _ _ hi]
  · rw [if_neg c]
    apply list_ext_getD
    · rw [sec_len hl hj, sec_len h hj]
    · intro i hi
      rw [sec_len hl hj] at hi
      rw [sec_getD _ _ _ hi, settle_getD h hk hb hm, sec_getD _ _ _ hi, if_neg]
      rcases Nat.lt_or_ge j k with c3 | c3 <;> omega

/-- The cells of a write; of all that wait. -/
def wr1 (x : Nat × List Nat) : Array Value := (Value.int .i64 (x.1 : Nat) :: x.2.map fun y : Nat => Value.int .u8 (y : Int)).toArray
def wC (ws : List (Nat × List Nat)) : List Value := ws.flatMap fun x => (wr1 x).toList
theorem wC_snoc (ws : List (Nat × List Nat)) (x : Nat × List Nat) : wC (ws ++ [x]) = wC ws ++ (wr1 x).toList := by simp [wC]
theorem wr1_size {x : Nat × List Nat} (h : x.2.length = 64) : (wr1 x).size = 65 := by simp [wr1, h]
theorem wr1_one (x : Nat × List Nat) : (wr1 x).all (·.oneCell') = true := by
  rw [Array.all_eq_true_iff_forall_mem]
  intro v hv
  simp [wr1] at hv
  rcases hv with rfl | ⟨y, _, rfl⟩ <;> rfl
structure WOk (n : Nat) (x : Nat × List Nat) : Prop where
  lt : x.1 < n
  len : x.2.length = 64
  w8 : W8 x.2
structure Dk.Ok (d : Dk) : Prop where
  f8 : W8 d.F
  fl : d.F.length = 64 * d.n
  n1 : 1 ≤ d.n
  n2 : d.n ≤ 4096
  wl : d.ws.length ≤ 1000
  cl : d.cnt ≤ 1000000
  ll : d.left ≤ 9223372036854775807
  wok : ∀ x ∈ d.ws, WOk d.n x
theorem W8.sec {F : List Nat} (h : W8 F) (k : Nat) : W8 (sec F k) := fun x hx => h x (List.mem_of_mem_drop (List.mem_of_mem_take hx))
theorem W8.settle {F b : List Nat} (h : W8 F) (hb : W8 b) (k m : Nat) : W8 (settle F k b m) := by
  intro x hx
  unfold Go.Proofs.Ytfhaphbfbmpbiaa.settle at hx
  rcases List.mem_append.1 hx with hx | hx
  · rcases List.mem_append.1 hx with hx | hx
    · exact h x (List.mem_of_mem_take hx)
    · exact hb x (List.mem_of_mem_take hx)
  · exact h x (List.mem_of_mem_drop hx)
theorem curW_ok {n k : Nat} : ∀ (ws : List (Nat × List Nat)) (s : List Nat), s.length = 64 → W8 s → (∀ x ∈ ws, WOk n x) → (curW k s ws).length = 64 ∧ W8 (curW k s ws)
  | [], s, h1, h2, _ => ⟨h1, h2⟩
  | x :: ws, s, h1, h2, h3 => by
    show (curW k (if x.1 = k then x.2 else s) ws).length = 64 ∧ W8 (curW k (if x.1 = k then x.2 else s) ws)
    have hx := h3 x (by simp)
    split
    · exact curW_ok ws _ hx.len hx.w8 (fun y hy => h3 y (by simp [hy]))
    · exact curW_ok ws _ h1 h2 (fun y hy => h3 y (by simp [hy]))
theorem curW_snoc (k : Nat) (s : List Nat) (ws : List (Nat × List Nat)) (x : Nat × List Nat) : curW k s (ws ++ [x]) = if x.1 = k then x.2 else curW k s ws := by
  simp [curW, List.foldl_append]
theorem Dk.Ok.cur {d : Dk} (h : d.Ok) {k : Nat} (hk : k < d.n) : (d.cur k).length = 64 ∧ W8 (d.cur k) :=
  curW_ok d.ws _ (sec_len h.fl hk) (h.f8.sec k) h.wok

/-- The disk in memory: its struct in block R, its sectors in block S, what waits in the slice v. -/
structure DkAt (w : World) (R S : Nat) (v : Value) (d : Dk) : Prop where
  ok : d.Ok
  row : Row w R #[.slice (some ⟨S, 0, none⟩) d.n d.n, v, .int .i64 d.cnt, .bool d.armed, .int .i64 d.left] 66
  sure : Row w S (bytesL d.F) 79
  own : w.ownsRow 0 81 65 v d.ws.length (wC d.ws)
/-- A row of one type is none of another one. -/
theorem ownN_ne {w : World} {base sz : Nat} {e t : TypeId} {v : Value} {ns : List Value} {n T : Nat} {cs : Array Value} (h : w.ownsRow base e sz v n ns) (hr : Row w T cs t) (hne : e ≠ t) : v.ownBlock ≠ some T := by
  intro hh
  obtain ⟨_, ⟨rfl, _⟩ | ⟨g, cap, cur, rfl, _, hg, _⟩⟩ := h
  · cases hh
  · simp [Value.ownBlock] at hh
    subst hh
    unfold Row at hr
    rw [hg] at hr
    simp at hr
    exact hne hr.2
theorem Row.ne {w : World} {b c : Nat} {cs ds : Array Value} {t u : TypeId} (h : Row w b cs t) (k : Row w c ds u) (hne : t ≠ u) : b ≠ c := by
  intro e
  subst e
  unfold Row at h k
  rw [h] at k
  simp at k
  exact hne k.2
theorem DkAt.rs {w : World} {R S : Nat} {v : Value} {d : Dk} (h : DkAt w R S v d) : R ≠ S := h.row.ne h.sure (by decide)
theorem DkAt.vr {w : World} {R S : Nat} {v : Value} {d : Dk} (h : DkAt w R S v d) : v.ownBlock ≠ some R := ownN_ne h.own h.row (by decide)
theorem DkAt.vs {w : World} {R S : Nat} {v : Value} {d : Dk} (h : DkAt w R S v d) : v.ownBlock ≠ some S := ownN_ne h.own h.sure (by decide)
theorem DkAt.vlt {w : World} {R S : Nat} {v : Value} {d : Dk} (h : DkAt w R S v d) {k : Nat} (hk : v.ownBlock = some k) : k < w.heap.size := (h.own.lt k hk).2
theorem ownsRow_keep {w w1 : World} {base : Nat} {e : TypeId} {v : Value} {ns : List Value} {n sz : Nat} (h : w.ownsRow base e sz v n ns) (hb : ∀ k, base ≤ k → k < w.heap.size → v.ownBlock = some k → w1.heap[k]? = w.heap[k]?) : w1.ownsRow base e sz v n ns :=
  ⟨h.1, h.2.imp id fun ⟨g, cap, cur, e, h1, h2, h3⟩ => ⟨g, cap, cur, e, h1, (hb g h1 (Array.getElem?_eq_some_iff.1 h2).1 (by rw [e]; rfl)).trans h2, h3⟩⟩
theorem ownsRow_form {w : World} {base : Nat} {e : TypeId} {v : Value} {ns : List Value} {n sz : Nat} (h : w.ownsRow base e sz v n ns) : ∃ p n' c, v = .slice p n' c ∧ n' = n := by
  obtain ⟨_, ⟨rfl, h0⟩ | ⟨g, cap, cur, rfl, _⟩⟩ := h
  · exact ⟨_, _, _, rfl, h0.symm⟩
  · exact ⟨_, _, _, rfl, rfl⟩
theorem DkAt.keep {w w' : World} {R S : Nat} {v : Value} {d : Dk} (h : DkAt w R S v d) (hR : w'.heap[R]? = w.heap[R]?) (hS : w'.heap[S]? = w.heap[S]?) (hv : ∀ k, v.ownBlock = some k → w'.heap[k]? = w.heap[k]?) : DkAt w' R S v d :=
  ⟨h.ok, hR.trans h.row, hS.trans h.sure, ownsRow_keep h.own (fun k _ _ e => hv k e)⟩
theorem DkAt.later {w w' : World} {R S : Nat} {v : Value} {d : Dk} (h : DkAt w R S v d) (hb : Below w.heap.size w w') : DkAt w' R S v d :=
  h.keep (hb.block R h.row.lt) (hb.block S h.sure.lt) (fun k hk => hb.block k (h.vlt hk))
theorem DkAt.alloc {w : World} {R S : Nat} {v : Value} {d : Dk} (h : DkAt w R S v d) (o : Obj) : DkAt (w.alloc o) R S v d := h.later (below1 _ _)
theorem DkAt.drew {w : World} {R S : Nat} {v : Value} {d : Dk} (h : DkAt w R S v d) : DkAt w.drew R S v d := h.keep rfl rfl (fun _ _ => rfl)

/-- What a call on a disk leaves alone: all but its three blocks; what waits lies where it did, or in a new block. -/
structure DStep (w w' : World) (R S : Nat) (v v' : Value) : Prop where
  os : w'.os = w.os
  tape : w'.tape = w.tape
  output : w'.output = w.output
  size : w.heap.size ≤ w'.heap.size
  block : ∀ k, k < w.heap.size → k ≠ R → k ≠ S → v.ownBlock ≠ some k → w'.heap[k]? = w.heap[k]?
  moved : ∀ g, v'.ownBlock = some g → v.ownBlock = some g ∨ w.heap.size ≤ g
theorem DStep.refl (w : World) (R S : Nat) (v : Value) : DStep w w R S v v := ⟨rfl, rfl, rfl, Nat.le_refl _, fun _ _ _ _ _ => rfl, fun _ h => Or.inl h⟩
theorem DStep.of {w w' : World} (h : Below w.heap.size w w') (R S : Nat) (v : Value) : DStep w w' R S v v := ⟨h.os, h.tape, h.output, h.size, fun k hk _ _ _ => h.block k hk, fun _ h => Or.inl h⟩
theorem DStep.trans {a b c : World} {R S : Nat} {v v1 v2 : Value} (h : DStep a b R S v v1) (k : DStep b c R S v1 v2) : DStep a c R S v v2 := by
  refine ⟨k.os.trans h.os, k.tape.trans h.tape, k.output.trans h.output, Nat.le_trans h.size k.size, fun i hi h1 h2 h3 => ?_, fun g hg => ?_⟩
  · refine (k.block i (Nat.lt_of_lt_of_le hi h.size) h1 h2 (fun e => ?_)).trans (h.block i hi h1 h2 h3)
    rcases h.moved i e with e | e
    · exact h3 e
    · omega
  · rcases k.moved g hg with e | e
    · exact h.moved g e
    · exact Or.inr (Nat.le_trans h.size e)
/-- Blocks that such a call leaves alone. -/
def DFar (R S : Nat) (v : Value) (k : Nat) : Prop := k ≠ R ∧ k ≠ S ∧ v.ownBlock ≠ some k
theorem DStep.far {w w' : World} {R S : Nat} {v v' : Value} (h : DStep w w' R S v v') {k : Nat} (hk : DFar R S v k) (hl : k < w.heap.size) : w'.heap[k]? = w.heap[k]? := h.block k hl hk.1 hk.2.1 hk.2.2
theorem DkAt.far {w : World} {R S : Nat} {v : Value} {d : Dk} (h : DkAt w R S v d) {k : Nat} (hk : w.heap.size ≤ k) : DFar R S v k :=
  ⟨by have := h.row.lt; omega, by have := h.sure.lt; omega, fun e => by have := h.vlt e; omega⟩
theorem DStep.farOn {w w' : World} {R S : Nat} {v v' : Value} (h : DStep w w' R S v v') {k : Nat} (hk : DFar R S v k) (hl : k < w.heap.size) : DFar R S v' k :=
  ⟨hk.1, hk.2.1, fun e => by
    rcases h.moved k e with e | e
    · exact hk.2.2 e
    · omega⟩
theorem DStep.below {w w' : World} {R S B : Nat} {v v' : Value} (h : DStep w w' R S v v') (hB : B ≤ w.heap.size) (hR : B ≤ R) (hS : B ≤ S) (hv : ∀ k, v.ownBlock = some k → B ≤ k) : Below B w w' :=
  ⟨h.os, h.tape, h.output, h.size, fun k hk => h.block k (by omega) (by omega) (by omega) (fun e => by have := hv k e; omega)⟩
theorem DStep.belowOn {w w' : World} {R S B : Nat} {v v' : Value} (h : DStep w w' R S v v') (hB : B ≤ w.heap.size) (hv : ∀ k, v.ownBlock = some k → B ≤ k) : ∀ k, v'.ownBlock = some k → B ≤ k := fun k hk => by
  rcases h.moved k hk with e | e
  · exact hv k e
  · omega
end Go.Proofs.Ytfhaphbfbmpbiaa
