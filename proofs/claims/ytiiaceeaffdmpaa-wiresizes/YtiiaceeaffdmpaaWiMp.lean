
/-
  A map of whole numbers that a call makes: what is laid into it, and found again. Laws over any world.
-/
import Derived.Test.YtiiaceeaffdmpaaWiA
import Derived.MapKept
namespace Go.Proofs.Ytiiaceeaffdmpaa
open Go.RowKit
set_option maxRecDepth 100000

/-- The entries of a map, one made behind the other. -/
def entries (es : List (Int × Int)) : List MapEntry := es.zipIdx.map fun p => ⟨.int .i64 p.1.1, .int .i64 p.1.2, p.2⟩
theorem entries_snoc (es : List (Int × Int)) (k v : Int) : entries (es ++ [(k, v)]) = entries es ++ [⟨.int .i64 k, .int .i64 v, es.length⟩] := by
  simp [entries, List.zipIdx_append]
def MapIs (w : World) (b : Nat) (es : List (Int × Int)) : Prop := w.heap[b]? = some (.map (entries es).toArray es.length)
theorem findNow_none (k : Int) : ∀ (l : List MapEntry) (i : Nat), (∀ e ∈ l, ∃ x, e.key = .int .i64 x ∧ x ≠ k) → Instr.findNow (.int .i64) (.int .i64 k) l i = some none
  | [], _, _ => rfl
  | e :: l, i, h => by
    obtain ⟨x, hx, hne⟩ := h e (by simp)
    have ih := findNow_none k l (i + 1) fun e he => h e (by simp [he])
    have hb : (k == x) = false := by simp; exact fun e => hne e.symm
    simp [Instr.findNow, hx, Instr.sameNow, hb, ih]
theorem under_map : Try.prog.underlying 65 = some (.map 3 3) := by kernel_rfl
theorem under_i64 : Try.prog.underlying 3 = some (.int .i64) := by kernel_rfl
theorem entries_keys {es : List (Int × Int)} {k : Int} (h : ∀ p ∈ es, p.1 ≠ k) : ∀ e ∈ entries es, ∃ x, e.key = .int .i64 x ∧ x ≠ k := by
  intro e he
  obtain ⟨p, hp, rfl⟩ := List.mem_map.1 he
  have hm : p.1 ∈ es := by
    have := List.mem_zipIdx' hp
    rw [this.2]
    exact List.getElem_mem _
  exact ⟨_, rfl, h _ hm⟩
theorem run_ck (b : Bool) (k : Int) (w : World) : (Instr.checkKey b 10000 3 (.int .i64 k)).run Try.prog w = .ok () w := by
  rw [show (10000 : Nat) = 9999 + 1 from rfl, Instr.checkKey]
  simp only [Sem.run_bind, run_underlying under_i64, Result.andThen_ok, Sem.run_pure]
theorem run_fk {k : Int} {l : List MapEntry} {r : Option (Nat × Value)} (h : Instr.findNow (.int .i64) (.int .i64 k) l 0 = some r) (w : World) : (Instr.findKey 3 (.int .i64 k) l).run Try.prog w = .ok r w := by
  unfold Instr.findKey
  simp only [Sem.run_bind, run_underlying under_i64, Result.andThen_ok, h, Sem.run_pure]
theorem run_get {w : World} {b : Nat} {es : List (Int × Int)} (hM : MapIs w b es) : (getObj b).run Try.prog w = .ok (.map (entries es).toArray es.length) w := by
  unfold MapIs at hM
  simp [getObj, Sem.run, hM]
theorem run_set {w : World} {b : Nat} {es : List (Int × Int)} (hM : MapIs w b es) (o : Obj) : (setObj b o).run Try.prog w = .ok () { w with heap := w.heap.setIfInBounds b o } := by
  unfold MapIs at hM
  simp [setObj, Sem.run, hM]
theorem run_insert {w : World} {b : Nat} {es : List (Int × Int)} (hM : MapIs w b es) (k v : Int) (hk : ∀ p ∈ es, p.1 ≠ k) :
    ∃ w', (Instr.mapUpdate 65 (.map (some b)) (.int .i64 k) (.int .i64 v)).run Try.prog w = .ok () w' ∧ MapIs w' b (es ++ [(k, v)]) ∧ Else b w w' := by
  have hf := findNow_none k (entries es) 0 (entries_keys hk)
  refine ⟨{ w with heap := w.heap.setIfInBounds b (.map ((entries es).toArray.push ⟨.int .i64 k, .int .i64 v, es.length⟩) (es.length + 1)) }, ?_, ?_, ?_⟩
  · unfold Instr.mapUpdate
    simp only [Sem.run_bind, run_underlying under_map, Result.andThen_ok, run_get hM, run_ck, run_fk hf, run_set hM]
  · unfold MapIs
    rw [entries_snoc, List.length_append]
    have hlt := (Array.getElem?_eq_some_iff.1 hM).1
    simp [hlt]
  · exact ⟨rfl, rfl, rfl, by simp, fun j _ hj => by simp [Array.getElem?_setIfInBounds_ne (Ne.symm hj)]⟩
theorem wpList_insert {w : World} {ops : Array Oper} {rest : List Oper} {o : Oper} {a : Act} {Q : Exit → Act → World → Prop} (hgd : o.guard = none) (m k x : Operand) (ho : o.op = .insert 65 m k x)
    (b : Nat) (hm : a.eval m = .map (some b)) (es : List (Int × Int)) (hM : MapIs w b es) (kv xv : Int) (hk : a.eval k = .int .i64 kv) (hx : a.eval x = .int .i64 xv) (hn : ∀ p ∈ es, p.1 ≠ kv)
    (h : ∀ w', MapIs w' b (es ++ [(kv, xv)]) → Else b w w' → wpList Try.prog ops Q rest (a.put o.dst undef) w') : wpList Try.prog ops Q (o :: rest) a w := by
  obtain ⟨w', hr, h1, h2⟩ := run_insert hM kv xv hn
  refine wpList_plain hgd fun K hK => ?_
  unfold Oper.wp execOp
  simp only [ho, hm, hk, hx, Sem.run_bind, hr, Result.andThen_ok, Sem.run_pure]
  exact hK _ _ (h w' h1 h2)
theorem wpList_makeMap {w : World} {ops : Array Oper} {rest : List Oper} {o : Oper} {a : Act} {Q : Exit → Act → World → Prop} (hgd : o.guard = none) (ho : o.op = .makeMap 65 none)
    (h : ∀ w', MapIs w' w.heap.size [] → Below w.heap.size w w' → wpList Try.prog ops Q rest (a.put o.dst (.map (some w.heap.size))) w') : wpList Try.prog ops Q (o :: rest) a w := by
  have hr : (Instr.makeMap 65 none).run Try.prog w = .ok (.map (some w.heap.size)) (w.alloc (.map #[] 0)) := by
    simp [Instr.makeMap]
  refine wpList_plain hgd fun K hK => ?_
  unfold Oper.wp execOp
  simp only [ho, Option.map_none, Sem.run_bind, hr, Result.andThen_ok, Sem.run_pure]
  exact hK _ _ (h _ (heap_alloc_new w _) (below1 w _))
/-- What a key has. -/
theorem run_lookup {w : World} {b : Nat} {es : List (Int × Int)} (hM : MapIs w b es) (k v : Int) (hf : ∃ i, Instr.findNow (.int .i64) (.int .i64 k) (entries es) 0 = some (some (i, .int .i64 v))) :
    (Instr.lookup 65 (.map (some b)) (.int .i64 k) false).run Try.prog w = .ok (.int .i64 v) w := by
  obtain ⟨i, hf⟩ := hf
  unfold Instr.lookup
  simp only [Sem.run_bind, run_underlying under_map, Result.andThen_ok, run_get hM, run_ck, run_fk hf, Sem.run_pure, Bool.false_eq_true, if_false]
theorem wpList_lookup {w : World} {ops : Array Oper} {rest : List Oper} {o : Oper} {a : Act} {Q : Exit → Act → World → Prop} (hgd : o.guard = none) (m k : Operand) (ho : o.op = .lookup 65 m k false)
    (b : Nat) (hm : a.eval m = .map (some b)) (es : List (Int × Int)) (hM : MapIs w b es) (kv xv : Int) (hk : a.eval k = .int .i64 kv) (hf : ∃ i, Instr.findNow (.int .i64) (.int .i64 kv) (entries es) 0 = some (some (i, .int .i64 xv)))
    (h : wpList Try.prog ops Q rest (a.put o.dst (.int .i64 xv)) w) : wpList Try.prog ops Q (o :: rest) a w := by
  have hr := run_lookup hM kv xv hf
  refine wpList_plain hgd fun K hK => ?_
  unfold Oper.wp execOp
  simp only [ho, hm, hk, Sem.run_bind, hr, Result.andThen_ok, Sem.run_pure]
  exact hK _ _ h
end Go.Proofs.Ytiiaceeaffdmpaa
