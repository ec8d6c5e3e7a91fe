
/-
  Within a range's round: a whole row loaded, stored; a map of strings by hashes looked into, written.
-/
import Derived.Test.YtepohpniflmblaaDoorClA
import Derived.Test.YtepohpniflmblaaDoorShRa
namespace Go.Proofs.YtepohpniflmblaaDoor
open Go.RowKit
set_option maxRecDepth 100000
set_option linter.unusedVariables false
set_option linter.unusedSimpArgs false

section
variable {F : Fence} {n : Nat} {P : Program} {w : World} {ops : Array Oper} {rest : List Oper} {o : Oper} {a : Act} {Q : Exit → Act → World → Prop}
theorem wpListIn_load_row (hgd : o.guard = none) (ty : TypeId) (x : Operand) (ho : o.op = .load ty x)
    (g : Nat) (hx : a.eval x = .pointer (some ⟨g, 0, none⟩)) (t : TypeId) (cs : Array Value) (fr : Nat × Nat) (d : TypeDesc) (hg : w.heap[g]? = some (.cells cs t fr))
    (hu : P.underlying ty = some d) (hd : (match d with | .struct _ | .array _ _ => true | _ => false) = true) (hi : (P.info? ty).map (·.size) = some cs.size)
    (h : wpListIn F n P ops Q rest (a.put o.dst (.agg cs)) w) : wpListIn F n P ops Q (o :: rest) a w := by
  refine wpListIn_plain hgd fun K hK => ⟨?_, ?_⟩
  · simp [Oper.about, ho]
  · rw [Oper.semAt_plain F _ _ (by rw [ho]; intro c hc; cases hc)]
    simp only [execOp, ho, hx, Instr.loadAt, Instr.sureAddr, Sem.run_bind, Sem.run_pure, Result.andThen_ok, run_loadVar_row w g t ty cs fr d hg hu hd hi]
    exact hK _ _ h
theorem wpListIn_store_row (hgd : o.guard = none) (ty : TypeId) (x y : Operand) (ho : o.op = .store ty x y)
    (g : Nat) (cells : Array Value) (hx : a.eval x = .pointer (some ⟨g, 0, none⟩)) (hy : a.eval y = .agg cells)
    (t : TypeId) (old : Array Value) (hg : w.heap[g]? = some (.cells old t (0, 0))) (hi : (P.info? ty).map (·.size) = some cells.size)
    (hold : old.size = cells.size) (h1 : cells.all (·.oneCell') = true)
    (h : wpListIn F n P ops Q rest (a.put o.dst undef) (w.setRow g cells)) : wpListIn F n P ops Q (o :: rest) a w := by
  refine wpListIn_plain hgd fun K hK => ⟨?_, ?_⟩
  · simp [Oper.about, ho]
  · rw [Oper.semAt_plain F _ _ (by rw [ho]; intro c hc; cases hc)]
    simp only [execOp, ho, hx, hy, Instr.storeAt, Instr.sureAddr, Sem.run_bind, Sem.run_pure, Result.andThen_ok, run_storeVar_row w g t ty old cells hg hi hold h1]
    exact hK _ _ h
theorem wpListIn_lookup_r (hgd : o.guard = none) (ty : TypeId) (m k : Operand) (ok : Bool) (ho : o.op = .lookup ty m k ok) (vm vk v : Value) (hm : a.eval m = vm) (hk : a.eval k = vk)
    (hr : (Instr.lookup ty vm vk ok).run P w = .ok v w) (h : wpListIn F n P ops Q rest (a.put o.dst v) w) : wpListIn F n P ops Q (o :: rest) a w := by
  refine wpListIn_plain hgd fun K hK => ⟨?_, ?_⟩
  · simp [Oper.about, ho]
  · rw [Oper.semAt_plain F _ _ (by rw [ho]; intro c hc; cases hc)]
    simp only [execOp, ho, hm, hk, Sem.run_bind, hr, Result.andThen_ok, Sem.run_pure]
    exact hK _ _ h
theorem wpListIn_update_r (hgd : o.guard = none) (ty : TypeId) (m k x : Operand) (ho : o.op = .mapUpdate ty m k x) (vm vk vx : Value) (w' : World) (hm : a.eval m = vm) (hk : a.eval k = vk) (hx : a.eval x = vx)
    (hr : (Instr.mapUpdate ty vm vk vx).run P w = .ok () w') (h : wpListIn F n P ops Q rest (a.put o.dst undef) w') : wpListIn F n P ops Q (o :: rest) a w := by
  refine wpListIn_plain hgd fun K hK => ⟨?_, ?_⟩
  · simp [Oper.about, ho]
  · rw [Oper.semAt_plain F _ _ (by rw [ho]; intro c hc; cases hc)]
    simp only [execOp, ho, hm, hk, hx, Sem.run_bind, hr, Result.andThen_ok, Sem.run_pure]
    exact hK _ _ h
end

theorem ixH_app (h : List Nat) : ∀ (l m : List ((List Nat × ByteArray) × Nat)) (k : Nat), ixH h (l ++ m) k = (ixH h l k).or (ixH h m (k + l.length))
  | [], m, k => by simp [ixH]
  | p :: l, m, k => by
    rw [List.cons_append, ixH, ixH]
    by_cases hp : h = p.1.1
    · simp [hp]
    · simp only [if_neg hp]
      rw [ixH_app h l m (k + 1), List.length_cons, show k + 1 + l.length = k + (l.length + 1) by omega]
theorem ixH_some (h : List Nat) : ∀ (l : List ((List Nat × ByteArray) × Nat)) (k i : Nat) (s : ByteArray), ixH h l k = some (i, s) → ∃ j n, i = k + j ∧ l[j]? = some ((h, s), n)
  | [], _, _, _, e => by cases e
  | p :: l, k, i, s, e => by
    rw [ixH] at e
    by_cases hp : h = p.1.1
    · rw [if_pos hp] at e
      cases e
      exact ⟨0, p.2, by omega, by simp [hp]⟩
    · rw [if_neg hp] at e
      obtain ⟨j, n, e1, e2⟩ := ixH_some h l (k + 1) i s e
      exact ⟨j + 1, n, by omega, by simpa using e2⟩
/-- What a hash has. -/
def lookH (es : List (List Nat × ByteArray)) (h : List Nat) : Option ByteArray := (ixH h es.zipIdx 0).map (·.2)
theorem lookH_old {es : List (List Nat × ByteArray)} {h : List Nat} {s : ByteArray} (p : List Nat × ByteArray) (e : lookH es h = some s) : lookH (es ++ [p]) h = some s := by
  unfold lookH at e ⊢
  rw [List.zipIdx_append, ixH_app]
  cases hq : ixH h es.zipIdx 0 with
  | none => rw [hq] at e; cases e
  | some q => rw [hq] at e; exact e
theorem lookH_new {es : List (List Nat × ByteArray)} {h : List Nat} {s : ByteArray} (e : lookH es h = none) : lookH (es ++ [(h, s)]) h = some s := by
  unfold lookH at e ⊢
  have e' : ixH h es.zipIdx 0 = none := by simpa using e
  rw [List.zipIdx_append, ixH_app, e']
  simp [ixH]
theorem run_getH {w : World} {b : Nat} {es : List (List Nat × ByteArray)} (hM : MapH w b es) : (getObj b).run Tryd.prog w = .ok (.map (entH es).toArray es.length) w := by
  unfold MapH at hM
  simp [getObj, Sem.run, hM]
theorem under_mh : ∃ k e, Tryd.prog.underlying 59 = some (.map k e) ∧ k = 28 ∧ e = 9 := ⟨_, _, Tryd.underlying59, rfl, rfl⟩
theorem zero_str (w : World) : (zeroValue 9).run Tryd.prog w = .ok (.string ⟨#[]⟩) w := by
  first | rfl | kernel_rfl
theorem run_lookH {w : World} {b : Nat} {es : List (List Nat × ByteArray)} (hM : MapH w b es) (hes : ∀ p ∈ es, H32 p.1) (h : List Nat) (hh : H32 h) :
    (Instr.lookup 59 (.map (some b)) (.agg (bytesL h)) true).run Tryd.prog w = .ok (.tuple #[.string ((lookH es h).getD ⟨#[]⟩), .bool (lookH es h).isSome]) w := by
  have hf := run_fkh h hh es hes w
  unfold Instr.lookup lookH
  simp only [Sem.run_bind, run_underlying Tryd.underlying59, Result.andThen_ok, run_getH hM, ck_hash _ h hh, hf, Sem.run_pure]
  cases hq : ixH h es.zipIdx 0 with
  | none => simp [zero_str, Sem.run_bind]
  | some q => simp [Sem.run_bind]
/-- All blocks but one lie as they lay. -/
theorem run_updH {w : World} {b : Nat} {es : List (List Nat × ByteArray)} (hM : MapH w b es) (hes : ∀ p ∈ es, H32 p.1) (h : List Nat) (hh : H32 h) (s : ByteArray) (hs : ∀ y, lookH es h = some y → y = s) :
    ∃ o, (Instr.mapUpdate 59 (.map (some b)) (.agg (bytesL h)) (.string s)).run Tryd.prog w = .ok () (w.putObj b o) ∧ MapH (w.putObj b o) b (if lookH es h = none then es ++ [(h, s)] else es) := by
  have hf := run_fkh h hh es hes w
  have hlt := (Array.getElem?_eq_some_iff.1 hM).1
  have hset : ∀ o, (setObj b o).run Tryd.prog w = .ok () (w.putObj b o) := by
    intro o
    unfold MapH at hM
    simp [setObj, Sem.run, hM, World.putObj]
  cases hq : ixH h es.zipIdx 0 with
  | none =>
    have hl : lookH es h = none := by unfold lookH; rw [hq]; rfl
    rw [if_pos hl]
    refine ⟨.map ((entH es).toArray.push ⟨.agg (bytesL h), .string s, es.length⟩) (es.length + 1), ?_, ?_⟩
    · unfold Instr.mapUpdate
      rw [hq] at hf
      simp only [Sem.run_bind, run_underlying Tryd.underlying59, Result.andThen_ok, run_getH hM, ck_hash _ h hh, hf, Option.map_none, hset]
    · unfold MapH
      rw [entH_snoc, List.length_append, World.putObj_heap_same hlt]
      simp [ent]
  | some q =>
    obtain ⟨i, y⟩ := q
    have hl : lookH es h = some y := by unfold lookH; rw [hq]; rfl
    obtain rfl := hs y hl
    rw [if_neg (by rw [hl]; simp)]
    obtain ⟨j, m, e1, e2⟩ := ixH_some h _ _ _ _ hq
    rw [Nat.zero_add] at e1
    subst e1
    have hent : (entH es)[i]? = some (ent ((h, y), m)) := by unfold entH; rw [List.getElem?_map, e2]; rfl
    refine ⟨.map ((entH es).toArray.modify i fun e => { e with key := .agg (bytesL h), val := .string y }) es.length, ?_, ?_⟩
    · unfold Instr.mapUpdate
      rw [hq] at hf
      have hsb : Instr.sameBits 10000 (.agg (bytesL h)) (.agg (bytesL h)) = true := by
        unfold Instr.sameBits
        simp only [beq_self_eq_true, Bool.true_and, List.all_eq_true]
        rintro ⟨x, y⟩ hxy
        have hz : x = y ∧ ∃ k : Nat, x = .int .u8 (k : Int) := by
          have e : (bytesL h).toList = h.map fun x : Nat => Value.int .u8 (x : Int) := by simp [bytesL]
          rw [e, List.zip_map', List.mem_map] at hxy
          obtain ⟨k, _, hk⟩ := hxy
          cases hk
          exact ⟨rfl, k, rfl⟩
        obtain ⟨rfl, k, rfl⟩ := hz
        simp [Instr.sameBits]
      have hkt : ((entH es).toArray[i]?.map (·.key)).getD (.agg (bytesL h)) = .agg (bytesL h) := by
        rw [List.getElem?_toArray, hent]; rfl
      simp only [Sem.run_bind, run_underlying Tryd.underlying59, Result.andThen_ok, run_getH hM, ck_hash _ h hh, hf, Option.map_some, hkt, Instr.keyThatStays, hsb, if_true, Sem.run_pure, hset]
    · unfold MapH
      rw [World.putObj_heap_same hlt]
      have : (entH es).toArray.modify i (fun e => { e with key := .agg (bytesL h), val := .string y }) = (entH es).toArray := by
        apply Array.ext_getElem?
        intro k
        rw [Array.getElem?_modify]
        by_cases hk : i = k
        · subst hk
          rw [if_pos rfl, List.getElem?_toArray, hent]
          rfl
        · rw [if_neg hk]
      rw [this]
end Go.Proofs.YtepohpniflmblaaDoor
