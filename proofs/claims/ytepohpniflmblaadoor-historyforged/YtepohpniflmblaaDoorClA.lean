
/-
  A map of strings by hashes that a call makes: what is laid into it, and found again. Laws over any world.
-/
import Derived.Test.YtepohpniflmblaaDoorHiB
import Derived.DeepKeys3
import Derived.WideKeyRuns
namespace Go.Proofs.YtepohpniflmblaaDoor
open Go.RowKit
set_option maxRecDepth 100000
set_option linter.unusedVariables false
set_option linter.unusedSimpArgs false

theorem kt_hash : Tryd.prog.keyTypeAt 2 28 = true := by kernel_rfl
theorem ch_hash : Tryd.prog.cellsOf 28 = 32 := by kernel_rfl
theorem ch_u8 : Tryd.prog.cellsOf 5 = 1 := by kernel_rfl
theorem mapM_some {α β : Type} (f : α → Option β) (g : α → β) : ∀ l : List α, (∀ x ∈ l, f x = some (g x)) → l.mapM f = some (l.map g)
  | [], _ => rfl
  | x :: l, h => by
    rw [List.mapM_cons, h x (by simp), mapM_some f g l fun y hy => h y (by simp [hy])]
    rfl
theorem kl_byte (x : Nat) (h : x < 256) : Tryd.prog.keyLits 1 5 [.int .u8 (x : Int)] = some [.int .u8 (x : Int)] := by
  have hw : (Lit.int .u8 (x : Int)).wf = true := by
    simp [Lit.wf, IntKind.min, IntKind.max, IntKind.signed, IntKind.bits]; omega
  unfold Program.keyLits
  simp [Tryd.underlying5, hw]
theorem kl_hash (h : List Nat) (hh : H32 h) : ∃ la, Tryd.prog.keyLits 2 28 (bytesL h).toList = some la := by
  have hlen : (bytesL h).toList.length = Tryd.prog.cellsOf 28 := by rw [ch_hash, Array.length_toList, bytesL_size, hh.1]
  unfold Program.keyLits
  simp only [Tryd.underlying28]
  rw [if_pos hlen]
  rw [mapM_some _ (fun i => [Lit.int .u8 ((h.getD i 0 : Nat) : Int)]) (List.range 32) (fun i hi => ?_)]
  · exact ⟨_, rfl⟩
  · have hi' : i < 32 := List.mem_range.1 hi
    have hi2 : i < h.length := by rw [hh.1]; exact hi'
    rw [ch_u8, Nat.mul_one]
    have e : ((bytesL h).toList.drop i).take 1 = [.int .u8 ((h.getD i 0 : Nat) : Int)] := by
      have e1 : (bytesL h).toList = h.map fun x : Nat => Value.int .u8 (x : Int) := by simp [bytesL]
      rw [e1, List.drop_eq_getElem_cons (by simpa using hi2)]
      simp [List.getD, hi2]
    rw [e]
    refine kl_byte _ ?_
    have : h.getD i 0 ∈ h := by simp [List.getD, hi2]
    exact hh.2 _ this
theorem ck_hash (em : Bool) (h : List Nat) (hh : H32 h) (w : World) : (Instr.checkKey em 10000 28 (.agg (bytesL h))).run Tryd.prog w = .ok () w := by
  obtain ⟨la, hla⟩ := kl_hash h hh
  refine run_checkKey_deep em 9998 2 28 kt_hash w 2 (.agg (bytesL h)) la ?_ hla
  unfold Value.formed
  simp only [Tryd.underlying28]
  rw [ch_hash, bytesL_size, hh.1]
  rfl

/-- The entries of a map, one made behind the other. -/
def ent (p : (List Nat × ByteArray) × Nat) : MapEntry := ⟨.agg (bytesL p.1.1), .string p.1.2, p.2⟩
def entH (es : List (List Nat × ByteArray)) : List MapEntry := es.zipIdx.map ent
theorem entH_snoc (es : List (List Nat × ByteArray)) (p : List Nat × ByteArray) : entH (es ++ [p]) = entH es ++ [ent (p, es.length)] := by
  simp [entH, List.zipIdx_append]
def MapH (w : World) (b : Nat) (es : List (List Nat × ByteArray)) : Prop := w.heap[b]? = some (.map (entH es).toArray es.length)
/-- Where a hash stands first, and with what. -/
def ixH (h : List Nat) : List ((List Nat × ByteArray) × Nat) → Nat → Option (Nat × ByteArray)
  | [], _ => none
  | p :: l, i => if h = p.1.1 then some (i, p.1.2) else ixH h l (i + 1)
theorem hash_eqk (l m : List Nat) (hl : H32 l) (hm : H32 m) (w : World) : (Op.equalIn 10000 28 (.agg (bytesL l)) (.agg (bytesL m))).run Tryd.prog w = .ok (decide (l = m)) w := by
  obtain ⟨i, hi, _⟩ := info_u8'
  rw [run_equalIn_array w 9999 (bytesL l) (bytesL m) Tryd.underlying28 hi, cells_u8]
  have h := run_eqItems_u8 9998 l m w (List.range 32) (fun j hj => by rw [hl.1, hm.1]; simpa using hj)
  rw [h, ← hl.1, all_range_eq l m (by rw [hl.1, hm.1])]
theorem run_ask (h : List Nat) (hh : H32 h) (w : World) : ∀ (l : List ((List Nat × ByteArray) × Nat)) (i : Nat), (∀ p ∈ l, H32 p.1.1) →
    (Instr.findAsking 28 (.agg (bytesL h)) (l.map ent) i).run Tryd.prog w = .ok ((ixH h l i).map fun q => (q.1, .string q.2)) w
  | [], _, _ => rfl
  | p :: l, i, hl => by
    have ih := run_ask h hh w l (i + 1) fun q hq => hl q (by simp [hq])
    have e := hash_eqk h p.1.1 hh (hl p (by simp)) w
    rw [List.map_cons, Instr.findAsking, ixH]
    have e' : (Op.equal 28 (.agg (bytesL h)) (ent p).key).run Tryd.prog w = .ok (decide (h = p.1.1)) w := e
    simp only [Sem.run_bind, e', Result.andThen_ok]
    by_cases hp : h = p.1.1
    · simp [hp, ent]
    · simp [hp, ih]
theorem under_hash : ∃ n e, Tryd.prog.underlying 28 = some (.array n e) := ⟨_, _, Tryd.underlying28⟩
theorem run_fkh (h : List Nat) (hh : H32 h) (es : List (List Nat × ByteArray)) (hes : ∀ p ∈ es, H32 p.1) (w : World) :
    (Instr.findKey 28 (.agg (bytesL h)) (entH es)).run Tryd.prog w = .ok ((ixH h es.zipIdx 0).map fun q => (q.1, .string q.2)) w := by
  have ha := run_ask h hh w es.zipIdx 0 (fun p hp => hes _ (by have := List.mem_zipIdx' hp; rw [this.2]; exact List.getElem_mem _))
  unfold Instr.findKey
  simp only [Sem.run_bind, run_underlying Tryd.underlying28, Result.andThen_ok]
  cases es with
  | nil => rfl
  | cons p l => exact ha
end Go.Proofs.YtepohpniflmblaaDoor
