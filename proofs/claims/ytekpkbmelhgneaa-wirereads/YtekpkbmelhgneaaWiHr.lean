
/-
  package wire's Reader: Hash. For all bytes.
-/
import Derived.Test.YtekpkbmelhgneaaWiR
import Derived.Test.YtekpkbmelhgneaaWiHa
import Derived.Test.YtekpkbmelhgneaaHeld
import Derived.Lib.SlBuf
import Derived.Laws.IdiomCopy
namespace Go.Proofs.Ytekpkbmelhgneaa
open Go.RowKit
set_option maxRecDepth 100000
set_option linter.unusedSimpArgs false
set_option linter.unusedVariables false

/-- The hash that is read. -/
def rH (s : List Nat × Bool) : List Nat := if (rTake 32 s).length = 32 then rTake 32 s else List.replicate 32 0
theorem rH_len (s : List Nat × Bool) : (rH s).length = 32 := by
  unfold rH
  split
  · assumption
  · simp
theorem info_byte : (Try.prog.info? 5).map (·.size) = some 1 := by kernel_rfl
/-- What a copy of at most 32 bytes into a row of 32 zeros does. -/
theorem run_copy_hash (w : World) (g : Nat) (v : Value) (s : List Nat × Bool) (hg : Row w g (bytesL (List.replicate 32 0)) 40) (hv : BytesAt w v (rTake 32 s)) (ty : TypeId) :
    ∃ n w', (Builtin.copy_ #[32, 32] ty #[.slice (some ⟨g, 0, none⟩) 32 32, v]).run Try.prog w = .ok n w' ∧ Row w' g (bytesL (rH s)) 40 ∧ Else g w w' := by
  obtain ⟨h8, hm, p, c, rfl, hc⟩ := hv
  unfold rH
  rcases rTake_or 32 s with h | h
  · rw [h, if_neg (by simp)]
    exact ⟨_, w, run_copy_none (P := Try.prog) w _ _ _ 5 _ _ _ _ _ _ under_bytes info_byte rfl, hg, Else.refl _ _⟩
  · rw [if_pos h]
    obtain ⟨b, off, rfl, _, _⟩ := hc 0 (by omega)
    have hcs : ((rTake 32 s).map fun x : Nat => Value.int .u8 (x : Int)).length = 32 := by rw [List.length_map, h]
    have hrun := run_copy_row (P := Try.prog) w 32 32 ty 5 g 0 32 32 ⟨b, off, none⟩ (rTake 32 s).length c (bytesL (List.replicate 32 0)) 40 ((rTake 32 s).map fun x : Nat => Value.int .u8 (x : Int)) under_bytes info_byte hg (by rw [hcs, h]; rfl) (fun j v hj => by
      have hj' : j < (rTake 32 s).length := by
        have := (List.getElem?_eq_some_iff.1 hj).1
        simpa using this
      obtain ⟨b', off', e, _, hcell⟩ := hc j hj'
      cases e
      rw [Addr.add_lit, hcell, ← hj]
      simp [hj']) (by rw [hcs, bytesL_size]; simp) (fun v hv => by
      obtain ⟨x, _, rfl⟩ := List.mem_map.1 hv
      rfl)
    refine ⟨_, _, hrun, ?_, ?_⟩
    · have e : ((bytesL (List.replicate 32 0)).toList.take 0 ++ ((rTake 32 s).map fun x : Nat => Value.int .u8 (x : Int)) ++ (bytesL (List.replicate 32 0)).toList.drop (0 + ((rTake 32 s).map fun x : Nat => Value.int .u8 (x : Int)).length)).toArray = bytesL (rTake 32 s) := by
        rw [hcs]
        simp [bytesL]
      rw [e]
      exact hg.setRow _
    · exact ⟨rfl, rfl, rfl, by simp [World.setRow], fun k _ hk => setRow_other w g k _ hk⟩

theorem Else.new {R A : Nat} {w w1 w2 : World} (h : Else R w w1) (k : Else A w1 w2) (hA : w.heap.size ≤ A) : Else R w w2 :=
  ⟨k.os.trans h.os, k.tape.trans h.tape, k.output.trans h.output, Nat.le_trans h.size k.size, fun i hi hn => (k.block i (Nat.lt_of_lt_of_le hi h.size) (by omega)).trans (h.block i hi hn)⟩
set_option maxHeartbeats 4000000 in
theorem rhash_any (w : World) (R D : Nat) (s : List Nat × Bool) (h : RdAt w R D s) :
    Calls Try.prog 30 #[.pointer (some ⟨R, 0, none⟩)] w fun e w' => e = .returned (.agg (bytesL (rH s))) ∧ RdAt w' R D (rDrop 32 s) ∧ Else R w w' := by
  have hlt := h.lt
  have hdl := h.dl
  have hinf := info_hash' (rH_len s)
  have HT : Hid ((rH s).length = 32) := rH_len s
  go_enter Try.func30, Try.ntmps30
  go_wp2_with fail
  rw [hash_lit]
  have r0 : Row ((w.alloc (.cells (bytesL (List.replicate 32 0)) 40)).alloc (.cells (bytesL (List.replicate 32 0)) 40)) w.heap.size (bytesL (List.replicate 32 0)) 40 := (Row.new w _ _ rfl).alloc _
  have r1 : Row ((w.alloc (.cells (bytesL (List.replicate 32 0)) 40)).alloc (.cells (bytesL (List.replicate 32 0)) 40)) (w.heap.size + 1) (bytesL (List.replicate 32 0)) 40 := Row.new _ _ _ (by simp)
  have b0 := below2 w (.cells (bytesL (List.replicate 32 0)) 40) (.cells (bytesL (List.replicate 32 0)) 40)
  generalize (w.alloc (.cells (bytesL (List.replicate 32 0)) 40)).alloc (.cells (bytesL (List.replicate 32 0)) 40) = w1 at *
  refine wp_region_D (fun _ => true) (fun _ : World => True) (by kernel_rfl) ?_
  have hS : (fun _ : World => True) w1.drew := trivial
  have q0 : Row w1.drew w.heap.size (bytesL (List.replicate 32 0)) 40 := r0
  have q1 : Row w1.drew (w.heap.size + 1) (bytesL (List.replicate 32 0)) 40 := r1
  have hR1 : RdAt w1.drew R D s := (h.later b0).drew
  have e1 : Else R w w1.drew := Else.of b0.drew
  clear r0 r1 b0 h
  generalize w1.drew = w2 at *
  refine' wpAnyD_take (i := 0) (v := _) rfl (by kernel_rfl) (by kernel_rfl) (by kernel_rfl) (by kernel_rfl) (fun _ _ _ h => h) (Or.inl ⟨by rfl, ?hy1⟩) hS ?re1
  case hy1 => (intro w hSw; (try dsimp only at hSw); go_simp; (try with_reducible rfl))
  simp only [Act.put, List.setIfInBounds_toArray, List.set_cons_zero, List.set_cons_succ]
  refine' wpAnyD_take (i := 1) (v := _) rfl (by kernel_rfl) (by kernel_rfl) (by kernel_rfl) (by kernel_rfl) (fun _ _ _ h => h) (Or.inl ⟨by rfl, ?hy2⟩) hS ?re2
  case hy2 => (intro w hSw; (try dsimp only at hSw); go_simp; (try with_reducible rfl))
  simp only [Act.put, List.setIfInBounds_toArray, List.set_cons_zero, List.set_cons_succ]
  refine wpAnyD_only (i := 2) rfl (by kernel_rfl) (by rfl) (fun K hK => ?_)
  go_simp
  refine (next_any 32 (by decide) w2 R D s hR1).mono ?_
  rintro e w3 ⟨v, rfl, hv, hR3, e3⟩
  have r0 := q0.else e3 (by omega)
  have r1 := q1.else e3 (by omega)
  have e13 := e1.trans e3
  obtain ⟨nn, w4, hrun, r14, e4⟩ := run_copy_hash w3 (w.heap.size + 1) v s r1 hv 3
  try dsimp only
  have hSn := (trivial : (fun _ : World => True) w3)
  refine hK.out _ _ (fun _ => hSn) ?_
  clear hK K hS
  have hS := hSn
  clear hSn
  try simp only [Act.put, List.setIfInBounds_toArray, List.set_cons_zero, List.set_cons_succ]
  clear q0 q1 hR1 e1 e3
  refine wpAnyD_only (i := 3) rfl (by kernel_rfl) (by rfl) (fun K hK => ?_)
  refine Lib.wp_copy_run (P := Try.prog) w3 _ _ _ _ rfl _ _ rfl rfl hrun ?_
  refine hK.out _ _ (fun _ => trivial) ?_
  clear hK K hS
  simp only [Act.put, List.setIfInBounds_toArray, List.set_cons_zero, List.set_cons_succ]
  refine wpAnyD_done (by kernel_rfl) ?_ _
  have r04 := r0.else e4 (by omega)
  have hR4 := hR3.else e4 (by omega) (by omega)
  have e14 := e13.new e4 (by omega)
  clear r0 r1 e13 e4 hR3 hv hrun
  go_wp2_with (first | refine wpList_load_row rfl 40 _ rfl (w.heap.size + 1) rfl 40 (bytesL (rH s)) (0, 0) _ r14 Try.underlying40 rfl hinf ?_ | refine wpList_store_row rfl 40 _ _ rfl w.heap.size (bytesL (rH s)) rfl rfl 40 _ r04 hinf (by rw [bytesL_size, bytesL_size, HT.out, List.length_replicate]) (bytesL_one _) ?_)
  refine bodyPost_ret (v := .agg (bytesL (rH s))) (results_cell_row Try.results30 _ _ w.heap.size 40 (bytesL (rH s)) (0, 0) _ ?hp ?hg Try.underlying40 rfl hinf) rfl ⟨rfl, hR4.setRow _ (by omega) (by omega), e14.rowNew (Nat.le_refl _) _⟩
  case hp => rfl
  case hg => exact r04.setRow _
end Go.Proofs.Ytekpkbmelhgneaa
