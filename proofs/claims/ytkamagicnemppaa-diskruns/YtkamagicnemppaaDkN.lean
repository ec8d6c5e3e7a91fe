
/-
  What DiskRuns holds from call to call; its own function full.
-/
import Derived.Test.YtkamagicnemppaaDkM
import Derived.Deep.DeepCutAuto
namespace Go.Proofs.Ytkamagicnemppaa
open Go.RowKit
set_option maxRecDepth 100000
set_option linter.unusedVariables false
set_option linter.unusedSimpArgs false

/-- copy(x, b), x sixty-four zeros in a row of any type. -/
theorem run_copy_zsT {t : TypeId} (w : World) (g : Nat) (u : Value) (b : List Nat) (hg : Row w g (bytesL (zs 64)) t) (hu : BytesAt w u b) (hb : b.length ≤ 64) (ty : TypeId) :
    ∃ n w', (Builtin.copy_ #[28, 28] ty #[.slice (some ⟨g, 0, none⟩) 64 64, u]).run Try.prog w = .ok n w' ∧ Row w' g (bytesL (pad b)) t ∧ Else g w w' := by
  obtain ⟨h8, hm, p, c, rfl, hc⟩ := hu
  by_cases h0 : b = []
  · subst h0
    exact ⟨_, w, run_copy_none (P := Try.prog) w _ _ _ 5 _ _ _ _ _ _ under_bytes info_byte rfl, hg, Else.refl _ _⟩
  · have hpos : 0 < b.length := List.length_pos_iff.2 h0
    obtain ⟨bb, off, rfl, _, _⟩ := hc 0 hpos
    have hcs : (b.map fun x : Nat => Value.int .u8 (x : Int)).length = b.length := by rw [List.length_map]
    have hrun := run_copy_row (P := Try.prog) w 28 28 ty 5 g 0 64 64 ⟨bb, off, none⟩ b.length c (bytesL (zs 64)) t (b.map fun x : Nat => Value.int .u8 (x : Int)) under_bytes info_byte hg (by rw [hcs]; exact (Nat.min_eq_left hb).symm) (fun j v hj => by
      have hj' : j < b.length := by
        have := (List.getElem?_eq_some_iff.1 hj).1
        simpa using this
      obtain ⟨b', off', e, _, hcell⟩ := hc j hj'
      cases e
      rw [Addr.add_lit, hcell, ← hj]
      simp [hj']) (by rw [hcs, bytesL_size, zs_len]; omega) (fun v hv => by
      obtain ⟨x, _, rfl⟩ := List.mem_map.1 hv
      rfl)
    refine ⟨_, _, hrun, ?_, ?_⟩
    · have e : ((bytesL (zs 64)).toList.take 0 ++ (b.map fun x : Nat => Value.int .u8 (x : Int)) ++ (bytesL (zs 64)).toList.drop (0 + (b.map fun x : Nat => Value.int .u8 (x : Int)).length)).toArray = bytesL (pad b) := by
        rw [hcs]
        simp only [bytesL, pad, zs, List.map_append, List.map_replicate, List.drop_replicate, Nat.zero_add, List.take_zero, List.nil_append]
      rw [e]
      exact hg.setRow _
    · exact ⟨rfl, rfl, rfl, by simp [World.setRow], fun k _ hk => setRow_other w g k _ hk⟩
theorem info_arr' {t : List Nat} (h : t.length = 64) : (Try.prog.info? 26).map (·.size) = some (bytesL t).size := by rw [bytesL_size, h]; kernel_rfl
theorem info_arr2 {t : List Nat} (h : t.length = 64) : (Try.prog.info? 26).map (·.size) = some (bytesL t).toList.length := by rw [Array.length_toList]; exact info_arr' h

set_option maxHeartbeats 2000000 in
theorem full_any (u : Value) (b : List Nat) (w : World) (hu : BytesAt w u b) (hb : b.length ≤ 64) :
    Calls Try.prog 11 #[u] w fun e w' => e = .returned (.agg (bytesL (pad b))) ∧ Below w.heap.size w w' := by
  obtain ⟨_, _, pu, cu, rfl, hcells⟩ := id hu
  clear hcells
  have hxi := info_arr' (pad_len hb)
  have hxk : (bytesL (zs 64)).size = (bytesL (pad b)).size := by rw [bytesL_size, bytesL_size, zs_len, pad_len hb]
  go_enter Try.func11, Try.ntmps11
  go_upto_region 2 with fail
  rw [sector_lit]
  have r0 : Row ((w.alloc (.cells (bytesL (zs 64)) 26)).alloc (.cells (bytesL (zs 64)) 26)) w.heap.size (bytesL (zs 64)) 26 := (Row.new w _ _ rfl).alloc _
  have r1 : Row ((w.alloc (.cells (bytesL (zs 64)) 26)).alloc (.cells (bytesL (zs 64)) 26)) (w.heap.size + 1) (bytesL (zs 64)) 26 := Row.new _ _ _ (by simp)
  have b0 := below2 w (.cells (bytesL (zs 64)) 26) (.cells (bytesL (zs 64)) 26)
  generalize (w.alloc (.cells (bytesL (zs 64)) 26)).alloc (.cells (bytesL (zs 64)) 26) = w1 at *
  obtain ⟨n, w2, hrun, r12, e2⟩ := run_copy_zsT w1 (w.heap.size + 1) _ b r1 (hu.later b0) hb 3
  have r02 := r0.else e2 (by omega)
  have b2 : Below w.heap.size w w2 := b0.trans (e2.below b0.size (by omega))
  clear r0 r1 e2
  generalize hq : pad b = P at *
  have HQ : Hid (pad b = P) := hq
  clear hq
  go_wp2_with (first | refine wpList_load_row rfl 26 _ rfl (w.heap.size + 1) rfl 26 (bytesL P) (0, 0) _ r12 Try.underlying26 rfl hxi ?_ | refine wpList_store_row rfl 26 _ _ rfl w.heap.size (bytesL P) rfl rfl 26 _ r02 hxi hxk (bytesL_one _) ?_)
  refine bodyPost_ret (v := .agg (bytesL P)) (results_cell_row Try.results11 _ _ w.heap.size 26 (bytesL P) (0, 0) _ ?hp ?hg Try.underlying26 rfl hxi) rfl ⟨by rw [HQ.out], Below.row b2 _ (Nat.le_refl _)⟩
  case hp => rfl
  case hg => exact r02.setRow _

/-- The cells of Calls, one behind the other; a Call as a write. -/
def cC (l : List CIn) : List Value := l.flatMap fun c => c.cs.toList
theorem cC_snoc (l : List CIn) (c : CIn) : cC (l ++ [c]) = cC l ++ c.cs.toList := by simp [cC]
def CIn.wr (c : CIn) : Nat × List Nat := (c.at0.toNat, pad c.data)
theorem cC_at : ∀ (l : List CIn) (i j : Nat), i < l.length → j < 6 → (cC l)[6 * i + j]? = (l.getD i CIn.none).cs[j]?
  | [], i, j, hi, _ => by simp at hi
  | x :: l, i, j, hi, hj => by
    have hl : x.cs.toList.length = 6 := rfl
    show (x.cs.toList ++ cC l)[6 * i + j]? = _
    rw [List.getElem?_append, hl]
    cases i with
    | zero => rw [if_pos (by omega), show 6 * 0 + j = j by omega, Array.getElem?_toList]; rfl
    | succ i =>
      rw [if_neg (by omega), show 6 * (i + 1) + j - 6 = 6 * i + j by omega, cC_at l i j (by simpa using hi) hj]
      rfl
/-- Armed with so many; -1, if not. -/
def Dk.lef (d : Dk) : Int := if d.armed then (d.left : Int) else -1
/-- Calls that wait. -/
structure WaitOk (L : List CIn) (c : CIn) : Prop where
  mem : c ∈ L
  lo : 0 ≤ c.at0
  hi : c.at0 < 6
  len : c.data.length ≤ 64
/-- The law's own: the sectors in block M, the calls that wait in the slice uw. -/
structure RunW (w wr : World) (L : List CIn) (M : Nat) (uw : Value) (F : List Nat) (wl : List CIn) : Prop where
  row : Row wr M (bytesL F) 27
  hM : w.heap.size ≤ M
  own : wr.ownsRow w.heap.size 32 6 uw wl.length (cC wl)
  each : ∀ c ∈ wl, WaitOk L c
structure RunR (w wr : World) (L : List CIn) (R S M k : Nat) (uw : Value) (v : Value) (d : Dk) (wl : List CIn) : Prop where
  dk : Mine w wr R S v d
  own : RunW w wr L M uw d.F wl
  ws : d.ws = wl.map CIn.wr
  n : d.n = 6
  cnt : d.cnt ≤ k
  wl : wl.length ≤ k
theorem RunW.wait {w wr : World} {L : List CIn} {M : Nat} {uw : Value} {F : List Nat} {wl : List CIn} (h : RunW w wr L M uw F wl) {i : Nat} (hi : i < wl.length) :
    ∃ g cap, uw = .slice (some ⟨g, 0, none⟩) wl.length cap ∧ g < wr.heap.size ∧ wr.rangeAt g (i * 6) (wl.getD i CIn.none).cs.toList := by
  rw [Nat.mul_comm i 6]
  obtain ⟨_, ⟨rfl, h0⟩ | ⟨g, cap, cur, rfl, hb, hg, h1, h2, h3, h4⟩⟩ := id h.own
  · omega
  · refine ⟨g, cap, rfl, (Array.getElem?_eq_some_iff.1 hg).1, fun j u hu => ?_⟩
    have hj : j < 6 := (List.getElem?_eq_some_iff.1 hu).1
    have hc := h.own.cells (g := g) rfl (6 * i + j) u (by rw [cC_at wl i j hi hj, ← hu, Array.getElem?_toList])
    rwa [Addr.add_lit, Nat.zero_add] at hc
theorem RunW.keep {w wr w' : World} {L : List CIn} {M : Nat} {uw : Value} {F : List Nat} {wl : List CIn} (h : RunW w wr L M uw F wl) (hM : w'.heap[M]? = wr.heap[M]?) (hv : ∀ k, uw.ownBlock = some k → w'.heap[k]? = wr.heap[k]?) : RunW w w' L M uw F wl :=
  ⟨hM.trans h.row, h.hM, ownsRow_keep h.own (fun k _ _ e => hv k e), h.each⟩
theorem RunW.later {w wr w' : World} {L : List CIn} {M : Nat} {uw : Value} {F : List Nat} {wl : List CIn} (h : RunW w wr L M uw F wl) (hb : Below wr.heap.size wr w') : RunW w w' L M uw F wl :=
  h.keep (hb.block M h.row.lt) (fun k hk => hb.block k (h.own.lt k hk).2)
theorem RunW.step {w wr w' : World} {L : List CIn} {M : Nat} {uw : Value} {F : List Nat} {wl : List CIn} (h : RunW w wr L M uw F wl) {R S : Nat} {v v' : Value} {d : Dk} (hd : DkAt wr R S v d) (hs : DStep wr w' R S v v') : RunW w w' L M uw F wl :=
  h.keep (hs.far ⟨h.row.ne hd.row (by decide), h.row.ne hd.sure (by decide), ownN_ne hd.own h.row (by decide)⟩ h.row.lt)
    (fun k hk => hs.far ⟨fun e => ownN_ne h.own hd.row (by decide) (e ▸ hk), fun e => ownN_ne h.own hd.sure (by decide) (e ▸ hk), fun e => by
      obtain ⟨_, ⟨e1, _⟩ | ⟨g, cap, cur, e1, _, hg, _⟩⟩ := id h.own
      · subst e1; cases hk
      · subst e1
        have : g = k := by simpa [Value.ownBlock] using hk
        subst this
        exact ownN_ne (T := g) (cs := cur) hd.own hg (by decide) e⟩ (h.own.lt k hk).2)
theorem RunR.later {w wr w' : World} {L : List CIn} {R S M k : Nat} {uw v : Value} {d : Dk} {wl : List CIn} (h : RunR w wr L R S M k uw v d wl) (hb : Below wr.heap.size wr w') : RunR w w' L R S M k uw v d wl :=
  ⟨h.dk.later hb, h.own.later hb, h.ws, h.n, h.cnt, h.wl⟩
end Go.Proofs.Ytkamagicnemppaa
