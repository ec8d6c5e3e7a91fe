
/-
  Helpers for drawn regions, and append of one struct. (My own texts of the stage before, over this seat's types.)
-/
import Derived.Test.YtfhaphbfbmpbiaaDkC
namespace Go.Proofs.Ytfhaphbfbmpbiaa
open Go.RowKit
set_option maxRecDepth 100000
set_option linter.unusedVariables false
set_option linter.unusedSimpArgs false

theorem wpAnyD_more {P : Program} {md : Region.Mode} {ops : Array Oper} {Q : Exit → Act → World → Prop} {S S2 : World → Prop} {D : Nat → Bool} (hS : ∀ w, S2 w → S w) (fuel : Nat) : ∀ (listed : Array Bool) (a : Act) (w : World), wpAnyD P md ops Q S2 D fuel listed a w → wpAnyD P md ops Q S D fuel listed a w := by
  induction fuel with
  | zero => intro _ _ _ h; exact h
  | succ fuel ih => intro listed a w h; exact ⟨h.1, fun i hi => wpOp_mono (fun a' w' h' => ⟨fun hd => hS _ (h'.1 hd), ih _ a' w' h'.2⟩) (h.2 i hi)⟩
theorem yields_row {ops : Array Oper} {S : World → Prop} {op : Oper} {a : Act} (hw : Region.wanted op (yielded ops a.tmps) = true) (ty : TypeId) (x : Operand) (ho : op.op = .load ty x)
    (g : Nat) (hx : a.eval x = .pointer (some ⟨g, 0, none⟩)) (t : TypeId) (cs : Array Value) (d : TypeDesc) (hS : ∀ w, S w → Row w g cs t)
    (hu : Try.prog.underlying ty = some d) (hd : (match d with | .struct _ | .array _ _ => true | _ => false) = true) (hi : (Try.prog.info? ty).map (·.size) = some cs.size) : YieldsIf Try.prog ops S op (.agg cs) a :=
  .inl ⟨hw, fun w hw' => by
    unfold execOp
    simp only [ho, hx, Instr.loadAt, Instr.sureAddr, Sem.run_bind, Sem.run_pure, Result.andThen_ok, run_loadVar_row (P := Try.prog) w g t ty cs (0, 0) d (hS w hw') hu (by cases d <;> simp_all) hi]⟩
theorem yields_conv {ops : Array Oper} {S : World → Prop} {op : Oper} {a : Act} (hw : Region.wanted op (yielded ops a.tmps) = true) (x : Operand) (ho : op.op = .convert 31 9 x) (v : Value) (hx : a.eval x = v) (l : List Nat) (hS : ∀ w, S w → BytesAt w v l) : YieldsIf Try.prog ops S op (.string (strL l)) a :=
  .inl ⟨hw, fun w hw' => by
    unfold execOp
    simp only [ho, hx, Sem.run_bind, Sem.run_pure, conv_str (hS w hw'), Result.andThen_ok]⟩
/-- All cells of a row laid anew. -/
theorem lay_list : ∀ (l : List Value) (k : Nat) (z : Array Value), k + l.length ≤ z.size → (l.zipIdx k).foldl (fun (c : Array Value) x => c.setIfInBounds x.2 x.1) z = (z.toList.take k ++ l ++ z.toList.drop (k + l.length)).toArray
  | [], k, z, _ => by simp
  | x :: l, k, z, h => by
    rw [List.length_cons] at h
    rw [List.zipIdx_cons, List.foldl_cons, lay_list l (k + 1) _ (by simp; omega)]
    congr 1
    have e := list_seg_step z.toList k x l (by simp; omega)
    simpa [Array.toList_setIfInBounds, Nat.add_assoc] using e
theorem lay_all (z cs : Array Value) (n : Nat) (h : cs.size = n) (hz : z.size = n) : Array.foldl (fun c x => c.setIfInBounds x.2 x.1) z cs.zipIdx 0 n = cs := by
  obtain ⟨l⟩ := cs
  have hl : l.length = n := by simpa using h
  have e := lay_list l 0 z (by omega)
  rw [show ((⟨l⟩ : Array Value).zipIdx) = (l.zipIdx 0).toArray from by simp]
  subst hl
  have e2 : ∀ (m : List (Value × Nat)) (k : Nat), m.length = k → Array.foldl (fun (c : Array Value) (x : Value × Nat) => c.setIfInBounds x.2 x.1) z m.toArray 0 k = List.foldl (fun (c : Array Value) (x : Value × Nat) => c.setIfInBounds x.2 x.1) z m := by
    intro m k hk
    subst hk
    simp
  rw [e2 _ _ (by simp), e]
  simp
  omega
/-- append(v, x), x a struct of some cells, v the call's own. -/
theorem append_one {t e : TypeId} {z : Value} {sz bytes : Nat} (ht : Try.prog.underlying t = some (.slice e)) (hi : (Try.prog.info? e).map (fun i => (i.zero, i.size, i.bytes)) = some (some z, sz, bytes)) (hzs : z.cells.size = sz) (hpos : 0 < sz) (hby : bytes ≤ 1000)
    (w : World) (base : Nat) (ty : TypeId) (v : Value) (n : Nat) (xs : List Value) (hown : w.ownsRow base e sz v n xs) (cs : Array Value) (hcs : cs.size = sz) (h1 : cs.all (·.oneCell') = true) (hn : n ≤ 1000) (hb : base ≤ w.heap.size) (g : Nat) (hg : g = w.heap.size) :
    ∃ v' w', (Builtin.append_ #[t, t] ty #[v, .slice (some ⟨g, 0, none⟩) 1 1]).run Try.prog (w.alloc (.cells cs e)) = .ok v' w' ∧ w'.ownsRow base e sz v' (n + 1) (xs ++ cs.toList) ∧ (w.alloc (.cells cs e)).grownBy w' v.ownBlock ∧ (v'.ownBlock = v.ownBlock ∨ v'.ownBlock = some (w.heap.size + 1)) := by
  subst hg
  obtain ⟨i, hi, z0, z1, z2⟩ := info_some hi
  have hall : ∀ u ∈ cs.toList, u.oneCell' = true := by
    rw [Array.all_eq_true_iff_forall_mem] at h1
    intro u hu
    exact h1 u (by simpa using hu)
  have hb63 : (n + 1) * bytes ≤ 140737488355328 := Nat.le_trans (Nat.mul_le_mul (show n + 1 ≤ 1001 by omega) hby) (by decide)
  obtain ⟨v', w', h1, h2, h3, _, h5⟩ := run_append_own_at (P := Try.prog) (w.alloc (.cells cs e)) base t ty e i _ sz bytes ht hi z0 z1 z2 hzs hpos v n xs (ownsRow_keep hown (fun k _ hk _ => heap_alloc_old w _ hk)) ⟨w.heap.size, 0, none⟩ 1 1 cs.toList (by simpa using hcs)
    (fun j u hu => by
      rw [show (⟨w.heap.size, 0, none⟩ : Addr).add j = ⟨w.heap.size, 0 + j, none⟩ from Addr.add_lit .., World.cell?_alloc_at _ _ _ _ rfl, ← hu, Nat.zero_add]
      simp) hall (by unfold maxLen; omega) hb63 (by simp; omega)
  exact ⟨v', w', h1, h2, h3, by simpa using h5⟩
theorem info_write3 : (Try.prog.info? 81).map (fun i => (i.zero, i.size, i.bytes)) = some (some (.agg (wr1 (0, zs 64))), 65, 72) := by kernel_rfl
theorem info_wr' {x : Nat × List Nat} (h : x.2.length = 64) : (Try.prog.info? 81).map (·.size) = some (wr1 x).size := by rw [wr1_size h]; kernel_rfl
theorem info_wr2 {x : Nat × List Nat} (h : x.2.length = 64) : (Try.prog.info? 81).map (·.size) = some (wr1 x).toList.length := by rw [Array.length_toList]; exact info_wr' h
theorem wr_lit (a : Nat) : (#[.int .i64 (a : Nat), .int .u8 0, .int .u8 0, .int .u8 0, .int .u8 0, .int .u8 0, .int .u8 0, .int .u8 0, .int .u8 0, .int .u8 0, .int .u8 0, .int .u8 0, .int .u8 0, .int .u8 0, .int .u8 0, .int .u8 0, .int .u8 0, .int .u8 0, .int .u8 0, .int .u8 0, .int .u8 0, .int .u8 0, .int .u8 0, .int .u8 0, .int .u8 0, .int .u8 0, .int .u8 0, .int .u8 0, .int .u8 0, .int .u8 0, .int .u8 0, .int .u8 0, .int .u8 0, .int .u8 0, .int .u8 0, .int .u8 0, .int .u8 0, .int .u8 0, .int .u8 0, .int .u8 0, .int .u8 0, .int .u8 0, .int .u8 0, .int .u8 0, .int .u8 0, .int .u8 0, .int .u8 0, .int .u8 0, .int .u8 0, .int .u8 0, .int .u8 0, .int .u8 0, .int .u8 0, .int .u8 0, .int .u8 0, .int .u8 0, .int .u8 0, .int .u8 0, .int .u8 0, .int .u8 0, .int .u8 0, .int .u8 0, .int .u8 0, .int .u8 0, .int .u8 0] : Array Value) = wr1 (a, zs 64) := rfl
theorem wr_lit0 : (#[.int .i64 0, .int .u8 0, .int .u8 0, .int .u8 0, .int .u8 0, .int .u8 0, .int .u8 0, .int .u8 0, .int .u8 0, .int .u8 0, .int .u8 0, .int .u8 0, .int .u8 0, .int .u8 0, .int .u8 0, .int .u8 0, .int .u8 0, .int .u8 0, .int .u8 0, .int .u8 0, .int .u8 0, .int .u8 0, .int .u8 0, .int .u8 0, .int .u8 0, .int .u8 0, .int .u8 0, .int .u8 0, .int .u8 0, .int .u8 0, .int .u8 0, .int .u8 0, .int .u8 0, .int .u8 0, .int .u8 0, .int .u8 0, .int .u8 0, .int .u8 0, .int .u8 0, .int .u8 0, .int .u8 0, .int .u8 0, .int .u8 0, .int .u8 0, .int .u8 0, .int .u8 0, .int .u8 0, .int .u8 0, .int .u8 0, .int .u8 0, .int .u8 0, .int .u8 0, .int .u8 0, .int .u8 0, .int .u8 0, .int .u8 0, .int .u8 0, .int .u8 0, .int .u8 0, .int .u8 0, .int .u8 0, .int .u8 0, .int .u8 0, .int .u8 0, .int .u8 0] : Array Value) = wr1 (0, zs 64) := rfl
/-- These bytes, and zeros behind. -/
def pad (b : List Nat) : List Nat := b ++ zs (64 - b.length)
theorem pad_len {b : List Nat} (h : b.length ≤ 64) : (pad b).length = 64 := by unfold pad; rw [List.length_append, zs_len]; omega
theorem pad_w8 {b : List Nat} (h : W8 b) : W8 (pad b) := by
  intro x hx
  rcases List.mem_append.1 hx with hx | hx
  · exact h x hx
  · exact zs_w8 _ x hx
/-- copy(w.data[:], b). -/
theorem run_copy_pad (w : World) (g at0 : Nat) (u : Value) (b : List Nat) (hg : Row w g (wr1 (at0, zs 64)) 81) (hu : BytesAt w u b) (hb : b.length ≤ 64) (ty : TypeId) :
    ∃ n w', (Builtin.copy_ #[31, 31] ty #[.slice (some ⟨g, 1, none⟩) 64 64, u]).run Try.prog w = .ok n w' ∧ Row w' g (wr1 (at0, pad b)) 81 ∧ Else g w w' := by
  obtain ⟨h8, hm, p, c, rfl, hc⟩ := hu
  by_cases h0 : b = []
  · subst h0
    exact ⟨_, w, run_copy_none (P := Try.prog) w _ _ _ 5 _ _ _ _ _ _ under_bytes info_byte rfl, hg, Else.refl _ _⟩
  · have hpos : 0 < b.length := List.length_pos_iff.2 h0
    obtain ⟨bb, off, rfl, _, _⟩ := hc 0 hpos
    have hcs : (b.map fun x : Nat => Value.int .u8 (x : Int)).length = b.length := by rw [List.length_map]
    have hrun := run_copy_row (P := Try.prog) w 31 31 ty 5 g 1 64 64 ⟨bb, off, none⟩ b.length c (wr1 (at0, zs 64)) 81 (b.map fun x : Nat => Value.int .u8 (x : Int)) under_bytes info_byte hg (by rw [hcs]; exact (Nat.min_eq_left hb).symm) (fun j v hj => by
      have hj' : j < b.length := by
        have := (List.getElem?_eq_some_iff.1 hj).1
        simpa using this
      obtain ⟨b', off', e, _, hcell⟩ := hc j hj'
      cases e
      rw [Addr.add_lit, hcell, ← hj]
      simp [hj']) (by rw [hcs, wr1_size (zs_len 64)]; omega) (fun v hv => by
      obtain ⟨x, _, rfl⟩ := List.mem_map.1 hv
      rfl)
    refine ⟨_, _, hrun, ?_, ?_⟩
    · have e : ((wr1 (at0, zs 64)).toList.take 1 ++ (b.map fun x : Nat => Value.int .u8 (x : Int)) ++ (wr1 (at0, zs 64)).toList.drop (1 + (b.map fun x : Nat => Value.int .u8 (x : Int)).length)).toArray = wr1 (at0, pad b) := by
        rw [hcs]
        simp only [wr1, pad, zs, List.map_append, List.map_replicate]
        rw [Nat.add_comm 1, List.drop_succ_cons, List.drop_replicate]
        rfl
      rw [e]
      exact hg.setRow _
    · exact ⟨rfl, rfl, rfl, by simp [World.setRow], fun k _ hk => setRow_other w g k _ hk⟩
end Go.Proofs.Ytfhaphbfbmpbiaa
