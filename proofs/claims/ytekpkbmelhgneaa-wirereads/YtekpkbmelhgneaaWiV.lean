
/-
  package wire: readEvents of accounts and of transfers, for all bytes.
-/
import Derived.Test.YtekpkbmelhgneaaWiE
namespace Go.Proofs.Ytekpkbmelhgneaa
open Go.RowKit
set_option maxRecDepth 100000

/-- A reader behind k events; the events. -/
def itS (f : List Nat × Bool → List Nat × Bool) : Nat → List Nat × Bool → List Nat × Bool
  | 0, s => s
  | n + 1, s => f (itS f n s)
def evs {α : Type} (g : List Nat × Bool → α) (f : List Nat × Bool → List Nat × Bool) : Nat → List Nat × Bool → List α
  | 0, _ => []
  | n + 1, s => evs g f n s ++ [g (itS f n s)]
theorem evs_len {α : Type} (g : List Nat × Bool → α) (f : List Nat × Bool → List Nat × Bool) : ∀ n s, (evs g f n s).length = n
  | 0, _ => rfl
  | n + 1, s => by rw [evs, List.length_append, evs_len g f n]; rfl

/-- The cells of some, one behind the other. -/
def acsC (l : List Ac) : List Value := l.flatMap fun a => a.cells.toList
def trsC (l : List Tr) : List Value := l.flatMap fun a => a.cells.toList
theorem acsC_snoc (l : List Ac) (a : Ac) : acsC (l ++ [a]) = acsC l ++ a.cells.toList := by simp [acsC]
theorem trsC_snoc (l : List Tr) (a : Tr) : trsC (l ++ [a]) = trsC l ++ a.cells.toList := by simp [trsC]
def AcsAt (w : World) (base : Nat) (v : Value) (l : List Ac) : Prop := w.ownsRow base 42 46 v l.length (acsC l)
def TrsAt (w : World) (base : Nat) (v : Value) (l : List Tr) : Prop := w.ownsRow base 71 16 v l.length (trsC l)

theorem ownsRow_keep {w w1 : World} {base : Nat} {e : TypeId} {v : Value} {ns : List Value} {n sz : Nat} (h : w.ownsRow base e sz v n ns) (hb : ∀ k, base ≤ k → k < w.heap.size → v.ownBlock = some k → w1.heap[k]? = w.heap[k]?) : w1.ownsRow base e sz v n ns :=
  ⟨h.1, h.2.imp id fun ⟨g, cap, cur, e, h1, h2, h3⟩ => ⟨g, cap, cur, e, h1, (hb g h1 (Array.getElem?_eq_some_iff.1 h2).1 (by rw [e]; rfl)).trans h2, h3⟩⟩
theorem ownsRow_form {w : World} {base : Nat} {e : TypeId} {v : Value} {ns : List Value} {n sz : Nat} (h : w.ownsRow base e sz v n ns) : ∃ p n' c, v = .slice p n' c ∧ n' = n := by
  obtain ⟨_, ⟨rfl, h0⟩ | ⟨g, cap, cur, rfl, _⟩⟩ := h
  · exact ⟨_, _, _, rfl, h0.symm⟩
  · exact ⟨_, _, _, rfl, rfl⟩

theorem info_acc3 : (Try.prog.info? 42).map (fun i => (i.zero, i.size, i.bytes)) = some (some (.agg (Ac.cells ⟨0, 0, 0, 0⟩)), 46, 144) := by kernel_rfl
theorem info_tr3 : (Try.prog.info? 71).map (fun i => (i.zero, i.size, i.bytes)) = some (some (.agg (Tr.cells ⟨0, 0, 0, 0, 0, 0, 0, 0, 0, 0, 0, 0, 0⟩)), 16, 128) := by kernel_rfl
theorem info_some {t : TypeId} {z : Option Value} {a b : Nat} (h : (Try.prog.info? t).map (fun i => (i.zero, i.size, i.bytes)) = some (z, a, b)) : ∃ i, Try.prog.info? t = some i ∧ i.zero = z ∧ i.size = a ∧ i.bytes = b := by
  cases hi : Try.prog.info? t with
  | none => rw [hi] at h; cases h
  | some i =>
    rw [hi] at h
    have h' : (i.zero, i.size, i.bytes) = (z, a, b) := Option.some.inj h
    exact ⟨i, rfl, congrArg (·.1) h', congrArg (·.2.1) h', congrArg (·.2.2) h'⟩

/-- All cells of a row laid anew. -/
theorem lay_list : ∀ (l : List Value) (k : Nat) (z : Array Value), k + l.length ≤ z.size → (l.zipIdx k).foldl (fun (c : Array Value) x => c.setIfInBounds x.2 x.1) z = (z.toList.take k ++ l ++ z.toList.drop (k + l.length)).toArray
  | [], k, z, _ => by simp
  | x :: l, k, z, h => by
    rw [List.length_cons] at h
    rw [List.zipIdx_cons, List.foldl_cons, lay_list l (k + 1) _ (by simp; omega)]
    congr 1
    have e := list_seg_step z.toList k x l (by simp; omega)
    simpa [Array.toList_setIfInBounds, Nat.add_assoc] using e
theorem lay_all (z cs : Array Value) (n : Nat) (h : cs.size = n) (hz : z.size = n) : Array.foldl (fun c x => c.setIfInBounds x.2 x.1) z cs.zipIdx 0 n = cs := by
  obtain ⟨l⟩ := cs
  have hl : l.length = n := by simpa using h
  have e := lay_list l 0 z (by omega)
  rw [show ((⟨l⟩ : Array Value).zipIdx) = (l.zipIdx 0).toArray from by simp]
  subst hl
  have e2 : ∀ (m : List (Value × Nat)) (k : Nat), m.length = k → Array.foldl (fun (c : Array Value) (x : Value × Nat) => c.setIfInBounds x.2 x.1) z m.toArray 0 k = List.foldl (fun (c : Array Value) (x : Value × Nat) => c.setIfInBounds x.2 x.1) z m := by
    intro m k hk
    subst hk
    simp
  rw [e2 _ _ (by simp), e]
  simp
  omega

/-- append(v, x), x a struct of some cells, v the call's own. -/
theorem append_one {t e : TypeId} {z : Value} {sz bytes : Nat} (ht : Try.prog.underlying t = some (.slice e)) (hi : (Try.prog.info? e).map (fun i => (i.zero, i.size, i.bytes)) = some (some z, sz, bytes)) (hzs : z.cells.size = sz) (hpos : 0 < sz) (hby : bytes ≤ 1000)
    (w : World) (base : Nat) (ty : TypeId) (v : Value) (n : Nat) (xs : List Value) (hown : w.ownsRow base e sz v n xs) (cs : Array Value) (hcs : cs.size = sz) (h1 : cs.all (·.oneCell') = true) (hn : n ≤ 1000) (hb : base ≤ w.heap.size) (g : Nat) (hg : g = w.heap.size) :
    ∃ v' w', (Builtin.append_ #[t, t] ty #[v, .slice (some ⟨g, 0, none⟩) 1 1]).run Try.prog (w.alloc (.cells cs e)) = .ok v' w' ∧ w'.ownsRow base e sz v' (n + 1) (xs ++ cs.toList) ∧ (w.alloc (.cells cs e)).grownBy w' v.ownBlock := by
  subst hg
  obtain ⟨i, hi, z0, z1, z2⟩ := info_some hi
  have hall : ∀ u ∈ cs.toList, u.oneCell' = true := by
    rw [Array.all_eq_true_iff_forall_mem] at h1
    intro u hu
    exact h1 u (by simpa using hu)
  have hb63 : (n + 1) * bytes ≤ 140737488355328 := Nat.le_trans (Nat.mul_le_mul (show n + 1 ≤ 1001 by omega) hby) (by decide)
  obtain ⟨v', w', h1, h2, h3, _, _⟩ := run_append_own_at (P := Try.prog) (w.alloc (.cells cs e)) base t ty e i _ sz bytes ht hi z0 z1 z2 hzs hpos v n xs (ownsRow_keep hown (fun k _ hk _ => heap_alloc_old w _ hk)) ⟨w.heap.size, 0, none⟩ 1 1 cs.toList (by simpa using hcs)
    (fun j u hu => by
      rw [show (⟨w.heap.size, 0, none⟩ : Addr).add j = ⟨w.heap.size, 0 + j, none⟩ from Addr.add_lit .., World.cell?_alloc_at _ _ _ _ rfl, ← hu, Nat.zero_add]
      simp) hall (by unfold maxLen; omega) hb63 (by simp; omega)
  exact ⟨v', w', h1, h2, h3⟩

set_option maxHeartbeats 2000000 in
theorem readAcs_any (w : World) (R D : Nat) (s : List Nat × Bool) (h : RdAt w R D s) (hc : rI 1 s ≤ 8) :
    Calls Try.prog 46 #[.pointer (some ⟨R, 0, none⟩), .func (.func 41) #[] #[]] w fun e w' =>
      ∃ v, e = .returned (.tuple #[v, .int .i64 0]) ∧ AcsAt w' w.heap.size v (evs rAc rAcS (rI 1 s) (rDrop 1 s)) ∧ RdAt w' R D (itS rAcS (rI 1 s) (rDrop 1 s)) ∧ Else R w w' := by
  have hlt := h.lt
  have hdl := h.dl
  generalize hC : rI 1 s = C at *
  go_enter Try.func46, Try.ntmps46
  go_wp2_with (go_at_call 29; refine stop ?_)
  refine (rint2 1 (by decide) _ rfl _ R D _ h).mono ?_
  rintro e w1 ⟨x, t, hx, ht, rfl, hR, he⟩
  obtain rfl : x = C := hx.out.trans hC
  have HC : Hid (rI 1 s = x) := hC
  have HT := ht
  clear hC ht hx
  have x0 : (0 : Int) ≤ (x : Int) := by omega
  have x1 : (x : Int) ≤ 8 := by omega
  have hw1 := he.size
  go_wp2
  go_loopw [13, 7] (fun i v wr => ∃ k : Nat, k ≤ x ∧ i = .int .i64 k ∧ AcsAt wr w.heap.size v (evs rAc rAcS k t) ∧ RdAt wr R D (itS rAcS k t) ∧ Else R w wr) (fun i _ _ => x - (intOf i).toNat)
  case atStart => exact ⟨0, Nat.zero_le _, rfl, World.ownsRow_nil _ _ _ _, hR, he⟩
  case round =>
    obtain ⟨k, hk, rfl, ho, hRk, hek⟩ := hrel
    clear hR he
    by_cases hlt2 : k < x
    · have hlt2' : (k : Int) < (x : Int) := by omega
      go_wp2_with (go_at_call 41; refine stop ?_)
      refine (readAc_any _ R D _ hRk).mono ?_
      rintro e w2 ⟨rfl, hR2, he2⟩
      have ho2 : AcsAt w2 w.heap.size _ (evs rAc rAcS k t) := ownsRow_keep ho (fun j h1 h2 _ => he2.block j h2 (by omega))
      have he2' := hek.trans he2
      obtain ⟨v3, w3, run3, own3, gr3⟩ := append_one Try.underlying22 info_acc3 rfl (by decide) (by decide) w2 w.heap.size 22 _ _ _ ho2 (rAc (itS rAcS k t)).cells rfl (Ac.one _) (by rw [evs_len]; omega) he2'.size _ rfl
      have ho3 : AcsAt w3 w.heap.size v3 (evs rAc rAcS (k + 1) t) := by
        unfold AcsAt
        rw [evs, acsC_snoc, List.length_append]
        exact own3
      have blk : ∀ j, j < w.heap.size → w3.heap[j]? = w2.heap[j]? := fun j hj => by
        have hj2 : j < w2.heap.size := Nat.lt_of_lt_of_le hj he2'.size
        refine (gr3.block j (by simp; omega) (fun hh => ?_)).trans (heap_alloc_old w2 _ hj2)
        have := (ho2.lt j hh.symm).1
        omega
      have hsz3 : w2.heap.size ≤ w3.heap.size := by have := gr3.size; simp at this; omega
      have hR3 : RdAt w3 R D (itS rAcS (k + 1) t) := hR2.keep hsz3 (blk R hlt) (blk D hdl)
      have he3 : Else R w w3 := ⟨gr3.os.trans he2'.os, gr3.tape.trans he2'.tape, gr3.output.trans he2'.output, Nat.le_trans he2'.size hsz3, fun j hj hne => (blk j hj).trans (he2'.block j hj hne)⟩
      obtain ⟨pv, nv, cv, hv, hnv⟩ := ownsRow_form ho
      subst hv
      clear hnv own3 gr3 blk ho ho2 he2 he2' hR2 hek hRk
      have hcs : (rAc (itS rAcS k t)).cells.size = 46 := rfl
      generalize (rAc (itS rAcS k t)).cells = cs at *
      go_wp2_with (at_builtin; refine stop ?_)
      rw [lay_all _ cs _ hcs rfl]
      unfold Stop
      go_wp2_with (at_builtin; refine Lib.wpList_append_run _ rfl _ _ _ _ rfl _ _ rfl rfl _ _ run3 ?_)
      go_roundw
      case rel => exact ⟨k + 1, by omega, by go_num, ho3, hR3, he3⟩
      case measure => simp [intOf]; omega
    · obtain rfl : k = x := by omega
      have hlt2' : ¬ (k : Int) < (k : Int) := by omega
      obtain ⟨pv, nv, cv, hv, hnv⟩ := ownsRow_form ho
      subst hv
      clear hnv
      go_wp2
      go_ret2
      rw [HT.out] at ho hRk
      exact ⟨_, rfl, ho, hRk, hek⟩

set_option maxHeartbeats 400000 in
theorem readAcs_long (w : World) (R D : Nat) (s : List Nat × Bool) (h : RdAt w R D s) (hc : 8 < rI 1 s) :
    Calls Try.prog 46 #[.pointer (some ⟨R, 0, none⟩), .func (.func 41) #[] #[]] w fun e w' =>
      e = .returned (.tuple #[.slice none 0 0, .int .i64 2]) ∧ RdAt w' R D (rDrop 1 s) ∧ Else R w w' := by
  generalize hC : rI 1 s = C at *
  go_enter Try.func46, Try.ntmps46
  go_wp2_with (go_at_call 29; refine stop ?_)
  refine (rint2 1 (by decide) _ rfl _ R D _ h).mono ?_
  rintro e w1 ⟨x, t, hx, ht, rfl, hR, he⟩
  obtain rfl : x = C := hx.out.trans hC
  clear hC hx
  have x1 : (8 : Int) < (x : Int) := by omega
  go_wp2
  go_ret2
  rw [ht.out] at hR
  exact ⟨rfl, hR, he⟩

set_option maxHeartbeats 2000000 in
theorem readTrs_any (w : World) (R D : Nat) (s : List Nat × Bool) (h : RdAt w R D s) (hc : rI 1 s ≤ 8) :
    Calls Try.prog 47 #[.pointer (some ⟨R, 0, none⟩), .func (.func 48) #[] #[]] w fun e w' =>
      ∃ v, e = .returned (.tuple #[v, .int .i64 0]) ∧ TrsAt w' w.heap.size v (evs rTr rTrS (rI 1 s) (rDrop 1 s)) ∧ RdAt w' R D (itS rTrS (rI 1 s) (rDrop 1 s)) ∧ Else R w w' := by
  have hlt := h.lt
  have hdl := h.dl
  generalize hC : rI 1 s = C at *
  go_enter Try.func47, Try.ntmps47
  go_wp2_with (go_at_call 29; refine stop ?_)
  refine (rint2 1 (by decide) _ rfl _ R D _ h).mono ?_
  rintro e w1 ⟨x, t, hx, ht, rfl, hR, he⟩
  obtain rfl : x = C := hx.out.trans hC
  have HC : Hid (rI 1 s = x) := hC
  have HT := ht
  clear hC ht hx
  have x0 : (0 : Int) ≤ (x : Int) := by omega
  have x1 : (x : Int) ≤ 8 := by omega
  have hw1 := he.size
  go_wp2
  go_loopw [13, 7] (fun i v wr => ∃ k : Nat, k ≤ x ∧ i = .int .i64 k ∧ TrsAt wr w.heap.size v (evs rTr rTrS k t) ∧ RdAt wr R D (itS rTrS k t) ∧ Else R w wr) (fun i _ _ => x - (intOf i).toNat)
  case atStart => exact ⟨0, Nat.zero_le _, rfl, World.ownsRow_nil _ _ _ _, hR, he⟩
  case round =>
    obtain ⟨k, hk, rfl, ho, hRk, hek⟩ := hrel
    clear hR he
    by_cases hlt2 : k < x
    · have hlt2' : (k : Int) < (x : Int) := by omega
      go_wp2_with (go_at_call 48; refine stop ?_)
      refine (readTr_any _ R D _ hRk).mono ?_
      rintro e w2 ⟨rfl, hR2, he2⟩
      have ho2 : TrsAt w2 w.heap.size _ (evs rTr rTrS k t) := ownsRow_keep ho (fun j h1 h2 _ => he2.block j h2 (by omega))
      have he2' := hek.trans he2
      obtain ⟨v3, w3, run3, own3, gr3⟩ := append_one Try.underlying23 info_tr3 rfl (by decide) (by decide) w2 w.heap.size 23 _ _ _ ho2 (rTr (itS rTrS k t)).cells rfl (Tr.one _) (by rw [evs_len]; omega) he2'.size _ rfl
      have ho3 : TrsAt w3 w.heap.size v3 (evs rTr rTrS (k + 1) t) := by
        unfold TrsAt
        rw [evs, trsC_snoc, List.length_append]
        exact own3
      have blk : ∀ j, j < w.heap.size → w3.heap[j]? = w2.heap[j]? := fun j hj => by
        have hj2 : j < w2.heap.size := Nat.lt_of_lt_of_le hj he2'.size
        refine (gr3.block j (by simp; omega) (fun hh => ?_)).trans (heap_alloc_old w2 _ hj2)
        have := (ho2.lt j hh.symm).1
        omega
      have hsz3 : w2.heap.size ≤ w3.heap.size := by have := gr3.size; simp at this; omega
      have hR3 : RdAt w3 R D (itS rTrS (k + 1) t) := hR2.keep hsz3 (blk R hlt) (blk D hdl)
      have he3 : Else R w w3 := ⟨gr3.os.trans he2'.os, gr3.tape.trans he2'.tape, gr3.output.trans he2'.output, Nat.le_trans he2'.size hsz3, fun j hj hne => (blk j hj).trans (he2'.block j hj hne)⟩
      obtain ⟨pv, nv, cv, hv, hnv⟩ := ownsRow_form ho
      subst hv
      clear hnv own3 gr3 blk ho ho2 he2 he2' hR2 hek hRk
      have hcs : (rTr (itS rTrS k t)).cells.size = 16 := rfl
      generalize (rTr (itS rTrS k t)).cells = cs at *
      go_wp2_with (at_builtin; refine stop ?_)
      rw [lay_all _ cs _ hcs rfl]
      unfold Stop
      go_wp2_with (at_builtin; refine Lib.wpList_append_run _ rfl _ _ _ _ rfl _ _ rfl rfl _ _ run3 ?_)
      go_roundw
      case rel => exact ⟨k + 1, by omega, by go_num, ho3, hR3, he3⟩
      case measure => simp [intOf]; omega
    · obtain rfl : k = x := by omega
      have hlt2' : ¬ (k : Int) < (k : Int) := by omega
      obtain ⟨pv, nv, cv, hv, hnv⟩ := ownsRow_form ho
      subst hv
      clear hnv
      go_wp2
      go_ret2
      rw [HT.out] at ho hRk
      exact ⟨_, rfl, ho, hRk, hek⟩

set_option maxHeartbeats 400000 in
theorem readTrs_long (w : World) (R D : Nat) (s : List Nat × Bool) (h : RdAt w R D s) (hc : 8 < rI 1 s) :
    Calls Try.prog 47 #[.pointer (some ⟨R, 0, none⟩), .func (.func 48) #[] #[]] w fun e w' =>
      e = .returned (.tuple #[.slice none 0 0, .int .i64 2]) ∧ RdAt w' R D (rDrop 1 s) ∧ Else R w w' := by
  generalize hC : rI 1 s = C at *
  go_enter Try.func47, Try.ntmps47
  go_wp2_with (go_at_call 29; refine stop ?_)
  refine (rint2 1 (by decide) _ rfl _ R D _ h).mono ?_
  rintro e w1 ⟨x, t, hx, ht, rfl, hR, he⟩
  obtain rfl : x = C := hx.out.trans hC
  clear hC hx
  have x1 : (8 : Int) < (x : Int) := by omega
  go_wp2
  go_ret2
  rw [ht.out] at hR
  exact ⟨rfl, hR, he⟩

end Go.Proofs.Ytekpkbmelhgneaa
