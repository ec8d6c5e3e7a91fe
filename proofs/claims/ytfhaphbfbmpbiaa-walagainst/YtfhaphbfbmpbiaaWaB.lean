
/-
  package wal: readAll, greatest. For disks within Dk.Ok's bounds (up to 4096 sectors, 1000 writes that wait); wipe and Open also ask that fewer than 1000 writes wait on the way.
-/
import Derived.Test.YtfhaphbfbmpbiaaWaA
namespace Go.Proofs.Ytfhaphbfbmpbiaa
open Go.RowKit
set_option maxRecDepth 100000
set_option linter.unusedVariables false
set_option linter.unusedSimpArgs false

/-- The cells of sectors, each with the block its load lies in. -/
def sC (Z : List (Nat × List Nat)) : List Value := Z.flatMap fun x => (secV x.1 x.2).toList
theorem sC_snoc (Z : List (Nat × List Nat)) (x : Nat × List Nat) : sC (Z ++ [x]) = sC Z ++ (secV x.1 x.2).toList := by simp [sC]
theorem sC_at : ∀ (Z : List (Nat × List Nat)) (i j : Nat), i < Z.length → j < 4 → (sC Z)[4 * i + j]? = (secV (Z.getD i (0, [])).1 (Z.getD i (0, [])).2)[j]?
  | [], i, j, hi, _ => by simp at hi
  | x :: Z, i, j, hi, hj => by
    have hl : (secV x.1 x.2).toList.length = 4 := rfl
    show ((secV x.1 x.2).toList ++ sC Z)[4 * i + j]? = _
    rw [List.getElem?_append, hl]
    cases i with
    | zero => rw [if_pos (by omega), show 4 * 0 + j = j by omega, Array.getElem?_toList]; rfl
    | succ i =>
      rw [if_neg (by omega), show 4 * (i + 1) + j - 4 = 4 * i + j by omega, sC_at Z i j (by simpa using hi) hj]
      rfl
/-- Sectors in memory, in the slice v. -/
structure SecsAt (w : World) (base : Nat) (v : Value) (Z : List (Nat × List Nat)) : Prop where
  own : w.ownsRow base 89 4 v Z.length (sC Z)
  row : ∀ x ∈ Z, base ≤ x.1 ∧ Row w x.1 (bytesL x.2) 5 ∧ Sec x.2
theorem SecsAt.later {w w' : World} {base : Nat} {v : Value} {Z : List (Nat × List Nat)} (h : SecsAt w base v Z) (hb : Below w.heap.size w w') : SecsAt w' base v Z :=
  ⟨ownsRow_keep h.own fun k _ hk _ => hb.block k hk, fun x hx => ⟨(h.row x hx).1, (h.row x hx).2.1.later hb, (h.row x hx).2.2⟩⟩
/-- What a disk's sectors are, as they were written last. -/
def Dk.curs (d : Dk) (n : Nat) : List (List Nat) := (List.range n).map d.cur
theorem Dk.curs_succ (d : Dk) (n : Nat) : d.curs (n + 1) = d.curs n ++ [d.cur n] := by simp [Dk.curs, List.range_succ]
theorem info_sector3 : (Try.prog.info? 89).map (fun i => (i.zero, i.size, i.bytes)) = some (some (.agg #[.int .i64 0, .int .i64 0, .slice none 0 0, .bool false]), 4, 48) := by kernel_rfl

/-- append of one struct, up to a greater number of them. -/
theorem append_two {t e : TypeId} {z : Value} {sz bytes : Nat} (ht : Try.prog.underlying t = some (.slice e)) (hi : (Try.prog.info? e).map (fun i => (i.zero, i.size, i.bytes)) = some (some z, sz, bytes)) (hzs : z.cells.size = sz) (hpos : 0 < sz) (hby : bytes ≤ 1000)
    (w : World) (base : Nat) (ty : TypeId) (v : Value) (n : Nat) (xs : List Value) (hown : w.ownsRow base e sz v n xs) (cs : Array Value) (hcs : cs.size = sz) (h1 : cs.all (·.oneCell') = true) (hn : n ≤ 1000000) (hb : base ≤ w.heap.size) (g : Nat) (hg : g = w.heap.size) :
    ∃ v' w', (Builtin.append_ #[t, t] ty #[v, .slice (some ⟨g, 0, none⟩) 1 1]).run Try.prog (w.alloc (.cells cs e)) = .ok v' w' ∧ w'.ownsRow base e sz v' (n + 1) (xs ++ cs.toList) ∧ (w.alloc (.cells cs e)).grownBy w' v.ownBlock ∧ (v'.ownBlock = v.ownBlock ∨ v'.ownBlock = some (w.heap.size + 1)) := by
  subst hg
  obtain ⟨i, hi, z0, z1, z2⟩ := info_some hi
  have hall : ∀ u ∈ cs.toList, u.oneCell' = true := by
    rw [Array.all_eq_true_iff_forall_mem] at h1
    intro u hu
    exact h1 u (by simpa using hu)
  have hb63 : (n + 1) * bytes ≤ 140737488355328 := Nat.le_trans (Nat.mul_le_mul (show n + 1 ≤ 1000001 by omega) hby) (by decide)
  obtain ⟨v', w', h1, h2, h3, _, h5⟩ := run_append_own_at (P := Try.prog) (w.alloc (.cells cs e)) base t ty e i _ sz bytes ht hi z0 z1 z2 hzs hpos v n xs (ownsRow_keep hown (fun k _ hk _ => heap_alloc_old w _ hk)) ⟨w.heap.size, 0, none⟩ 1 1 cs.toList (by simpa using hcs)
    (fun j u hu => by
      rw [show (⟨w.heap.size, 0, none⟩ : Addr).add j = ⟨w.heap.size, 0 + j, none⟩ from Addr.add_lit .., World.cell?_alloc_at _ _ _ _ rfl, ← hu, Nat.zero_add]
      simp) hall (by unfold maxLen; omega) hb63 (by simp; omega)
  exact ⟨v', w', h1, h2, h3, by simpa using h5⟩

theorem SecsAt.put {w w1 w2 : World} {base : Nat} {v v' : Value} {Z : List (Nat × List Nat)} (h : SecsAt w base v Z) {x : Nat × List Nat} (hx : base ≤ x.1 ∧ Row w x.1 (bytesL x.2) 5 ∧ Sec x.2) (hb : Below w.heap.size w w1)
    (ho : w2.ownsRow base 89 4 v' (Z.length + 1) (sC Z ++ (secV x.1 x.2).toList)) (hg : w1.grownBy w2 v.ownBlock) : SecsAt w2 base v' (Z ++ [x]) := by
  have keep : ∀ g cs, Row w g cs 5 → Row w2 g cs 5 := fun g cs hr =>
    (hg.block g (Nat.lt_of_lt_of_le hr.lt hb.size) (fun e => ownN_ne h.own hr (by decide) e.symm)).trans (hr.later hb)
  refine ⟨by rw [sC_snoc, List.length_append]; exact ho, fun y hy => ?_⟩
  rcases List.mem_append.1 hy with hy | hy
  · obtain ⟨h1, h2, h3⟩ := h.row y hy
    exact ⟨h1, keep _ _ h2, h3⟩
  · obtain rfl := List.mem_singleton.1 hy
    exact ⟨hx.1, keep _ _ hx.2.1, hx.2.2⟩
/-- What readAll's loop holds behind k rounds. -/
def RdAllR (w wr : World) (d : Dk) (u : Value) (k : Nat) : Prop := ∃ Z, SecsAt wr w.heap.size u Z ∧ Z.map (·.2) = d.curs k ∧ Below w.heap.size w wr
theorem Dk.curs_len (d : Dk) (n : Nat) : (d.curs n).length = n := by simp [Dk.curs]

set_option maxHeartbeats 4000000 in
theorem readAll_any (w : World) (R S : Nat) (v : Value) (d : Dk) (h : DkAt w R S v d) :
    Calls Try.prog 29 #[.pointer (some ⟨R, 0, none⟩)] w fun e w' => ∃ u, e = .returned (.tuple #[u, .int .i64 0]) ∧ RdAllR w w' d u d.n := by
  have hn2 := h.ok.n2
  have n0 : (0 : Int) ≤ (d.n : Int) := by omega
  have n1 : (d.n : Int) ≤ 4096 := by omega
  go_enter Try.func29, Try.ntmps29
  go_wp2_with (go_at_call 34; refine stop ?_)
  refine (len_any w R S v d h).mono ?_
  rintro e w' ⟨rfl, hw'⟩
  obtain rfl := hw'.symm
  clear hw'
  go_wp2
  go_loopw [10, 4] (fun i u wr => ∃ k : Nat, k ≤ d.n ∧ i = .int .i64 k ∧ RdAllR w wr d u k) (fun i _ _ => d.n - (intOf i).toNat)
  case atStart => exact ⟨0, Nat.zero_le _, rfl, [], ⟨World.ownsRow_nil _ _ _ _, fun x hx => by cases hx⟩, rfl, Below.refl _ _⟩
  case round =>
    obtain ⟨k, hk, rfl, Z, hZ, hZd, hb⟩ := hrel
    have hZl : Z.length = k := by have := congrArg List.length hZd; rwa [List.length_map, Dk.curs_len] at this
    by_cases hlt : k < d.n
    · have k1 : (k : Int) < (d.n : Int) := by omega
      have hD := h.later hb
      obtain ⟨hl, h8⟩ := h.ok.cur hlt
      go_wp2_with (go_at_call 21; refine stop ?_)
      refine (read_any k wr R S v d hD hlt).mono ?_
      rintro e w1 ⟨g, rfl, hg, hge, hb1⟩
      have hZ1 := hZ.later hb1
      have hB1 := hb.trans (hb1.mono hb.size)
      clear hZ hb1
      go_wp2_with (go_at_call 42; refine stop ?_)
      refine (cut_any g (d.cur k) ⟨hl, h8⟩ w1 hg).mono ?_
      rintro e w2 ⟨rfl, hb2⟩
      have hZ2 := hZ1.later hb2
      have hB2 := hB1.trans (hb2.mono hB1.size)
      have hg2 := hg.later hb2
      have hge2 : w.heap.size ≤ g := Nat.le_trans hb.size hge
      clear hZ1 hB1 hb2 hg hD
      obtain ⟨u3, w3, run3, own3, gr3, mv3⟩ := append_two Try.underlying67 info_sector3 rfl (by decide) (by decide) w2 w.heap.size 67 _ _ _ hZ2.own (secV g (d.cur k)) rfl (secV_one _ _) (by omega) hB2.size _ rfl
      have hZ3 := hZ2.put (x := (g, d.cur k)) ⟨hge2, hg2, ⟨hl, h8⟩⟩ (below1 w2 _) own3 gr3
      have hB3 : Below w.heap.size w w3 := below_grown (chainA hB2 _) (by have := hB2.size; simp; omega) gr3 (fun j hj => (hZ2.own.lt j hj).1)
      have HR : RdAllR w w3 d u3 (k + 1) := ⟨_, hZ3, by rw [List.map_append, hZd, Dk.curs_succ]; rfl, hB3⟩
      obtain ⟨pu, nu, cu, rfl, hnu⟩ := ownsRow_form hZ2.own
      obtain ⟨p3, n3, c3, rfl, hn3⟩ := ownsRow_form own3
      clear hZ3 hB3 gr3 own3 mv3 hZ2 hnu hn3
      unfold secV at run3 ⊢
      generalize front (d.cur k) = fr at *
      generalize back (d.cur k) = bk at *
      generalize blank (d.cur k) = bl at *
      go_wp2_with (at_builtin; refine Lib.wpList_append_run _ rfl _ _ _ _ rfl _ _ rfl rfl _ _ run3 ?_)
      go_roundw
      case rel => exact ⟨k + 1, by omega, by go_num, HR⟩
      case measure => simp [intOf]; omega
    · obtain rfl : k = d.n := by omega
      go_wp2
      go_ret2
      exact ⟨_, rfl, Z, hZ, hZd, hb⟩

/-- The greatest stamp. -/
def great (L : List (List Nat)) : Nat := L.foldl (fun a s => max a (max (front s) (back s))) 0
theorem great_snoc (L : List (List Nat)) (s : List Nat) : great (L ++ [s]) = max (great L) (max (front s) (back s)) := by simp [great, List.foldl_append]
theorem be4 {l : List Nat} (h : W8 l) (n : Nat) (hn : n ≤ 4) : be (l.take n) < 4294967296 := by
  have h1 := be_lt _ (h.take n)
  exact Nat.lt_of_lt_of_le h1 (Nat.le_trans (Nat.pow_le_pow_right (by decide) (show (l.take n).length ≤ 4 by simp; omega)) (by decide))
theorem Sec.flt {s : List Nat} (h : Sec s) : front s < 4294967296 := be4 h.w8 4 (by decide)
theorem Sec.blt {s : List Nat} (h : Sec s) : back s < 4294967296 := be4 (fun x hx => h.w8 x (List.mem_of_mem_drop hx)) 4 (by decide)
theorem great_le (L : List (List Nat)) (n : Nat) (h : ∀ s ∈ L, front s ≤ n ∧ back s ≤ n) : great L ≤ n := by
  have : ∀ (L : List (List Nat)) a, a ≤ n → (∀ s ∈ L, front s ≤ n ∧ back s ≤ n) → L.foldl (fun a s => max a (max (front s) (back s))) a ≤ n := by
    intro L
    induction L with
    | nil => intro a ha _; exact ha
    | cons s L ih =>
      intro a ha hs
      have := hs s (by simp)
      exact ih _ (by show max a (max (front s) (back s)) ≤ n; omega) (fun t ht => hs t (by simp [ht]))
  exact this L 0 (Nat.zero_le _) h
/-- The cells of the i-th sector. -/
theorem SecsAt.at {w : World} {base : Nat} {v : Value} {Z : List (Nat × List Nat)} (h : SecsAt w base v Z) {i : Nat} (hi : i < Z.length) :
    ∃ g cap, v = .slice (some ⟨g, 0, none⟩) Z.length cap ∧ g < w.heap.size ∧ base ≤ g ∧ w.rangeAt g (i * 4) (secV (Z.getD i (0, [])).1 (Z.getD i (0, [])).2).toList := by
  rw [Nat.mul_comm i 4]
  obtain ⟨_, ⟨rfl, h0⟩ | ⟨g, cap, cur, rfl, hb, hg, h1, h2, h3, h4⟩⟩ := id h.own
  · omega
  · refine ⟨g, cap, rfl, (Array.getElem?_eq_some_iff.1 hg).1, hb, fun j u hu => ?_⟩
    have hj : j < 4 := by
      have := (List.getElem?_eq_some_iff.1 hu).1
      simpa [secV] using this
    have hc := h.own.cells (g := g) rfl (4 * i + j) u (by rw [sC_at Z i j hi hj, ← hu, Array.getElem?_toList])
    rwa [Addr.add_lit, Nat.zero_add] at hc
theorem SecsAt.cells {w : World} {base : Nat} {v : Value} {Z : List (Nat × List Nat)} (h : SecsAt w base v Z) {i : Nat} (hi : i < Z.length) :
    ∃ g cap b s, v = .slice (some ⟨g, 0, none⟩) Z.length cap ∧ g < w.heap.size ∧ Hid (Z.getD i (0, []) = (b, s)) ∧ Row w b (bytesL s) 5 ∧ Sec s ∧ base ≤ b ∧ base ≤ g ∧
      w.cell? ⟨g, i * 4, none⟩ = some (.int .i64 (front s : Nat)) ∧ w.cell? ⟨g, i * 4 + 1, none⟩ = some (.int .i64 (back s : Nat)) ∧ w.cell? ⟨g, i * 4 + 2, none⟩ = some (.slice (some ⟨b, 4, none⟩) 56 60) ∧ w.cell? ⟨g, i * 4 + 3, none⟩ = some (.bool (blank s)) := by
  obtain ⟨g, cap, e, hg, hbg, hr⟩ := h.at hi
  have hm : Z.getD i (0, []) ∈ Z := by simp only [List.getD]; rw [List.getElem?_eq_getElem hi]; exact List.getElem_mem _
  obtain ⟨h1, h2, h3⟩ := h.row _ hm
  exact ⟨g, cap, _, _, e, hg, (rfl : _ = _), h2, h3, h1, hbg, hr 0 _ rfl, hr 1 _ rfl, hr 2 _ rfl, hr 3 _ rfl⟩

set_option maxHeartbeats 4000000 in
theorem greatest_any (w : World) (base : Nat) (v : Value) (Z : List (Nat × List Nat)) (h : SecsAt w base v Z) (hl : Z.length ≤ 4096) :
    Calls Try.prog 32 #[v] w fun e w' => e = .returned (.int .i64 (great (Z.map (·.2)) : Nat)) ∧ Below w.heap.size w w' := by
  obtain ⟨p, n, c, hv, hn⟩ := ownsRow_form h.own
  subst hv hn
  have n0 : (0 : Int) ≤ (Z.length : Int) := by omega
  have n1 : (Z.length : Int) ≤ 4096 := by omega
  go_enter Try.func32, Try.ntmps32
  go_wp2
  go_loopw [8, 3] (fun i u wr => ∃ k : Nat, k ≤ Z.length ∧ i = .int .i64 k ∧ u = .int .i64 (great ((Z.take k).map (·.2)) : Nat) ∧ Below w.heap.size w wr) (fun i _ _ => Z.length - (intOf i).toNat)
  case atStart => exact ⟨0, Nat.zero_le _, rfl, rfl, Below.refl _ _⟩
  case round =>
    obtain ⟨k, hk, rfl, rfl, hb⟩ := hrel
    by_cases hlt : k < Z.length
    · have k1 : (k : Int) < (Z.length : Int) := by omega
      obtain ⟨g, cap, b, s, e, hg, hzs, hrow, hsec, _, _, c0, c1, c2, c3⟩ := (h.later hb).cells hlt
      cases e
      have hsu : great ((Z.take (k + 1)).map (·.2)) = max (great ((Z.take k).map (·.2))) (max (front s) (back s)) := by
        rw [List.take_succ_eq_append_getElem hlt, List.map_append, List.map_singleton, great_snoc]
        have : Z[k] = (b, s) := by have := hzs.out; simpa [List.getD, hlt] using this
        rw [this]
      have HS : Hid (great ((Z.take (k + 1)).map (·.2)) = max (great ((Z.take k).map (·.2))) (max (front s) (back s))) := hsu
      have f1 : (front s : Int) < 4294967296 := by have := hsec.flt; omega
      have f2 : (back s : Int) < 4294967296 := by have := hsec.blt; omega
      clear hsu hzs hrow hsec h
      generalize great ((Z.take k).map (·.2)) = gr at *
      generalize front s = fr at *
      generalize back s = bk at *
      generalize blank s = bl at *
      have hB := chainA hb (.cells #[Value.int IntKind.i64 0, Value.int IntKind.i64 0, Value.slice none 0 0, Value.bool false] 89)
      go_wp2
      go_roundw
      case rel =>
        refine ⟨k + 1, by omega, by go_num, ?_, ?_⟩
        · rw [HS.out]
          congr 1
          split <;> split <;> omega
        · exact chainA hb _
      case measure => simp [intOf]; omega
    · obtain rfl : k = Z.length := by omega
      rw [List.take_length]
      go_wp2
      go_ret
      exact ⟨rfl, hb⟩
end Go.Proofs.Ytfhaphbfbmpbiaa
