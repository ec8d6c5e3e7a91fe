
/-
  package disk: settle, Flush. For every disk.
-/
import Derived.Test.YtfhaphbfbmpbiaaDkD
namespace Go.Proofs.Ytfhaphbfbmpbiaa
open Go.RowKit
set_option maxRecDepth 100000
set_option linter.unusedVariables false
set_option linter.unusedSimpArgs false

theorem settle_zero (F : List Nat) (k : Nat) (b : List Nat) : settle F k b 0 = F := by simp [settle]
theorem Dk.Ok.settle {d : Dk} (h : d.Ok) {x : Nat × List Nat} (hx : WOk d.n x) {m : Nat} (hm : m ≤ 64) : ({ d with F := settle d.F x.1 x.2 m } : Dk).Ok :=
  ⟨h.f8.settle hx.w8 _ _, settle_len h.fl hx.lt hx.len hm, h.n1, h.n2, h.wl, h.cl, h.ll, h.wok⟩
/-- copy(d.sure[at][:m], w.data[:]). -/
theorem run_copy_settle (w : World) (S g : Nat) (F : List Nat) (n : Nat) (x : Nat × List Nat) (m : Nat) (hm : m ≤ 64) (hx : WOk n x) (hF : F.length = 64 * n) (hS : Row w S (bytesL F) 79) (hg : Row w g (wr1 x) 81) (c : Nat) (ty : TypeId) :
    ∃ nn w', (Builtin.copy_ #[31, 31] ty #[.slice (some ⟨S, x.1 * 64, none⟩) m c, .slice (some ⟨g, 1, none⟩) 64 64]).run Try.prog w = .ok nn w' ∧ Row w' S (bytesL (settle F x.1 x.2 m)) 79 ∧ Else S w w' := by
  have hl := hx.len
  have hlt := hx.lt
  have hcs : ((x.2.take m).map fun y : Nat => Value.int .u8 (y : Int)).length = m := by rw [List.length_map, List.length_take]; omega
  have hrun := run_copy_row (P := Try.prog) w 31 31 ty 5 S (x.1 * 64) m c ⟨g, 1, none⟩ 64 64 (bytesL F) 79 ((x.2.take m).map fun y : Nat => Value.int .u8 (y : Int)) under_bytes info_byte hS (by rw [hcs]; exact (Nat.min_eq_right hm).symm) (fun j v hj => by
      have hj' : j < m := by
        have := (List.getElem?_eq_some_iff.1 hj).1
        rwa [hcs] at this
      rw [Addr.add_lit, hg.cell, ← hj, Nat.add_comm 1 j]
      simp [wr1, List.getElem?_take, hj']) (by rw [hcs, bytesL_size]; omega) (fun v hv => by
      obtain ⟨y, _, rfl⟩ := List.mem_map.1 hv
      rfl)
  refine ⟨_, _, hrun, ?_, ?_⟩
  · have e : ((bytesL F).toList.take (x.1 * 64) ++ ((x.2.take m).map fun y : Nat => Value.int .u8 (y : Int)) ++ (bytesL F).toList.drop (x.1 * 64 + ((x.2.take m).map fun y : Nat => Value.int .u8 (y : Int)).length)).toArray = bytesL (settle F x.1 x.2 m) := by
      rw [hcs]
      simp only [bytesL, settle, List.map_append, List.map_take, List.map_drop, Nat.mul_comm 64 x.1]
    rw [e]
    exact hS.setRow _
  · exact ⟨rfl, rfl, rfl, by simp [World.setRow], fun k _ hk => setRow_other w S k _ hk⟩

set_option maxHeartbeats 4000000 in
theorem settle_any (x : Nat × List Nat) (m : Nat) (hm : m ≤ 64) (w : World) (R S : Nat) (v : Value) (d : Dk) (h : DkAt w R S v d) (hx : WOk d.n x) :
    Calls Try.prog 37 #[.pointer (some ⟨R, 0, none⟩), .agg (wr1 x), .int .i64 m] w fun e w' => e = .returned (.tuple #[]) ∧ DkAt w' R S v { d with F := settle d.F x.1 x.2 m } ∧ DStep w w' R S v v := by
  have hok := h.ok.settle hx hm
  have hR := h.row.lt
  have hS0 := h.sure.lt
  have hn2 := h.ok.n2
  have hlt := hx.lt
  have a0 : (0 : Int) ≤ (x.1 : Int) := by omega
  have a1 : (x.1 : Int) < (d.n : Int) := by omega
  have n1 : (d.n : Int) ≤ 4096 := by omega
  have m0 : (0 : Int) ≤ (m : Int) := by omega
  have m1 : (m : Int) ≤ 64 := by omega
  go_enter Try.func37, Try.ntmps37
  go_wp2_with fail
  have rg : Row (w.alloc (.cells (wr1 x) 81)) w.heap.size (wr1 x) 81 := Row.new w _ _ rfl
  have h1 := h.alloc (.cells (wr1 x) 81)
  have b1 := below1 w (.cells (wr1 x) 81)
  generalize w.alloc (.cells (wr1 x) 81) = w1 at *
  refine wp_region_D (fun i => i != 11) (fun w' : World => w'.cell? ⟨R, 0, none⟩ = some (.slice (some ⟨S, 0, none⟩) d.n d.n) ∧ w'.cell? ⟨w.heap.size, 0, none⟩ = some (.int .i64 (x.1 : Nat))) (by kernel_rfl) ?_
  have hS : (fun w' : World => w'.cell? ⟨R, 0, none⟩ = some (.slice (some ⟨S, 0, none⟩) d.n d.n) ∧ w'.cell? ⟨w.heap.size, 0, none⟩ = some (.int .i64 (x.1 : Nat))) w1.drew := ⟨h1.cells.1, rg.cell 0⟩
  have rg2 : Row w1.drew w.heap.size (wr1 x) 81 := rg
  have h2 : DkAt w1.drew R S v d := h1.drew
  have b2 : Below w.heap.size w w1.drew := b1.drew
  clear rg h1 b1
  generalize w1.drew = w2 at *
  obtain ⟨nn, w3, hrun, rS, e3⟩ := run_copy_settle w2 S w.heap.size d.F d.n x m hm hx h.ok.fl h2.sure rg2 64 3
  refine' wpAnyD_take (i := 0) (v := _) rfl (by kernel_rfl) (by kernel_rfl) (by kernel_rfl) (by kernel_rfl) (fun _ _ _ h => h) (Or.inl ⟨by rfl, ?hy1⟩) hS ?re1
  case hy1 => (intro w hSw; (try dsimp only at hSw); go_simp; (try with_reducible rfl))
  simp only [Act.put, List.setIfInBounds_toArray, List.set_cons_zero, List.set_cons_succ]
  refine' wpAnyD_take (i := 1) (v := _) rfl (by kernel_rfl) (by kernel_rfl) (by kernel_rfl) (by kernel_rfl) (fun _ _ _ h => h) (Or.inl ⟨by rfl, ?hy2⟩) hS ?re2
  case hy2 => (intro w hSw; (try dsimp only at hSw); go_simp; (try with_reducible rfl))
  simp only [Act.put, List.setIfInBounds_toArray, List.set_cons_zero, List.set_cons_succ]
  refine' wpAnyD_take (i := 2) (v := _) rfl (by kernel_rfl) (by kernel_rfl) (by kernel_rfl) (by kernel_rfl) (fun _ _ _ h => h) (Or.inl ⟨by rfl, ?hy3⟩) hS ?re3
  case hy3 => (intro w hSw; (try dsimp only at hSw); go_simp; (try with_reducible rfl))
  simp only [Act.put, List.setIfInBounds_toArray, List.set_cons_zero, List.set_cons_succ]
  refine' wpAnyD_take (i := 3) (v := _) rfl (by kernel_rfl) (by kernel_rfl) (by kernel_rfl) (by kernel_rfl) (fun _ _ _ h => h) (Or.inl ⟨by rfl, ?hy4⟩) hS ?re4
  case hy4 => (intro w hSw; (try dsimp only at hSw); go_simp; (try with_reducible rfl))
  simp only [Act.put, List.setIfInBounds_toArray, List.set_cons_zero, List.set_cons_succ]
  refine' wpAnyD_take (i := 4) (v := _) rfl (by kernel_rfl) (by kernel_rfl) (by kernel_rfl) (by kernel_rfl) (fun _ _ _ h => h) (Or.inl ⟨by rfl, ?hy5⟩) hS ?re5
  case hy5 => (intro w hSw; (try dsimp only at hSw); go_simp; (try with_reducible rfl))
  simp only [Act.put, List.setIfInBounds_toArray, List.set_cons_zero, List.set_cons_succ]
  refine' wpAnyD_take (i := 5) (v := _) rfl (by kernel_rfl) (by kernel_rfl) (by kernel_rfl) (by kernel_rfl) (fun _ _ _ h => h) (Or.inl ⟨by rfl, ?hy6⟩) hS ?re6
  case hy6 => (intro w hSw; (try dsimp only at hSw); go_simp; (try with_reducible rfl))
  simp only [Act.put, List.setIfInBounds_toArray, List.set_cons_zero, List.set_cons_succ]
  refine' wpAnyD_take (i := 6) (v := _) rfl (by kernel_rfl) (by kernel_rfl) (by kernel_rfl) (by kernel_rfl) (fun _ _ _ h => h) (Or.inl ⟨by rfl, ?hy7⟩) hS ?re7
  case hy7 => (intro w hSw; (try dsimp only at hSw); go_simp; (try with_reducible rfl))
  simp only [Act.put, List.setIfInBounds_toArray, List.set_cons_zero, List.set_cons_succ]
  refine' wpAnyD_take (i := 7) (v := _) rfl (by kernel_rfl) (by kernel_rfl) (by kernel_rfl) (by kernel_rfl) (fun _ _ _ h => h) (Or.inl ⟨by rfl, ?hy8⟩) hS ?re8
  case hy8 => (intro w hSw; (try dsimp only at hSw); go_simp; (try with_reducible rfl))
  simp only [Act.put, List.setIfInBounds_toArray, List.set_cons_zero, List.set_cons_succ]
  refine' wpAnyD_take (i := 8) (v := _) rfl (by kernel_rfl) (by kernel_rfl) (by kernel_rfl) (by kernel_rfl) (fun _ _ _ h => h) (Or.inl ⟨by rfl, ?hy9⟩) hS ?re9
  case hy9 => (intro w hSw; (try dsimp only at hSw); go_simp; (try with_reducible rfl))
  simp only [Act.put, List.setIfInBounds_toArray, List.set_cons_zero, List.set_cons_succ]
  refine' wpAnyD_take (i := 9) (v := _) rfl (by kernel_rfl) (by kernel_rfl) (by kernel_rfl) (by kernel_rfl) (fun _ _ _ h => h) (Or.inl ⟨by rfl, ?hy10⟩) hS ?re10
  case hy10 => (intro w hSw; (try dsimp only at hSw); go_simp; (try with_reducible rfl))
  simp only [Act.put, List.setIfInBounds_toArray, List.set_cons_zero, List.set_cons_succ]
  refine' wpAnyD_take (i := 10) (v := _) rfl (by kernel_rfl) (by kernel_rfl) (by kernel_rfl) (by kernel_rfl) (fun _ _ _ h => h) (Or.inl ⟨by rfl, ?hy11⟩) hS ?re11
  case hy11 => (intro w hSw; (try dsimp only at hSw); go_simp; (try with_reducible rfl))
  simp only [Act.put, List.setIfInBounds_toArray, List.set_cons_zero, List.set_cons_succ]
  refine wpAnyD_only (i := 11) rfl (by kernel_rfl) (by rfl) (fun K hK => ?_)
  refine Lib.wp_copy_run (P := Try.prog) w2 _ _ _ _ rfl _ _ rfl rfl hrun ?_
  refine hK.out _ _ (fun hh => by cases hh) ?_
  clear hK K hS
  try simp only [Act.put, List.setIfInBounds_toArray, List.set_cons_zero, List.set_cons_succ]
  refine wpAnyD_done (by kernel_rfl) ?_ _
  go_wp2
  go_end0
  refine ⟨rfl, ⟨hok, (e3.block R h2.row.lt h.rs).trans h2.row, rS, ownsRow_keep h2.own fun k _ hk e => e3.block k hk (fun e2 => h.vs (e2 ▸ e))⟩, ⟨e3.os.trans b2.os, e3.tape.trans b2.tape, e3.output.trans b2.output, Nat.le_trans b2.size e3.size, fun k hk k1 k2 k3 => (e3.block k (Nat.lt_of_lt_of_le hk b2.size) k2).trans (b2.block k hk), fun g hg => Or.inl hg⟩⟩

/-- What the sectors are behind the writes, of each so many bytes. -/
def setl (f : Nat → Nat) (F : List Nat) (ws : List (Nat × List Nat)) : List Nat := ws.zipIdx.foldl (fun F x => settle F x.1.1 x.1.2 (f x.2)) F
theorem setl_succ (f : Nat → Nat) (F : List Nat) (ws : List (Nat × List Nat)) (k : Nat) (hk : k < ws.length) : setl f F (ws.take (k + 1)) = settle (setl f F (ws.take k)) (ws.getD k (0, [])).1 (ws.getD k (0, [])).2 (f k) := by
  unfold setl
  rw [List.take_succ_eq_append_getElem hk, List.zipIdx_append, List.foldl_append]
  simp [List.getD, hk, Nat.min_eq_left (Nat.le_of_lt hk)]
theorem mem_getD {ws : List (Nat × List Nat)} {k : Nat} (hk : k < ws.length) : ws.getD k (0, []) ∈ ws := by
  simp only [List.getD]; rw [List.getElem?_eq_getElem hk]; exact List.getElem_mem _

set_option maxHeartbeats 4000000 in
theorem flush_any (w : World) (R S : Nat) (v : Value) (d : Dk) (h : DkAt w R S v d) (hdn : d.down = false) :
    Calls Try.prog 20 #[.pointer (some ⟨R, 0, none⟩)] w fun e w' => e = .returned (.int .i64 0) ∧ DkAt w' R S (.slice none 0 0) { d with F := setl (fun _ => 64) d.F d.ws, ws := [] } ∧ DStep w w' R S v (.slice none 0 0) := by
  have hwl := h.ok.wl
  have hn2 := h.ok.n2
  obtain ⟨c0, c1, c2, c3, c4⟩ := h.cells
  obtain ⟨p, nw, c, hv, hnw⟩ := ownsRow_form h.own
  subst hv hnw
  have w0 : (0 : Int) ≤ (d.ws.length : Int) := by omega
  have w1 : (d.ws.length : Int) ≤ 1000 := by omega
  go_enter Try.func20, Try.ntmps20
  go_wp2_with (go_at_call 39; refine stop ?_)
  refine (down_any _ R S _ d h).mono ?_
  rintro e w' ⟨rfl, hw'⟩
  obtain rfl := hw'.symm
  rw [hdn]
  clear hw'
  go_wp2
  go_loopw [12] (fun i wr => ∃ k : Nat, k ≤ d.ws.length ∧ i = .int .i64 k ∧ DkAt wr R S (.slice p d.ws.length c) { d with F := setl (fun _ => 64) d.F (d.ws.take k) } ∧ DStep w wr R S (.slice p d.ws.length c) (.slice p d.ws.length c)) (fun i _ => d.ws.length - (intOf i).toNat)
  case atStart => exact ⟨0, Nat.zero_le _, rfl, by simpa [setl] using h, DStep.refl _ _ _ _⟩
  case round =>
    clear c0 c1 c2 c3 c4
    obtain ⟨k, hk, rfl, hD, hs⟩ := hrel
    by_cases hlt : k < d.ws.length
    · have hlt' : (k : Int) < (d.ws.length : Int) := by omega
      obtain ⟨g, cap, e, hg, hrange⟩ := hD.wait (i := k) hlt
      cases e
      have hx := h.ok.wok _ (mem_getD hlt)
      have hsucc := setl_succ (fun _ => 64) d.F d.ws k hlt
      have hxi := info_wr2 hx.len
      have hxj := info_wr' hx.len
      have hz := zero_write wr
      have hxk : (wr1 (0, zs 64)).size = (wr1 (d.ws.getD k (0, []))).size := by rw [wr1_size (zs_len 64), wr1_size hx.len]
      have hr : wr.rangeAt g (k * 65) (wr1 (d.ws.getD k (0, []))).toList := hrange
      clear hrange
      generalize d.ws.getD k (0, []) = x at *
      go_wp2_with (first | refine wpList_load_mid rfl 81 _ rfl g (k * 65) rfl (wr1 x).toList _ hr Try.underlying81 rfl hxi ?_ | (refine wpList_store_row rfl 81 _ _ rfl wr.heap.size (wr1 x) rfl rfl 81 _ (heap_alloc_new wr _) hxj (by first | exact hxk | rfl) (wr1_one _) ?_; refine stop ?_))
      unfold Stop
      clear hz hr
      have rg := (Row.new wr (wr1 (0, zs 64)) 81 rfl).setRow (wr1 x)
      have b2 : Below wr.heap.size wr ((wr.alloc (.cells (wr1 (0, zs 64)) 81)).setRow wr.heap.size (wr1 x)) := Below.row (below1 wr _) _ (Nat.le_refl _)
      generalize (wr.alloc (.cells (wr1 (0, zs 64)) 81)).setRow wr.heap.size (wr1 x) = w2 at *
      have hD2 := hD.later b2
      have hs2 := hs.trans (DStep.of b2 R S _)
      go_wp2_with (first | refine wpList_load_row rfl 81 _ rfl wr.heap.size rfl 81 (wr1 x) (0, 0) _ rg Try.underlying81 rfl hxj ?_ | (go_at_call 37; refine stop ?_))
      refine (settle_any x 64 (by decide) w2 R S _ _ hD2 hx).mono ?_
      rintro e w3 ⟨rfl, hD3, hs3⟩
      have hs4 := hs2.trans hs3
      have hD4 : DkAt w3 R S (.slice (some ⟨g, 0, none⟩) d.ws.length c) { d with F := setl (fun _ => 64) d.F (d.ws.take (k + 1)) } := by rw [hsucc]; exact hD3
      clear hD3 hs3 hs2 hD2 hs hD rg
      go_wp2
      go_roundw
      case rel => exact ⟨k + 1, by omega, by go_num, hD4, hs4⟩
      case measure => simp [intOf]; omega
    · obtain rfl : k = d.ws.length := by omega
      rw [List.take_length] at hD
      obtain ⟨c0, c1, c2, c3, c4⟩ := hD.cells
      have f1 := hD.row.frozen 1
      go_wp2
      go_ret
      have oth : ∀ j, j ≠ R → (wr.setCell ⟨R, 1, none⟩ (.slice none 0 0)).heap[j]? = wr.heap[j]? := fun j hj => heap_setCell_other wr ⟨R, 1, none⟩ j _ hj
      refine ⟨rfl, ⟨⟨hD.ok.f8, hD.ok.fl, hD.ok.n1, hD.ok.n2, by simp, hD.ok.cl, hD.ok.ll, fun x hx => by cases hx⟩, hD.row.set 1 _, (oth S hD.rs.symm).trans hD.sure, World.ownsRow_nil _ _ _ _⟩, ⟨hs.os, hs.tape, hs.output, by simpa [World.setCell] using hs.size, fun j hj h1 h2 h3 => (oth j h1).trans (hs.block j hj h1 h2 h3), fun g hg => by cases hg⟩⟩

set_option maxHeartbeats 1000000 in
theorem flush_down (w : World) (R S : Nat) (v : Value) (d : Dk) (h : DkAt w R S v d) (hdn : d.down = true) :
    Calls Try.prog 20 #[.pointer (some ⟨R, 0, none⟩)] w fun e w' => e = .returned (.int .i64 4) ∧ w' = w := by
  go_enter Try.func20, Try.ntmps20
  go_wp2_with (go_at_call 39; refine stop ?_)
  refine (down_any _ R S _ d h).mono ?_
  rintro e w' ⟨rfl, hw'⟩
  obtain rfl := hw'.symm
  rw [hdn]
  clear hw'
  go_wp2
  go_ret
  exact ⟨rfl, rfl⟩
end Go.Proofs.Ytfhaphbfbmpbiaa
