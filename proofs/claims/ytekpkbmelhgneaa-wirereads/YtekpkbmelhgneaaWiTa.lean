
/-
  paciolilaw03.Tame: the kind that makes accounts.
-/
import Derived.Test.YtekpkbmelhgneaaWiU
namespace Go.Proofs.Ytekpkbmelhgneaa
open Go.RowKit
set_option maxRecDepth 100000
set_option linter.unusedSimpArgs false

theorem take8_snoc {α : Type} (L : List α) (k : Nat) (a : α) (h : L[k]? = some a) (hk : k < 8) : L.take (min (k + 1) 8) = L.take (min k 8) ++ [a] := by
  obtain ⟨hl, rfl⟩ := List.getElem?_eq_some_iff.1 h
  rw [show min (k + 1) 8 = k + 1 from by omega, show min k 8 = k from by omega, List.take_succ_eq_append_getElem hl]
def tmA (L : List AIn) (k : Nat) : List Ac := (L.take (min k 8)).map AIn.tame
theorem tmA_len (L : List AIn) (k : Nat) : (tmA L k).length ≤ 8 := by simp [tmA]; omega
theorem tmA_snoc (L : List AIn) (k : Nat) (a : AIn) (h : L[k]? = some a) (hk : k < 8) : tmA L (k + 1) = tmA L k ++ [a.tame] := by
  unfold tmA
  rw [take8_snoc L k a h hk, List.map_append, List.map_singleton]
theorem tmA_same (L : List AIn) (k : Nat) (hk : ¬ k < 8) : tmA L (k + 1) = tmA L k := by
  unfold tmA
  rw [show min (k + 1) 8 = min k 8 from by omega]
theorem tmA_all (L : List AIn) (k : Nat) (hk : L.length ≤ k) : tmA L k = (L.take 8).map AIn.tame := by
  unfold tmA
  rcases Nat.le_total k 8 with h | h
  · rw [Nat.min_eq_left h, List.take_of_length_le hk, List.take_of_length_le (Nat.le_trans hk h)]
  · rw [Nat.min_eq_right h]
theorem tame_lit (a : AIn) : (#[.int .u64 (a.hi : Nat), .int .u64 (a.lo : Nat), .int .i64 (low 4294967296 a.led : Nat), .int .i64 (low 65536 a.fl : Nat), .int .u64 0, .int .u64 0, .int .u64 0, .int .u64 0, .int .u64 0, .int .u64 0, .int .u64 0, .int .u64 0, .int .i64 0, .int .i64 0, .int .u8 0, .int .u8 0, .int .u8 0, .int .u8 0, .int .u8 0, .int .u8 0, .int .u8 0, .int .u8 0, .int .u8 0, .int .u8 0, .int .u8 0, .int .u8 0, .int .u8 0, .int .u8 0, .int .u8 0, .int .u8 0, .int .u8 0, .int .u8 0, .int .u8 0, .int .u8 0, .int .u8 0, .int .u8 0, .int .u8 0, .int .u8 0, .int .u8 0, .int .u8 0, .int .u8 0, .int .u8 0, .int .u8 0, .int .u8 0, .int .u8 0, .int .u8 0] : Array Value) = Ac.cells a.tame := rfl
structure TmR (w wr : World) : Prop where
  b : Row wr (w.heap.size + 1) (rqC 0 (.slice none 0 0) (.slice none 0 0) 0 0 0 0 0) 28
  bel : Below w.heap.size w wr
theorem TmR.later {w wr wr' : World} (h : TmR w wr) (hb : Below wr.heap.size wr wr') : TmR w wr' := ⟨h.b.later hb, h.bel.trans (hb.mono h.bel.size)⟩
theorem TmR.setNew {w wr : World} (h : TmR w wr) {O : Nat} (hO : w.heap.size + 1 < O) (i : Nat) (v : Value) : TmR w (wr.setCell ⟨O, i, none⟩ v) :=
  ⟨h.b.setOther v (by simp; omega), h.bel.setCell (by simp; omega) v⟩

def TmI (w : World) (L : List AIn) (wr : World) (k : Nat) : Prop := ∃ vk, Row wr (w.heap.size + 1 + 1) (rqC 1 vk (.slice none 0 0) 0 0 0 0 0) 28 ∧ AcsAt wr w.heap.size vk (tmA L k) ∧ TmR w wr

set_option maxHeartbeats 8000000 in
theorem tame_acs (q : RIn) (va vt : Value) (w : World) (hj : low 256 q.kind % 9 = 0) (L : List AIn) (ha : RowsIn AIn.cs 46 w va L) (hok : ∀ a ∈ L, a.ok) (hL : L.length ≤ 1000) :
    Calls Try.prog 13 #[.agg (riC q.kind va vt q.hi q.lo q.fr q.to q.lim)] w fun e w' => ∃ v, e = .returned (.agg (rqC 1 v (.slice none 0 0) 0 0 0 0 0)) ∧ AcsAt w' w.heap.size v ((L.take 8).map AIn.tame) ∧ Below w.heap.size w w' := by
  obtain ⟨n, hn, hn1, hn2⟩ := kind_bits q.kind 0 hj
  have n0 : (0 : Int) ≤ (n : Int) := by omega
  have n1 : (n : Int) ≤ 255 := by omega
  rw [show ((0 : Nat) : Int) = 0 from rfl] at hn2
  obtain ⟨hm, pa, ca, rfl, hra⟩ := id ha
  have m0 : (0 : Int) ≤ (L.length : Int) := by omega
  have m1 : (L.length : Int) ≤ 1000 := by omega
  unfold riC
  go_enter Try.func13, Try.ntmps13
  go_wp2
  rw [rq_lit, show (#[.int .i64 1, .slice none 0 0, .slice none 0 0, .int .u64 0, .int .u64 0, .int .i64 0, .int .i64 0, .int .i64 0] : Array Value) = rqC 1 (.slice none 0 0) (.slice none 0 0) 0 0 0 0 0 from rfl]
  clear hn hn2 hn1 n0 n1
  go_loopw [32] (fun i wr => ∃ k : Nat, k ≤ L.length ∧ i = .int .i64 k ∧ TmI w L wr k) (fun i _ => L.length - (intOf i).toNat)
  case atStart =>
    exact ⟨0, Nat.zero_le _, rfl, .slice none 0 0, Row.new _ _ _ (by simp), by simpa [tmA] using acs_nil _ _, (Row.new _ _ _ (by simp)).alloc _, below3 _ _ _ _⟩
  case round =>
    obtain ⟨k, hk, rfl, vk, hO, hA, hT⟩ := hrel
    by_cases hlt : k < L.length
    · obtain ⟨a, hka⟩ : ∃ a, L[k]? = some a := ⟨L[k], List.getElem?_eq_getElem hlt⟩
      have hak := hok a (List.mem_of_getElem? hka)
      obtain ⟨g, off, rfl, hglt, hr0⟩ := hra k a hka
      have hr : wr.rangeAt g (off + k * 46) a.cs.toList := fun j u hu => (hT.bel.cell (p := ⟨g, off + k * 46 + j, none⟩) hglt).trans (hr0 j u hu)
      have hinf : (Try.prog.info? 42).map (·.size) = some a.cs.toList.length := by rw [Array.length_toList, hak.size]; exact info_acc
      have hinf2 : (Try.prog.info? 42).map (·.size) = some a.cs.size := by rw [hak.size]; exact info_acc
      have rN := (Row.new wr (Ac.cells ⟨0, 0, 0, 0⟩) 42 rfl).setRow a.cs
      have bN : Below wr.heap.size wr ((wr.alloc (.cells (Ac.cells ⟨0, 0, 0, 0⟩) 42)).setRow wr.heap.size a.cs) := Below.row (below1 wr _) _ (Nat.le_refl _)
      have hO1 := hO.later bN
      have hA1 : AcsAt _ w.heap.size vk _ := ownsRow_keep hA (fun j _ h2 _ => bN.block j h2)
      have hT1 : TmR w _ := hT.later bN
      have zO := hO.lt
      have k0' : (0 : Int) ≤ (k : Int) := by omega
      have k1' : (k : Int) < (L.length : Int) := by omega
      have hca : a.cs.toList.toArray = a.cs := by simp
      clear hO hA hT hra ha hr0
      go_wp2_with (first | (refine wpList_load_mid rfl 42 _ rfl g (off + k * 46) rfl a.cs.toList _ hr Try.underlying42 rfl hinf ?_; rw [hca]) | (refine wpList_store_row rfl 42 _ _ rfl wr.heap.size a.cs rfl rfl 42 _ (heap_alloc_new wr _) hinf2 (by rw [hak.size]; rfl) hak.one ?_; refine stop ?_))
      rw [acc_lit]
      unfold Stop
      clear hr hca hinf hinf2
      have zN : wr.heap.size < ((wr.alloc (.cells (Ac.cells ⟨0, 0, 0, 0⟩) 42)).setRow wr.heap.size a.cs).heap.size := rN.lt
      generalize (wr.alloc (.cells (Ac.cells ⟨0, 0, 0, 0⟩) 42)).setRow wr.heap.size a.cs = w1 at *
      clear bN
      by_cases h8 : k < 8
      · have h8' : (k : Int) < 8 := by omega
        have d0 := (rN.cell 0).trans hak.c0
        have d1 := (rN.cell 1).trans hak.c1
        have d2 := (rN.cell 2).trans hak.c2
        have d3 := (rN.cell 3).trans hak.c3
        have dO := hO1.cell 1
        rw [show (rqC 1 vk (.slice none 0 0) 0 0 0 0 0)[1]? = some vk from rfl] at dO
        have e16 := (mask16 a.fl).trans (low_eq 65536 (by decide) a.fl)
        obtain ⟨pk, nk, ck, rfl, hnk⟩ := ownsRow_form hA1
        clear hnk
        go_wp2_with fail
        refine wp_region_D (fun i => i != 13 && i != 14 && i != 15) (fun w' : World => w'.cell? ⟨w.heap.size + 1 + 1, 1, none⟩ = some (.slice pk nk ck) ∧ w'.cell? ⟨wr.heap.size, 0, none⟩ = some (.int .u64 (a.hi : Nat)) ∧ w'.cell? ⟨wr.heap.size, 1, none⟩ = some (.int .u64 (a.lo : Nat)) ∧ w'.cell? ⟨wr.heap.size, 2, none⟩ = some (.int .i64 a.led) ∧ w'.cell? ⟨wr.heap.size, 3, none⟩ = some (.int .i64 a.fl)) (by kernel_rfl) ?_
        have hS : (fun w' : World => w'.cell? ⟨w.heap.size + 1 + 1, 1, none⟩ = some (.slice pk nk ck) ∧ w'.cell? ⟨wr.heap.size, 0, none⟩ = some (.int .u64 (a.hi : Nat)) ∧ w'.cell? ⟨wr.heap.size, 1, none⟩ = some (.int .u64 (a.lo : Nat)) ∧ w'.cell? ⟨wr.heap.size, 2, none⟩ = some (.int .i64 a.led) ∧ w'.cell? ⟨wr.heap.size, 3, none⟩ = some (.int .i64 a.fl)) w1.drew := ⟨dO, d0, d1, d2, d3⟩
        have hO2 : Row w1.drew _ _ _ := hO1
        have hA2 : AcsAt w1.drew w.heap.size (.slice pk nk ck) _ := ownsRow_keep hA1 (fun _ _ _ _ => rfl)
        have hT2 : TmR w w1.drew := hT1.later (Below.refl _ _).drew
        clear hO1 hA1 hT1 dO d0 d1 d2 d3
        have rN2 : Row w1.drew _ _ _ := rN
        clear rN
        generalize w1.drew = w2 at *
        refine' wpAnyD_take (i := 0) (v := _) rfl (by kernel_rfl) (by kernel_rfl) (by kernel_rfl) (by kernel_rfl) (fun _ _ _ h => h) (Or.inl ⟨by rfl, ?hy1⟩) hS ?re1
        case hy1 => (intro w hSw; (try dsimp only at hSw); go_simp; (try with_reducible rfl))
        simp only [Act.put, List.setIfInBounds_toArray, List.set_cons_zero, List.set_cons_succ]
        refine' wpAnyD_take (i := 1) (v := _) rfl (by kernel_rfl) (by kernel_rfl) (by kernel_rfl) (by kernel_rfl) (fun _ _ _ h => h) (Or.inl ⟨by rfl, ?hy2⟩) hS ?re2
        case hy2 => (intro w hSw; (try dsimp only at hSw); go_simp; (try with_reducible rfl))
        simp only [Act.put, List.setIfInBounds_toArray, List.set_cons_zero, List.set_cons_succ]
        refine' wpAnyD_take (i := 2) (v := _) rfl (by kernel_rfl) (by kernel_rfl) (by kernel_rfl) (by kernel_rfl) (fun _ _ _ h => h) (Or.inl ⟨by rfl, ?hy3⟩) hS ?re3
        case hy3 => (intro w hSw; (try dsimp only at hSw); go_simp; (try with_reducible rfl))
        simp only [Act.put, List.setIfInBounds_toArray, List.set_cons_zero, List.set_cons_succ]
        refine' wpAnyD_take (i := 3) (v := _) rfl (by kernel_rfl) (by kernel_rfl) (by kernel_rfl) (by kernel_rfl) (fun _ _ _ h => h) (Or.inl ⟨by rfl, ?hy4⟩) hS ?re4
        case hy4 => (intro w hSw; (try dsimp only at hSw); go_simp; (try with_reducible rfl))
        simp only [Act.put, List.setIfInBounds_toArray, List.set_cons_zero, List.set_cons_succ]
        refine' wpAnyD_take (i := 4) (v := _) rfl (by kernel_rfl) (by kernel_rfl) (by kernel_rfl) (by kernel_rfl) (fun _ _ _ h => h) (Or.inl ⟨by rfl, ?hy5⟩) hS ?re5
        case hy5 => (intro w hSw; (try dsimp only at hSw); go_simp; (try with_reducible rfl))
        simp only [Act.put, List.setIfInBounds_toArray, List.set_cons_zero, List.set_cons_succ]
        refine' wpAnyD_take (i := 5) (v := _) rfl (by kernel_rfl) (by kernel_rfl) (by kernel_rfl) (by kernel_rfl) (fun _ _ _ h => h) (Or.inl ⟨by rfl, ?hy6⟩) hS ?re6
        case hy6 => (intro w hSw; (try dsimp only at hSw); go_simp; (try with_reducible rfl))
        simp only [Act.put, List.setIfInBounds_toArray, List.set_cons_zero, List.set_cons_succ]
        refine' wpAnyD_take (i := 6) (v := _) rfl (by kernel_rfl) (by kernel_rfl) (by kernel_rfl) (by kernel_rfl) (fun _ _ _ h => h) (Or.inl ⟨by rfl, ?hy7⟩) hS ?re7
        case hy7 => (intro w hSw; (try dsimp only at hSw); go_simp; (try with_reducible rfl))
        simp only [Act.put, List.setIfInBounds_toArray, List.set_cons_zero, List.set_cons_succ]
        refine' wpAnyD_take (i := 8) (v := _) rfl (by kernel_rfl) (by kernel_rfl) (by kernel_rfl) (by kernel_rfl) (fun _ _ _ h => h) (Or.inl ⟨by rfl, ?hy8⟩) hS ?re8
        case hy8 => (intro w hSw; (try dsimp only at hSw); go_simp; (try with_reducible rfl))
        simp only [Act.put, List.setIfInBounds_toArray, List.set_cons_zero, List.set_cons_succ]
        refine' wpAnyD_take (i := 9) (v := _) rfl (by kernel_rfl) (by kernel_rfl) (by kernel_rfl) (by kernel_rfl) (fun _ _ _ h => h) (Or.inl ⟨by rfl, ?hy9⟩) hS ?re9
        case hy9 => (intro w hSw; (try dsimp only at hSw); go_simp; (try with_reducible rfl))
        simp only [Act.put, List.setIfInBounds_toArray, List.set_cons_zero, List.set_cons_succ]
        refine' wpAnyD_take (i := 10) (v := _) rfl (by kernel_rfl) (by kernel_rfl) (by kernel_rfl) (by kernel_rfl) (fun _ _ _ h => h) (Or.inl ⟨by rfl, ?hy10⟩) hS ?re10
        case hy10 => (intro w hSw; (try dsimp only at hSw); go_simp; (try with_reducible rfl))
        simp only [Act.put, List.setIfInBounds_toArray, List.set_cons_zero, List.set_cons_succ]
        refine wpAnyD_only (i := 7) rfl (by kernel_rfl) (by rfl) (fun K hK => ?_)
        go_simp
        refine (four_any _ _).mono ?_
        rintro e w' ⟨rfl, hw'⟩
        replace hw' := hw'.symm
        subst hw'
        try dsimp only
        refine hK.out _ _ (fun _ => hS) ?_
        clear hK K
        try simp only [Act.put, List.setIfInBounds_toArray, List.set_cons_zero, List.set_cons_succ]
        refine' wpAnyD_take (i := 11) (v := _) rfl (by kernel_rfl) (by kernel_rfl) (by kernel_rfl) (by kernel_rfl) (fun _ _ _ h => h) (Or.inl ⟨by rfl, ?hy11⟩) hS ?re11
        case hy11 => (intro w hSw; (try dsimp only at hSw); go_simp; (try with_reducible rfl))
        simp only [Act.put, List.setIfInBounds_toArray, List.set_cons_zero, List.set_cons_succ]
        rw [tame_lit a]
        have hcs : (Ac.cells a.tame).size = 46 := rfl
        obtain ⟨v3, w3, run3, own3, gr3⟩ := append_one Try.underlying22 info_acc3 rfl (by decide) (by decide) w2 w.heap.size 22 _ _ _ hA2 (Ac.cells a.tame) rfl (Ac.one _) (by have := tmA_len L k; omega) hT2.bel.size _ rfl
        have hA3 : AcsAt w3 w.heap.size v3 (tmA L (k + 1)) := by
          unfold AcsAt
          rw [tmA_snoc L k a hka h8, acsC_snoc, List.length_append]
          exact own3
        have blkR : ∀ (j : Nat) (cs : Array Value) (t : TypeId), Row w2 j cs t → t ≠ 42 → Row w3 j cs t := fun j cs t hr ht => by
          refine (gr3.block j (hr.alloc _).lt (fun hh => ?_)).trans (hr.alloc _)
          obtain ⟨_, ⟨hn, _⟩ | ⟨g', cap, cur, e, _, hg, _⟩⟩ := hA2
          · cases hn; cases hh
          · cases e; cases hh; have hz := hg.symm.trans hr; simp at hz; exact ht hz.2.symm
        have hO3 := blkR _ _ _ hO2 (by decide)
        have hB3 := blkR _ _ _ hT2.b (by decide)
        have hbel3 : Below w.heap.size w w3 := below_grown (chainA hT2.bel _) (by have := hT2.bel.size; simp; omega) gr3 (fun j hj => (hA2.lt j hj).1)
        have rNa := rN2.alloc (.cells (Ac.cells a.tame) 42)
        have hOa := hO2.alloc (.cells (Ac.cells a.tame) 42)
        have hS1 : w3.cell? ⟨w.heap.size + 1 + 1, 1, none⟩ = some (.slice pk nk ck) := hO3.cell 1
        have fS1 := hO3.frozen 1
        generalize Ac.cells a.tame = cs' at *
        refine wpAnyD_only (i := 12) rfl (by kernel_rfl) (by rfl) (fun K hK => ?_)
        go_simp
        rw [lay_all _ cs' _ hcs rfl]
        try dsimp only
        refine hK.out _ _ (fun _ => ⟨hOa.cell 1, (rNa.cell 0).trans hak.c0, (rNa.cell 1).trans hak.c1, (rNa.cell 2).trans hak.c2, (rNa.cell 3).trans hak.c3⟩) ?_
        clear hK K hS
        try simp only [Act.put, List.setIfInBounds_toArray, List.set_cons_zero, List.set_cons_succ]
        refine wpAnyD_only (i := 13) rfl (by kernel_rfl) (by rfl) (fun K hK => ?_)
        refine Lib.wp_append_run _ (.tmp 40) (.tmp 51) 22 22 rfl _ _ rfl rfl _ _ run3 ?_
        have hrw := hO3.set 1 v3
        have hT3 : TmR w w3 := ⟨hB3, hbel3⟩
        have hT4 := hT3.setNew (O := w.heap.size + 1 + 1) (by omega) 1 v3
        have hA4 : AcsAt (w3.setCell ⟨w.heap.size + 1 + 1, 1, none⟩ v3) w.heap.size v3 (tmA L (k + 1)) := ownsRow_keep hA3 (fun j h1 h2 h3 => heap_setCell_other w3 ⟨w.heap.size + 1 + 1, 1, none⟩ j v3 (fun hh => by
          simp at hh
          subst hh
          obtain ⟨_, ⟨hn, _⟩ | ⟨g', cap, cur, e, _, hg, _⟩⟩ := hA3
          · rw [hn] at h3; cases h3
          · rw [e] at h3; cases h3; have hz := hg.symm.trans hO3; simp at hz))
        obtain ⟨p3, n3, c3, rfl, hn3⟩ := ownsRow_form hA3
        clear hn3 hA3 hT3 hB3 hbel3 blkR gr3 own3 run3 hA2 hT2 rN2 rNa hOa hO2 hcs
        try dsimp only
        refine hK.out _ _ (fun h => by cases h) ?_
        clear hK K
        try simp only [Act.put, List.setIfInBounds_toArray, List.set_cons_zero, List.set_cons_succ]
        refine' wpAnyD_free (i := 14) (v := _) rfl (by kernel_rfl) (by kernel_rfl) (by rfl) (by kernel_rfl) (fun _ _ _ h => h) (Or.inl ⟨by rfl, ?hy12⟩) ?re12
        case hy12 => (intro w hSw; clear hSw; go_simp; (try with_reducible rfl))
        simp only [Act.put, List.setIfInBounds_toArray, List.set_cons_zero, List.set_cons_succ]
        refine wpAnyD_only (i := 15) rfl (by kernel_rfl) (by rfl) (fun K hK => ?_)
        go_simp
        refine hK.out _ _ (fun h => by cases h) ?_
        clear hK K
        try simp only [Act.put, List.setIfInBounds_toArray, List.set_cons_zero, List.set_cons_succ]
        refine wpAnyD_done (by kernel_rfl) ?_ _
        go_wp2
        go_roundw
        case rel =>
          exact ⟨k + 1, by omega, by go_num, _, hrw, hA4, hT4⟩
        case measure => simp [intOf]; omega
      · have h8' : ¬ (k : Int) < 8 := by omega
        go_wp2
        go_roundw
        case rel =>
          exact ⟨k + 1, by omega, by go_num, vk, hO1, by rw [tmA_same L k h8]; exact hA1, hT1⟩
        case measure => simp [intOf]; omega
    · rw [tmA_all L k (by omega)] at hA
      have hone : (rqC 1 vk (.slice none 0 0) 0 0 0 0 0).all (·.oneCell') = true := rqC_one _ _ _ _ _ _ _ _ (slice_one hA) rfl
      have bB := hT.b
      go_wp2_with (first | refine wpList_load_row rfl 28 _ rfl (w.heap.size + 1 + 1) rfl 28 (rqC 1 vk (.slice none 0 0) 0 0 0 0 0) (0, 0) _ hO Try.underlying28 rfl info_rq ?_ | refine wpList_store_row rfl 28 _ _ rfl (w.heap.size + 1) (rqC 1 vk (.slice none 0 0) 0 0 0 0 0) rfl rfl 28 _ bB info_rq rfl hone ?_)
      refine bodyPost_ret (v := .agg (rqC 1 vk (.slice none 0 0) 0 0 0 0 0)) (results_cell_row Try.results13 _ _ (w.heap.size + 1) 28 (rqC 1 vk (.slice none 0 0) 0 0 0 0 0) (0, 0) _ ?hp ?hg Try.underlying28 rfl info_rq) rfl ⟨_, rfl, ?hw, Below.row hT.bel _ (by omega)⟩
      case hp => rfl
      case hg => exact bB.setRow _
      case hw => exact ownsRow_keep hA (fun j h1 h2 h3 => setRow_other _ _ _ _ (fun hh => by
          subst hh
          obtain ⟨_, ⟨hn, _⟩ | ⟨g, cap, cur, e, _, hg, _⟩⟩ := hA
          · rw [hn] at h3; cases h3
          · rw [e] at h3; cases h3; have hz := hg.symm.trans bB; simp at hz))
end Go.Proofs.Ytekpkbmelhgneaa
