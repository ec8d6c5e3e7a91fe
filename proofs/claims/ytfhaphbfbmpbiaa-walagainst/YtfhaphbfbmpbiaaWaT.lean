
/-
  package wal: Append. For every log that ends on its disk, every stamp below 2^32 and all bytes, within Dk.Ok's bounds (80 writes fewer than 1000 may wait).
-/
import Derived.Test.YtfhaphbfbmpbiaaWaS
namespace Go.Proofs.Ytfhaphbfbmpbiaa
open Go.RowKit
set_option maxRecDepth 100000
set_option linter.unusedVariables false
set_option linter.unusedSimpArgs false

/-- The stamp behind st. -/
def nextS (st : Nat) : Nat := if 4294967295 ≤ st then 1 else st + 1
theorem nextS_lt (st : Nat) : nextS st < 4294967296 := by unfold nextS; split <;> omega
theorem nextS_pos (st : Nat) : 0 < nextS st := by unfold nextS; split <;> omega
set_option maxHeartbeats 1000000 in
theorem nextStamp_all (n : Nat) (hn : n < 4294967296) (w : World) : Calls Try.prog 35 #[.int .i64 n] w fun e w' => e = .returned (.int .i64 (nextS n : Nat)) ∧ w' = w := by
  by_cases hc : 4294967295 ≤ n
  · have n0 : (0 : Int) ≤ (n : Int) := by omega
    have n2 : decide ((4294967295 : Int) ≤ (n : Int)) = true := by simp; omega
    rw [show nextS n = 1 from if_pos hc]
    clear hn hc
    generalize (n : Int) = x at *
    go_enter Try.func35, Try.ntmps35
    go_wp2
    go_ret
    exact ⟨rfl, rfl⟩
  · have n0 : (0 : Int) ≤ (n : Int) := by omega
    have n1 : (n : Int) ≤ 4294967294 := by omega
    have n2 : decide ((4294967295 : Int) ≤ (n : Int)) = false := by simp; omega
    rw [show nextS n = n + 1 from if_neg hc]
    clear hn hc
    rw [show ((n + 1 : Nat) : Int) = (n : Int) + 1 by omega]
    generalize (n : Int) = x at *
    go_enter Try.func35, Try.ntmps35
    go_wp2
    go_ret
    exact ⟨rfl, rfl⟩
/-- A record's bytes: its number, its length, it. -/
def body (num : Nat) (b : List Nat) : List Nat := enc 4 num ++ (enc 4 b.length ++ b)
/-- Its k-th sector. -/
def recK (st num : Nat) (b : List Nat) (k : Nat) : List Nat := sealL st (((body num b).drop (56 * k)).take 56)
/-- Behind the writes of its first k sectors, from f on. -/
def layN (st num : Nat) (b : List Nat) (d : Dk) (f : Nat) : Nat → Dk
  | 0 => d
  | k + 1 => (layN st num b d f k).put (f + k) (recK st num b k)
theorem layN_n (st num : Nat) (b : List Nat) (d : Dk) (f : Nat) : ∀ k, (layN st num b d f k).n = d.n
  | 0 => rfl
  | k + 1 => layN_n st num b d f k
theorem layN_ws (st num : Nat) (b : List Nat) (d : Dk) (f : Nat) : ∀ k, (layN st num b d f k).ws.length = d.ws.length + k
  | 0 => rfl
  | k + 1 => by
    show ((layN st num b d f k).ws ++ [_]).length = _
    rw [List.length_append, layN_ws st num b d f k]; simp; omega
theorem layN_cnt (st num : Nat) (b : List Nat) (d : Dk) (f : Nat) : ∀ k, (layN st num b d f k).cnt = d.cnt + k
  | 0 => rfl
  | k + 1 => by
    show (layN st num b d f k).cnt + 1 = _
    rw [layN_cnt st num b d f k]; omega
/-- What Append leaves alone. -/
structure AStep (w w' : World) (W R S : Nat) (v v' : Value) : Prop where
  os : w'.os = w.os
  tape : w'.tape = w.tape
  output : w'.output = w.output
  size : w.heap.size ≤ w'.heap.size
  block : ∀ k, k < w.heap.size → k ≠ W → k ≠ R → k ≠ S → v.ownBlock ≠ some k → w'.heap[k]? = w.heap[k]?
  moved : ∀ g, v'.ownBlock = some g → v.ownBlock = some g ∨ w.heap.size ≤ g
/-- What Append leaves. -/
def AppQ (w : World) (W R S : Nat) (v : Value) (d : Dk) (cnt fin st : Nat) (b : List Nat) (e : Ending) (w' : World) : Prop :=
  ∃ v' d', DkAt w' R S v' d' ∧ AStep w w' W R S v v' ∧
    (e = .returned (.int .i64 0) ∧ d' = (layN (nextS st) (cnt + 1) b d fin (secs b.length)).flushed ∧ (layN (nextS st) (cnt + 1) b d fin (secs b.length)).down = false ∧ Row w' W (walV R (cnt + 1) (fin + secs b.length) (nextS st)) 75 ∨
     e = .returned (.int .i64 4) ∧ d'.down = true ∧ (∃ k, k ≤ secs b.length ∧ d' = layN (nextS st) (cnt + 1) b d fin k) ∧ Row w' W (walV R cnt fin (nextS st)) 75)
theorem body_len (num : Nat) (b : List Nat) : (body num b).length = 8 + b.length := by unfold body; simp only [List.length_append, enc_len]; omega
set_option maxHeartbeats 1000000 in
theorem append_long (w : World) (W : Nat) (u : Value) (b : List Nat) (hu : BytesAt w u b) (hl : 4096 < b.length) (hm : b.length ≤ 1048576) :
    Calls Try.prog 13 #[.pointer (some ⟨W, 0, none⟩), u] w fun e w' => e = .returned (.int .i64 2) ∧ w' = w := by
  obtain ⟨_, _, p, c, rfl, _⟩ := hu
  have l1 : (4096 : Int) < (b.length : Int) := by omega
  have l2 : (b.length : Int) ≤ 1048576 := by omega
  clear hl hm
  go_enter Try.func13, Try.ntmps13
  go_wp2
  go_ret
  exact ⟨rfl, rfl⟩
set_option maxHeartbeats 1000000 in
theorem append_full (w : World) (W R S : Nat) (v u : Value) (d : Dk) (cnt fin st : Nat) (b : List Nat) (h : DkAt w R S v d) (hW : Row w W (walV R cnt fin st) 75) (hf : fin ≤ d.n) (hu : BytesAt w u b) (hl : b.length ≤ 4096) (hd : d.n < fin + secs b.length) :
    Calls Try.prog 13 #[.pointer (some ⟨W, 0, none⟩), u] w fun e w' => e = .returned (.int .i64 3) ∧ Below w.heap.size w w' := by
  obtain ⟨_, _, p, c, rfl, _⟩ := id hu
  have c0 := hW.cell 0
  have c2 := hW.cell 2
  simp only [walV, List.getElem?_toArray, List.getElem?_cons_zero, List.getElem?_cons_succ] at c0 c2
  have hn2 := h.ok.n2
  have l1 : (b.length : Int) ≤ 4096 := by omega
  have sl := secs_le _ hl
  have g1 : (d.n : Int) < (fin : Int) + (secs b.length : Int) := by omega
  have g2 : (fin : Int) ≤ 4096 := by omega
  have g3 : (secs b.length : Int) ≤ 74 := by omega
  have g0 : (0 : Int) ≤ (secs b.length : Int) := by omega
  clear hd sl
  go_enter Try.func13, Try.ntmps13
  go_wp2_with fail
  refine wp_region_D (fun _ => true) (fun w' => w'.cell? ⟨W, 2, none⟩ = some (.int .i64 (fin : Nat))) (by kernel_rfl) ?_
  have hS : (fun w' : World => w'.cell? ⟨W, 2, none⟩ = some (.int .i64 (fin : Nat))) w.drew := c2
  refine' wpAnyD_take (i := 0) (v := _) rfl (by kernel_rfl) (by kernel_rfl) (by kernel_rfl) (by kernel_rfl) (fun _ _ _ h => h) (Or.inl ⟨by rfl, ?hy1⟩) hS ?re1
  case hy1 => (intro w hSw; (try dsimp only at hSw); go_simp; (try with_reducible rfl))
  simp only [Act.put, List.setIfInBounds_toArray, List.set_cons_zero, List.set_cons_succ]
  refine' wpAnyD_take (i := 1) (v := _) rfl (by kernel_rfl) (by kernel_rfl) (by kernel_rfl) (by kernel_rfl) (fun _ _ _ h => h) (Or.inl ⟨by rfl, ?hy2⟩) hS ?re2
  case hy2 => (intro w hSw; (try dsimp only at hSw); go_simp; (try with_reducible rfl))
  simp only [Act.put, List.setIfInBounds_toArray, List.set_cons_zero, List.set_cons_succ]
  refine' wpAnyD_take (i := 2) (v := _) rfl (by kernel_rfl) (by kernel_rfl) (by kernel_rfl) (by kernel_rfl) (fun _ _ _ h => h) (Or.inl ⟨by rfl, ?hy3⟩) hS ?re3
  case hy3 => (intro w hSw; (try dsimp only at hSw); go_simp; (try with_reducible rfl))
  simp only [Act.put, List.setIfInBounds_toArray, List.set_cons_zero, List.set_cons_succ]
  refine' wpAnyD_take (i := 3) (v := _) rfl (by kernel_rfl) (by kernel_rfl) (by kernel_rfl) (by kernel_rfl) (fun _ _ _ h => h) (Or.inl ⟨by rfl, ?hy4⟩) hS ?re4
  case hy4 => (intro w hSw; (try dsimp only at hSw); go_simp; (try with_reducible rfl))
  simp only [Act.put, List.setIfInBounds_toArray, List.set_cons_zero, List.set_cons_succ]
  refine' wpAnyD_take (i := 4) (v := _) rfl (by kernel_rfl) (by kernel_rfl) (by kernel_rfl) (by kernel_rfl) (fun _ _ _ h => h) (Or.inl ⟨by rfl, ?hy5⟩) hS ?re5
  case hy5 => (intro w hSw; (try dsimp only at hSw); go_simp; (try with_reducible rfl))
  simp only [Act.put, List.setIfInBounds_toArray, List.set_cons_zero, List.set_cons_succ]
  refine' wpAnyD_take (i := 5) (v := _) rfl (by kernel_rfl) (by kernel_rfl) (by kernel_rfl) (by kernel_rfl) (fun _ _ _ h => h) (Or.inl ⟨by rfl, ?hy6⟩) hS ?re6
  case hy6 => (intro w hSw; (try dsimp only at hSw); go_simp; (try with_reducible rfl))
  simp only [Act.put, List.setIfInBounds_toArray, List.set_cons_zero, List.set_cons_succ]
  refine wpAnyD_only (i := 6) rfl (by kernel_rfl) (by rfl) (fun K hK => ?_)
  go_simp
  refine (secsOf_any b.length (by omega) _).mono ?_
  rintro e w1 ⟨rfl, hw1⟩
  obtain rfl := hw1.symm
  clear hw1
  try dsimp only
  have hSn := c2
  refine hK.out _ _ (fun _ => hSn) ?_
  clear hK K hS
  have hS := hSn
  clear hSn
  try simp only [Act.put, List.setIfInBounds_toArray, List.set_cons_zero, List.set_cons_succ]
  refine' wpAnyD_take (i := 7) (v := _) rfl (by kernel_rfl) (by kernel_rfl) (by kernel_rfl) (by kernel_rfl) (fun _ _ _ h => h) (Or.inl ⟨by rfl, ?hy7⟩) hS ?re7
  case hy7 => (intro w hSw; (try dsimp only at hSw); go_simp; (try with_reducible rfl))
  simp only [Act.put, List.setIfInBounds_toArray, List.set_cons_zero, List.set_cons_succ]
  refine' wpAnyD_take (i := 8) (v := _) rfl (by kernel_rfl) (by kernel_rfl) (by kernel_rfl) (by kernel_rfl) (fun _ _ _ h => h) (Or.inl ⟨by rfl, ?hy8⟩) hS ?re8
  case hy8 => (intro w hSw; (try dsimp only at hSw); go_simp; (try with_reducible rfl))
  simp only [Act.put, List.setIfInBounds_toArray, List.set_cons_zero, List.set_cons_succ]
  refine wpAnyD_done (by kernel_rfl) ?_ _
  have hD1 := h.drew
  have hW1 := hW.drew
  have hb1 : Below w.heap.size w w.drew := (Below.refl _ w).drew
  have hu1 := hu.later hb1
  have hA1 : AStep w w.drew W R S v v := ⟨rfl, rfl, rfl, Nat.le_refl _, fun _ _ _ _ _ _ => rfl, fun _ h => Or.inl h⟩
  go_wp2_with (go_at_call 34; refine stop ?_)
  refine (len_any w.drew R S v d hD1).mono ?_
  rintro e w1 ⟨rfl, hw1⟩
  obtain rfl := hw1.symm
  clear hw1
  go_wp2
  go_ret
  exact ⟨rfl, hb1⟩
/-- Bytes are not in a log's block. -/
theorem BytesAt.setWal {w : World} {u x : Value} {l : List Nat} (h : BytesAt w u l) {W R cnt fin st : Nat} (hW : Row w W (walV R cnt fin st) 75) (i : Nat) : BytesAt (w.setCell ⟨W, i, none⟩ x) u l := by
  obtain ⟨h1, h2, p, c, e, h⟩ := h
  refine ⟨h1, h2, p, c, e, fun j hj => ?_⟩
  obtain ⟨b, off, e, hb3, hc⟩ := h j hj
  refine ⟨b, off, e, by simpa [World.setCell] using hb3, ?_⟩
  have hne : b ≠ W := by
    rintro rfl
    rw [hW.cell] at hc
    unfold walV at hc
    rcases hq : off + j with _ | _ | _ | _ | q <;> rw [hq] at hc <;> simp at hc
  exact (World.cell?_of_block (a := ⟨b, off + j, none⟩) (heap_setCell_other w ⟨W, i, none⟩ b _ hne)).trans hc
theorem DkAt.setWal {w : World} {R S : Nat} {v x : Value} {d : Dk} (h : DkAt w R S v d) {W R' cnt fin st : Nat} (hW : Row w W (walV R' cnt fin st) 75) (i : Nat) : DkAt (w.setCell ⟨W, i, none⟩ x) R S v d :=
  h.keep (heap_setCell_other w ⟨W, i, none⟩ R _ (h.row.ne hW (by decide))) (heap_setCell_other w ⟨W, i, none⟩ S _ (h.sure.ne hW (by decide))) (fun k hk => heap_setCell_other w ⟨W, i, none⟩ k _ (fun e => ownN_ne h.own hW (by decide) (by rw [hk]; exact congrArg some e)))
theorem AStep.trans {a b c : World} {W R S : Nat} {v v1 v2 : Value} (h : AStep a b W R S v v1) (k : AStep b c W R S v1 v2) : AStep a c W R S v v2 := by
  refine ⟨k.os.trans h.os, k.tape.trans h.tape, k.output.trans h.output, Nat.le_trans h.size k.size, fun i hi h0 h1 h2 h3 => ?_, fun g hg => ?_⟩
  · refine (k.block i (Nat.lt_of_lt_of_le hi h.size) h0 h1 h2 (fun e => ?_)).trans (h.block i hi h0 h1 h2 h3)
    rcases h.moved i e with e | e
    · exact h3 e
    · omega
  · rcases k.moved g hg with e | e
    · exact h.moved g e
    · exact Or.inr (Nat.le_trans h.size e)
theorem AStep.of {w w' : World} {W R S : Nat} {v v' : Value} (h : DStep w w' R S v v') : AStep w w' W R S v v' := ⟨h.os, h.tape, h.output, h.size, fun k hk _ h1 h2 h3 => h.block k hk h1 h2 h3, h.moved⟩
theorem AStep.set {w : World} {W R S : Nat} {v : Value} (i : Nat) (x : Value) : AStep w (w.setCell ⟨W, i, none⟩ x) W R S v v :=
  ⟨rfl, rfl, rfl, by simp [World.setCell], fun k _ hk _ _ _ => heap_setCell_other w ⟨W, i, none⟩ k _ hk, fun _ h => Or.inl h⟩
/-- What Append's loop holds behind k sectors. -/
structure AppR (w wr : World) (W R S : Nat) (v : Value) (d : Dk) (cnt fin ns : Nat) (b : List Nat) (g cap : Nat) (k : Nat) : Prop where
  ex : ∃ vk, DkAt wr R S vk (layN ns (cnt + 1) b d fin k) ∧ AStep w wr W R S v vk ∧ DFar R S vk g
  row : Row wr W (walV R cnt fin ns) 75
  own : Own wr 0 (.slice (some ⟨g, 0, none⟩) (8 + b.length) cap) (body (cnt + 1) b)
def leftV (g n cap k : Nat) : Value := .slice (some ⟨g, 56 * k, none⟩) (n - 56 * k) (cap - 56 * k)
theorem take_min {l : List Nat} {q n : Nat} (h : n ≤ q ∨ q = n) (hl : l.length ≤ q ∨ q = n) : l.take q = l.take n ∨ l.take q = l := by
  rcases hl with hl | rfl
  · exact Or.inr (List.take_of_length_le hl)
  · exact Or.inl rfl
set_option maxHeartbeats 1000000 in
theorem append_any (w : World) (W R S : Nat) (v u : Value) (d : Dk) (cnt fin st : Nat) (b : List Nat) (h : DkAt w R S v d) (hW : Row w W (walV R cnt fin st) 75) (hc : cnt ≤ fin) (hst : st < 4294967296) (hu : BytesAt w u b) (hl : b.length ≤ 4096) (hd : fin + secs b.length ≤ d.n)
    (hws : d.ws.length + 80 ≤ 1000) (hcn : d.cnt + 80 ≤ 1000000) :
    Calls Try.prog 13 #[.pointer (some ⟨W, 0, none⟩), u] w (AppQ w W R S v d cnt fin st b) := by
  obtain ⟨h8, hmx, p, c, rfl, _⟩ := id hu
  have c0 := hW.cell 0
  have c1 := hW.cell 1
  have c2 := hW.cell 2
  have c3 := hW.cell 3
  have f3 := hW.frozen 3
  simp only [walV, List.getElem?_toArray, List.getElem?_cons_zero, List.getElem?_cons_succ] at c0 c1 c2 c3
  have hn2 := h.ok.n2
  have l1 : (b.length : Int) ≤ 4096 := by omega
  have l0 : (0 : Int) ≤ (b.length : Int) := by omega
  have sl := secs_le _ hl
  have sp := secs_pos b.length
  have g2 : (fin : Int) ≤ 4096 := by omega
  have g2' : (0 : Int) ≤ (fin : Int) := by omega
  have g3 : (secs b.length : Int) ≤ 74 := by omega
  have g0 : (1 : Int) ≤ (secs b.length : Int) := by omega
  have cn1 : (cnt : Int) ≤ 4096 := by omega
  have HD : Hid (fin + secs b.length ≤ d.n) := hd
  obtain ⟨bh, hbh⟩ : ∃ bh : Nat, bh = fin + secs b.length := ⟨_, rfl⟩
  have HB : Hid (bh = fin + secs b.length) := hbh
  have g1 : (fin : Int) + (secs b.length : Int) = (bh : Int) := by omega
  have g4 : decide ((d.n : Int) < (bh : Int)) = false := by simp; omega
  have g4n : decide (d.n < bh) = false := by simp; omega
  have g4m : ¬ d.n < bh := by omega
  have g4i : ¬ (d.n : Int) < (bh : Int) := by omega
  have g5 : (bh : Int) ≤ 4096 := by omega
  have HST : Hid (st < 4294967296) := hst
  have HSL : Hid (secs b.length ≤ 74) := sl
  have HWS : Hid (d.ws.length + 80 ≤ 1000) := hws
  have HCN : Hid (d.cnt + 80 ≤ 1000000) := hcn
  have HL : Hid (b.length ≤ 4096) := hl
  have HC : Hid (cnt ≤ fin) := hc
  have HN2 : Hid (d.n ≤ 4096) := hn2
  clear hd hbh hst hmx hws hcn hl hc hn2 sl sp
  go_enter Try.func13, Try.ntmps13
  go_wp2_with fail
  refine wp_region_D (fun _ => true) (fun w' => w'.cell? ⟨W, 2, none⟩ = some (.int .i64 (fin : Nat))) (by kernel_rfl) ?_
  have hS : (fun w' : World => w'.cell? ⟨W, 2, none⟩ = some (.int .i64 (fin : Nat))) w.drew := c2
  refine' wpAnyD_take (i := 0) (v := _) rfl (by kernel_rfl) (by kernel_rfl) (by kernel_rfl) (by kernel_rfl) (fun _ _ _ h => h) (Or.inl ⟨by rfl, ?hy9⟩) hS ?re9
  case hy9 => (intro w hSw; (try dsimp only at hSw); go_simp; (try with_reducible rfl))
  simp only [Act.put, List.setIfInBounds_toArray, List.set_cons_zero, List.set_cons_succ]
  refine' wpAnyD_take (i := 1) (v := _) rfl (by kernel_rfl) (by kernel_rfl) (by kernel_rfl) (by kernel_rfl) (fun _ _ _ h => h) (Or.inl ⟨by rfl, ?hy10⟩) hS ?re10
  case hy10 => (intro w hSw; (try dsimp only at hSw); go_simp; (try with_reducible rfl))
  simp only [Act.put, List.setIfInBounds_toArray, List.set_cons_zero, List.set_cons_succ]
  refine' wpAnyD_take (i := 2) (v := _) rfl (by kernel_rfl) (by kernel_rfl) (by kernel_rfl) (by kernel_rfl) (fun _ _ _ h => h) (Or.inl ⟨by rfl, ?hy11⟩) hS ?re11
  case hy11 => (intro w hSw; (try dsimp only at hSw); go_simp; (try with_reducible rfl))
  simp only [Act.put, List.setIfInBounds_toArray, List.set_cons_zero, List.set_cons_succ]
  refine' wpAnyD_take (i := 3) (v := _) rfl (by kernel_rfl) (by kernel_rfl) (by kernel_rfl) (by kernel_rfl) (fun _ _ _ h => h) (Or.inl ⟨by rfl, ?hy12⟩) hS ?re12
  case hy12 => (intro w hSw; (try dsimp only at hSw); go_simp; (try with_reducible rfl))
  simp only [Act.put, List.setIfInBounds_toArray, List.set_cons_zero, List.set_cons_succ]
  refine' wpAnyD_take (i := 4) (v := _) rfl (by kernel_rfl) (by kernel_rfl) (by kernel_rfl) (by kernel_rfl) (fun _ _ _ h => h) (Or.inl ⟨by rfl, ?hy13⟩) hS ?re13
  case hy13 => (intro w hSw; (try dsimp only at hSw); go_simp; (try with_reducible rfl))
  simp only [Act.put, List.setIfInBounds_toArray, List.set_cons_zero, List.set_cons_succ]
  refine' wpAnyD_take (i := 5) (v := _) rfl (by kernel_rfl) (by kernel_rfl) (by kernel_rfl) (by kernel_rfl) (fun _ _ _ h => h) (Or.inl ⟨by rfl, ?hy14⟩) hS ?re14
  case hy14 => (intro w hSw; (try dsimp only at hSw); go_simp; (try with_reducible rfl))
  simp only [Act.put, List.setIfInBounds_toArray, List.set_cons_zero, List.set_cons_succ]
  refine wpAnyD_only (i := 6) rfl (by kernel_rfl) (by rfl) (fun K hK => ?_)
  go_simp
  refine (secsOf_any b.length (by omega) _).mono ?_
  rintro e w1 ⟨rfl, hw1⟩
  obtain rfl := hw1.symm
  clear hw1
  try dsimp only
  have hSn := c2
  refine hK.out _ _ (fun _ => hSn) ?_
  clear hK K hS
  have hS := hSn
  clear hSn
  try simp only [Act.put, List.setIfInBounds_toArray, List.set_cons_zero, List.set_cons_succ]
  refine' wpAnyD_take (i := 7) (v := _) rfl (by kernel_rfl) (by kernel_rfl) (by kernel_rfl) (by kernel_rfl) (fun _ _ _ h => h) (Or.inl ⟨by rfl, ?hy15⟩) hS ?re15
  case hy15 => (intro w hSw; (try dsimp only at hSw); go_simp; (try with_reducible rfl))
  simp only [Act.put, List.setIfInBounds_toArray, List.set_cons_zero, List.set_cons_succ]
  refine' wpAnyD_take (i := 8) (v := _) rfl (by kernel_rfl) (by kernel_rfl) (by kernel_rfl) (by kernel_rfl) (fun _ _ _ h => h) (Or.inl ⟨by rfl, ?hy16⟩) hS ?re16
  case hy16 => (intro w hSw; (try dsimp only at hSw); go_simp; (try with_reducible rfl))
  simp only [Act.put, List.setIfInBounds_toArray, List.set_cons_zero, List.set_cons_succ]
  refine wpAnyD_done (by kernel_rfl) ?_ _
  have hD1 := h.drew
  have hW1 := hW.drew
  have hb1 : Below w.heap.size w w.drew := (Below.refl _ w).drew
  have hu1 := hu.later hb1
  have hA1 : AStep w w.drew W R S v v := ⟨rfl, rfl, rfl, Nat.le_refl _, fun _ _ _ _ _ _ => rfl, fun _ h => Or.inl h⟩
  have hwb : IntKind.i64.wrap (bh : Int) = (bh : Int) := by rw [IntKind.wrap_i64]; omega
  try rw [hwb]
  clear hwb
  go_wp2_with (go_at_call 34; refine stop ?_)
  refine (len_any w.drew R S v d hD1).mono ?_
  rintro e w1 ⟨rfl, hw1⟩
  obtain rfl := hw1.symm
  clear hw1
  have c0 := hW1.cell 0
  have c1 := hW1.cell 1
  have c2 := hW1.cell 2
  have c3 := hW1.cell 3
  have f3 := hW1.frozen 3
  simp only [walV, List.getElem?_toArray, List.getElem?_cons_zero, List.getElem?_cons_succ] at c0 c1 c2 c3
  generalize w.drew = wd at *
  clear hS
  go_wp2_with (go_at_call 35; refine stop ?_)
  refine (nextStamp_all st HST.out wd).mono ?_
  rintro e w1 ⟨rfl, hw1⟩
  obtain rfl := hw1.symm
  clear hw1
  obtain ⟨ns, hns⟩ : ∃ ns, ns = nextS st := ⟨_, rfl⟩
  have HNE : Hid (nextS st = ns) := hns.symm
  have HNS : Hid (ns < 4294967296) := by rw [hns]; exact nextS_lt st
  rw [← hns]
  clear hns
  have hDs := hD1.setWal hW1 3 (x := .int .i64 (ns : Nat))
  have hus := hu1.setWal hW1 3 (x := .int .i64 (ns : Nat))
  have hWs : Row (wd.setCell ⟨W, 3, none⟩ (.int .i64 (ns : Nat))) W (walV R cnt fin ns) 75 := hW1.set 3 _
  have hAs := hA1.trans (AStep.set (W := W) (R := R) (S := S) (v := v) 3 (.int .i64 (ns : Nat)))
  have hszS : (wd.setCell ⟨W, 3, none⟩ (.int .i64 (ns : Nat))).heap.size = wd.heap.size := by simp [World.setCell]
  have hWn := hWs.alloc (.cells #[.slice none 0 0] 53)
  have c1n := hWn.cell 1
  simp only [walV, List.getElem?_toArray, List.getElem?_cons_zero, List.getElem?_cons_succ] at c1n
  clear hA1 hW1 hD1 hu1 hb1 hW h hu
  go_wp2_with (go_at_call 24; refine stop ?_)
  clear c0 c1 c2 c3 f3
  generalize wd.setCell ⟨W, 3, none⟩ (.int .i64 (ns : Nat)) = wS at *
  rw [← hszS]
  clear hszS
  have wt0 : WrAt (wS.alloc (.cells #[.slice none 0 0] 53)) wS.heap.size (.slice none 0 0) [] := ⟨Row.new wS _ _ rfl, World.ownsRow_nil _ _ _ _, fun x hx => by cases hx⟩
  have hb0 := below1 wS (.cells #[.slice none 0 0] 53)
  have hs0 : (wS.alloc (.cells #[.slice none 0 0] 53)).heap.size = wS.heap.size + 1 := by simp
  have hio := ints2 wt0 ((cnt : Int) + 1) (b.length : Int)
  have wt1 := wt0.later (below1 _ (.cells #[.int .i64 ((cnt : Int) + 1), .int .i64 (b.length : Int)] 3))
  rw [hs0] at hio
  refine (wint_any 4 (by decide) _ [(cnt : Int) + 1, (b.length : Int)] _ wS.heap.size _ _ wt1 hio (by simp)).mono ?_
  rintro e w2 ⟨v2, rfl, wt2, ws2⟩
  have hv0 : ∀ k, (Value.slice none 0 0).ownBlock = some k → wS.heap.size ≤ k := fun k hk => by cases hk
  obtain ⟨hB2, hV2⟩ := ws2.new (w := wS) (hb0.trans ((below1 _ (.cells #[.int .i64 ((cnt : Int) + 1), .int .i64 (b.length : Int)] 3)).mono hb0.size)) (Nat.le_refl _) hv0
  have hl2 : [] ++ [(cnt : Int) + 1, (b.length : Int)].flatMap (intB 4) = enc 4 (cnt + 1) ++ enc 4 b.length := by
    simp only [List.nil_append, List.flatMap_cons, List.flatMap_nil, List.append_nil]
    rw [show (cnt : Int) + 1 = ((cnt + 1 : Nat) : Int) by omega, intB4 (by omega), intB4 (by omega)]
  rw [hl2] at wt2
  have HLS2 : Hid ((enc 4 (cnt + 1) ++ enc 4 b.length).length + [b].flatten.length ≤ 1048576) := by
    show _ ≤ _
    have := HL.out
    simp only [List.length_append, enc_len, List.flatten_cons, List.flatten_nil, List.append_nil]
    omega
  clear wt0 wt1 hb0 hs0 hio ws2 hl2 hWn c1n
  go_wp2_with (go_at_call 25; refine stop ?_)
  have hou : BytesOff w2 (Far wS.heap.size v2) (.slice p b.length c) b := hus.off hB2 _ (fun k hk => ⟨by omega, fun e => by have := hV2 k e; omega⟩)
  have hpo := one_part wt2 hou
  have wt3 := wt2.later (below1 _ (.cells #[.slice p b.length c] 31))
  have hB3 := hB2.trans ((below1 _ (.cells #[.slice p b.length c] 31)).mono hB2.size)
  refine (raw_any _ [b] _ wS.heap.size v2 _ wt3 hpo HLS2.out).mono ?_
  rintro e w4 ⟨v4, rfl, wt4, ws4⟩
  obtain ⟨hB4, hV4⟩ := ws4.new hB3 (Nat.le_refl _) hV2
  have hl4 : enc 4 (cnt + 1) ++ enc 4 b.length ++ [b].flatten = body (cnt + 1) b := by simp [body]
  rw [hl4] at wt4
  clear hl4 hpo hou wt3 hB3 hB2 ws4 wt2
  go_wp2_with (go_at_call 26; refine stop ?_)
  refine (wbytes_any w4 wS.heap.size v4 _ wt4 (by rw [body_len]; omega)).mono ?_
  rintro e w5 ⟨v5, rfl, ho5, hb5⟩
  have hO := ho5.base hB4.size
  have hB5 := hB4.trans (hb5.mono hB4.size)
  have hb8 : W8 (body (cnt + 1) b) := (enc_w8 _ _).append ((enc_w8 _ _).append h8)
  have hbl := body_len (cnt + 1) b
  obtain ⟨g, cap, hv5, hcap, hcm, hg, hpc⟩ := hO.piece hb8 (by omega) (by omega)
  subst hv5
  rw [hbl] at hcap
  have HCM := (show Hid _ from hcm)
  clear hcm
  have hD5 := hDs.later hB5
  have hW5 := hWs.later hB5
  have hA5 := hAs.trans (AStep.of (DStep.of hB5 R S v))
  have hgB : wS.heap.size ≤ g := (hO.lt g rfl).1
  have hgf : DFar R S v g := hDs.far hgB
  have hgW : g ≠ W := by have := hWs.lt; omega
  clear ho5 hb5 wt4 hB4 hV4 hV2 hv0 hus hDs hWs hAs hpc hB5
  rw [hbl] at hO ⊢
  have c2 := hW5.cell 2
  simp only [walV, List.getElem?_toArray, List.getElem?_cons_zero, List.getElem?_cons_succ] at c2
  have hO0 := hO.base (Nat.zero_le _)
  have hR0 : AppR w w5 W R S v d cnt fin ns b g cap 0 := ⟨⟨v, hD5, hA5, hgf⟩, hW5, hO0⟩
  clear hO hO0 hgf hA5 hD5 hW5
  have c2x := c2
  go_wp2
  clear c0 c1 c2 c3 f3 c2x
  go_loopw [7, 6] (fun i s wr => ∃ k : Nat, k ≤ secs b.length ∧ i = .int .i64 (fin + k : Nat) ∧ (k < secs b.length → s = leftV g (8 + b.length) cap k) ∧ AppR w wr W R S v d cnt fin ns b g cap k) (fun i _ _ => bh - (intOf i).toNat)
  case atStart => exact ⟨0, Nat.zero_le _, rfl, fun _ => rfl, hR0⟩
  case round =>
    clear hR0
    obtain ⟨k, hk, rfl, hs, ⟨vk, hD, hA, hgk⟩, hW, hO⟩ := hrel
    by_cases hlt : k < secs b.length
    · obtain rfl := hs hlt
      clear hs
      obtain ⟨o, ho⟩ : ∃ o, o = 56 * k := ⟨_, rfl⟩
      obtain ⟨r, hr⟩ : ∃ r, r = 8 + b.length - o := ⟨_, rfl⟩
      obtain ⟨cp, hcp⟩ : ∃ cp, cp = cap - o := ⟨_, rfl⟩
      obtain ⟨q, hq⟩ : ∃ q, q = min 56 r := ⟨_, rfl⟩
      have hro : 1 ≤ r ∧ r + o = 8 + b.length ∧ (k + 1 < secs b.length → 56 < r) := by unfold secs at hlt ⊢; omega
      have hcpo : r ≤ cp ∧ cp + o = cap := by omega
      have hpc := (hO.piece hb8 (by rw [hbl]; have := HL.out; omega) (by omega))
      obtain ⟨g', cap', hv', _, _, hgl, hpc⟩ := hpc
      injection hv' with e1 e2 e3
      injection e1 with e1
      injection e1 with e1
      subst e1
      clear e2 e3
      have hx : BytesAt wr (.slice (some ⟨g, o, none⟩) q cp) (((body (cnt + 1) b).drop o).take 56) := by
        have := hpc o q cp (by omega)
        have hdl : ((body (cnt + 1) b).drop o).length = r := by rw [List.length_drop, hbl]; omega
        have e56 : ((body (cnt + 1) b).drop o).take q = ((body (cnt + 1) b).drop o).take 56 := by
          rcases Nat.lt_or_ge r 56 with h | h
          · rw [List.take_of_length_le (by omega), List.take_of_length_le (by omega)]
          · rw [show q = 56 by omega]
        rwa [e56] at this
      have hlv : leftV g (8 + b.length) cap k = .slice (some ⟨g, o, none⟩) r cp := by unfold leftV; rw [← ho, ← hr, ← hcp]
      rw [hlv]
      clear hlv hpc
      have HF : Hid (k < secs b.length) := hlt
      have at1 : ((fin + k : Nat) : Int) < (bh : Int) := by have := HB.out; omega
      have at0 : (0 : Int) ≤ ((fin + k : Nat) : Int) := by omega
      have HRO := (show Hid _ from hro)
      have HCO := (show Hid _ from hcpo)
      have HO := (show Hid _ from ho)
      have HK := (show Hid _ from hk)
      have r3 : (r : Int) ≤ 4104 := by have := HL.out; omega
      have r4 : (1 : Int) ≤ (r : Int) := by omega
      have cp3 : (r : Int) ≤ (cp : Int) := by omega
      have cp4 : (cp : Int) ≤ 9223372036854775807 := by have := HCM.out; unfold maxLen at this; omega
      have d0 := hW.cell 0
      have d3 := hW.cell 3
      simp only [walV, List.getElem?_toArray, List.getElem?_cons_zero, List.getElem?_cons_succ] at d0 d3
      have hat : fin + k < d.n := by have := HD.out; omega
      have HAT := (show Hid _ from hat)
      clear hro hcpo hr hcp ho hlt hk hcap hat
      generalize hfk : fin + k = fk at *
      have HFK := (show Hid _ from hfk)
      clear hfk
      by_cases c56 : 56 < r
      · obtain rfl : q = 56 := by omega
        have x1 : (56 : Int) < (r : Int) := by omega
        have x2 : (56 : Int) ≤ (r : Int) := by omega
        have x3 : (56 : Int) ≤ (cp : Int) := by omega
        have x4 : 56 ≤ cp := by omega
        have x5 : ¬ cp = 56 := by omega
        have x6 : 56 ≤ r := by omega
        have x7 : r ≤ cp := by omega
        have x8 : ¬ (r : Int) < 56 := by omega
        clear hq
        go_wp2_with fail
        have m1 : (min (56 : Int) (r : Int)).toNat = 56 := by omega
        have m2 : (max (min (56 : Int) (r : Int)) 0).toNat = 56 := by omega
        simp only [m1, m2]
        have hs6 : k + 1 < secs b.length → Value.slice (some ⟨g, o + 56, none⟩) (r - 56) (cp - 56) = leftV g (8 + b.length) cap (k + 1) := fun _ => by
          unfold leftV
          have := HO.out; have := HRO.out; have := HCO.out
          rw [show 56 * (k + 1) = o + 56 by omega, show 8 + b.length - (o + 56) = r - 56 by omega, show cap - (o + 56) = cp - 56 by omega]
        clear m1 m2 x1 x2 x3 x4 x5 x6 x7 x8 c56
        generalize Value.slice (some ⟨g, o + 56, none⟩) (r - 56) (cp - 56) = s6 at *
        refine wp_region_D (fun _ => true) (fun w' : World => w'.cell? ⟨W, 0, none⟩ = some (.pointer (some ⟨R, 0, none⟩)) ∧ w'.cell? ⟨W, 3, none⟩ = some (.int .i64 (ns : Nat))) (by kernel_rfl) ?_
        have hS : (fun w' : World => w'.cell? ⟨W, 0, none⟩ = some (.pointer (some ⟨R, 0, none⟩)) ∧ w'.cell? ⟨W, 3, none⟩ = some (.int .i64 (ns : Nat))) wr.drew := ⟨d0, d3⟩
        have hDr := hD.drew
        have hWr := hW.drew
        have hbr : Below wr.heap.size wr wr.drew := (Below.refl _ wr).drew
        have hxr := hx.later hbr
        have hOr : Own wr.drew 0 (.slice (some ⟨g, 0, none⟩) (8 + b.length) cap) (body (cnt + 1) b) := ownsRow_later hO hbr
        have hAr := hA.trans (AStep.of (W := W) (DStep.of hbr R S vk))
        have hgr : g < wr.drew.heap.size := hgl
        clear hD hW hbr hx hO hA hgl d0 d3
        generalize wr.drew = wx at *
        refine' wpAnyD_take (i := 0) (v := _) rfl (by kernel_rfl) (by kernel_rfl) (by kernel_rfl) (by kernel_rfl) (fun _ _ _ h => h) (Or.inl ⟨by rfl, ?hy17⟩) hS ?re17
        case hy17 => (intro w hSw; (try dsimp only at hSw); go_simp; (try with_reducible rfl))
        simp only [Act.put, List.setIfInBounds_toArray, List.set_cons_zero, List.set_cons_succ]
        refine' wpAnyD_take (i := 1) (v := _) rfl (by kernel_rfl) (by kernel_rfl) (by kernel_rfl) (by kernel_rfl) (fun _ _ _ h => h) (Or.inl ⟨by rfl, ?hy18⟩) hS ?re18
        case hy18 => (intro w hSw; (try dsimp only at hSw); go_simp; (try with_reducible rfl))
        simp only [Act.put, List.setIfInBounds_toArray, List.set_cons_zero, List.set_cons_succ]
        refine' wpAnyD_take (i := 2) (v := _) rfl (by kernel_rfl) (by kernel_rfl) (by kernel_rfl) (by kernel_rfl) (fun _ _ _ h => h) (Or.inl ⟨by rfl, ?hy19⟩) hS ?re19
        case hy19 => (intro w hSw; (try dsimp only at hSw); go_simp; (try with_reducible rfl))
        simp only [Act.put, List.setIfInBounds_toArray, List.set_cons_zero, List.set_cons_succ]
        refine' wpAnyD_take (i := 3) (v := _) rfl (by kernel_rfl) (by kernel_rfl) (by kernel_rfl) (by kernel_rfl) (fun _ _ _ h => h) (Or.inl ⟨by rfl, ?hy20⟩) hS ?re20
        case hy20 => (intro w hSw; (try dsimp only at hSw); go_simp; (try with_reducible rfl))
        simp only [Act.put, List.setIfInBounds_toArray, List.set_cons_zero, List.set_cons_succ]
        refine' wpAnyD_take (i := 4) (v := _) rfl (by kernel_rfl) (by kernel_rfl) (by kernel_rfl) (by kernel_rfl) (fun _ _ _ h => h) (Or.inl ⟨by rfl, ?hy21⟩) hS ?re21
        case hy21 => (intro w hSw; (try dsimp only at hSw); go_simp; (try with_reducible rfl))
        simp only [Act.put, List.setIfInBounds_toArray, List.set_cons_zero, List.set_cons_succ]
        refine' wpAnyD_take (i := 5) (v := _) rfl (by kernel_rfl) (by kernel_rfl) (by kernel_rfl) (by kernel_rfl) (fun _ _ _ h => h) (Or.inl ⟨by rfl, ?hy22⟩) hS ?re22
        case hy22 => (intro w hSw; (try dsimp only at hSw); go_simp; (try with_reducible rfl))
        simp only [Act.put, List.setIfInBounds_toArray, List.set_cons_zero, List.set_cons_succ]
        refine' wpAnyD_take (i := 6) (v := _) rfl (by kernel_rfl) (by kernel_rfl) (by kernel_rfl) (by kernel_rfl) (fun _ _ _ h => h) (Or.inl ⟨by rfl, ?hy23⟩) hS ?re23
        case hy23 => (intro w hSw; (try dsimp only at hSw); go_simp; (try with_reducible rfl))
        simp only [Act.put, List.setIfInBounds_toArray, List.set_cons_zero, List.set_cons_succ]
        refine' wpAnyD_take (i := 7) (v := _) rfl (by kernel_rfl) (by kernel_rfl) (by kernel_rfl) (by kernel_rfl) (fun _ _ _ h => h) (Or.inl ⟨by rfl, ?hy24⟩) hS ?re24
        case hy24 => (intro w hSw; (try dsimp only at hSw); go_simp; (try with_reducible rfl))
        simp only [Act.put, List.setIfInBounds_toArray, List.set_cons_zero, List.set_cons_succ]
        refine' wpAnyD_take (i := 8) (v := _) rfl (by kernel_rfl) (by kernel_rfl) (by kernel_rfl) (by kernel_rfl) (fun _ _ _ h => h) (Or.inl ⟨by rfl, ?hy25⟩) hS ?re25
        case hy25 => (intro w hSw; (try dsimp only at hSw); go_simp; (try with_reducible rfl))
        simp only [Act.put, List.setIfInBounds_toArray, List.set_cons_zero, List.set_cons_succ]
        refine' wpAnyD_take (i := 9) (v := _) rfl (by kernel_rfl) (by kernel_rfl) (by kernel_rfl) (by kernel_rfl) (fun _ _ _ h => h) (Or.inl ⟨by rfl, ?hy26⟩) hS ?re26
        case hy26 => (intro w hSw; (try dsimp only at hSw); go_simp; (try with_reducible rfl))
        simp only [Act.put, List.setIfInBounds_toArray, List.set_cons_zero, List.set_cons_succ]
        refine wpAnyD_only (i := 10) rfl (by kernel_rfl) (by rfl) (fun K hK => ?_)
        go_simp
        refine (sealed_any ns HNS.out _ _ wx hxr (by rw [List.length_take]; omega)).mono ?_
        rintro e w6 ⟨v6, rfl, ho6, hb6⟩
        have hD6 := hDr.later hb6
        have hW6 := hWr.later hb6
        have hO6 : Own w6 0 (.slice (some ⟨g, 0, none⟩) (8 + b.length) cap) (body (cnt + 1) b) := ownsRow_later hOr hb6
        have hA6 := hAr.trans (AStep.of (W := W) (DStep.of hb6 R S vk))
        have hg6 : g < w6.heap.size := Nat.lt_of_lt_of_le hgr hb6.size
        have hls : (sealL ns (((body (cnt + 1) b).drop o).take 56)).length = 64 := sealL_len (by rw [List.length_take]; omega)
        have h8s : W8 (sealL ns (((body (cnt + 1) b).drop o).take 56)) := ((enc_w8 _ _).append (((hb8.drop o).take 56).append (zs_w8 _))).append (enc_w8 _ _)
        have hx6 := ho6.bytes h8s (by rw [hls]; decide)
        have hrk : sealL ns (((body (cnt + 1) b).drop o).take 56) = recK ns (cnt + 1) b k := by unfold recK; rw [HO.out]
        rw [hrk] at hx6 hls
        obtain ⟨p6, n6, c6, rfl, hn6⟩ := ho6.form
        clear hn6 ho6 h8s hrk hxr hOr hAr hgr hDr hWr
        have e0 := hW6.cell 0
        have e3 := hW6.cell 3
        simp only [walV, List.getElem?_toArray, List.getElem?_cons_zero, List.getElem?_cons_succ] at e0 e3
        try dsimp only
        have hSn := (⟨e0, e3⟩ : (fun w' : World => w'.cell? ⟨W, 0, none⟩ = some (.pointer (some ⟨R, 0, none⟩)) ∧ w'.cell? ⟨W, 3, none⟩ = some (.int .i64 (ns : Nat))) w6)
        refine hK.out _ _ (fun _ => hSn) ?_
        clear hK K hS
        have hS := hSn
        clear hSn
        try simp only [Act.put, List.setIfInBounds_toArray, List.set_cons_zero, List.set_cons_succ]
        clear e0 e3 hb6
        refine wpAnyD_only (i := 11) rfl (by kernel_rfl) (by rfl) (fun K hK => ?_)
        go_simp
        have hWf : W ≠ R ∧ W ≠ S ∧ vk.ownBlock ≠ some W := ⟨hW6.ne hD6.row (by decide), hW6.ne hD6.sure (by decide), ownN_ne hD6.own hW6 (by decide)⟩
        have hwk := layN_ws ns (cnt + 1) b d fin k
        have hck := layN_cnt ns (cnt + 1) b d fin k
        have hnk : fk < (layN ns (cnt + 1) b d fin k).n := by rw [layN_n]; exact HAT.out
        cases hdn : (layN ns (cnt + 1) b d fin k).down with
        | true =>
          refine (write_down fk _ _ w6 R S vk _ hD6 hx6 hnk (by rw [hls]; decide) hdn).mono ?_
          rintro e w7 ⟨rfl, hw7⟩
          obtain rfl := hw7.symm
          clear hw7
          try dsimp only
          have hSn := hS
          refine hK.out _ _ (fun _ => hSn) ?_
          clear hK K hS
          have hS := hSn
          clear hSn
          try simp only [Act.put, List.setIfInBounds_toArray, List.set_cons_zero, List.set_cons_succ]
          refine' wpAnyD_take (i := 12) (v := _) rfl (by kernel_rfl) (by kernel_rfl) (by kernel_rfl) (by kernel_rfl) (fun _ _ _ h => h) (Or.inl ⟨by rfl, ?hy27⟩) hS ?re27
          case hy27 => (intro w hSw; (try dsimp only at hSw); go_simp; (try with_reducible rfl))
          simp only [Act.put, List.setIfInBounds_toArray, List.set_cons_zero, List.set_cons_succ]
          refine wpAnyD_done (by kernel_rfl) ?_ _
          have HQ : AppQ w W R S v d cnt fin st b (.returned (.int .i64 4)) w6 := by
            refine ⟨vk, _, hD6, hA6, Or.inr ⟨rfl, hdn, ⟨k, HK.out, ?_⟩, ?_⟩⟩
            · rw [HNE.out]
            · rw [HNE.out]; exact hW6
          clear hD6 hA6 hO6 hx6 hW6 hwk hck hnk hdn hS
          go_wp2
          go_ret
          exact HQ
        | false =>
          refine (write_any fk _ _ w6 R S vk _ hD6 hx6 hnk (by rw [hls]; decide) hdn (by have := HWS.out; have := HSL.out; have := HF.out; omega) (by have := HCN.out; have := HSL.out; have := HF.out; omega)).mono ?_
          rintro e w7 ⟨v7, rfl, hD7, hs7⟩
          have hW7 : Row w7 W (walV R cnt fin ns) 75 := (hs7.block W hW6.lt hWf.1 hWf.2.1 hWf.2.2).trans hW6
          have hO7 : Own w7 0 (.slice (some ⟨g, 0, none⟩) (8 + b.length) cap) (body (cnt + 1) b) := ownsRow_keep hO6 fun j _ _ e => by
            have e : some g = some j := e
            injection e with e
            subst e
            exact hs7.far hgk hg6
          have hA7 := hA6.trans (AStep.of (W := W) hs7)
          have hg7 := hs7.farOn hgk hg6
          have HR : AppR w w7 W R S v d cnt fin ns b g cap (k + 1) := ⟨⟨v7, by have := HFK.out; subst this; exact hD7, hA7, hg7⟩, hW7, hO7⟩
          have e0 := hW7.cell 0
          have e3 := hW7.cell 3
          simp only [walV, List.getElem?_toArray, List.getElem?_cons_zero, List.getElem?_cons_succ] at e0 e3
          try dsimp only
          have hSn := (⟨e0, e3⟩ : (fun w' : World => w'.cell? ⟨W, 0, none⟩ = some (.pointer (some ⟨R, 0, none⟩)) ∧ w'.cell? ⟨W, 3, none⟩ = some (.int .i64 (ns : Nat))) w7)
          refine hK.out _ _ (fun _ => hSn) ?_
          clear hK K hS
          have hS := hSn
          clear hSn
          try simp only [Act.put, List.setIfInBounds_toArray, List.set_cons_zero, List.set_cons_succ]
          clear e0 e3 hD6 hA6 hO6 hx6 hW6 hwk hck hnk hdn hW7 hO7 hA7 hg7 hs7 hD7
          refine' wpAnyD_take (i := 12) (v := _) rfl (by kernel_rfl) (by kernel_rfl) (by kernel_rfl) (by kernel_rfl) (fun _ _ _ h => h) (Or.inl ⟨by rfl, ?hy28⟩) hS ?re28
          case hy28 => (intro w hSw; (try dsimp only at hSw); go_simp; (try with_reducible rfl))
          simp only [Act.put, List.setIfInBounds_toArray, List.set_cons_zero, List.set_cons_succ]
          refine wpAnyD_done (by kernel_rfl) ?_ _
          clear hS
          go_wp2
          go_roundw
          case rel => exact ⟨k + 1, HF.out, by rw [show fin + (k + 1) = fk + 1 by have := HFK.out; omega]; go_num, hs6, HR⟩
          case measure => simp [intOf]; omega
      · have hkl : ¬ k + 1 < secs b.length := fun h => c56 (HRO.out.2.2 h)
        obtain rfl : q = r := by omega
        have x1 : (q : Int) ≤ 56 := by omega
        have x7 : q ≤ cp := by omega
        by_cases c0 : cp = q
        · obtain rfl := c0
          clear hq
          go_wp2_with fail
          have m1 : (min (56 : Int) (cp : Int)).toNat = cp := by omega
          have m2 : (max (min (56 : Int) (cp : Int)) 0).toNat = cp := by omega
          simp only [m1, m2]
          have hs6 : k + 1 < secs b.length → Value.slice (some ⟨g, o, none⟩) (cp - cp) (cp - cp) = leftV g (8 + b.length) cap (k + 1) := fun h => absurd h hkl
          clear m1 m2 x1 x7 c56
          generalize Value.slice (some ⟨g, o, none⟩) (cp - cp) (cp - cp) = s6 at *
          refine wp_region_D (fun _ => true) (fun w' : World => w'.cell? ⟨W, 0, none⟩ = some (.pointer (some ⟨R, 0, none⟩)) ∧ w'.cell? ⟨W, 3, none⟩ = some (.int .i64 (ns : Nat))) (by kernel_rfl) ?_
          have hS : (fun w' : World => w'.cell? ⟨W, 0, none⟩ = some (.pointer (some ⟨R, 0, none⟩)) ∧ w'.cell? ⟨W, 3, none⟩ = some (.int .i64 (ns : Nat))) wr.drew := ⟨d0, d3⟩
          have hDr := hD.drew
          have hWr := hW.drew
          have hbr : Below wr.heap.size wr wr.drew := (Below.refl _ wr).drew
          have hxr := hx.later hbr
          have hOr : Own wr.drew 0 (.slice (some ⟨g, 0, none⟩) (8 + b.length) cap) (body (cnt + 1) b) := ownsRow_later hO hbr
          have hAr := hA.trans (AStep.of (W := W) (DStep.of hbr R S vk))
          have hgr : g < wr.drew.heap.size := hgl
          clear hD hW hbr hx hO hA hgl d0 d3
          generalize wr.drew = wx at *
          refine' wpAnyD_take (i := 0) (v := _) rfl (by kernel_rfl) (by kernel_rfl) (by kernel_rfl) (by kernel_rfl) (fun _ _ _ h => h) (Or.inl ⟨by rfl, ?hy29⟩) hS ?re29
          case hy29 => (intro w hSw; (try dsimp only at hSw); go_simp; (try with_reducible rfl))
          simp only [Act.put, List.setIfInBounds_toArray, List.set_cons_zero, List.set_cons_succ]
          refine' wpAnyD_take (i := 1) (v := _) rfl (by kernel_rfl) (by kernel_rfl) (by kernel_rfl) (by kernel_rfl) (fun _ _ _ h => h) (Or.inl ⟨by rfl, ?hy30⟩) hS ?re30
          case hy30 => (intro w hSw; (try dsimp only at hSw); go_simp; (try with_reducible rfl))
          simp only [Act.put, List.setIfInBounds_toArray, List.set_cons_zero, List.set_cons_succ]
          refine' wpAnyD_take (i := 2) (v := _) rfl (by kernel_rfl) (by kernel_rfl) (by kernel_rfl) (by kernel_rfl) (fun _ _ _ h => h) (Or.inl ⟨by rfl, ?hy31⟩) hS ?re31
          case hy31 => (intro w hSw; (try dsimp only at hSw); go_simp; (try with_reducible rfl))
          simp only [Act.put, List.setIfInBounds_toArray, List.set_cons_zero, List.set_cons_succ]
          refine' wpAnyD_take (i := 3) (v := _) rfl (by kernel_rfl) (by kernel_rfl) (by kernel_rfl) (by kernel_rfl) (fun _ _ _ h => h) (Or.inl ⟨by rfl, ?hy32⟩) hS ?re32
          case hy32 => (intro w hSw; (try dsimp only at hSw); go_simp; (try with_reducible rfl))
          simp only [Act.put, List.setIfInBounds_toArray, List.set_cons_zero, List.set_cons_succ]
          refine' wpAnyD_take (i := 4) (v := _) rfl (by kernel_rfl) (by kernel_rfl) (by kernel_rfl) (by kernel_rfl) (fun _ _ _ h => h) (Or.inl ⟨by rfl, ?hy33⟩) hS ?re33
          case hy33 => (intro w hSw; (try dsimp only at hSw); go_simp; (try with_reducible rfl))
          simp only [Act.put, List.setIfInBounds_toArray, List.set_cons_zero, List.set_cons_succ]
          refine' wpAnyD_take (i := 5) (v := _) rfl (by kernel_rfl) (by kernel_rfl) (by kernel_rfl) (by kernel_rfl) (fun _ _ _ h => h) (Or.inl ⟨by rfl, ?hy34⟩) hS ?re34
          case hy34 => (intro w hSw; (try dsimp only at hSw); go_simp; (try with_reducible rfl))
          simp only [Act.put, List.setIfInBounds_toArray, List.set_cons_zero, List.set_cons_succ]
          refine' wpAnyD_take (i := 6) (v := _) rfl (by kernel_rfl) (by kernel_rfl) (by kernel_rfl) (by kernel_rfl) (fun _ _ _ h => h) (Or.inl ⟨by rfl, ?hy35⟩) hS ?re35
          case hy35 => (intro w hSw; (try dsimp only at hSw); go_simp; (try with_reducible rfl))
          simp only [Act.put, List.setIfInBounds_toArray, List.set_cons_zero, List.set_cons_succ]
          refine' wpAnyD_take (i := 7) (v := _) rfl (by kernel_rfl) (by kernel_rfl) (by kernel_rfl) (by kernel_rfl) (fun _ _ _ h => h) (Or.inl ⟨by rfl, ?hy36⟩) hS ?re36
          case hy36 => (intro w hSw; (try dsimp only at hSw); go_simp; (try with_reducible rfl))
          simp only [Act.put, List.setIfInBounds_toArray, List.set_cons_zero, List.set_cons_succ]
          refine' wpAnyD_take (i := 8) (v := _) rfl (by kernel_rfl) (by kernel_rfl) (by kernel_rfl) (by kernel_rfl) (fun _ _ _ h => h) (Or.inl ⟨by rfl, ?hy37⟩) hS ?re37
          case hy37 => (intro w hSw; (try dsimp only at hSw); go_simp; (try with_reducible rfl))
          simp only [Act.put, List.setIfInBounds_toArray, List.set_cons_zero, List.set_cons_succ]
          refine' wpAnyD_take (i := 9) (v := _) rfl (by kernel_rfl) (by kernel_rfl) (by kernel_rfl) (by kernel_rfl) (fun _ _ _ h => h) (Or.inl ⟨by rfl, ?hy38⟩) hS ?re38
          case hy38 => (intro w hSw; (try dsimp only at hSw); go_simp; (try with_reducible rfl))
          simp only [Act.put, List.setIfInBounds_toArray, List.set_cons_zero, List.set_cons_succ]
          refine wpAnyD_only (i := 10) rfl (by kernel_rfl) (by rfl) (fun K hK => ?_)
          go_simp
          refine (sealed_any ns HNS.out _ _ wx hxr (by rw [List.length_take]; omega)).mono ?_
          rintro e w6 ⟨v6, rfl, ho6, hb6⟩
          have hD6 := hDr.later hb6
          have hW6 := hWr.later hb6
          have hO6 : Own w6 0 (.slice (some ⟨g, 0, none⟩) (8 + b.length) cap) (body (cnt + 1) b) := ownsRow_later hOr hb6
          have hA6 := hAr.trans (AStep.of (W := W) (DStep.of hb6 R S vk))
          have hg6 : g < w6.heap.size := Nat.lt_of_lt_of_le hgr hb6.size
          have hls : (sealL ns (((body (cnt + 1) b).drop o).take 56)).length = 64 := sealL_len (by rw [List.length_take]; omega)
          have h8s : W8 (sealL ns (((body (cnt + 1) b).drop o).take 56)) := ((enc_w8 _ _).append (((hb8.drop o).take 56).append (zs_w8 _))).append (enc_w8 _ _)
          have hx6 := ho6.bytes h8s (by rw [hls]; decide)
          have hrk : sealL ns (((body (cnt + 1) b).drop o).take 56) = recK ns (cnt + 1) b k := by unfold recK; rw [HO.out]
          rw [hrk] at hx6 hls
          obtain ⟨p6, n6, c6, rfl, hn6⟩ := ho6.form
          clear hn6 ho6 h8s hrk hxr hOr hAr hgr hDr hWr
          have e0 := hW6.cell 0
          have e3 := hW6.cell 3
          simp only [walV, List.getElem?_toArray, List.getElem?_cons_zero, List.getElem?_cons_succ] at e0 e3
          try dsimp only
          have hSn := (⟨e0, e3⟩ : (fun w' : World => w'.cell? ⟨W, 0, none⟩ = some (.pointer (some ⟨R, 0, none⟩)) ∧ w'.cell? ⟨W, 3, none⟩ = some (.int .i64 (ns : Nat))) w6)
          refine hK.out _ _ (fun _ => hSn) ?_
          clear hK K hS
          have hS := hSn
          clear hSn
          try simp only [Act.put, List.setIfInBounds_toArray, List.set_cons_zero, List.set_cons_succ]
          clear e0 e3 hb6
          refine wpAnyD_only (i := 11) rfl (by kernel_rfl) (by rfl) (fun K hK => ?_)
          go_simp
          have hWf : W ≠ R ∧ W ≠ S ∧ vk.ownBlock ≠ some W := ⟨hW6.ne hD6.row (by decide), hW6.ne hD6.sure (by decide), ownN_ne hD6.own hW6 (by decide)⟩
          have hwk := layN_ws ns (cnt + 1) b d fin k
          have hck := layN_cnt ns (cnt + 1) b d fin k
          have hnk : fk < (layN ns (cnt + 1) b d fin k).n := by rw [layN_n]; exact HAT.out
          cases hdn : (layN ns (cnt + 1) b d fin k).down with
          | true =>
            refine (write_down fk _ _ w6 R S vk _ hD6 hx6 hnk (by rw [hls]; decide) hdn).mono ?_
            rintro e w7 ⟨rfl, hw7⟩
            obtain rfl := hw7.symm
            clear hw7
            try dsimp only
            have hSn := hS
            refine hK.out _ _ (fun _ => hSn) ?_
            clear hK K hS
            have hS := hSn
            clear hSn
            try simp only [Act.put, List.setIfInBounds_toArray, List.set_cons_zero, List.set_cons_succ]
            refine' wpAnyD_take (i := 12) (v := _) rfl (by kernel_rfl) (by kernel_rfl) (by kernel_rfl) (by kernel_rfl) (fun _ _ _ h => h) (Or.inl ⟨by rfl, ?hy39⟩) hS ?re39
            case hy39 => (intro w hSw; (try dsimp only at hSw); go_simp; (try with_reducible rfl))
            simp only [Act.put, List.setIfInBounds_toArray, List.set_cons_zero, List.set_cons_succ]
            refine wpAnyD_done (by kernel_rfl) ?_ _
            have HQ : AppQ w W R S v d cnt fin st b (.returned (.int .i64 4)) w6 := by
              refine ⟨vk, _, hD6, hA6, Or.inr ⟨rfl, hdn, ⟨k, HK.out, ?_⟩, ?_⟩⟩
              · rw [HNE.out]
              · rw [HNE.out]; exact hW6
            clear hD6 hA6 hO6 hx6 hW6 hwk hck hnk hdn hS
            go_wp2
            go_ret
            exact HQ
          | false =>
            refine (write_any fk _ _ w6 R S vk _ hD6 hx6 hnk (by rw [hls]; decide) hdn (by have := HWS.out; have := HSL.out; have := HF.out; omega) (by have := HCN.out; have := HSL.out; have := HF.out; omega)).mono ?_
            rintro e w7 ⟨v7, rfl, hD7, hs7⟩
            have hW7 : Row w7 W (walV R cnt fin ns) 75 := (hs7.block W hW6.lt hWf.1 hWf.2.1 hWf.2.2).trans hW6
            have hO7 : Own w7 0 (.slice (some ⟨g, 0, none⟩) (8 + b.length) cap) (body (cnt + 1) b) := ownsRow_keep hO6 fun j _ _ e => by
              have e : some g = some j := e
              injection e with e
              subst e
              exact hs7.far hgk hg6
            have hA7 := hA6.trans (AStep.of (W := W) hs7)
            have hg7 := hs7.farOn hgk hg6
            have HR : AppR w w7 W R S v d cnt fin ns b g cap (k + 1) := ⟨⟨v7, by have := HFK.out; subst this; exact hD7, hA7, hg7⟩, hW7, hO7⟩
            have e0 := hW7.cell 0
            have e3 := hW7.cell 3
            simp only [walV, List.getElem?_toArray, List.getElem?_cons_zero, List.getElem?_cons_succ] at e0 e3
            try dsimp only
            have hSn := (⟨e0, e3⟩ : (fun w' : World => w'.cell? ⟨W, 0, none⟩ = some (.pointer (some ⟨R, 0, none⟩)) ∧ w'.cell? ⟨W, 3, none⟩ = some (.int .i64 (ns : Nat))) w7)
            refine hK.out _ _ (fun _ => hSn) ?_
            clear hK K hS
            have hS := hSn
            clear hSn
            try simp only [Act.put, List.setIfInBounds_toArray, List.set_cons_zero, List.set_cons_succ]
            clear e0 e3 hD6 hA6 hO6 hx6 hW6 hwk hck hnk hdn hW7 hO7 hA7 hg7 hs7 hD7
            refine' wpAnyD_take (i := 12) (v := _) rfl (by kernel_rfl) (by kernel_rfl) (by kernel_rfl) (by kernel_rfl) (fun _ _ _ h => h) (Or.inl ⟨by rfl, ?hy40⟩) hS ?re40
            case hy40 => (intro w hSw; (try dsimp only at hSw); go_simp; (try with_reducible rfl))
            simp only [Act.put, List.setIfInBounds_toArray, List.set_cons_zero, List.set_cons_succ]
            refine wpAnyD_done (by kernel_rfl) ?_ _
            clear hS
            go_wp2
            go_roundw
            case rel => exact ⟨k + 1, HF.out, by rw [show fin + (k + 1) = fk + 1 by have := HFK.out; omega]; go_num, hs6, HR⟩
            case measure => simp [intOf]; omega
        · have x5 : (q : Int) < (cp : Int) := by omega
          clear hq
          go_wp2_with fail
          have m1 : (min (56 : Int) (q : Int)).toNat = q := by omega
          have m2 : (max (min (56 : Int) (q : Int)) 0).toNat = q := by omega
          simp only [m1, m2]
          have hs6 : k + 1 < secs b.length → Value.slice (some ⟨g, o + q, none⟩) (q - q) (cp - q) = leftV g (8 + b.length) cap (k + 1) := fun h => absurd h hkl
          clear m1 m2 x1 x5 x7 c56 c0
          generalize Value.slice (some ⟨g, o + q, none⟩) (q - q) (cp - q) = s6 at *
          refine wp_region_D (fun _ => true) (fun w' : World => w'.cell? ⟨W, 0, none⟩ = some (.pointer (some ⟨R, 0, none⟩)) ∧ w'.cell? ⟨W, 3, none⟩ = some (.int .i64 (ns : Nat))) (by kernel_rfl) ?_
          have hS : (fun w' : World => w'.cell? ⟨W, 0, none⟩ = some (.pointer (some ⟨R, 0, none⟩)) ∧ w'.cell? ⟨W, 3, none⟩ = some (.int .i64 (ns : Nat))) wr.drew := ⟨d0, d3⟩
          have hDr := hD.drew
          have hWr := hW.drew
          have hbr : Below wr.heap.size wr wr.drew := (Below.refl _ wr).drew
          have hxr := hx.later hbr
          have hOr : Own wr.drew 0 (.slice (some ⟨g, 0, none⟩) (8 + b.length) cap) (body (cnt + 1) b) := ownsRow_later hO hbr
          have hAr := hA.trans (AStep.of (W := W) (DStep.of hbr R S vk))
          have hgr : g < wr.drew.heap.size := hgl
          clear hD hW hbr hx hO hA hgl d0 d3
          generalize wr.drew = wx at *
          refine' wpAnyD_take (i := 0) (v := _) rfl (by kernel_rfl) (by kernel_rfl) (by kernel_rfl) (by kernel_rfl) (fun _ _ _ h => h) (Or.inl ⟨by rfl, ?hy41⟩) hS ?re41
          case hy41 => (intro w hSw; (try dsimp only at hSw); go_simp; (try with_reducible rfl))
          simp only [Act.put, List.setIfInBounds_toArray, List.set_cons_zero, List.set_cons_succ]
          refine' wpAnyD_take (i := 1) (v := _) rfl (by kernel_rfl) (by kernel_rfl) (by kernel_rfl) (by kernel_rfl) (fun _ _ _ h => h) (Or.inl ⟨by rfl, ?hy42⟩) hS ?re42
          case hy42 => (intro w hSw; (try dsimp only at hSw); go_simp; (try with_reducible rfl))
          simp only [Act.put, List.setIfInBounds_toArray, List.set_cons_zero, List.set_cons_succ]
          refine' wpAnyD_take (i := 2) (v := _) rfl (by kernel_rfl) (by kernel_rfl) (by kernel_rfl) (by kernel_rfl) (fun _ _ _ h => h) (Or.inl ⟨by rfl, ?hy43⟩) hS ?re43
          case hy43 => (intro w hSw; (try dsimp only at hSw); go_simp; (try with_reducible rfl))
          simp only [Act.put, List.setIfInBounds_toArray, List.set_cons_zero, List.set_cons_succ]
          refine' wpAnyD_take (i := 3) (v := _) rfl (by kernel_rfl) (by kernel_rfl) (by kernel_rfl) (by kernel_rfl) (fun _ _ _ h => h) (Or.inl ⟨by rfl, ?hy44⟩) hS ?re44
          case hy44 => (intro w hSw; (try dsimp only at hSw); go_simp; (try with_reducible rfl))
          simp only [Act.put, List.setIfInBounds_toArray, List.set_cons_zero, List.set_cons_succ]
          refine' wpAnyD_take (i := 4) (v := _) rfl (by kernel_rfl) (by kernel_rfl) (by kernel_rfl) (by kernel_rfl) (fun _ _ _ h => h) (Or.inl ⟨by rfl, ?hy45⟩) hS ?re45
          case hy45 => (intro w hSw; (try dsimp only at hSw); go_simp; (try with_reducible rfl))
          simp only [Act.put, List.setIfInBounds_toArray, List.set_cons_zero, List.set_cons_succ]
          refine' wpAnyD_take (i := 5) (v := _) rfl (by kernel_rfl) (by kernel_rfl) (by kernel_rfl) (by kernel_rfl) (fun _ _ _ h => h) (Or.inl ⟨by rfl, ?hy46⟩) hS ?re46
          case hy46 => (intro w hSw; (try dsimp only at hSw); go_simp; (try with_reducible rfl))
          simp only [Act.put, List.setIfInBounds_toArray, List.set_cons_zero, List.set_cons_succ]
          refine' wpAnyD_take (i := 6) (v := _) rfl (by kernel_rfl) (by kernel_rfl) (by kernel_rfl) (by kernel_rfl) (fun _ _ _ h => h) (Or.inl ⟨by rfl, ?hy47⟩) hS ?re47
          case hy47 => (intro w hSw; (try dsimp only at hSw); go_simp; (try with_reducible rfl))
          simp only [Act.put, List.setIfInBounds_toArray, List.set_cons_zero, List.set_cons_succ]
          refine' wpAnyD_take (i := 7) (v := _) rfl (by kernel_rfl) (by kernel_rfl) (by kernel_rfl) (by kernel_rfl) (fun _ _ _ h => h) (Or.inl ⟨by rfl, ?hy48⟩) hS ?re48
          case hy48 => (intro w hSw; (try dsimp only at hSw); go_simp; (try with_reducible rfl))
          simp only [Act.put, List.setIfInBounds_toArray, List.set_cons_zero, List.set_cons_succ]
          refine' wpAnyD_take (i := 8) (v := _) rfl (by kernel_rfl) (by kernel_rfl) (by kernel_rfl) (by kernel_rfl) (fun _ _ _ h => h) (Or.inl ⟨by rfl, ?hy49⟩) hS ?re49
          case hy49 => (intro w hSw; (try dsimp only at hSw); go_simp; (try with_reducible rfl))
          simp only [Act.put, List.setIfInBounds_toArray, List.set_cons_zero, List.set_cons_succ]
          refine' wpAnyD_take (i := 9) (v := _) rfl (by kernel_rfl) (by kernel_rfl) (by kernel_rfl) (by kernel_rfl) (fun _ _ _ h => h) (Or.inl ⟨by rfl, ?hy50⟩) hS ?re50
          case hy50 => (intro w hSw; (try dsimp only at hSw); go_simp; (try with_reducible rfl))
          simp only [Act.put, List.setIfInBounds_toArray, List.set_cons_zero, List.set_cons_succ]
          refine wpAnyD_only (i := 10) rfl (by kernel_rfl) (by rfl) (fun K hK => ?_)
          go_simp
          refine (sealed_any ns HNS.out _ _ wx hxr (by rw [List.length_take]; omega)).mono ?_
          rintro e w6 ⟨v6, rfl, ho6, hb6⟩
          have hD6 := hDr.later hb6
          have hW6 := hWr.later hb6
          have hO6 : Own w6 0 (.slice (some ⟨g, 0, none⟩) (8 + b.length) cap) (body (cnt + 1) b) := ownsRow_later hOr hb6
          have hA6 := hAr.trans (AStep.of (W := W) (DStep.of hb6 R S vk))
          have hg6 : g < w6.heap.size := Nat.lt_of_lt_of_le hgr hb6.size
          have hls : (sealL ns (((body (cnt + 1) b).drop o).take 56)).length = 64 := sealL_len (by rw [List.length_take]; omega)
          have h8s : W8 (sealL ns (((body (cnt + 1) b).drop o).take 56)) := ((enc_w8 _ _).append (((hb8.drop o).take 56).append (zs_w8 _))).append (enc_w8 _ _)
          have hx6 := ho6.bytes h8s (by rw [hls]; decide)
          have hrk : sealL ns (((body (cnt + 1) b).drop o).take 56) = recK ns (cnt + 1) b k := by unfold recK; rw [HO.out]
          rw [hrk] at hx6 hls
          obtain ⟨p6, n6, c6, rfl, hn6⟩ := ho6.form
          clear hn6 ho6 h8s hrk hxr hOr hAr hgr hDr hWr
          have e0 := hW6.cell 0
          have e3 := hW6.cell 3
          simp only [walV, List.getElem?_toArray, List.getElem?_cons_zero, List.getElem?_cons_succ] at e0 e3
          try dsimp only
          have hSn := (⟨e0, e3⟩ : (fun w' : World => w'.cell? ⟨W, 0, none⟩ = some (.pointer (some ⟨R, 0, none⟩)) ∧ w'.cell? ⟨W, 3, none⟩ = some (.int .i64 (ns : Nat))) w6)
          refine hK.out _ _ (fun _ => hSn) ?_
          clear hK K hS
          have hS := hSn
          clear hSn
          try simp only [Act.put, List.setIfInBounds_toArray, List.set_cons_zero, List.set_cons_succ]
          clear e0 e3 hb6
          refine wpAnyD_only (i := 11) rfl (by kernel_rfl) (by rfl) (fun K hK => ?_)
          go_simp
          have hWf : W ≠ R ∧ W ≠ S ∧ vk.ownBlock ≠ some W := ⟨hW6.ne hD6.row (by decide), hW6.ne hD6.sure (by decide), ownN_ne hD6.own hW6 (by decide)⟩
          have hwk := layN_ws ns (cnt + 1) b d fin k
          have hck := layN_cnt ns (cnt + 1) b d fin k
          have hnk : fk < (layN ns (cnt + 1) b d fin k).n := by rw [layN_n]; exact HAT.out
          cases hdn : (layN ns (cnt + 1) b d fin k).down with
          | true =>
            refine (write_down fk _ _ w6 R S vk _ hD6 hx6 hnk (by rw [hls]; decide) hdn).mono ?_
            rintro e w7 ⟨rfl, hw7⟩
            obtain rfl := hw7.symm
            clear hw7
            try dsimp only
            have hSn := hS
            refine hK.out _ _ (fun _ => hSn) ?_
            clear hK K hS
            have hS := hSn
            clear hSn
            try simp only [Act.put, List.setIfInBounds_toArray, List.set_cons_zero, List.set_cons_succ]
            refine' wpAnyD_take (i := 12) (v := _) rfl (by kernel_rfl) (by kernel_rfl) (by kernel_rfl) (by kernel_rfl) (fun _ _ _ h => h) (Or.inl ⟨by rfl, ?hy51⟩) hS ?re51
            case hy51 => (intro w hSw; (try dsimp only at hSw); go_simp; (try with_reducible rfl))
            simp only [Act.put, List.setIfInBounds_toArray, List.set_cons_zero, List.set_cons_succ]
            refine wpAnyD_done (by kernel_rfl) ?_ _
            have HQ : AppQ w W R S v d cnt fin st b (.returned (.int .i64 4)) w6 := by
              refine ⟨vk, _, hD6, hA6, Or.inr ⟨rfl, hdn, ⟨k, HK.out, ?_⟩, ?_⟩⟩
              · rw [HNE.out]
              · rw [HNE.out]; exact hW6
            clear hD6 hA6 hO6 hx6 hW6 hwk hck hnk hdn hS
            go_wp2
            go_ret
            exact HQ
          | false =>
            refine (write_any fk _ _ w6 R S vk _ hD6 hx6 hnk (by rw [hls]; decide) hdn (by have := HWS.out; have := HSL.out; have := HF.out; omega) (by have := HCN.out; have := HSL.out; have := HF.out; omega)).mono ?_
            rintro e w7 ⟨v7, rfl, hD7, hs7⟩
            have hW7 : Row w7 W (walV R cnt fin ns) 75 := (hs7.block W hW6.lt hWf.1 hWf.2.1 hWf.2.2).trans hW6
            have hO7 : Own w7 0 (.slice (some ⟨g, 0, none⟩) (8 + b.length) cap) (body (cnt + 1) b) := ownsRow_keep hO6 fun j _ _ e => by
              have e : some g = some j := e
              injection e with e
              subst e
              exact hs7.far hgk hg6
            have hA7 := hA6.trans (AStep.of (W := W) hs7)
            have hg7 := hs7.farOn hgk hg6
            have HR : AppR w w7 W R S v d cnt fin ns b g cap (k + 1) := ⟨⟨v7, by have := HFK.out; subst this; exact hD7, hA7, hg7⟩, hW7, hO7⟩
            have e0 := hW7.cell 0
            have e3 := hW7.cell 3
            simp only [walV, List.getElem?_toArray, List.getElem?_cons_zero, List.getElem?_cons_succ] at e0 e3
            try dsimp only
            have hSn := (⟨e0, e3⟩ : (fun w' : World => w'.cell? ⟨W, 0, none⟩ = some (.pointer (some ⟨R, 0, none⟩)) ∧ w'.cell? ⟨W, 3, none⟩ = some (.int .i64 (ns : Nat))) w7)
            refine hK.out _ _ (fun _ => hSn) ?_
            clear hK K hS
            have hS := hSn
            clear hSn
            try simp only [Act.put, List.setIfInBounds_toArray, List.set_cons_zero, List.set_cons_succ]
            clear e0 e3 hD6 hA6 hO6 hx6 hW6 hwk hck hnk hdn hW7 hO7 hA7 hg7 hs7 hD7
            refine' wpAnyD_take (i := 12) (v := _) rfl (by kernel_rfl) (by kernel_rfl) (by kernel_rfl) (by kernel_rfl) (fun _ _ _ h => h) (Or.inl ⟨by rfl, ?hy52⟩) hS ?re52
            case hy52 => (intro w hSw; (try dsimp only at hSw); go_simp; (try with_reducible rfl))
            simp only [Act.put, List.setIfInBounds_toArray, List.set_cons_zero, List.set_cons_succ]
            refine wpAnyD_done (by kernel_rfl) ?_ _
            clear hS
            go_wp2
            go_roundw
            case rel => exact ⟨k + 1, HF.out, by rw [show fin + (k + 1) = fk + 1 by have := HFK.out; omega]; go_num, hs6, HR⟩
            case measure => simp [intOf]; omega
    · obtain rfl : k = secs b.length := by omega
      clear hs
      have hfb : ((fin + secs b.length : Nat) : Int) = (bh : Int) := by omega
      have hfn : fin + secs b.length = bh := HB.out.symm
      rw [hfn]
      have d0 := hW.cell 0
      simp only [walV, List.getElem?_toArray, List.getElem?_cons_zero, List.getElem?_cons_succ] at d0
      have hWf : W ≠ R ∧ W ≠ S ∧ vk.ownBlock ≠ some W := ⟨hW.ne hD.row (by decide), hW.ne hD.sure (by decide), ownN_ne hD.own hW (by decide)⟩
      clear hfb hgk hO
      cases hdn : (layN ns (cnt + 1) b d fin (secs b.length)).down with
      | true =>
        have HQ : AppQ w W R S v d cnt fin st b (.returned (.int .i64 4)) wr := by
          refine ⟨vk, _, hD, hA, Or.inr ⟨rfl, hdn, ⟨_, Nat.le_refl _, ?_⟩, ?_⟩⟩
          · rw [HNE.out]
          · rw [HNE.out]; exact hW
        go_wp2_with (go_at_call 20; refine stop ?_)
        refine (flush_down wr R S vk _ hD hdn).mono ?_
        rintro e w1 ⟨rfl, hw1⟩
        obtain rfl := hw1.symm
        clear hw1
        go_wp2
        go_ret
        exact HQ
      | false =>
        go_wp2_with (go_at_call 20; refine stop ?_)
        refine (flush_any wr R S vk _ hD hdn).mono ?_
        rintro e w1 ⟨rfl, hD1, hs1⟩
        have hW1 : Row w1 W (walV R cnt fin ns) 75 := (hs1.block W hW.lt hWf.1 hWf.2.1 hWf.2.2).trans hW
        have hA1 := hA.trans (AStep.of (W := W) hs1)
        have d0 := hW1.cell 0
        have d1 := hW1.cell 1
        have d2 := hW1.cell 2
        have f1 := hW1.frozen 1
        simp only [walV, List.getElem?_toArray, List.getElem?_cons_zero, List.getElem?_cons_succ] at d0 d1 d2
        have hW2 : Row (w1.setCell ⟨W, 1, none⟩ (.int .i64 ((cnt : Int) + 1))) W (walV R (cnt + 1) fin ns) 75 := hW1.set 1 _
        have f2 := hW2.frozen 2
        have hD2 := hD1.setWal hW1 1 (x := .int .i64 ((cnt : Int) + 1))
        have hW3 : Row ((w1.setCell ⟨W, 1, none⟩ (.int .i64 ((cnt : Int) + 1))).setCell ⟨W, 2, none⟩ (.int .i64 (bh : Int))) W (walV R (cnt + 1) bh ns) 75 := hW2.set 2 _
        have hD3 := hD2.setWal hW2 2 (x := .int .i64 (bh : Int))
        have hA3 := (hA1.trans (AStep.set (W := W) (R := R) (S := S) 1 (.int .i64 ((cnt : Int) + 1)))).trans (AStep.set (W := W) (R := R) (S := S) 2 (.int .i64 (bh : Int)))
        have HQ : AppQ w W R S v d cnt fin st b (.returned (.int .i64 0)) ((w1.setCell ⟨W, 1, none⟩ (.int .i64 ((cnt : Int) + 1))).setCell ⟨W, 2, none⟩ (.int .i64 (bh : Int))) := by
          refine ⟨_, _, hD3, hA3, Or.inl ⟨rfl, ?_, ?_, ?_⟩⟩
          · rw [HNE.out]; rfl
          · rw [HNE.out]; exact hdn
          · rw [HNE.out, hfn]; exact hW3
        clear hW3 hD3 hA3 hD2 hA1 hD1 hs1 hD hA hfn hdn
        go_wp2
        go_ret
        exact HQ
end Go.Proofs.Ytfhaphbfbmpbiaa
