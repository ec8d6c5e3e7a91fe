
/-
  package wal: a log on sectors, as plain lists: what is appended is read again.
-/
import Derived.Test.YtfhaphbfbmpbiaaWaT
namespace Go.Proofs.Ytfhaphbfbmpbiaa
open Go.RowKit
set_option maxRecDepth 100000
set_option linter.unusedVariables false
set_option linter.unusedSimpArgs false

theorem seal_parts {st : Nat} {l : List Nat} (hl : l.length ≤ 56) : ∃ P, sealL st l = enc 4 st ++ (P ++ enc 4 st) ∧ P = l ++ zs (56 - l.length) ∧ P.length = 56 :=
  ⟨l ++ zs (56 - l.length), by unfold sealL; rw [List.append_assoc], rfl, by rw [List.length_append, zs_len]; omega⟩
theorem front_seal {st : Nat} {l : List Nat} (h : st < 4294967296) (hl : l.length ≤ 56) : front (sealL st l) = st := by
  obtain ⟨P, e, _, hP⟩ := seal_parts (st := st) hl
  unfold front
  rw [e, List.take_left' (enc_len 4 st), be_enc_lt (by simpa using h)]
theorem seal_drop60 {st : Nat} {l : List Nat} (hl : l.length ≤ 56) : (sealL st l).drop 60 = enc 4 st := by
  obtain ⟨P, e, _, hP⟩ := seal_parts (st := st) hl
  rw [e, ← List.append_assoc, List.drop_left' (by rw [List.length_append, enc_len, hP])]
theorem back_seal {st : Nat} {l : List Nat} (h : st < 4294967296) (hl : l.length ≤ 56) : back (sealL st l) = st := by
  unfold back
  rw [seal_drop60 hl, List.take_of_length_le (by rw [enc_len]; exact Nat.le_refl _), be_enc_lt (by simpa using h)]
theorem load_seal {st : Nat} {l : List Nat} (hl : l.length ≤ 56) : load (sealL st l) = l ++ zs (56 - l.length) := by
  obtain ⟨P, e, hP0, hP⟩ := seal_parts (st := st) hl
  unfold load
  rw [e, List.drop_left' (enc_len 4 st), List.take_left' hP, hP0]
theorem chunk_len (l : List Nat) (k : Nat) : ((l.drop k).take 56).length ≤ 56 := by rw [List.length_take]; omega
theorem recK_front {st num : Nat} {b : List Nat} {k : Nat} (h : st < 4294967296) : front (recK st num b k) = st := front_seal h (chunk_len _ _)
theorem recK_back {st num : Nat} {b : List Nat} {k : Nat} (h : st < 4294967296) : back (recK st num b k) = st := back_seal h (chunk_len _ _)
theorem secs_lt {n k : Nat} (h : k < secs n) : 56 * k < 8 + n := by unfold secs at h; omega
theorem recK_load {st num : Nat} {b : List Nat} {k : Nat} (h : k < secs b.length) : load (recK st num b k) = ((body num b ++ zs 56).drop (56 * k)).take 56 := by
  unfold recK
  rw [load_seal (chunk_len _ _)]
  have hk := secs_lt h
  have hb := body_len num b
  generalize body num b = B at *
  rw [List.drop_append_of_le_length (by omega)]
  rw [List.take_append, List.length_take, List.length_drop]
  congr 1
  have e : 56 - min 56 (B.length - 56 * k) = 56 - (B.length - 56 * k) := by omega
  rw [e]
  unfold zs
  rw [List.take_replicate]
  congr 1
  omega
theorem recK_sec {st num : Nat} {b : List Nat} (h8 : W8 b) (k : Nat) : Sec (recK st num b k) :=
  ⟨sealL_len (chunk_len _ _), ((enc_w8 _ _).append ((((((enc_w8 _ _).append ((enc_w8 _ _).append h8))).drop _).take _).append (zs_w8 _))).append (enc_w8 _ _)⟩
theorem load0 (num : Nat) (b : List Nat) : (body num b ++ zs 56) = enc 4 num ++ (enc 4 b.length ++ (b ++ zs 56)) := by unfold body; simp
theorem wnum0 {st num : Nat} {b : List Nat} (hn : num < 4294967296) : wnum (recK st num b 0) = num := by
  unfold wnum
  rw [recK_load (secs_pos _), load0, Nat.mul_zero, List.drop_zero, List.take_take, List.take_left' (by rw [enc_len]; rfl), be_enc_lt (by simpa using hn)]
theorem wlen0 {st num : Nat} {b : List Nat} (hb : b.length ≤ 4096) : wlen (recK st num b 0) = b.length := by
  unfold wlen
  rw [recK_load (secs_pos _), load0, Nat.mul_zero, List.drop_zero, List.drop_take, List.take_take, List.drop_left' (enc_len 4 num), List.take_left' (by rw [enc_len]; rfl), be_enc_lt (by simp; omega)]
/-- Where a record's sectors stand it is read. -/
theorem rec_loads {Z : List (List Nat)} {f st num : Nat} {b : List Nat} (hZ : ∀ k, k < secs b.length → Z.getD (f + k) [] = recK st num b k) (hl : f + secs b.length ≤ Z.length) : ∀ k, k ≤ secs b.length → loadsOf Z f k = (body num b ++ zs 56).take (56 * k)
  | 0, _ => by simp [loadsOf]
  | k + 1, h => by
    rw [loadsOf_succ Z f k (by omega), rec_loads hZ hl k (by omega), hZ k (by omega), recK_load (by omega), Nat.mul_succ, List.take_add]
theorem rec_whole {Z : List (List Nat)} {f st num : Nat} {b : List Nat} (hZ : ∀ k, k < secs b.length → Z.getD (f + k) [] = recK st num b k) (hl : f + secs b.length ≤ Z.length) (h0 : 0 < st) (h1 : st < 4294967296) (hn : num < 4294967296) (hb : b.length ≤ 4096) :
    Whole Z f num ∧ recAt Z f = b ∧ wlen (Z.getD f []) = b.length := by
  have hp := secs_pos b.length
  have e0 : Z.getD f [] = recK st num b 0 := hZ 0 (by omega)
  have ew : wlen (Z.getD f []) = b.length := by rw [e0, wlen0 hb]
  have ef : front (Z.getD f []) = st := by rw [e0, recK_front h1]
  refine ⟨⟨by omega, by omega, by rw [e0, wnum0 hn], by omega, by rw [ew]; exact hl, fun k hk => ?_⟩, ?_, ew⟩
  · rw [ew] at hk
    rw [ef, hZ k hk, recK_front h1, recK_back h1]
    exact ⟨rfl, rfl⟩
  · unfold recAt
    rw [ew, rec_loads hZ hl _ (Nat.le_refl _), load0, ← List.append_assoc, List.drop_take, List.drop_left' (by rw [List.length_append, enc_len, enc_len]), List.take_take, List.take_left' (by have := secs_room b.length; omega)]

/-- From nothing on, whole records are read up to L and e. -/
inductive Reads (Z : List (List Nat)) : List (List Nat) → Nat → Prop
  | nil : Reads Z [] 0
  | snoc {L : List (List Nat)} {e : Nat} : Reads Z L e → Whole Z e (L.length + 1) → Reads Z (L ++ [recAt Z e]) (e + secs (wlen (Z.getD e [])))
theorem Reads.rl {Z L : List (List Nat)} {e : Nat} (h : Reads Z L e) : ∀ {L' : List (List Nat)} {e' : Nat}, Rl Z L e L' e' → Rl Z [] 0 L' e' := by
  induction h with
  | nil => exact fun h => h
  | snoc h hw ih => intro L' e' hr; exact ih (.step hw hr)
theorem Rl.det {Z L L1 : List (List Nat)} {e e1 : Nat} (h : Rl Z L e L1 e1) : ∀ {L2 : List (List Nat)} {e2 : Nat}, Rl Z L e L2 e2 → L1 = L2 ∧ e1 = e2 := by
  induction h with
  | stop hn =>
    intro L2 e2 h2
    cases h2 with
    | stop _ => exact ⟨rfl, rfl⟩
    | step hw _ => exact absurd hw hn
  | step hw _ ih =>
    intro L2 e2 h2
    cases h2 with
    | stop hn => exact absurd hw hn
    | step _ h2 => exact ih h2
theorem Reads.done {Z L L' : List (List Nat)} {e e' : Nat} (h : Reads Z L e) (hn : ¬ Whole Z e (L.length + 1)) (hr : Rl Z [] 0 L' e') : L' = L ∧ e' = e := hr.det (h.rl (.stop hn))
theorem Reads.le {Z L : List (List Nat)} {e : Nat} (h : Reads Z L e) : e ≤ Z.length ∧ L.length ≤ e := by
  induction h with
  | nil => exact ⟨Nat.zero_le _, Nat.zero_le _⟩
  | @snoc L e h hw ih =>
    have := hw.fit
    have := secs_pos (wlen (Z.getD e []))
    rw [List.length_append, List.length_singleton]
    omega
theorem cut_eq {Z Z' : List (List Nat)} {e n : Nat} (h : e + n ≤ Z.length) (h' : e + n ≤ Z'.length) (hg : ∀ i, i < e + n → Z'.getD i [] = Z.getD i []) : (Z'.drop e).take n = (Z.drop e).take n := by
  apply List.ext_getElem
  · rw [List.length_take, List.length_take, List.length_drop, List.length_drop]; omega
  · intro i h1 h2
    rw [List.length_take, List.length_drop] at h1
    rw [List.getElem_take, List.getElem_take, List.getElem_drop, List.getElem_drop]
    have := hg (e + i) (by omega)
    simpa [List.getD, show e + i < Z.length by omega, show e + i < Z'.length by omega] using this
theorem Reads.congr {Z Z' L : List (List Nat)} {e : Nat} (h : Reads Z L e) : e ≤ Z'.length → (∀ i, i < e → Z'.getD i [] = Z.getD i []) → Reads Z' L e := by
  induction h with
  | nil => exact fun _ _ => .nil
  | @snoc L e h hw ih =>
    intro hl hg
    have hs := secs_pos (wlen (Z.getD e []))
    have ih := ih (by omega) (fun i hi => hg i (by omega))
    have he : Z'.getD e [] = Z.getD e [] := hg e (by omega)
    have hw' : Whole Z' e (L.length + 1) := ⟨by omega, by rw [he]; exact hw.st, by rw [he]; exact hw.nu, by rw [he]; exact hw.le, by rw [he]; exact hl, fun k hk => by rw [he] at hk ⊢; rw [hg (e + k) (by omega)]; exact hw.all k hk⟩
    have hr : recAt Z' e = recAt Z e := by
      unfold recAt loadsOf
      rw [he, cut_eq hw.fit hl hg]
    have := Reads.snoc ih hw'
    rwa [hr, he] at this
theorem zs_not {Z : List (List Nat)} {e num : Nat} (h : e < Z.length → Z.getD e [] = zs 64) : ¬ Whole Z e num := fun hw => hw.st (by rw [h hw.lt]; decide)

theorem curs_len (d : Dk) (n : Nat) : (d.curs n).length = n := by simp [Dk.curs]
theorem curs_getD (d : Dk) {n i : Nat} (h : i < n) : (d.curs n).getD i [] = d.cur i := by simp [Dk.curs, List.getD, h]
theorem setl_snoc (f : Nat → Nat) (F : List Nat) (ws : List (Nat × List Nat)) (x : Nat × List Nat) : setl f F (ws ++ [x]) = settle (setl f F ws) x.1 x.2 (f ws.length) := by
  have := setl_succ f F (ws ++ [x]) ws.length (by simp)
  rwa [List.take_of_length_le (by simp), List.take_left' rfl, show (ws ++ [x]).getD ws.length (0, []) = x by simp [List.getD]] at this
theorem snoc_ind2 {α : Type} {p : List α → Prop} (h0 : p []) (h1 : ∀ l x, p l → p (l ++ [x])) (l : List α) : p l := by
  have : ∀ n (l : List α), l.length = n → p l := by
    intro n
    induction n with
    | zero => intro l hl; rw [List.length_eq_zero_iff.1 hl]; exact h0
    | succ n ih =>
      intro l hl
      have hne : l ≠ [] := by intro h; rw [h] at hl; cases hl
      rw [← List.dropLast_concat_getLast hne]
      exact h1 _ _ (ih _ (by rw [List.length_dropLast]; omega))
  exact this _ l rfl
theorem setl_all {F : List Nat} {n : Nat} (hF : F.length = 64 * n) : ∀ ws : List (Nat × List Nat), (∀ x ∈ ws, WOk n x) → (setl (fun _ => 64) F ws).length = 64 * n ∧ ∀ p, p < n → sec (setl (fun _ => 64) F ws) p = curW p (sec F p) ws := by
  refine snoc_ind2 (fun _ => ⟨hF, fun p _ => rfl⟩) (fun ws x ih hw => ?_)
  obtain ⟨h1, h2⟩ := ih (fun y hy => hw y (by simp [hy]))
  have hx := hw x (by simp)
  rw [setl_snoc]
  refine ⟨settle_len h1 hx.lt hx.len (Nat.le_refl _), fun p hp => ?_⟩
  rw [sec_settle h1 hx.lt hx.len (Nat.le_refl _) p hp, curW_snoc, h2 p hp]
  by_cases c : p = x.1
  · rw [if_pos c, if_pos c.symm, List.take_of_length_le (by rw [hx.len]; exact Nat.le_refl _), List.drop_eq_nil_of_le (by rw [sec_len h1 hx.lt]; exact Nat.le_refl _), List.append_nil]
  · rw [if_neg c, if_neg (fun e => c e.symm)]
/-- What is flushed is what it was. -/
theorem flushed_cur {d : Dk} (h : d.Ok) {p : Nat} (hp : p < d.n) : d.flushed.cur p = d.cur p := (setl_all h.fl d.ws h.wok).2 p hp
theorem flushed_nil {d : Dk} (h : d.ws = []) : d.flushed = d := by
  unfold Dk.flushed
  rw [h]
  cases d
  simp only at h
  subst h
  rfl
theorem layN_cur (st num : Nat) (b : List Nat) (d : Dk) (f : Nat) (p : Nat) : ∀ k, (layN st num b d f k).cur p = if f ≤ p ∧ p < f + k then recK st num b (p - f) else d.cur p
  | 0 => by rw [if_neg (by omega)]; rfl
  | k + 1 => by
    show ((layN st num b d f k).put (f + k) (recK st num b k)).cur p = _
    rw [put_cur, layN_cur st num b d f p k]
    have hpad : pad (recK st num b k) = recK st num b k := by
      unfold pad
      rw [show (recK st num b k).length = 64 from sealL_len (chunk_len _ _)]
      simp [zs]
    by_cases c : f + k = p
    · subst c
      rw [if_pos rfl, if_pos (by omega), hpad]
      congr 1
      omega
    · rw [if_neg c]
      by_cases c2 : f ≤ p ∧ p < f + k
      · rw [if_pos c2, if_pos (by omega)]
      · rw [if_neg c2, if_neg (by omega)]
theorem wipeN_cur {Z : List (List Nat)} {d : Dk} {f : Nat} {p : Nat} (hZ : Z.getD p [] = d.cur p) : ∀ k, (wipeN Z d f k).cur p = if f ≤ p ∧ p < f + k then zs 64 else d.cur p
  | 0 => by rw [if_neg (by omega)]; rfl
  | k + 1 => by
    by_cases c : f + k = p
    · subst c
      cases hb : blank (Z.getD (f + k) []) with
      | true =>
        rw [wipeN_yes hb, wipeN_cur hZ k, if_neg (by omega), if_pos (by omega), ← hZ]
        simpa [blank] using hb
      | false =>
        rw [wipeN_no hb, put_cur, if_pos rfl, if_pos (by omega)]
        rfl
    · have e : (wipeN Z d f (k + 1)).cur p = (wipeN Z d f k).cur p := by
        cases hb : blank (Z.getD (f + k) []) with
        | true => rw [wipeN_yes hb]
        | false => rw [wipeN_no hb, put_cur, if_neg c]
      rw [e, wipeN_cur hZ k]
      by_cases c2 : f ≤ p ∧ p < f + k
      · rw [if_pos c2, if_pos (by omega)]
      · rw [if_neg c2, if_neg (by omega)]
theorem wipeN_bound (Z : List (List Nat)) (d : Dk) (f : Nat) : ∀ k, (wipeN Z d f k).ws.length ≤ d.ws.length + k ∧ (wipeN Z d f k).cnt ≤ d.cnt + k
  | 0 => ⟨Nat.le_refl _, Nat.le_refl _⟩
  | k + 1 => by
    obtain ⟨h1, h2⟩ := wipeN_bound Z d f k
    cases hb : blank (Z.getD (f + k) []) with
    | true => rw [wipeN_yes hb]; omega
    | false =>
      rw [wipeN_no hb]
      constructor
      · show ((wipeN Z d f k).ws ++ [_]).length ≤ _
        rw [List.length_append, List.length_singleton]; omega
      · show (wipeN Z d f k).cnt + 1 ≤ _
        omega
theorem wipeN_none {Z : List (List Nat)} {d : Dk} {f : Nat} : ∀ k, (∀ i, i < k → Z.getD (f + i) [] = zs 64) → wipeN Z d f k = d
  | 0, _ => rfl
  | k + 1, h => by rw [wipeN_yes (by rw [h k (by omega)]; decide), wipeN_none k (fun i hi => h i (by omega))]

/-- A log of L that ends at e, all of it sure, and zeros behind it. -/
structure Lg (d : Dk) (L : List (List Nat)) (e : Nat) : Prop where
  ws : d.ws = []
  rd : Reads (d.curs d.n) L e
  le : e ≤ d.n
  ze : ∀ p, e ≤ p → p < d.n → d.cur p = zs 64
theorem Lg.nw {d : Dk} {L : List (List Nat)} {e num : Nat} (h : Lg d L e) : ¬ Whole (d.curs d.n) e num := zs_not fun hl => by
  rw [curs_len] at hl
  rw [curs_getD d hl]
  exact h.ze e (Nat.le_refl _) hl
theorem Lg.new (n : Nat) : Lg (Dk.new n) [] 0 := ⟨rfl, .nil, Nat.zero_le _, fun p _ hp => new_cur n p hp⟩
theorem Lg.cnt {d : Dk} {L : List (List Nat)} {e : Nat} (h : Lg d L e) : L.length ≤ e := h.rd.le.2
theorem Lg.wipe {d : Dk} {L : List (List Nat)} {e : Nat} (h : Lg d L e) (k : Nat) (hk : k ≤ d.n - e) : wipeN (d.curs d.n) d e k = d :=
  wipeN_none k fun i hi => by rw [curs_getD d (by omega)]; exact h.ze _ (by omega) (by omega)
/-- One more record. -/
theorem Lg.app {d : Dk} {L : List (List Nat)} {e st : Nat} {b : List Nat} (h : Lg d L e) (h0 : 0 < st) (h1 : st < 4294967296) (hn : d.n ≤ 4096) (hb : b.length ≤ 4096) (hr : e + secs b.length ≤ d.n) (ho : (layN st (L.length + 1) b d e (secs b.length)).Ok) :
    Lg (layN st (L.length + 1) b d e (secs b.length)).flushed (L ++ [b]) (e + secs b.length) := by
  have hnn : (layN st (L.length + 1) b d e (secs b.length)).flushed.n = d.n := layN_n _ _ _ _ _ _
  have hcur : ∀ p, p < d.n → (layN st (L.length + 1) b d e (secs b.length)).flushed.cur p = if e ≤ p ∧ p < e + secs b.length then recK st (L.length + 1) b (p - e) else d.cur p := fun p hp => by
    rw [flushed_cur ho (by rw [layN_n]; exact hp), layN_cur]
  have hc := h.cnt
  have hp := secs_pos b.length
  have hws : (layN st (L.length + 1) b d e (secs b.length)).flushed.ws = [] := rfl
  generalize (layN st (L.length + 1) b d e (secs b.length)).flushed = d' at *
  have hZ : ∀ k, k < secs b.length → (d'.curs d'.n).getD (e + k) [] = recK st (L.length + 1) b k := fun k hk => by
    rw [curs_getD d' (by omega), hcur _ (by omega), if_pos (by omega)]
    congr 1
    omega
  obtain ⟨hw, hre, hwl⟩ := rec_whole hZ (by rw [curs_len]; omega) h0 h1 (by omega) hb
  have h2 : Reads (d'.curs d'.n) L e := h.rd.congr (by rw [curs_len]; omega) (fun i hi => by rw [curs_getD d' (by omega), curs_getD d (by omega), hcur _ (by omega), if_neg (by omega)])
  have h3 := Reads.snoc h2 hw
  rw [hre, hwl] at h3
  exact ⟨hws, h3, by omega, fun p h1 h2 => by rw [hcur p (by omega), if_neg (by omega)]; exact h.ze p (by omega) (by omega)⟩
theorem Lg.calm {d : Dk} {L : List (List Nat)} {e : Nat} (h : Lg d L e) (f : Nat → Nat) : Lg { d with F := setl f d.F d.ws, ws := [], armed := false, left := 0 } L e := by
  obtain ⟨F, n, ws, cnt, armed, left⟩ := d
  obtain ⟨h1, h2, h3, h4⟩ := h
  simp only at h1
  subst h1
  exact ⟨rfl, h2, h3, h4⟩
theorem layN_armed (st num : Nat) (b : List Nat) (d : Dk) (f : Nat) : ∀ k, (layN st num b d f k).armed = d.armed
  | 0 => rfl
  | k + 1 => layN_armed st num b d f k
theorem layN_ok {st num : Nat} {b : List Nat} {d : Dk} {f : Nat} (h : d.Ok) (h8 : W8 b) : ∀ k, f + k ≤ d.n → d.ws.length + k ≤ 1000 → d.cnt + k ≤ 1000000 → (layN st num b d f k).Ok
  | 0, _, _, _ => h
  | k + 1, h1, h2, h3 => (layN_ok h h8 k (by omega) (by omega) (by omega)).put (by rw [layN_n]; omega) (by rw [(recK_sec (st := st) (num := num) h8 k).len]; exact Nat.le_refl _) (recK_sec h8 k).w8 (by rw [layN_ws]; omega) (by rw [layN_cnt]; omega)
/-- A log in memory, all of it the call's own. -/
structure LogW (w0 w : World) (W R S : Nat) (v : Value) (d : Dk) (L : List (List Nat)) (e st : Nat) : Prop where
  mine : Mine w0 w R S v d
  row : Row w W (walV R L.length e st) 75
  hW : w0.heap.size ≤ W
  st : st < 4294967296
  lg : Lg d L e
theorem great_lt {Z : List (List Nat)} (h : ∀ s ∈ Z, Sec s) : great Z < 4294967296 := by
  have := great_le Z 4294967295 (fun s hs => ⟨by have := (h s hs).flt; omega, by have := (h s hs).blt; omega⟩)
  omega
theorem curs_sec {d : Dk} (h : d.Ok) : ∀ s ∈ d.curs d.n, Sec s := fun s hs => by
  obtain ⟨i, hi, rfl⟩ := List.mem_map.1 hs
  have := h.cur (List.mem_range.1 hi)
  exact ⟨this.1, this.2⟩
/-- What Open leaves, of a log that is whole and at rest. -/
def OpenG (w0 w : World) (R S : Nat) (v : Value) (d : Dk) (L : List (List Nat)) (e : Nat) (en : Ending) (w' : World) : Prop :=
  ∃ W u v' st, en = .returned (.tuple #[.pointer (some ⟨W, 0, none⟩), u, .int .i64 0]) ∧ LogW w0 w' W R S v' d L e st ∧ w.heap.size ≤ W ∧ LogAt w' w.heap.size u L ∧ DStep w w' R S v v'
theorem open_lg (w0 w : World) (R S : Nat) (v : Value) (d : Dk) (L : List (List Nat)) (e : Nat) (h : Mine w0 w R S v d) (hl : Lg d L e) (ha : d.armed = false) (hc : d.cnt < 1000000) :
    Calls Try.prog 12 #[.pointer (some ⟨R, 0, none⟩)] w (OpenG w0 w R S v d L e) := by
  refine (open_any w R S v d h.dk (fun L' e' hr k hk => ?_)).mono ?_
  · obtain ⟨rfl, rfl⟩ := hl.rd.done hl.nw hr
    rw [hl.wipe k hk, hl.ws]
    exact ⟨by simp, hc⟩
  · rintro en w' ⟨L', e', v', d', hr, he, hD, hs, hcase⟩
    obtain ⟨rfl, rfl⟩ := hl.rd.done hl.nw hr
    rw [hl.wipe _ (Nat.le_refl _), flushed_nil hl.ws] at hcase
    rcases hcase with ⟨W, u, rfl, hW, hge, hL, rfl, _⟩ | ⟨_, hdn, k, hk, rfl⟩
    · exact ⟨W, u, v', _, rfl, ⟨h.step hD hs, hW, Nat.le_trans h.below.size hge, great_lt (curs_sec h.dk.ok), hl⟩, hge, hL, hs⟩
    · rw [hl.wipe k hk] at hdn
      simp [Dk.down, ha] at hdn
theorem AStep.mine {w0 w w' : World} {W R S : Nat} {v v' : Value} {d d' : Dk} (h : Mine w0 w R S v d) (hW : w0.heap.size ≤ W) (hs : AStep w w' W R S v v') (hd : DkAt w' R S v' d') : Mine w0 w' R S v' d' :=
  ⟨hd, ⟨hs.os.trans h.below.os, hs.tape.trans h.below.tape, hs.output.trans h.below.output, Nat.le_trans h.below.size hs.size, fun k hk => (hs.block k (Nat.lt_of_lt_of_le hk h.below.size) (by omega) (by have := h.hR; omega) (by have := h.hS; omega) (fun e => by have := h.hv k e; omega)).trans (h.below.block k hk)⟩, h.hR, h.hS, fun k hk => by
    rcases hs.moved k hk with e | e
    · exact h.hv k e
    · exact Nat.le_trans h.below.size e⟩
/-- What Append leaves, where there is room and the disk is not armed. -/
def AppG (w0 w : World) (W R S : Nat) (v : Value) (d : Dk) (L : List (List Nat)) (e : Nat) (b : List Nat) (en : Ending) (w' : World) : Prop :=
  ∃ v' d' st, en = .returned (.int .i64 0) ∧ LogW w0 w' W R S v' d' (L ++ [b]) (e + secs b.length) st ∧ AStep w w' W R S v v' ∧ d'.n = d.n ∧ d'.cnt = d.cnt + secs b.length ∧ d'.armed = false
theorem append_lg (w0 w : World) (W R S : Nat) (v u : Value) (d : Dk) (L : List (List Nat)) (e st : Nat) (b : List Nat) (h : LogW w0 w W R S v d L e st) (hu : BytesAt w u b) (hb : b.length ≤ 4096) (hr : e + secs b.length ≤ d.n) (ha : d.armed = false) (hc : d.cnt + 80 ≤ 1000000) :
    Calls Try.prog 13 #[.pointer (some ⟨W, 0, none⟩), u] w (AppG w0 w W R S v d L e b) := by
  have hlc := h.lg.cnt
  refine (append_any w W R S v u d L.length e st b h.mine.dk h.row hlc h.st hu hb hr (by rw [h.lg.ws]; simp) hc).mono ?_
  rintro en w' ⟨v', d', hD, hA, hcase⟩
  rcases hcase with ⟨rfl, rfl, hdn, hW⟩ | ⟨_, hdn, ⟨k, hk, rfl⟩, _⟩
  · have hn2 := h.mine.dk.ok.n2
    have hlg : Lg (layN (nextS st) (L.length + 1) b d e (secs b.length)).flushed (L ++ [b]) (e + secs b.length) := by
      have hsl := secs_le _ hb
      exact h.lg.app (nextS_pos st) (nextS_lt st) hn2 hb hr (layN_ok h.mine.dk.ok hu.1 _ hr (by rw [h.lg.ws, List.length_nil]; omega) (by omega))
    refine ⟨v', _, _, rfl, ⟨AStep.mine h.mine h.hW hA hD, by rw [List.length_append]; exact hW, h.hW, nextS_lt st, hlg⟩, hA, layN_n _ _ _ _ _ _, layN_cnt _ _ _ _ _ _, ?_⟩
    show (layN (nextS st) (L.length + 1) b d e (secs b.length)).armed = false
    rw [layN_armed]
    exact ha
  · simp [Dk.down, layN_armed, ha] at hdn
end Go.Proofs.Ytfhaphbfbmpbiaa
