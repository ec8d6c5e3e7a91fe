
/-
  package wal: what is read behind a crash, as plain lists; Open of any disk that is not armed; Append to a log at rest, whether its disk is armed or not.
-/
import Derived.Test.YtfhaphbfbmpbiaaWaL3
namespace Go.Proofs.Ytfhaphbfbmpbiaa
open Go.RowKit
set_option maxRecDepth 100000
set_option linter.unusedVariables false
set_option linter.unusedSimpArgs false

theorem wipeN_armed (Z : List (List Nat)) (d : Dk) (f : Nat) : ∀ k, (wipeN Z d f k).armed = d.armed
  | 0 => rfl
  | k + 1 => by
    cases hb : blank (Z.getD (f + k) []) with
    | true => rw [wipeN_yes hb]; exact wipeN_armed Z d f k
    | false => rw [wipeN_no hb]; exact wipeN_armed Z d f k
theorem recK_pad (st num : Nat) (b : List Nat) (k : Nat) : pad (recK st num b k) = recK st num b k := by
  unfold pad
  rw [show (recK st num b k).length = 64 from sealL_len (chunk_len _ _)]
  simp [zs]
theorem layN_left (st num : Nat) (b : List Nat) (d : Dk) (f : Nat) (ha : d.armed = true) : ∀ k, (layN st num b d f k).left = d.left - k
  | 0 => rfl
  | k + 1 => by
    show (if (layN st num b d f k).armed then (layN st num b d f k).left - 1 else (layN st num b d f k).left) = _
    rw [layN_armed, ha, if_pos rfl, layN_left st num b d f ha k]
    omega
theorem layN_F (st num : Nat) (b : List Nat) (d : Dk) (f : Nat) : ∀ k, (layN st num b d f k).F = d.F
  | 0 => rfl
  | k + 1 => layN_F st num b d f k
/-- What the sectors are behind a crash. -/
theorem lay_setl {st num : Nat} {b : List Nat} {d : Dk} {e : Nat} {f : Nat → Nat} (hf : ∀ i, f i ≤ 64) (hF : d.F.length = 64 * d.n) (hw : d.ws = []) : ∀ k, e + k ≤ d.n →
    (setl f d.F (layN st num b d e k).ws).length = 64 * d.n ∧ ∀ p, p < d.n → sec (setl f d.F (layN st num b d e k).ws) p = if e ≤ p ∧ p < e + k then (recK st num b (p - e)).take (f (p - e)) ++ (sec d.F p).drop (f (p - e)) else sec d.F p
  | 0, _ => by
    have : (layN st num b d e 0).ws = [] := hw
    rw [this]
    exact ⟨hF, fun p _ => by rw [if_neg (by omega)]; rfl⟩
  | k + 1, h => by
    obtain ⟨h1, h2⟩ := lay_setl (st := st) (num := num) (b := b) (e := e) hf hF hw k (by omega)
    have e1 : (layN st num b d e (k + 1)).ws = (layN st num b d e k).ws ++ [(e + k, recK st num b k)] := by
      show (layN st num b d e k).ws ++ [(e + k, pad (recK st num b k))] = _
      rw [recK_pad]
    have e2 : (layN st num b d e k).ws.length = k := by rw [layN_ws, hw]; simp
    rw [e1, setl_snoc, e2]
    have hl : (recK st num b k).length = 64 := sealL_len (chunk_len _ _)
    have hek : e + k < d.n := by omega
    refine ⟨settle_len h1 hek hl (hf k), fun p hp => ?_⟩
    rw [sec_settle h1 hek hl (hf k) p hp]
    by_cases c : p = e + k
    · subst c
      rw [if_pos rfl, if_pos (by omega), h2 _ hp, if_neg (by omega), show e + k - e = k by omega]
    · rw [if_neg c, h2 p hp]
      by_cases c2 : e ≤ p ∧ p < e + k
      · rw [if_pos c2, if_pos (by omega)]
      · rw [if_neg c2, if_neg (by omega)]
theorem torn_back0 {t : List Nat} (ht : t.length = 64) {m : Nat} (hm : m ≤ 60) : back (t.take m ++ (zs 64).drop m) = 0 := by
  unfold back
  have e : (t.take m ++ (zs 64).drop m).drop 60 = zs 4 := by
    rw [List.drop_append, List.drop_eq_nil_of_le (by rw [List.length_take]; omega), List.nil_append, List.drop_drop, List.length_take, ht, Nat.min_eq_left (by omega)]
    unfold zs
    rw [List.drop_replicate]
    congr 1
    omega
  rw [e]
  decide
theorem torn_take {t : List Nat} (ht : t.length = 64) {m : Nat} (hm : 60 ≤ m) (z : List Nat) : (t.take m ++ z).take 60 = t.take 60 := by
  rw [List.take_append_of_le_length (by rw [List.length_take]; omega), List.take_take, Nat.min_eq_left hm]
theorem front_take (s : List Nat) : front s = front (s.take 60) := by unfold front; rw [List.take_take]; rfl
theorem load_take (s : List Nat) : load s = load (s.take 60) := by
  unfold load
  rw [List.drop_take, List.take_take]
  rfl
/-- A sector that a crash tore, but that bears its stamp behind, is whole. -/
theorem torn_true {st num : Nat} {b : List Nat} {k m : Nat} (h0 : 0 < st) (h1 : st < 4294967296) (h8 : W8 b) (hm : m ≤ 64) (hb : back ((recK st num b k).take m ++ (zs 64).drop m) = st) :
    60 < m ∧ (recK st num b k).take m ++ (zs 64).drop m = recK st num b k := by
  have hs := recK_sec (st := st) (num := num) h8 k
  have h60 : 60 < m := by
    apply Nat.lt_of_not_le
    intro hc
    rw [torn_back0 hs.len hc] at hb
    omega
  refine ⟨h60, ?_⟩
  have hl : ((recK st num b k).take m ++ (zs 64).drop m).length = 64 := by rw [List.length_append, List.length_take, List.length_drop, hs.len, zs_len]; omega
  have hw : W8 ((recK st num b k).take m ++ (zs 64).drop m) := (hs.w8.take m).append ((zs_w8 64).drop m)
  have e1 : ((recK st num b k).take m ++ (zs 64).drop m).take 60 = (recK st num b k).take 60 := torn_take hs.len (by omega) _
  generalize (recK st num b k).take m ++ (zs 64).drop m = s at *
  have e2 : s.drop 60 = enc 4 st := by
    unfold back at hb
    have hd : (s.drop 60).length = 4 := by rw [List.length_drop]; omega
    rw [List.take_of_length_le (by omega)] at hb
    have := enc_be (s.drop 60) (hw.drop 60)
    rw [hb, hd] at this
    exact this.symm
  have e3 : (recK st num b k).drop 60 = enc 4 st := seal_drop60 (chunk_len _ _)
  rw [← List.take_append_drop 60 s, e1, e2, ← e3, List.take_append_drop]
theorem torn_whole {Z : List (List Nat)} {e st num : Nat} {b : List Nat} {k : Nat} {f : Nat → Nat} (h0 : 0 < st) (h1 : st < 4294967296) (h8 : W8 b) (hb4 : b.length ≤ 4096) (hf : ∀ i, f i ≤ 64)
    (hZ : ∀ i, i < secs b.length → Z.getD (e + i) [] = if i < k then (recK st num b i).take (f i) ++ (zs 64).drop (f i) else zs 64) (hw : Whole Z e num) :
    ∀ i, i < secs b.length → i < k ∧ 60 < f i ∧ Z.getD (e + i) [] = recK st num b i := by
  have hp := secs_pos b.length
  have a0 := hw.all 0 (secs_pos _)
  have z0 := hZ 0 hp
  rw [Nat.add_zero] at a0 z0
  have hk : 0 < k := by
    apply Nat.pos_of_ne_zero
    intro hc
    subst hc
    rw [if_neg (by omega)] at z0
    exact hw.st (by rw [z0]; decide)
  rw [if_pos hk] at z0
  have hs := recK_sec (st := st) (num := num) h8 0
  have h60 : 60 < f 0 := by
    apply Nat.lt_of_not_le
    intro hc
    have hb0 : back (Z.getD e []) = 0 := by rw [z0]; exact torn_back0 hs.len hc
    have := a0.2
    rw [hb0] at this
    exact hw.st this.symm
  have ht : (Z.getD e []).take 60 = (recK st num b 0).take 60 := by rw [z0]; exact torn_take hs.len (by omega) _
  have hfr : front (Z.getD e []) = st := by rw [front_take, ht, ← front_take, recK_front h1]
  have hld : load (Z.getD e []) = load (recK st num b 0) := by rw [load_take, ht, ← load_take]
  have hwl : wlen (Z.getD e []) = b.length := by
    have := wlen0 (st := st) (num := num) hb4
    unfold wlen at this ⊢
    rw [hld]
    exact this
  intro i hi
  have ai := hw.all i (by rw [hwl]; exact hi)
  rw [hfr] at ai
  have zi := hZ i hi
  have hik : i < k := by
    apply Nat.lt_of_not_le
    intro hc
    rw [if_neg (by omega)] at zi
    have := ai.2
    rw [zi] at this
    have z0 : back (zs 64) = 0 := by decide
    omega
  rw [if_pos hik] at zi
  have hb := ai.2
  rw [zi] at hb
  obtain ⟨q1, q2⟩ := torn_true h0 h1 h8 (hf i) hb
  exact ⟨hik, q1, by rw [zi, q2]⟩
theorem Rl.reads {Z L L' : List (List Nat)} {e e' : Nat} (hr : Rl Z L e L' e') : Reads Z L e → Reads Z L' e' := by
  induction hr with
  | stop _ => exact fun h => h
  | step hw _ ih => exact fun h => ih (.snoc h hw)
/-- A disk behind a crash. -/
def crashed (f : Nat → Nat) (d : Dk) : Dk := { d with F := setl f d.F d.ws, ws := [], armed := false, left := 0 }
/-- What is read behind a crash on the way of Append: what was there, and perhaps the one on its way. -/
theorem crash_rl {d : Dk} {L : List (List Nat)} {e st : Nat} {b : List Nat} {k : Nat} {f : Nat → Nat} {L' : List (List Nat)} {e' : Nat} (h : Lg d L e) (hF : d.F.length = 64 * d.n) (hn : d.n ≤ 4096) (h0 : 0 < st) (h1 : st < 4294967296) (h8 : W8 b) (hb4 : b.length ≤ 4096) (hf : ∀ i, f i ≤ 64)
    (hroom : e + secs b.length ≤ d.n) (hk : k ≤ secs b.length) (hr : Rl ((crashed f (layN st (L.length + 1) b d e k)).curs d.n) [] 0 L' e') :
    (L' = L ∧ e' = e) ∨ (L' = L ++ [b] ∧ e' = e + secs b.length ∧ ∀ i, i < secs b.length → i < k ∧ 60 < f i) := by
  obtain ⟨hl, hsec⟩ := lay_setl (st := st) (num := L.length + 1) (b := b) (e := e) hf hF h.ws k (by omega)
  have hcur : ∀ p, p < d.n → (crashed f (layN st (L.length + 1) b d e k)).cur p = if e ≤ p ∧ p < e + k then (recK st (L.length + 1) b (p - e)).take (f (p - e)) ++ (sec d.F p).drop (f (p - e)) else sec d.F p := fun p hp => by
    rw [← hsec p hp]
    show sec (setl f (layN st (L.length + 1) b d e k).F (layN st (L.length + 1) b d e k).ws) p = _
    rw [layN_F]
  have hz : ∀ p, e ≤ p → p < d.n → sec d.F p = zs 64 := fun p q1 q2 => by
    have := h.ze p q1 q2
    unfold Dk.cur at this
    rw [h.ws] at this
    exact this
  have hold : ∀ p, p < d.n → d.cur p = sec d.F p := fun p _ => by unfold Dk.cur; rw [h.ws]; rfl
  generalize crashed f (layN st (L.length + 1) b d e k) = dc at *
  have hrd : Reads (dc.curs d.n) L e := h.rd.congr (by rw [curs_len]; exact h.le) (fun i hi => by
    have := h.le
    rw [curs_getD _ (by omega), curs_getD _ (by omega), hcur i (by omega), if_neg (by omega), hold i (by omega)])
  by_cases hw : Whole (dc.curs d.n) e (L.length + 1)
  · refine Or.inr ?_
    have hlc := h.cnt
    have hp := secs_pos b.length
    have hall := torn_whole h0 h1 h8 hb4 hf (fun i hi => by
      rw [curs_getD _ (by omega), hcur _ (by omega)]
      by_cases c : i < k
      · rw [if_pos (by omega), if_pos c, hz _ (by omega) (by omega), show e + i - e = i by omega]
      · rw [if_neg (by omega), if_neg c, hz _ (by omega) (by omega)]) hw
    obtain ⟨_, hre, hwl⟩ := rec_whole (fun i hi => (hall i hi).2.2) (by rw [curs_len]; exact hroom) h0 h1 (by omega) hb4
    have h3 := Reads.snoc hrd hw
    rw [hre, hwl] at h3
    have h4 : ¬ Whole (dc.curs d.n) (e + secs b.length) ((L ++ [b]).length + 1) := zs_not fun hlt => by
      rw [curs_len] at hlt
      rw [curs_getD _ hlt, hcur _ hlt, if_neg (by omega), hz _ (by omega) hlt]
    obtain ⟨rfl, rfl⟩ := h3.done h4 hr
    exact ⟨rfl, rfl, fun i hi => ⟨(hall i hi).1, (hall i hi).2.1⟩⟩
  · exact Or.inl (hrd.done hw hr)
theorem Lg.arm {d : Dk} {L : List (List Nat)} {e : Nat} (h : Lg d L e) (a : Bool) (n : Nat) : Lg { d with armed := a, left := n } L e := by
  obtain ⟨F, m, ws, cnt, armed, left⟩ := d
  obtain ⟨h1, h2, h3, h4⟩ := h
  exact ⟨h1, h2, h3, h4⟩
theorem wipeN_ok {Z : List (List Nat)} {d : Dk} {f : Nat} (h : d.Ok) : ∀ k, f + k ≤ d.n → d.ws.length + k ≤ 1000 → d.cnt + k ≤ 1000000 → (wipeN Z d f k).Ok
  | 0, _, _, _ => h
  | k + 1, h1, h2, h3 => by
    have ih := wipeN_ok (Z := Z) (f := f) h k (by omega) (by omega) (by omega)
    have hb := wipeN_bound Z d f k
    cases hc : blank (Z.getD (f + k) []) with
    | true => rw [wipeN_yes hc]; exact ih
    | false => rw [wipeN_no hc]; exact ih.put (by rw [wipeN_n]; omega) (by simp) (fun x hx => by cases hx) (by omega) (by omega)
/-- What Open leaves on the disk. -/
theorem Lg.opened {d : Dk} {L : List (List Nat)} {e : Nat} (hr : Rl (d.curs d.n) [] 0 L e) (he : e ≤ d.n) (ho : (wipeN (d.curs d.n) d e (d.n - e)).Ok) : Lg (wipeN (d.curs d.n) d e (d.n - e)).flushed L e := by
  have hn : (wipeN (d.curs d.n) d e (d.n - e)).flushed.n = d.n := wipeN_n _ _ _ _
  have hcur : ∀ p, p < d.n → (wipeN (d.curs d.n) d e (d.n - e)).flushed.cur p = if e ≤ p then zs 64 else d.cur p := fun p hp => by
    rw [flushed_cur ho (by rw [wipeN_n]; exact hp), wipeN_cur (curs_getD d hp)]
    by_cases c : e ≤ p
    · rw [if_pos (by omega), if_pos c]
    · rw [if_neg (by omega), if_neg c]
  have hws : (wipeN (d.curs d.n) d e (d.n - e)).flushed.ws = [] := rfl
  generalize (wipeN (d.curs d.n) d e (d.n - e)).flushed = d' at *
  refine ⟨hws, ?_, by omega, fun p h1 h2 => by rw [hcur p (by omega), if_pos h1]⟩
  refine (hr.reads .nil).congr (by rw [curs_len]; omega) fun i hi => ?_
  rw [curs_getD _ (by omega), curs_getD _ (by omega), hcur i (by omega), if_neg (by omega)]
/-- What Open leaves of a disk that is not armed. -/
def OpenC (w0 w : World) (R S : Nat) (v : Value) (d : Dk) (en : Ending) (w' : World) : Prop :=
  ∃ W u v' st L e d', en = .returned (.tuple #[.pointer (some ⟨W, 0, none⟩), u, .int .i64 0]) ∧ Rl (d.curs d.n) [] 0 L e ∧ LogW w0 w' W R S v' d' L e st ∧ w.heap.size ≤ W ∧ LogAt w' w.heap.size u L ∧ DStep w w' R S v v' ∧ d'.n = d.n ∧ d'.armed = false ∧ d'.cnt ≤ d.cnt + d.n
theorem open_c (w0 w : World) (R S : Nat) (v : Value) (d : Dk) (h : Mine w0 w R S v d) (ha : d.armed = false) (hw : d.ws.length + d.n < 1000) (hc : d.cnt + d.n < 1000000) :
    Calls Try.prog 12 #[.pointer (some ⟨R, 0, none⟩)] w (OpenC w0 w R S v d) := by
  refine (open_any w R S v d h.dk (fun L' e' hr k hk => ?_)).mono ?_
  · have := wipeN_bound (d.curs d.n) d e' k
    omega
  · rintro en w' ⟨L', e', v', d', hr, he, hD, hs, hcase⟩
    have hb := wipeN_bound (d.curs d.n) d e' (d.n - e')
    rcases hcase with ⟨W, u, rfl, hW, hge, hL, rfl, _⟩ | ⟨_, hdn, k, hk, rfl⟩
    · refine ⟨W, u, v', _, L', e', _, rfl, hr, ⟨h.step hD hs, hW, Nat.le_trans h.below.size hge, great_lt (curs_sec h.dk.ok), ?_⟩, hge, hL, hs, wipeN_n _ _ _ _, ?_, ?_⟩
      · exact Lg.opened hr he (wipeN_ok h.dk.ok _ (by omega) (by omega) (by omega))
      · show (wipeN (d.curs d.n) d e' (d.n - e')).armed = false
        rw [wipeN_armed, ha]
      · show (wipeN (d.curs d.n) d e' (d.n - e')).cnt ≤ _
        omega
    · simp [Dk.down, wipeN_armed, ha] at hdn
/-- What Append leaves, where there is room. -/
def AppC (w0 w : World) (W R S : Nat) (v : Value) (d : Dk) (L : List (List Nat)) (e : Nat) (b : List Nat) (en : Ending) (w' : World) : Prop :=
  ∃ v' d', AStep w w' W R S v v' ∧ Mine w0 w' R S v' d' ∧ d'.n = d.n ∧ d'.cnt ≤ d.cnt + secs b.length ∧ d'.armed = d.armed ∧
    ((en = .returned (.int .i64 0) ∧ d'.down = false ∧ (d.armed = true → d'.left = d.left - secs b.length) ∧ ∃ st, LogW w0 w' W R S v' d' (L ++ [b]) (e + secs b.length) st) ∨
     (en = .returned (.int .i64 4) ∧ d'.down = true ∧ d'.ws.length ≤ 80 ∧ ∃ k st, k ≤ secs b.length ∧ 0 < st ∧ st < 4294967296 ∧ d' = layN st (L.length + 1) b d e k))
theorem append_c (w0 w : World) (W R S : Nat) (v u : Value) (d : Dk) (L : List (List Nat)) (e st : Nat) (b : List Nat) (h : LogW w0 w W R S v d L e st) (hu : BytesAt w u b) (hb : b.length ≤ 4096) (hr : e + secs b.length ≤ d.n) (hc : d.cnt + 80 ≤ 1000000) :
    Calls Try.prog 13 #[.pointer (some ⟨W, 0, none⟩), u] w (AppC w0 w W R S v d L e b) := by
  have hlc := h.lg.cnt
  have hsl := secs_le _ hb
  refine (append_any w W R S v u d L.length e st b h.mine.dk h.row hlc h.st hu hb hr (by rw [h.lg.ws]; simp) hc).mono ?_
  rintro en w' ⟨v', d', hD, hA, hcase⟩
  rcases hcase with ⟨rfl, rfl, hdn, hW⟩ | ⟨rfl, hdn, ⟨k, hk, rfl⟩, _⟩
  · have hn2 := h.mine.dk.ok.n2
    have hlg : Lg (layN (nextS st) (L.length + 1) b d e (secs b.length)).flushed (L ++ [b]) (e + secs b.length) :=
      h.lg.app (nextS_pos st) (nextS_lt st) hn2 hb hr (layN_ok h.mine.dk.ok hu.1 _ hr (by rw [h.lg.ws, List.length_nil]; omega) (by omega))
    have hm := AStep.mine h.mine h.hW hA hD
    refine ⟨v', _, hA, hm, layN_n _ _ _ _ _ _, Nat.le_of_eq (layN_cnt _ _ _ _ _ _), layN_armed _ _ _ _ _ _, Or.inl ⟨rfl, hdn, (fun ha => layN_left _ _ _ _ _ ha _), _, ⟨hm, by rw [List.length_append]; exact hW, h.hW, nextS_lt st, hlg⟩⟩⟩
  · have hm := AStep.mine h.mine h.hW hA hD
    refine ⟨v', _, hA, hm, layN_n _ _ _ _ _ _, by rw [layN_cnt]; omega, layN_armed _ _ _ _ _ _, Or.inr ⟨rfl, hdn, by rw [layN_ws, h.lg.ws, List.length_nil]; omega, k, nextS st, hk, nextS_pos st, nextS_lt st, rfl⟩⟩
end Go.Proofs.Ytfhaphbfbmpbiaa
