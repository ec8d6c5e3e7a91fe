/-
  u128.addDigit, u128.Parse. For every number and digit, for every string.
-/
import Derived.Test.YtcmjinkhfgmgaaaPrint
import Derived.Test.YtcmjinkhfgmgaaaFit
import Derived.Test.YtcmjinkhfgmgaaaLPrints
import Derived.Laws.RangeAny
namespace Go.Proofs.Ytcmjinkhfgmgaaa
open Go.RowKit

set_option maxRecDepth 100000 in
theorem addDigit_any (ah al d : Int) (w : World) (h1 : Word ah) (h2 : Word al) (h3 : 0 ≤ d) (h4 : d < 10) :
    Calls Try.prog 30 #[.agg #[.int .u64 ah, .int .u64 al], .int .u64 d] w fun e w' => ∃ yh yl ok, e = .returned (.tuple #[.agg #[.int .u64 yh, .int .u64 yl], .bool ok]) ∧ Word yh ∧ Word yl ∧
      ((ok = true ∧ yh * 18446744073709551616 + yl = (ah * 18446744073709551616 + al) * 10 + d) ∨ (ok = false ∧ 340282366920938463463374607431768211456 ≤ (ah * 18446744073709551616 + al) * 10 + d ∧ yh = 0 ∧ yl = 0)) ∧ Below w.heap.size w w' := by
  obtain ⟨a1, a2⟩ := id h1
  obtain ⟨b1, b2⟩ := id h2
  by_cases hc : ah * 10 / 18446744073709551616 = 0
  · have hc' : (ah * 10 / 18446744073709551616 == 0) = true := by simp [hc]
    go_enter Try.func30, Try.ntmps30
    go_wp2_with fail
    refine (mul10 ah _ a1 a2).mono ?_
    rintro e w1 ⟨rfl, rfl⟩
    go_wp2_with fail
    refine (mul10 al _ b1 b2).mono ?_
    rintro e w1 ⟨rfl, rfl⟩
    go_wp2_with fail
    refine (of_any _ _).mono ?_
    rintro e w2 ⟨rfl, hb2⟩
    go_wp2_with fail
    refine (add3_new _ _ rfl _ _ _ _ _ _ _ _ ⟨by omega, by omega⟩ word_zero ⟨by omega, by omega⟩ ⟨by omega, by omega⟩ word_zero ⟨by omega, by omega⟩).mono ?_
    rintro e w3 ⟨rfl, hb3⟩
    rw [show ah * 10 % 18446744073709551616 * 18446744073709551616 + 0 + (al * 10 / 18446744073709551616 * 18446744073709551616 + al * 10 % 18446744073709551616) + (0 * 18446744073709551616 + d) = (ah * 18446744073709551616 + al) * 10 + d from by omega]
    have NR := (NumAt.new (w.alloc (.cells #[.int .u64 ah, .int .u64 al] 27)) 0 0 27).later (chain hb2 hb3)
    have FR := (chain hb2 hb3).frozen (p := ⟨w.heap.size + 1, 0, none⟩) (by simp)
    have FR2 := (chain hb2 hb3).frozen (p := ⟨w.heap.size + 1, 1, none⟩) (by simp)
    have bel := chain (below2 w _ _) (chain hb2 hb3)
    obtain ⟨zR, R0, R1⟩ := NR
    simp only [World.size_alloc] at zR R0 R1
    simp [World.frozen?_alloc_at] at FR FR2
    clear hb2 hb3
    by_cases hs : (ah * 18446744073709551616 + al) * 10 + d < 340282366920938463463374607431768211456
    · rw [addV_yes hs]
      generalize g1 : ((ah * 18446744073709551616 + al) * 10 + d) / 18446744073709551616 = yh
      generalize g2 : ((ah * 18446744073709551616 + al) * 10 + d) % 18446744073709551616 = yl
      have k1 : Word yh := ⟨by omega, by omega⟩
      have k2 : Word yl := ⟨by omega, by omega⟩
      have k3 : yh * 18446744073709551616 + yl = (ah * 18446744073709551616 + al) * 10 + d := by omega
      clear g1 g2
      go_wp2
      refine bodyPost_ret (v := .tuple #[.agg #[.int .u64 yh, .int .u64 yl], .bool true]) (by simp [results, Try.results30, go_sem, *]) rfl ⟨yh, yl, true, rfl, k1, k2, .inl ⟨rfl, k3⟩, ?_⟩
      exact (bel.setCell (by simp) _).setCell (by simp) _
    · rw [addV_no hs]
      go_wp2
      refine bodyPost_ret (v := .tuple #[.agg #[.int .u64 0, .int .u64 0], .bool false]) (by simp [results, Try.results30, go_sem, *]) rfl ⟨0, 0, false, rfl, word_zero, word_zero, .inr ⟨rfl, by omega, rfl, rfl⟩, ?_⟩
      exact (bel.setCell (by simp) _).setCell (by simp) _
  · have hc' : (ah * 10 / 18446744073709551616 == 0) = false := by simp [hc]
    go_enter Try.func30, Try.ntmps30
    go_wp2_with fail
    refine (mul10 ah _ a1 a2).mono ?_
    rintro e w1 ⟨rfl, rfl⟩
    go_wp2
    refine bodyPost_ret (v := .tuple #[.agg #[.int .u64 0, .int .u64 0], .bool false]) (by simp [results, Try.results30, go_sem]) rfl ⟨0, 0, false, rfl, word_zero, word_zero, .inr ⟨rfl, by omega, rfl, rfl⟩, below2 _ _ _⟩

/-- The bytes of a string, as numbers. -/
def bl (s : ByteArray) : List Int := s.data.toList.map fun b => (b.toNat : Int)
theorem bl_len (s : ByteArray) : (bl s).length = s.size := by simp [bl]
theorem bl_at (s : ByteArray) (k : Nat) (h : k < s.size) : (bl s).getD k 0 = ((s[k]'h).toNat : Int) := by
  have h' : k < s.data.size := h
  simp [bl]
  rw [Array.getElem?_eq_getElem h']
  rfl
/-- Digits alone, and no nought ahead of more. -/
def good (l : List Int) : Prop := l ≠ [] ∧ (l.getD 0 0 = 48 → l.length = 1) ∧ ∀ c ∈ l, 48 ≤ c ∧ c ≤ 57

/-- What Parse answers. -/
def ParseQ (s : ByteArray) (w : World) (e : Ending) (w' : World) : Prop := ∃ yh yl ok, e = .returned (.tuple #[.agg #[.int .u64 yh, .int .u64 yl], .bool ok]) ∧ Word yh ∧ Word yl ∧
      ((ok = true ∧ good (bl s) ∧ yh * 18446744073709551616 + yl = (valOf (bl s) : Int)) ∨ (ok = false ∧ yh = 0 ∧ yl = 0 ∧ ¬ (good (bl s) ∧ valOf (bl s) < 340282366920938463463374607431768211456))) ∧ Below w.heap.size w w'
theorem ParseQ.yes {s : ByteArray} {w w' : World} {yh yl : Int} (h1 : Word yh) (h2 : Word yl) (h3 : good (bl s)) (h4 : yh * 18446744073709551616 + yl = (valOf (bl s) : Int)) (hb : Below w.heap.size w w') :
    ParseQ s w (.returned (.tuple #[.agg #[.int .u64 yh, .int .u64 yl], .bool true])) w' := ⟨yh, yl, true, rfl, h1, h2, .inl ⟨rfl, h3, h4⟩, hb⟩
theorem ParseQ.no {s : ByteArray} {w w' : World} (h : ¬ (good (bl s) ∧ valOf (bl s) < 340282366920938463463374607431768211456)) (hb : Below w.heap.size w w') :
    ParseQ s w (.returned (.tuple #[.agg #[.int .u64 0, .int .u64 0], .bool false])) w' := ⟨0, 0, false, rfl, word_zero, word_zero, .inr ⟨rfl, rfl, rfl, h⟩, hb⟩

/-- The string's iterator, set on. -/
def stepIter (w : World) (I : Nat) (s : ByteArray) (p : Nat) : World := { w with heap := w.heap.setIfInBounds I (.stringIter s p) }
theorem run_next_at {P : Program} (w : World) (I : Nat) (s : ByteArray) (pos : Nat) (ty : TypeId) (hI : w.heap[I]? = some (.stringIter s pos)) (h : pos < s.size) :
    (Instr.next (.pointer (some ⟨I, 0, none⟩)) true ty).run P w = .ok (.tuple #[.bool true, .int .i64 pos, .int .i32 (Utf8.decode s pos).1]) (stepIter w I s (pos + (Utf8.decode s pos).2)) := by
  simp only [Instr.next, getObj, setObj, Sem.run_bind, Sem.run, hI, Result.andThen, h, if_true]
  simp [goInt, stepIter]
theorem run_next_stop {P : Program} (w : World) (I : Nat) (s : ByteArray) (pos : Nat) (ty : TypeId) (hI : w.heap[I]? = some (.stringIter s pos)) (h : ¬ pos < s.size) :
    (Instr.next (.pointer (some ⟨I, 0, none⟩)) true ty).run P w = .ok (.tuple #[.bool false]) w := by
  simp [Instr.next, getObj, Sem.run, hI, h]
theorem stepIter_at (w : World) (I : Nat) (s : ByteArray) (p : Nat) (h : I < w.heap.size) : (stepIter w I s p).heap[I]? = some (.stringIter s p) := by
  simp [stepIter, h]
theorem stepIter_else (w : World) (I : Nat) (s : ByteArray) (p k : Nat) (h : k ≠ I) : (stepIter w I s p).heap[k]? = w.heap[k]? := by
  simp [stepIter, Array.getElem?_setIfInBounds_ne (Ne.symm h)]
theorem stepIter_size (w : World) (I : Nat) (s : ByteArray) (p : Nat) : (stepIter w I s p).heap.size = w.heap.size := by simp [stepIter]
theorem stepIter_below {B : Nat} {w0 w : World} (h : Below B w0 w) (I : Nat) (s : ByteArray) (p : Nat) (hB : B ≤ I) : Below B w0 (stepIter w I s p) :=
  h.trans ⟨rfl, rfl, rfl, by rw [stepIter_size]; exact Nat.le_refl _, fun k hk => stepIter_else w I s p k (by omega)⟩

/-- A variable of two words: what it holds, and that it may be written. -/
structure PaV (w : World) (b : Nat) (hi lo : Int) : Prop where
  n : NumAt w b hi lo
  f0 : w.frozen? ⟨b, 0, none⟩ = false
  f1 : w.frozen? ⟨b, 1, none⟩ = false
theorem PaV.new (w : World) (a b : Int) (t : TypeId) : PaV (w.alloc (.cells #[.int .u64 a, .int .u64 b] t)) w.heap.size a b := ⟨NumAt.new w a b t, by simp, by simp⟩
theorem PaV.later {w w' : World} {b : Nat} {hi lo : Int} (h : PaV w b hi lo) (hb : Below w.heap.size w w') : PaV w' b hi lo :=
  ⟨h.n.later hb, (hb.frozen (p := ⟨b, 0, none⟩) h.n.1).trans h.f0, (hb.frozen (p := ⟨b, 1, none⟩) h.n.1).trans h.f1⟩
theorem PaV.step {w : World} {b : Nat} {hi lo : Int} (h : PaV w b hi lo) (I : Nat) (s : ByteArray) (p : Nat) (hb : b ≠ I) : PaV (stepIter w I s p) b hi lo := by
  have e := stepIter_else w I s p b hb
  obtain ⟨⟨z, c0, c1⟩, f0, f1⟩ := h
  refine ⟨⟨by rw [stepIter_size]; exact z, ?_, ?_⟩, ?_, ?_⟩
  · rw [← c0]; simp only [World.cell?, e]
  · rw [← c1]; simp only [World.cell?, e]
  · rw [← f0]; simp only [World.frozen?, e]
  · rw [← f1]; simp only [World.frozen?, e]

theorem PaV.put {w : World} {b : Nat} {hi lo : Int} (h : PaV w b hi lo) (x y : Int) : PaV ((w.setCell ⟨b, 0, none⟩ (.int .u64 x)).setCell ⟨b, 1, none⟩ (.int .u64 y)) b x y := by
  obtain ⟨⟨z, c0, c1⟩, f0, f1⟩ := h
  exact ⟨⟨by simpa [World.setCell] using z, by simp [go_sem, c0], by simp [go_sem, c1]⟩, by simp [go_sem, f0], by simp [go_sem, f1]⟩
theorem PaV.apart {w : World} {b c : Nat} {hi lo : Int} (h : PaV w b hi lo) (hc : b ≠ c) (x y : Value) : PaV ((w.setCell ⟨c, 0, none⟩ x).setCell ⟨c, 1, none⟩ y) b hi lo := by
  obtain ⟨n, f0, f1⟩ := h
  exact ⟨n.apart hc x y, by simp [go_sem, f0], by simp [go_sem, f1]⟩
theorem heap_set_ne (w : World) (a : Addr) (u : Value) (k : Nat) (h : k ≠ a.block) : (w.setCell a u).heap[k]? = w.heap[k]? := by
  simp [World.setCell, Array.getElem?_modify, Ne.symm h]
theorem it_put {w : World} {A I : Nat} {o : Obj} (h : w.heap[I]? = some o) (hA : I ≠ A) (x y : Value) (ob : Obj) : (((w.setCell ⟨A, 0, none⟩ x).setCell ⟨A, 1, none⟩ y).alloc ob).heap[I]? = some o := by
  have e : ((w.setCell ⟨A, 0, none⟩ x).setCell ⟨A, 1, none⟩ y).heap[I]? = some o := by rw [heap_set_ne _ _ _ _ hA, heap_set_ne _ _ _ _ hA, h]
  have z : I < ((w.setCell ⟨A, 0, none⟩ x).setCell ⟨A, 1, none⟩ y).heap.size := by
    rcases Nat.lt_or_ge I ((w.setCell ⟨A, 0, none⟩ x).setCell ⟨A, 1, none⟩ y).heap.size with h' | h'
    · exact h'
    · rw [Array.getElem?_eq_none h'] at e; cases e
  rw [(below1 _ ob).block I z, e]
theorem mem_getD {l : List Int} {k : Nat} (h : k < l.length) : l.getD k 0 ∈ l := by
  rw [List.getD_eq_getElem?_getD, List.getElem?_eq_getElem h]
  exact List.getElem_mem h

/-- What lies there once k digits are read. -/
structure PaR (w wr : World) (s : ByteArray) (k : Nat) (xh xl : Int) : Prop where
  kk : k ≤ s.size
  ds : ∀ c ∈ (bl s).take k, 48 ≤ c ∧ c ≤ 57
  val : xh * 18446744073709551616 + xl = (valOf ((bl s).take k) : Int)
  wh : Word xh
  wl : Word xl
  a : PaV wr (w.heap.size + 1) xh xl
  r : PaV wr w.heap.size 0 0
  it : wr.heap[w.heap.size + 1 + 1]? = some (.stringIter s k)
  bel : Below w.heap.size w wr

set_option maxRecDepth 100000 in
theorem parse_any (s : ByteArray) (w : World) :
    Calls Try.prog 25 #[.string s] w (ParseQ s w) := by
  by_cases h0 : s.size = 0
  · have e0 : s.toList = [] := by rw [ByteArray.toList_eq]; exact List.eq_nil_of_length_eq_zero (by simpa using h0)
    have l0 : bl s = [] := List.eq_nil_of_length_eq_zero (by rw [bl_len]; exact h0)
    have e1 : s.toList.isEmpty = true := by rw [e0]; rfl
    go_enter Try.func25, Try.ntmps25
    go_wp2
    exact bodyPost_ret (v := .tuple #[.agg #[.int .u64 0, .int .u64 0], .bool false]) (by simp [results, Try.results25, go_sem]) rfl (ParseQ.no (fun h => h.1.1 l0) (below1 _ _))
  · have p0 : 0 < s.size := by omega
    have e0 : s.toList.isEmpty = false := by
      rw [ByteArray.toList_eq]
      cases hh : s.data.toList with
      | nil => exact absurd (by have := congrArg List.length hh; simpa using this) h0
      | cons _ _ => rfl
    have e1 : ¬ s.toList = [] := by intro h; rw [h] at e0; cases e0
    have q0 := bl_at s 0 p0
    by_cases h48 : ((s[0]'p0).toNat : Int) = 48
    · by_cases hl : 1 < s.size
      · have hl' : (1 : Int) < (s.size : Int) := by omega
        go_enter Try.func25, Try.ntmps25
        go_wp2
        exact bodyPost_ret (v := .tuple #[.agg #[.int .u64 0, .int .u64 0], .bool false]) (by simp [results, Try.results25, go_sem]) rfl (ParseQ.no (fun h => by have := h.1.2.1 (q0.trans h48); rw [bl_len] at this; omega) (below1 _ _))
      · have hl' : ¬ (1 : Int) < (s.size : Int) := by omega
        have hd : decide ((1 : Int) < (s.size : Int)) = false := decide_eq_false hl'
        have HG : Hid ((bl s).getD 0 0 = 48 → (bl s).length = 1) := fun _ => by rw [bl_len]; omega
        go_enter Try.func25, Try.ntmps25
        go_wp2
        clear q0 h48 hl hl' hd e0 e1
        go_loopw [3] (fun n wr => n = .bool false ∧ ∃ k xh xl, PaR w wr s k xh xl) (fun _ wr => s.size - wr.iterPos (w.heap.size + 1 + 1))
        case atStart =>
          refine ⟨rfl, 0, 0, 0, ⟨Nat.zero_le _, by simp, by simp [valOf], word_zero, word_zero, ?_, ?_, ?_, ?_⟩⟩
          · have := (PaV.new (w.alloc (.cells #[.int .u64 0, .int .u64 0] 27)) 0 0 27).later (below1 _ (.stringIter s 0))
            rw [World.size_alloc] at this
            exact this
          · exact (PaV.new w 0 0 27).later (below2 _ _ (.stringIter s 0))
          · have := World.iter_heap ((w.alloc (.cells #[.int .u64 0, .int .u64 0] 27)).alloc (.cells #[.int .u64 0, .int .u64 0] 27)) s 0
            simpa only [World.size_alloc] using this
          · exact below3 _ _ _ _
        case round =>
          obtain ⟨rfl, k, xh, xl, hr⟩ := hrel
          by_cases hp : k < s.size
          · have hnx := fun ty => run_next_at (P := Try.prog) wr (w.heap.size + 1 + 1) s k ty hr.it hp
            have hca : (s[k]'hp).toNat < 128 → Utf8.decode s k = ((s[k]'hp).toNat, 1) := decode_ascii s k hp
            have hch : ¬ (s[k]'hp).toNat < 128 → 128 ≤ (Utf8.decode s k).1 := fun h => (decode_high s k hp (by omega)).1
            have hcl := decode_le s k
            have hbk := bl_at s k hp
            have hI : w.heap.size + 1 + 1 < wr.heap.size := by
              rcases Nat.lt_or_ge (w.heap.size + 1 + 1) wr.heap.size with h | h
              · exact h
              · have := hr.it; rw [Array.getElem?_eq_none h] at this; cases this
            by_cases hd : 48 ≤ (Utf8.decode s k).1 ∧ (Utf8.decode s k).1 ≤ 57
            · have hc1 : (s[k]'hp).toNat < 128 := by
                rcases Nat.lt_or_ge (s[k]'hp).toNat 128 with h | h
                · exact h
                · have := hch (by omega); omega
              rw [hca hc1] at hnx hd
              obtain ⟨wn, hwn⟩ : ∃ wn, wn = stepIter wr (w.heap.size + 1 + 1) s (k + 1) := ⟨_, rfl⟩
              have VA : PaV wn (w.heap.size + 1) xh xl := hwn ▸ hr.a.step _ s _ (by omega)
              have VR : PaV wn w.heap.size 0 0 := hwn ▸ hr.r.step _ s _ (by omega)
              have VI : wn.heap[w.heap.size + 1 + 1]? = some (.stringIter s (k + 1)) := hwn ▸ stepIter_at _ _ _ _ hI
              have VB : Below w.heap.size w wn := hwn ▸ stepIter_below hr.bel _ s _ (by omega)
              have VZ : w.heap.size + 1 + 1 < wn.heap.size := by rw [hwn, stepIter_size]; exact hI
              simp only [← hwn] at hnx
              have hval := hr.val
              have hds := hr.ds
              have wh := hr.wh
              have wl := hr.wl
              have hmeas : s.size - wn.iterPos (w.heap.size + 1 + 1) < s.size - wr.iterPos (w.heap.size + 1 + 1) := by
                simp only [World.iterPos, VI, hr.it]; omega
              have htk := valOf_take_succ (bl s) k (by rw [bl_len]; exact hp)
              have htk2 : (bl s).take (k + 1) = (bl s).take k ++ [(bl s).getD k 0] := by
                rw [List.take_add_one]
                simp [List.getD_eq_getElem?_getD, show k < (bl s).length from by rw [bl_len]; exact hp]
              rw [hbk] at htk htk2
              clear hr hwn hI hca hch hcl hbk hc1
              generalize (s[k]'hp).toNat = cN at *
              have c0 : (48 : Int) ≤ (cN : Int) := by omega
              have c1 : (cN : Int) ≤ 57 := by omega
              have c2 : ¬ (cN : Int) < 48 := by omega
              have c3 : ¬ (57 : Int) < (cN : Int) := by omega
              have HX : Hid (valOf (List.take (k + 1) (bl s)) = valOf (List.take k (bl s)) * 10 + ((cN : Int) - 48).toNat ∧ List.take (k + 1) (bl s) = List.take k (bl s) ++ [(cN : Int)] ∧ xh * 18446744073709551616 + xl = (valOf ((bl s).take k) : Int) ∧ ∀ c ∈ (bl s).take k, 48 ≤ c ∧ c ≤ 57) := ⟨htk, htk2, hval, hds⟩
              clear htk htk2 hval hds
              obtain ⟨⟨zA, A0, A1⟩, fA0, fA1⟩ := id VA
              go_wp2_with fail
              refine (addDigit_any xh xl ((cN : Int) - 48) _ wh wl (by omega) (by omega)).mono ?_
              rintro e w4 ⟨yh, yl, ok, rfl, ky1, ky2, hy, hb4⟩
              have VA4 := VA.later hb4
              have VR4 := VR.later hb4
              have VB4 := chain VB hb4
              have VI4 := (hb4.block _ VZ).trans VI
              have hm4 : wn.iterPos (w.heap.size + 1 + 1) = w4.iterPos (w.heap.size + 1 + 1) := by simp only [World.iterPos, VI, VI4]
              rw [hm4] at hmeas
              clear zA A0 A1 fA0 fA1 VA VR VB VI VZ hb4 hm4
              rcases hy with ⟨rfl, hy⟩ | ⟨rfl, hy, rfl, rfl⟩
              · obtain ⟨⟨zA, A0, A1⟩, fA0, fA1⟩ := id VA4
                go_wp2
                have hit := it_put VI4 (show w.heap.size + 1 + 1 ≠ w.heap.size + 1 by omega) (.int .u64 yh) (.int .u64 yl) (.cells #[.int .u64 yh, .int .u64 yl] 27)
                obtain ⟨x1, x2, x3, x4⟩ := HX.out
                go_roundw
                case rel =>
                  refine ⟨rfl, k + 1, yh, yl, ⟨by omega, ?_, ?_, ky1, ky2, (VA4.put yh yl).later (below1 _ _), (VR4.apart (by omega) _ _).later (below1 _ _), hit, chainA ((VB4.setCell (by simp) _).setCell (by simp) _) _⟩⟩
                  · rw [x2]
                    intro c hc
                    rcases List.mem_append.1 hc with hc | hc
                    · exact x4 c hc
                    · rw [List.mem_singleton] at hc; subst hc; exact ⟨c0, c1⟩
                  · rw [hy, x1, x3]; omega
                case measure =>
                  simp only [World.iterPos, hit]
                  simp only [World.iterPos, VI4] at hmeas
                  exact hmeas
              · obtain ⟨⟨zR, R0, R1⟩, fR0, fR1⟩ := id VR4
                go_wp2
                refine bodyPost_ret (v := .tuple #[.agg #[.int .u64 0, .int .u64 0], .bool false]) (by simp [results, Try.results25, go_sem, *]) rfl (ParseQ.no (fun h => ?_) ?_)
                · obtain ⟨x1, x2, x3, x4⟩ := HX.out
                  have x5 := valOf_take_le (bl s) (k + 1)
                  have x6 := h.2
                  omega
                · first
                  | exact chainA ((VB4.setCell (by simp) _).setCell (by simp) _) _
                  | exact ((chainA VB4 _).setCell (by simp) _).setCell (by simp) _
            · have hng : Hid (¬ good (bl s)) := fun h => by
                have hm := h.2.2 _ (mem_getD (l := bl s) (k := k) (by rw [bl_len]; exact hp))
                rw [hbk] at hm
                have := hca (by omega)
                rw [this] at hd
                exact hd (by simp only; omega)
              obtain ⟨wn, hwn⟩ : ∃ wn, wn = stepIter wr (w.heap.size + 1 + 1) s (k + (Utf8.decode s k).2) := ⟨_, rfl⟩
              have VR : PaV wn w.heap.size 0 0 := hwn ▸ hr.r.step _ s _ (by omega)
              have VB : Below w.heap.size w wn := hwn ▸ stepIter_below hr.bel _ s _ (by omega)
              simp only [← hwn] at hnx
              clear hr hwn hI hca hch hbk
              generalize (Utf8.decode s k).1 = cN at *
              obtain ⟨⟨zR, R0, R1⟩, fR0, fR1⟩ := id VR
              by_cases hlow : cN < 48
              · have c2 : (cN : Int) < 48 := by omega
                clear hd
                go_wp2
                exact bodyPost_ret (v := .tuple #[.agg #[.int .u64 0, .int .u64 0], .bool false]) (by simp [results, Try.results25, go_sem, *]) rfl (ParseQ.no (fun h => hng.out h.1) ((VB.setCell (by simp) _).setCell (by simp) _))
              · have c2 : ¬ (cN : Int) < 48 := by omega
                have c3 : (57 : Int) < (cN : Int) := by omega
                clear hd
                go_wp2
                exact bodyPost_ret (v := .tuple #[.agg #[.int .u64 0, .int .u64 0], .bool false]) (by simp [results, Try.results25, go_sem, *]) rfl (ParseQ.no (fun h => hng.out h.1) ((VB.setCell (by simp) _).setCell (by simp) _))
          · have hnx := fun ty => run_next_stop (P := Try.prog) wr (w.heap.size + 1 + 1) s k ty hr.it hp
            obtain ⟨⟨zA, A0, A1⟩, fA0, fA1⟩ := id hr.a
            obtain ⟨⟨zR, R0, R1⟩, fR0, fR1⟩ := id hr.r
            have HR : Hid (PaR w wr s k xh xl) := hr
            clear hr
            go_wp2
            have hk : k = s.size := by have := HR.out.kk; omega
            have ht : (bl s).take k = bl s := List.take_of_length_le (by rw [bl_len]; omega)
            have hds := HR.out.ds
            have hval := HR.out.val
            rw [ht] at hds hval
            exact bodyPost_ret (v := .tuple #[.agg #[.int .u64 xh, .int .u64 xl], .bool true]) (by simp [results, Try.results25, go_sem, *]) rfl (ParseQ.yes HR.out.wh HR.out.wl ⟨fun h => by have := bl_len s; rw [h] at this; simp at this; omega, HG.out, hds⟩ hval ((HR.out.bel.setCell (by simp) _).setCell (by simp) _))
    · have h48' : (((s[0]'p0).toNat : Int) == 48) = false := by simp; omega
      have HG : Hid ((bl s).getD 0 0 = 48 → (bl s).length = 1) := fun h => absurd (q0.symm.trans h) h48
      go_enter Try.func25, Try.ntmps25
      go_wp2
      clear q0 h48 h48' e0 e1
      go_loopw [3] (fun n wr => n = .bool false ∧ ∃ k xh xl, PaR w wr s k xh xl) (fun _ wr => s.size - wr.iterPos (w.heap.size + 1 + 1))
      case atStart =>
        refine ⟨rfl, 0, 0, 0, ⟨Nat.zero_le _, by simp, by simp [valOf], word_zero, word_zero, ?_, ?_, ?_, ?_⟩⟩
        · have := (PaV.new (w.alloc (.cells #[.int .u64 0, .int .u64 0] 27)) 0 0 27).later (below1 _ (.stringIter s 0))
          rw [World.size_alloc] at this
          exact this
        · exact (PaV.new w 0 0 27).later (below2 _ _ (.stringIter s 0))
        · have := World.iter_heap ((w.alloc (.cells #[.int .u64 0, .int .u64 0] 27)).alloc (.cells #[.int .u64 0, .int .u64 0] 27)) s 0
          simpa only [World.size_alloc] using this
        · exact below3 _ _ _ _
      case round =>
        obtain ⟨rfl, k, xh, xl, hr⟩ := hrel
        by_cases hp : k < s.size
        · have hnx := fun ty => run_next_at (P := Try.prog) wr (w.heap.size + 1 + 1) s k ty hr.it hp
          have hca : (s[k]'hp).toNat < 128 → Utf8.decode s k = ((s[k]'hp).toNat, 1) := decode_ascii s k hp
          have hch : ¬ (s[k]'hp).toNat < 128 → 128 ≤ (Utf8.decode s k).1 := fun h => (decode_high s k hp (by omega)).1
          have hcl := decode_le s k
          have hbk := bl_at s k hp
          have hI : w.heap.size + 1 + 1 < wr.heap.size := by
            rcases Nat.lt_or_ge (w.heap.size + 1 + 1) wr.heap.size with h | h
            · exact h
            · have := hr.it; rw [Array.getElem?_eq_none h] at this; cases this
          by_cases hd : 48 ≤ (Utf8.decode s k).1 ∧ (Utf8.decode s k).1 ≤ 57
          · have hc1 : (s[k]'hp).toNat < 128 := by
              rcases Nat.lt_or_ge (s[k]'hp).toNat 128 with h | h
              · exact h
              · have := hch (by omega); omega
            rw [hca hc1] at hnx hd
            obtain ⟨wn, hwn⟩ : ∃ wn, wn = stepIter wr (w.heap.size + 1 + 1) s (k + 1) := ⟨_, rfl⟩
            have VA : PaV wn (w.heap.size + 1) xh xl := hwn ▸ hr.a.step _ s _ (by omega)
            have VR : PaV wn w.heap.size 0 0 := hwn ▸ hr.r.step _ s _ (by omega)
            have VI : wn.heap[w.heap.size + 1 + 1]? = some (.stringIter s (k + 1)) := hwn ▸ stepIter_at _ _ _ _ hI
            have VB : Below w.heap.size w wn := hwn ▸ stepIter_below hr.bel _ s _ (by omega)
            have VZ : w.heap.size + 1 + 1 < wn.heap.size := by rw [hwn, stepIter_size]; exact hI
            simp only [← hwn] at hnx
            have hval := hr.val
            have hds := hr.ds
            have wh := hr.wh
            have wl := hr.wl
            have hmeas : s.size - wn.iterPos (w.heap.size + 1 + 1) < s.size - wr.iterPos (w.heap.size + 1 + 1) := by
              simp only [World.iterPos, VI, hr.it]; omega
            have htk := valOf_take_succ (bl s) k (by rw [bl_len]; exact hp)
            have htk2 : (bl s).take (k + 1) = (bl s).take k ++ [(bl s).getD k 0] := by
              rw [List.take_add_one]
              simp [List.getD_eq_getElem?_getD, show k < (bl s).length from by rw [bl_len]; exact hp]
            rw [hbk] at htk htk2
            clear hr hwn hI hca hch hcl hbk hc1
            generalize (s[k]'hp).toNat = cN at *
            have c0 : (48 : Int) ≤ (cN : Int) := by omega
            have c1 : (cN : Int) ≤ 57 := by omega
            have c2 : ¬ (cN : Int) < 48 := by omega
            have c3 : ¬ (57 : Int) < (cN : Int) := by omega
            have HX : Hid (valOf (List.take (k + 1) (bl s)) = valOf (List.take k (bl s)) * 10 + ((cN : Int) - 48).toNat ∧ List.take (k + 1) (bl s) = List.take k (bl s) ++ [(cN : Int)] ∧ xh * 18446744073709551616 + xl = (valOf ((bl s).take k) : Int) ∧ ∀ c ∈ (bl s).take k, 48 ≤ c ∧ c ≤ 57) := ⟨htk, htk2, hval, hds⟩
            clear htk htk2 hval hds
            obtain ⟨⟨zA, A0, A1⟩, fA0, fA1⟩ := id VA
            go_wp2_with fail
            refine (addDigit_any xh xl ((cN : Int) - 48) _ wh wl (by omega) (by omega)).mono ?_
            rintro e w4 ⟨yh, yl, ok, rfl, ky1, ky2, hy, hb4⟩
            have VA4 := VA.later hb4
            have VR4 := VR.later hb4
            have VB4 := chain VB hb4
            have VI4 := (hb4.block _ VZ).trans VI
            have hm4 : wn.iterPos (w.heap.size + 1 + 1) = w4.iterPos (w.heap.size + 1 + 1) := by simp only [World.iterPos, VI, VI4]
            rw [hm4] at hmeas
            clear zA A0 A1 fA0 fA1 VA VR VB VI VZ hb4 hm4
            rcases hy with ⟨rfl, hy⟩ | ⟨rfl, hy, rfl, rfl⟩
            · obtain ⟨⟨zA, A0, A1⟩, fA0, fA1⟩ := id VA4
              go_wp2
              have hit := it_put VI4 (show w.heap.size + 1 + 1 ≠ w.heap.size + 1 by omega) (.int .u64 yh) (.int .u64 yl) (.cells #[.int .u64 yh, .int .u64 yl] 27)
              obtain ⟨x1, x2, x3, x4⟩ := HX.out
              go_roundw
              case rel =>
                refine ⟨rfl, k + 1, yh, yl, ⟨by omega, ?_, ?_, ky1, ky2, (VA4.put yh yl).later (below1 _ _), (VR4.apart (by omega) _ _).later (below1 _ _), hit, chainA ((VB4.setCell (by simp) _).setCell (by simp) _) _⟩⟩
                · rw [x2]
                  intro c hc
                  rcases List.mem_append.1 hc with hc | hc
                  · exact x4 c hc
                  · rw [List.mem_singleton] at hc; subst hc; exact ⟨c0, c1⟩
                · rw [hy, x1, x3]; omega
              case measure =>
                simp only [World.iterPos, hit]
                simp only [World.iterPos, VI4] at hmeas
                exact hmeas
            · obtain ⟨⟨zR, R0, R1⟩, fR0, fR1⟩ := id VR4
              go_wp2
              refine bodyPost_ret (v := .tuple #[.agg #[.int .u64 0, .int .u64 0], .bool false]) (by simp [results, Try.results25, go_sem, *]) rfl (ParseQ.no (fun h => ?_) ?_)
              · obtain ⟨x1, x2, x3, x4⟩ := HX.out
                have x5 := valOf_take_le (bl s) (k + 1)
                have x6 := h.2
                omega
              · first
                | exact chainA ((VB4.setCell (by simp) _).setCell (by simp) _) _
                | exact ((chainA VB4 _).setCell (by simp) _).setCell (by simp) _
          · have hng : Hid (¬ good (bl s)) := fun h => by
              have hm := h.2.2 _ (mem_getD (l := bl s) (k := k) (by rw [bl_len]; exact hp))
              rw [hbk] at hm
              have := hca (by omega)
              rw [this] at hd
              exact hd (by simp only; omega)
            obtain ⟨wn, hwn⟩ : ∃ wn, wn = stepIter wr (w.heap.size + 1 + 1) s (k + (Utf8.decode s k).2) := ⟨_, rfl⟩
            have VR : PaV wn w.heap.size 0 0 := hwn ▸ hr.r.step _ s _ (by omega)
            have VB : Below w.heap.size w wn := hwn ▸ stepIter_below hr.bel _ s _ (by omega)
            simp only [← hwn] at hnx
            clear hr hwn hI hca hch hbk
            generalize (Utf8.decode s k).1 = cN at *
            obtain ⟨⟨zR, R0, R1⟩, fR0, fR1⟩ := id VR
            by_cases hlow : cN < 48
            · have c2 : (cN : Int) < 48 := by omega
              clear hd
              go_wp2
              exact bodyPost_ret (v := .tuple #[.agg #[.int .u64 0, .int .u64 0], .bool false]) (by simp [results, Try.results25, go_sem, *]) rfl (ParseQ.no (fun h => hng.out h.1) ((VB.setCell (by simp) _).setCell (by simp) _))
            · have c2 : ¬ (cN : Int) < 48 := by omega
              have c3 : (57 : Int) < (cN : Int) := by omega
              clear hd
              go_wp2
              exact bodyPost_ret (v := .tuple #[.agg #[.int .u64 0, .int .u64 0], .bool false]) (by simp [results, Try.results25, go_sem, *]) rfl (ParseQ.no (fun h => hng.out h.1) ((VB.setCell (by simp) _).setCell (by simp) _))
        · have hnx := fun ty => run_next_stop (P := Try.prog) wr (w.heap.size + 1 + 1) s k ty hr.it hp
          obtain ⟨⟨zA, A0, A1⟩, fA0, fA1⟩ := id hr.a
          obtain ⟨⟨zR, R0, R1⟩, fR0, fR1⟩ := id hr.r
          have HR : Hid (PaR w wr s k xh xl) := hr
          clear hr
          go_wp2
          have hk : k = s.size := by have := HR.out.kk; omega
          have ht : (bl s).take k = bl s := List.take_of_length_le (by rw [bl_len]; omega)
          have hds := HR.out.ds
          have hval := HR.out.val
          rw [ht] at hds hval
          exact bodyPost_ret (v := .tuple #[.agg #[.int .u64 xh, .int .u64 xl], .bool true]) (by simp [results, Try.results25, go_sem, *]) rfl (ParseQ.yes HR.out.wh HR.out.wl ⟨fun h => by have := bl_len s; rw [h] at this; simp at this; omega, HG.out, hds⟩ hval ((HR.out.bel.setCell (by simp) _).setCell (by simp) _))
end Go.Proofs.Ytcmjinkhfgmgaaa
