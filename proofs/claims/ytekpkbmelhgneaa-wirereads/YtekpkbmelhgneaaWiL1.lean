
/-
  The anchor of layer 3's statements; the walk of WireNothing.
-/
import Derived.Test.YtekpkbmelhgneaaWiQ
namespace Go.Proofs.Ytekpkbmelhgneaa
open Go.RowKit
set_option maxRecDepth 100000

theorem tick7 : parse [3, 0, 0, 0, 7] = (⟨3, [], [], 0, 0, 7, 0, 0⟩, 0) := by rfl
theorem lit_bytes (w : World) (l : List Nat) (h8 : W8 l) (hl : l.length ≤ 1000) (n c g : Nat) (hn : n = l.length) (hg : g = w.heap.size) : BytesAt (w.alloc (.cells (bytesL l) 5)) (.slice (some ⟨g, 0, none⟩) n c) l :=
  (Row.new w (bytesL l) 5 hg).bytes h8 (by unfold maxLen; omega) n c hn
theorem W8.of {l : List Nat} (h : l.all (· < 256) = true) : W8 l := fun x hx => by simpa using List.all_eq_true.1 h x hx

set_option maxHeartbeats 2000000 in
theorem fit_any (w : World) : Calls Try.prog 11 #[] w fun e w' => e = .returned (.bool true) ∧ Below w.heap.size w w' := by
  go_enter Try.func11, Try.ntmps11
  go_wp2_with (go_at_call 15; refine stop ?_)
  rw [show (#[.int .u8 3, .int .u8 0, .int .u8 0, .int .u8 0, .int .u8 7] : Array Value) = bytesL [3, 0, 0, 0, 7] from rfl]
  refine (readReq_any _ [3, 0, 0, 0, 7] _ (lit_bytes w _ (W8.of (by decide)) (by decide) 5 5 _ rfl rfl) (by decide)).mono ?_
  rw [tick7]
  rintro e w1 ⟨u, rfl, ⟨va, vt, rfl, ha, ht⟩, hb⟩
  have hb1 := chain (below1 w _) hb
  obtain ⟨pa, na, ca, rfl, _⟩ := ownsRow_form ha
  obtain ⟨pt, nt, ct, rfl, _⟩ := ownsRow_form ht
  clear ha ht hb
  unfold rqC
  go_wp2_with (first | (go_at_call 33; refine (of_any _ _).mono ?_; rintro e w2 ⟨rfl, hb2⟩) | (go_at_call 32; refine (print_any 0 7 _ word_zero ⟨by decide, by decide⟩).mono ?_; rintro e w3 ⟨rfl, hb3⟩; rw [show strOfNums (dec (0 * 18446744073709551616 + 7 : Int).toNat) = ⟨#[55]⟩ from by decide +kernel]))
  go_ret
  exact ⟨rfl, chain (chain (chainA hb1 _) hb2) hb3⟩

theorem parse_nil : parse [] = (Rq.zero, 1) := by rfl
theorem rTake_cons (k : Nat) (b : List Nat) : rI 1 (k :: b, false) = k := by
  rw [rI, rTake_yes rfl (by simp)]
  simp [be]
theorem parse_odd (k : Nat) (b : List Nat) (h : ¬ (1 ≤ k ∧ k ≤ 9)) : (parse (k :: b)).2 = 1 := by
  have e : (rF (k :: b, false)).2.1 = 1 := by
    unfold rF
    rw [rTake_cons]
    rw [if_neg (by omega), if_neg (by omega), if_neg (by omega), if_neg (by omega), if_neg (by omega), if_neg (by omega)]
  unfold parse
  rw [if_neg (by omega), e]

set_option maxHeartbeats 2000000 in
theorem nothing_walk (k : Nat) (v : Value) (B : List Nat) (w : World) (hk : k < 256) (h : BytesAt w v B) :
    Calls Try.prog 10 #[.int .u8 k, v] w fun e w' => e = .returned (.bool true) ∧ Below w.heap.size w w' := by
  obtain ⟨h8, hm, p, c, rfl, hc⟩ := id h
  have l0 : (0 : Int) ≤ (B.length : Int) := by omega
  unfold maxLen at hm
  have l1 : (B.length : Int) ≤ 9223372036854775807 := by omega
  clear hc
  have k0 : (0 : Int) ≤ (k : Int) := by omega
  have k1 : (k : Int) < 256 := by omega
  go_enter Try.func10, Try.ntmps10
  go_wp2_with (go_at_call 11; refine stop ?_)
  refine (fit_any w).mono ?_
  rintro e w0 ⟨rfl, hb0⟩
  by_cases hB : 300 < B.length
  · have hB' : (300 : Int) < (B.length : Int) := by omega
    go_wp2
    go_ret
    exact ⟨rfl, hb0⟩
  · have hB' : ¬ (300 : Int) < (B.length : Int) := by omega
    have r0 := Row.new w0 (bytesL [k]) 5 rfl
    have ow : Own (w0.alloc (.cells (bytesL [k]) 5)) w0.heap.size (.slice (some ⟨w0.heap.size, 0, none⟩) 1 1) [k] := ⟨rfl, Or.inr ⟨w0.heap.size, 1, bytesL [k], rfl, Nat.le_refl _, r0, Nat.le_refl _, by decide, rfl, rfl⟩⟩
    obtain ⟨v1, w1, run1, own1, gr1, _, _⟩ := append_bytes (w0.alloc (.cells (bytesL [k]) 5)) w0.heap.size 32 (.slice (some ⟨w0.heap.size, 0, none⟩) 1 1) [k] ow _ B (h.later (chainA hb0 _)) (by simp; omega) (by simp)
    have hb1 : Below w0.heap.size w0 w1 := below_grown (below1 w0 _) (by simp) gr1 (fun j hj => by simp [Value.ownBlock] at hj; omega)
    have hv1 := own1.bytes (l := [k] ++ B) (W8.append (fun x hx => by simp at hx; omega) h8) (by simp [maxLen]; omega)
    have hb1' := chain hb0 hb1
    clear gr1 ow r0 hb1
    go_wp2_with (at_builtin; refine stop ?_)
    rw [show (#[.int .u8 (k : Int)] : Array Value) = bytesL [k] from rfl]
    unfold Stop
    go_wp2_with (first | (at_builtin; refine Lib.wpList_append_run _ rfl _ _ _ _ rfl _ _ rfl rfl _ _ run1 ?_) | (go_at_call 15; refine stop ?_))
    refine (readReq_any v1 ([k] ++ B) w1 hv1 (by simp; omega)).mono ?_
    obtain ⟨q1, E1, hp1⟩ : ∃ q E, parse ([k] ++ B) = (q, E) := ⟨_, _, rfl⟩
    have hE : (¬ (1 ≤ k ∧ k ≤ 9)) → E1 = 1 := fun hh => by have := parse_odd k B hh; rw [show k :: B = [k] ++ B from rfl, hp1] at this; exact this
    rw [hp1]
    dsimp only
    rintro e w2 ⟨u, rfl, hq, hb2⟩
    obtain ⟨cs, rfl, hcs, hone⟩ := hq.row
    have hsz : (Try.prog.info? 28).map (·.size) = some cs.size := by rw [hcs]; exact info_rq
    have hb2 : Below w.heap.size w ((w2.alloc (.cells (rqC 0 (.slice none 0 0) (.slice none 0 0) 0 0 0 0 0) 28)).setRow w2.heap.size cs) := Below.row (chainA (chain hb1' hb2) _) _ (by have := hb1'.size; have := hb2.size; omega)
    clear hq own1 hv1 hp1 run1 hb1'
    go_wp2_with (first | (refine wpList_store_row rfl 28 _ _ rfl w2.heap.size cs rfl rfl 28 _ (heap_alloc_new w2 _) hsz (by rw [hcs]; rfl) hone ?_) | (go_at_call 15; refine stop ?_))
    rw [rq_lit]
    generalize (w2.alloc (.cells (rqC 0 (.slice none 0 0) (.slice none 0 0) 0 0 0 0 0) 28)).setRow w2.heap.size cs = w2' at *
    refine (readReq_any _ [] w2' (BytesAt.nil _) (by decide)).mono ?_
    rw [parse_nil]
    dsimp only
    rintro e w3 ⟨u3, rfl, hq3, hb3⟩
    obtain ⟨cs3, rfl, hcs3, hone3⟩ := hq3.row
    have hsz3 : (Try.prog.info? 28).map (·.size) = some cs3.size := by rw [hcs3]; exact info_rq
    have hb4 := chain hb2 (chainA hb3 (.cells (rqC 0 (.slice none 0 0) (.slice none 0 0) 0 0 0 0 0) 28))
    have hb5 : Below w.heap.size w ((w3.alloc (.cells (rqC 0 (.slice none 0 0) (.slice none 0 0) 0 0 0 0 0) 28)).setRow w3.heap.size cs3) := Below.row hb4 _ (by have := hb2.size; have := hb3.size; simp at *; omega)
    clear hq3 hb2 hb3 hb4
    by_cases hk1 : 1 ≤ k
    · have hk1' : (1 : Int) ≤ (k : Int) := by omega
      by_cases hk9 : k ≤ 9
      · have hk9' : (k : Int) ≤ 9 := by omega
        go_wp2_with (refine wpList_store_row rfl 28 _ _ rfl w3.heap.size cs3 rfl rfl 28 _ (heap_alloc_new w3 _) hsz3 (by rw [hcs3]; rfl) hone3 ?_)
        go_ret
        exact ⟨rfl, hb5⟩
      · obtain rfl := hE (by omega)
        have hk9' : ¬ (k : Int) ≤ 9 := by omega
        go_wp2_with (refine wpList_store_row rfl 28 _ _ rfl w3.heap.size cs3 rfl rfl 28 _ (heap_alloc_new w3 _) hsz3 (by rw [hcs3]; rfl) hone3 ?_)
        go_ret
        exact ⟨rfl, hb5⟩
    · obtain rfl := hE (by omega)
      have hk1' : ¬ (1 : Int) ≤ (k : Int) := by omega
      go_wp2_with (refine wpList_store_row rfl 28 _ _ rfl w3.heap.size cs3 rfl rfl 28 _ (heap_alloc_new w3 _) hsz3 (by rw [hcs3]; rfl) hone3 ?_)
      go_ret
      exact ⟨rfl, hb5⟩
end Go.Proofs.Ytekpkbmelhgneaa
