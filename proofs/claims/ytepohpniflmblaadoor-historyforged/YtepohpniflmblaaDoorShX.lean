
/-
  sha.mix: one more block's words mixed in, for every sum and all words; the round words lie in the package's table.
-/
import Derived.Test.YtepohpniflmblaaDoorShS
namespace Go.Proofs.YtepohpniflmblaaDoor
open Go.RowKit

def s8V (s : S8) : Array Value := #[.int .u32 (s.a : Nat), .int .u32 (s.b : Nat), .int .u32 (s.c : Nat), .int .u32 (s.d : Nat), .int .u32 (s.e : Nat), .int .u32 (s.f : Nat), .int .u32 (s.g : Nat), .int .u32 (s.h : Nat)]

theorem not_num (e : Nat) (he : e < 4294967296) : 4294967295 ^^^ e = 4294967295 - e := by
  have h1 : (~~~ (BitVec.ofNat 32 e)).toNat = 2 ^ 32 - 1 - (BitVec.ofNat 32 e).toNat := BitVec.toNat_not
  have h2 : (BitVec.allOnes 32 ^^^ BitVec.ofNat 32 e).toNat = (BitVec.allOnes 32).toNat ^^^ (BitVec.ofNat 32 e).toNat := BitVec.toNat_xor _ _
  have h3 : ~~~ (BitVec.ofNat 32 e) = BitVec.allOnes 32 ^^^ BitVec.ofNat 32 e := rfl
  rw [h3, h2, BitVec.toNat_allOnes, BitVec.toNat_ofNat, Nat.mod_eq_of_lt he] at h1
  exact h1
theorem chq_num (e f g : Nat) (he : e < 4294967296) (hf : f < 4294967296) (hg : g < 4294967296) :
    bits .xor .u32 (bits .and .u32 (e : Int) (f : Int)) (bits .and .u32 (bits .xor .u32 IntKind.u32.max (e : Int)) (g : Int)) = (chq e f g : Nat) := by
  have h := u32_xor_nat 4294967295 e (by decide) he
  rw [not_num e he] at h
  rw [show bits .xor .u32 IntKind.u32.max (e : Int) = ((4294967295 - e : Nat) : Int) from h, u32_and_nat _ _ he hf, u32_and_nat _ _ (by omega) hg, u32_xor_nat _ _ (and_lt he) (and_lt (by omega))]
  rfl
theorem mjq_num (a b c : Nat) (ha : a < 4294967296) (hb : b < 4294967296) (hc : c < 4294967296) :
    bits .xor .u32 (bits .xor .u32 (bits .and .u32 (a : Int) (b : Int)) (bits .and .u32 (a : Int) (c : Int))) (bits .and .u32 (b : Int) (c : Int)) = (mjq a b c : Nat) := by
  rw [u32_and_nat _ _ ha hb, u32_and_nat _ _ ha hc, u32_and_nat _ _ hb hc, u32_xor_nat _ _ (and_lt ha) (and_lt ha), u32_xor_nat _ _ (xor_lt (and_lt ha) (and_lt ha)) (and_lt hb)]
  rfl
theorem chq_lt {e f g : Nat} (he : e < 4294967296) : chq e f g < 4294967296 := xor_lt (and_lt he) (and_lt (by omega))
theorem mjq_lt {a b c : Nat} (ha : a < 4294967296) (hb : b < 4294967296) : mjq a b c < 4294967296 := xor_lt (xor_lt (and_lt ha) (and_lt ha)) (and_lt hb)
theorem rnd_ok {s : S8} (h : s.ok) (k w : Nat) : (rnd s k w).ok := by
  obtain ⟨a, b, c, d, e, f, g, i⟩ := h
  exact ⟨Nat.mod_lt _ (by decide), a, b, c, Nat.mod_lt _ (by decide), e, f, g⟩
theorem rnds_ok {s : S8} (K W : List Nat) (h : s.ok) : ∀ k, (rnds K W s k).ok
  | 0 => h
  | k + 1 => rnd_ok (rnds_ok K W h k) _ _
theorem mixF_ok (K W : List Nat) (s : S8) : (mixF K s W).ok := ⟨Nat.mod_lt _ (by decide), Nat.mod_lt _ (by decide), Nat.mod_lt _ (by decide), Nat.mod_lt _ (by decide), Nat.mod_lt _ (by decide), Nat.mod_lt _ (by decide), Nat.mod_lt _ (by decide), Nat.mod_lt _ (by decide)⟩

theorem KW_ok : W32 KW := by unfold W32; decide +kernel
/-- The package's table lies as it was laid. -/
def Tab (w : World) : Prop := ∀ i, i < 64 → w.cell? ⟨0, i, none⟩ = some (.int .u32 (KW.getD i 0 : Nat))
theorem Tab.pos {w : World} (h : Tab w) : 0 < w.heap.size := block_lt_of_cell (h 0 (by decide))
theorem Tab.later {w w1 : World} (h : Tab w) (hb : Below w.heap.size w w1) : Tab w1 := fun i hi => (hb.cell (p := ⟨0, i, none⟩) h.pos).trans (h i hi)

theorem val_u32 {a b : Int} (h : a = b) : Value.int .u32 a = .int .u32 b := by rw [h]
theorem info_sum : (Tryd.prog.info? 72).map (·.size) = some 8 := by kernel_rfl
structure MxR (w wr : World) (s : S8) (W : List Nat) : Prop where
  sr : Row wr w.heap.size (s8V s) 72
  wrow : Row wr (w.heap.size + 1) (wordsL W) 76
  rr : Row wr (w.heap.size + 1 + 1) (s8V ⟨0, 0, 0, 0, 0, 0, 0, 0⟩) 72
  bel : Below w.heap.size w wr

set_option maxHeartbeats 1000000 in
set_option maxRecDepth 100000 in
theorem mix_any (s : S8) (W : List Nat) (w : World) (hs : s.ok) (hl : W.length = 64) (hW : W32 W) (ht : Tab w) :
    Calls Tryd.prog 39 #[.agg (s8V s), .agg (wordsL W)] w fun e w' => e = .returned (.agg (s8V (mixF KW s W))) ∧ Below w.heap.size w w' := by
  have hs' := hs
  obtain ⟨a0, b0, c0, d0, e0, f0, g0, h0⟩ := hs'
  unfold s8V
  go_enter Tryd.func39, Tryd.ntmps39
  go_wp2
  go_quiet (fail)
  go_wp2
  go_loopw [34, 5, 6, 7, 8, 9, 10, 11, 12] (fun i va vb vc vd ve vf vg vh wr => ∃ k : Nat, k ≤ 64 ∧ i = .int .i64 k ∧ va = .int .u32 ((rnds KW W s k).a : Nat) ∧ vb = .int .u32 ((rnds KW W s k).b : Nat) ∧ vc = .int .u32 ((rnds KW W s k).c : Nat) ∧ vd = .int .u32 ((rnds KW W s k).d : Nat)
      ∧ ve = .int .u32 ((rnds KW W s k).e : Nat) ∧ vf = .int .u32 ((rnds KW W s k).f : Nat) ∧ vg = .int .u32 ((rnds KW W s k).g : Nat) ∧ vh = .int .u32 ((rnds KW W s k).h : Nat) ∧ MxR w wr s W) (fun i _ _ _ _ _ _ _ _ _ => 64 - (intOf i).toNat)
  case atStart =>
    exact ⟨0, by omega, rfl, rfl, rfl, rfl, rfl, rfl, rfl, rfl, rfl, ⟨((Row.new _ _ _ rfl).alloc _).alloc _, (Row.new _ _ _ (by simp)).alloc _, Row.new _ _ _ (by simp), below_drewN (below3 _ _ _ _) _⟩⟩
  case round =>
    obtain ⟨k, hk, rfl, rfl, rfl, rfl, rfl, rfl, rfl, rfl, rfl, hr⟩ := hrel
    have ho := rnds_ok KW W hs k
    have hn : rnds KW W s (k + 1) = rnd (rnds KW W s k) (KW.getD k 0) (W.getD k 0) := rfl
    by_cases hlt : k < 64
    · have cw := (hr.wrow.cell k).trans (wordsL_at _ k (by omega))
      have ck := (ht.later hr.bel) k hlt
      have bw := hW.at k
      have bk : KW.getD k 0 < 4294967296 := KW_ok.at k
      have g1 : (0 : Int) ≤ (k : Int) := by omega
      have g2 : (k : Int) < 64 := by omega
      have HR : Hid (MxR w wr s W) := hr
      have HN : Hid (rnds KW W s (k + 1) = rnd (rnds KW W s k) (KW.getD k 0) (W.getD k 0)) := hn
      clear hr hn
      generalize rnds KW W s k = q at *
      generalize KW.getD k 0 = kk at *
      generalize W.getD k 0 = ww at *
      obtain ⟨A, B, C, D, E, F, G, H⟩ := q
      obtain ⟨hA, hB, hC, hD, hE, hF, hG, hH⟩ := ho
      dsimp only at *
      have n1 := chq_num E F G hE hF hG
      have n2 := mjq_num A B C hA hB hC
      have n3 := bs0_num A hA
      have n4 := bs1_num E hE
      clear a0 b0 c0 d0 e0 f0 g0 h0
      have hsg : IntKind.u32.signed = false := rfl
      go_wp2
      go_quiet ((go_at_call 44; exact Calls.quiet_of_same (turn_i _ _ (by decide) (by decide) (by assumption) _)))
      go_wp2_with (go_at_call 44; refine (turn_i _ _ (by decide) (by decide) (by assumption) _).mono ?_; rintro e w' ⟨rfl, rfl⟩)
      go_roundw
      case rel =>
        refine ⟨k + 1, by omega, by go_num, ?_⟩
        rw [HN.out]
        clear HN
        have hr := HR.out
        refine ⟨val_u32 ?_, rfl, rfl, rfl, val_u32 ?_, rfl, rfl, rfl, ⟨hr.sr, hr.wrow, hr.rr, below_drewN hr.bel _⟩⟩
        · simp only [rnd, tq, uq]; omega
        · simp only [rnd, tq]; omega
      case measure => simp [intOf]; omega
    · obtain rfl : k = 64 := by omega
      rw [show ((64 : Nat) : Int) = 64 from rfl]
      clear hlt hk hn
      have q0 := hr.sr.cell 0
      have q1 := hr.sr.cell 1
      have q2 := hr.sr.cell 2
      have q3 := hr.sr.cell 3
      have q4 := hr.sr.cell 4
      have q5 := hr.sr.cell 5
      have q6 := hr.sr.cell 6
      have q7 := hr.sr.cell 7
      simp only [s8V, List.getElem?_toArray, List.getElem?_cons_zero, List.getElem?_cons_succ] at q0 q1 q2 q3 q4 q5 q6 q7
      have p0 := hr.rr.cell 0
      have r0 := hr.rr.frozen 0
      have p1 := hr.rr.cell 1
      have r1 := hr.rr.frozen 1
      have p2 := hr.rr.cell 2
      have r2 := hr.rr.frozen 2
      have p3 := hr.rr.cell 3
      have r3 := hr.rr.frozen 3
      have p4 := hr.rr.cell 4
      have r4 := hr.rr.frozen 4
      have p5 := hr.rr.cell 5
      have r5 := hr.rr.frozen 5
      have p6 := hr.rr.cell 6
      have r6 := hr.rr.frozen 6
      have p7 := hr.rr.cell 7
      have r7 := hr.rr.frozen 7
      simp only [s8V, List.getElem?_toArray, List.getElem?_cons_zero, List.getElem?_cons_succ] at p0 p1 p2 p3 p4 p5 p6 p7
      have hbel := hr.bel
      have HRR : Hid (Row wr (w.heap.size + 1 + 1) (s8V ⟨0, 0, 0, 0, 0, 0, 0, 0⟩) 72) := hr.rr
      clear hr
      have HM : Hid (mixF KW s W = ⟨(s.a + (rnds KW W s 64).a) % 4294967296, (s.b + (rnds KW W s 64).b) % 4294967296, (s.c + (rnds KW W s 64).c) % 4294967296, (s.d + (rnds KW W s 64).d) % 4294967296,
        (s.e + (rnds KW W s 64).e) % 4294967296, (s.f + (rnds KW W s 64).f) % 4294967296, (s.g + (rnds KW W s 64).g) % 4294967296, (s.h + (rnds KW W s 64).h) % 4294967296⟩) := show _ = _ from rfl
      generalize rnds KW W s 64 = q at *
      obtain ⟨A, B, C, D, E, F, G, H⟩ := q
      obtain ⟨hA, hB, hC, hD, hE, hF, hG, hH⟩ := ho
      obtain ⟨sa, sb, sc, sd, se, sf, sg, sh⟩ := s
      dsimp only at *
      go_wp2
      refine bodyPost_ret (v := .agg (s8V (mixF KW ⟨sa, sb, sc, sd, se, sf, sg, sh⟩ W))) (results_cell_row Tryd.results39 _ _ (w.heap.size + 1 + 1) 72 _ (0, 0) _ ?hp ?hg Tryd.underlying72 rfl info_sum) rfl ⟨rfl, ?hb⟩
      case hp => rfl
      case hg =>
        have h8 := (((((((HRR.out.set 0 (.int .u32 (((sa : Int) + A) % 4294967296))).set 1 (.int .u32 (((sb : Int) + B) % 4294967296))).set 2 (.int .u32 (((sc : Int) + C) % 4294967296))).set 3 (.int .u32 (((sd : Int) + D) % 4294967296))).set 4 (.int .u32 (((se : Int) + E) % 4294967296))).set 5 (.int .u32 (((sf : Int) + F) % 4294967296))).set 6 (.int .u32 (((sg : Int) + G) % 4294967296))).set 7 (.int .u32 (((sh : Int) + H) % 4294967296))
        rw [HM.out]
        have e8 : s8V ⟨(sa + A) % 4294967296, (sb + B) % 4294967296, (sc + C) % 4294967296, (sd + D) % 4294967296, (se + E) % 4294967296, (sf + F) % 4294967296, (sg + G) % 4294967296, (sh + H) % 4294967296⟩ =
            #[.int .u32 (((sa : Int) + A) % 4294967296), .int .u32 (((sb : Int) + B) % 4294967296), .int .u32 (((sc : Int) + C) % 4294967296), .int .u32 (((sd : Int) + D) % 4294967296), .int .u32 (((se : Int) + E) % 4294967296), .int .u32 (((sf : Int) + F) % 4294967296), .int .u32 (((sg : Int) + G) % 4294967296), .int .u32 (((sh : Int) + H) % 4294967296)] := by
          unfold s8V; dsimp only; simp only [Int.natCast_emod, Int.natCast_add]; rfl
        rw [e8]
        exact h8
      case hb => exact (((((((hbel.setCell (by simp; omega) _).setCell (by simp; omega) _).setCell (by simp; omega) _).setCell (by simp; omega) _).setCell (by simp; omega) _).setCell (by simp; omega) _).setCell (by simp; omega) _).setCell (by simp; omega) _
end Go.Proofs.YtepohpniflmblaaDoor
