
/-
  WalAgain: a log with anything behind the sector at its end, which is zeros; what Open and a crash leave of it.
-/
import Derived.Test.YtfhaphbfbmpbiaaWaR
namespace Go.Proofs.Ytfhaphbfbmpbiaa
open Go.RowKit
set_option maxRecDepth 100000
set_option linter.unusedVariables false
set_option linter.unusedSimpArgs false

/-- A log of L that ends at e; the sector at e is zeros. -/
structure Jk (d : Dk) (L : List (List Nat)) (e : Nat) : Prop where
  rd : Reads (d.curs d.n) L e
  le : e ≤ d.n
  ze : e < d.n → d.cur e = zs 64
theorem Lg.jk {d : Dk} {L : List (List Nat)} {e : Nat} (h : Lg d L e) : Jk d L e := ⟨h.rd, h.le, fun hl => h.ze e (Nat.le_refl _) hl⟩
theorem Jk.nw {d : Dk} {L : List (List Nat)} {e num : Nat} (h : Jk d L e) : ¬ Whole (d.curs d.n) e num := zs_not fun hl => by
  rw [curs_len] at hl
  rw [curs_getD d hl]
  exact h.ze hl
/-- Sectors up to e alike: so is the log. -/
theorem Jk.congr {d d' : Dk} {L : List (List Nat)} {e : Nat} (h : Jk d L e) (hn : d'.n = d.n) (hc : ∀ p, p ≤ e → p < d.n → d'.cur p = d.cur p) : Jk d' L e := by
  have hle := h.le
  refine ⟨h.rd.congr (by rw [curs_len]; omega) fun i hi => ?_, by omega, fun hl => ?_⟩
  · rw [curs_getD _ (by omega), curs_getD _ (by omega), hc i (by omega) (by omega)]
  · rw [hc e (Nat.le_refl _) (by omega)]
    exact h.ze (by omega)
theorem Jk.put {d : Dk} {L : List (List Nat)} {e a : Nat} (h : Jk d L e) (ha : e < a) (b : List Nat) : Jk (d.put a b) L e :=
  h.congr rfl fun p hp _ => by rw [put_cur, if_neg (by omega)]
theorem Jk.flushed {d : Dk} {L : List (List Nat)} {e : Nat} (h : Jk d L e) (ho : d.Ok) : Jk d.flushed L e := h.congr rfl fun p _ hp => flushed_cur ho hp
theorem Jk.arm {d : Dk} {L : List (List Nat)} {e : Nat} (h : Jk d L e) (a : Bool) (n : Nat) : Jk { d with armed := a, left := n } L e := h.congr rfl fun _ _ _ => rfl
theorem curW_nil {d : Dk} (hw : d.ws = []) (p : Nat) : d.cur p = sec d.F p := by unfold Dk.cur; rw [hw]; rfl
/-- Where nothing is written a sector stays. -/
theorem setl_keep {F : List Nat} {n p : Nat} {f : Nat → Nat} (hf : ∀ i, f i ≤ 64) (hF : F.length = 64 * n) (hp : p < n) : ∀ ws : List (Nat × List Nat), (∀ x ∈ ws, WOk n x ∧ x.1 ≠ p) → (setl f F ws).length = 64 * n ∧ sec (setl f F ws) p = sec F p := by
  refine snoc_ind2 (fun _ => ⟨hF, rfl⟩) (fun ws x ih hw => ?_)
  obtain ⟨h1, h2⟩ := ih (fun y hy => hw y (by simp [hy]))
  obtain ⟨hx, hne⟩ := hw x (by simp)
  rw [setl_snoc]
  refine ⟨settle_len h1 hx.lt hx.len (hf _), ?_⟩
  rw [sec_settle h1 hx.lt hx.len (hf _) p hp, if_neg (fun e => hne e.symm), h2]
theorem wipeN_F (Z : List (List Nat)) (d : Dk) (f : Nat) : ∀ k, (wipeN Z d f k).F = d.F
  | 0 => rfl
  | k + 1 => by
    cases hb : blank (Z.getD (f + k) []) with
    | true => rw [wipeN_yes hb]; exact wipeN_F Z d f k
    | false => rw [wipeN_no hb]; exact wipeN_F Z d f k
theorem wipeN_mem {Z : List (List Nat)} {d : Dk} {f : Nat} : ∀ k x, x ∈ (wipeN Z d f k).ws → x ∈ d.ws ∨ (f ≤ x.1 ∧ blank (Z.getD x.1 []) = false)
  | 0, x, h => Or.inl h
  | k + 1, x, h => by
    cases hb : blank (Z.getD (f + k) []) with
    | true => rw [wipeN_yes hb] at h; exact wipeN_mem k x h
    | false =>
      rw [wipeN_no hb] at h
      rcases List.mem_append.1 h with h | h
      · exact wipeN_mem k x h
      · obtain rfl := List.mem_singleton.1 h
        exact Or.inr ⟨Nat.le_add_right _ _, hb⟩
theorem blank_zs : blank (zs 64) = true := by decide
/-- What a crash leaves of a wipe that was not done. -/
theorem Jk.wiped {d : Dk} {L : List (List Nat)} {e k : Nat} {f : Nat → Nat} (h : Jk d L e) (hw : d.ws = []) (hf : ∀ i, f i ≤ 64) (ho : (wipeN (d.curs d.n) d e k).Ok) : Jk (crashed f (wipeN (d.curs d.n) d e k)) L e := by
  have hn := wipeN_n (d.curs d.n) d e k
  have hF := ho.fl
  rw [wipeN_F, hn] at hF
  refine h.congr hn fun p hp hpn => ?_
  rw [curW_nil rfl, curW_nil hw]
  show sec (setl f (wipeN (d.curs d.n) d e k).F (wipeN (d.curs d.n) d e k).ws) p = _
  rw [wipeN_F]
  refine (setl_keep hf hF hpn _ fun x hx => ⟨by have := ho.wok x hx; rwa [hn] at this, fun hxp => ?_⟩).2
  rcases wipeN_mem k x hx with h1 | ⟨h1, h2⟩
  · rw [hw] at h1; cases h1
  · have hpe : x.1 = e := by omega
    rw [hpe, curs_getD _ (by omega), h.ze (by omega), blank_zs] at h2
    cases h2
theorem setl_crash {d : Dk} {f : Nat → Nat} (hw : d.ws = []) : ∀ p, (crashed f d).cur p = d.cur p := fun p => by
  rw [curW_nil rfl, curW_nil hw]
  show sec (setl f d.F d.ws) p = _
  rw [hw]
  rfl
/-- What Open leaves, whether the disk goes down on its way or not: behind a crash the same log is there. -/
def OpenJ (w0 w : World) (R S : Nat) (v : Value) (d : Dk) (L : List (List Nat)) (e : Nat) (en : Ending) (w' : World) : Prop :=
  ∃ x u n v' d', en = .returned (.tuple #[x, u, .int .i64 n]) ∧ Mine w0 w' R S v' d' ∧ DStep w w' R S v v' ∧ d'.n = d.n ∧ d'.cnt ≤ d.cnt + d.n ∧ ∀ f : Nat → Nat, (∀ i, f i ≤ 64) → Jk (crashed f d') L e
theorem open_j (w0 w : World) (R S : Nat) (v : Value) (d : Dk) (L : List (List Nat)) (e : Nat) (h : Mine w0 w R S v d) (hj : Jk d L e) (hw : d.ws = []) (hn : d.n < 1000) (hc : d.cnt + d.n < 1000000) :
    Calls Try.prog 12 #[.pointer (some ⟨R, 0, none⟩)] w (OpenJ w0 w R S v d L e) := by
  have hwl : d.ws.length = 0 := by rw [hw]; rfl
  refine (open_any w R S v d h.dk (fun L' e' hr k hk => ?_)).mono ?_
  · have := wipeN_bound (d.curs d.n) d e' k
    omega
  · rintro en w' ⟨L', e', v', d', hr, he, hD, hs, hcase⟩
    obtain ⟨rfl, rfl⟩ := hj.rd.done hj.nw hr
    rcases hcase with ⟨W, u, rfl, hW, hge, hL, rfl, _⟩ | ⟨rfl, hdn, k, hk, rfl⟩
    · have hb := wipeN_bound (d.curs d.n) d e' (d.n - e')
      have hlg : Lg (wipeN (d.curs d.n) d e' (d.n - e')).flushed L' e' := Lg.opened hr he (wipeN_ok h.dk.ok _ (by omega) (by omega) (by omega))
      refine ⟨_, _, _, v', _, rfl, h.step hD hs, hs, wipeN_n _ _ _ _, ?_, fun f hf => hlg.jk.congr rfl fun p _ _ => setl_crash rfl p⟩
      show (wipeN (d.curs d.n) d e' (d.n - e')).cnt ≤ _
      omega
    · have hb := wipeN_bound (d.curs d.n) d e' k
      refine ⟨_, _, _, v', _, rfl, h.step hD hs, hs, wipeN_n _ _ _ _, by omega, fun f hf => hj.wiped hw hf (wipeN_ok h.dk.ok _ (by omega) (by omega) (by omega))⟩
end Go.Proofs.Ytfhaphbfbmpbiaa
