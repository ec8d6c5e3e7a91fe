
/-
  What ReadAccount and ReadRow read of what Account and Row wrote, on lists.
-/
import Derived.Test.YtekpkbmelhgneaaWiAw
import Derived.Test.YtekpkbmelhgneaaWiRw
import Derived.Test.YtekpkbmelhgneaaWiRa
import Derived.Test.YtekpkbmelhgneaaWiP
namespace Go.Proofs.Ytekpkbmelhgneaa
open Go.RowKit
set_option maxRecDepth 100000
set_option linter.unusedSimpArgs false
set_option linter.unusedVariables false

theorem rH_app (t m : List Nat) (h : t.length = 32) : rH (t ++ m, false) = t := by
  unfold rH
  rw [rTake_app t m h, if_pos h]
theorem rRw_bytes (H0 L0 tm : Nat) (rs : Int) (H1 L1 H2 L2 H3 L3 H4 L4 H5 L5 : Nat) (m : List Nat) (h0 : Word64 (H0, L0)) (h1 : Word64 (H1, L1)) (h2 : Word64 (H2, L2)) (h3 : Word64 (H3, L3)) (h4 : Word64 (H4, L4)) (h5 : Word64 (H5, L5))
    (ht : tm < 281474976710656) (r0 : -1 ≤ rs) (r1 : rs ≤ 65534) :
    rRw (rowB H0 L0 tm rs H1 L1 H2 L2 H3 L3 H4 L4 H5 L5 ++ m, false) = ⟨H0, L0, tm, rs, H1, L1, H2, L2, H3, L3, H4, L4, H5, L5⟩ ∧ rRwS (rowB H0 L0 tm rs H1 L1 H2 L2 H3 L3 H4 L4 H5 L5 ++ m, false) = (m, false) := by
  obtain ⟨k, hk⟩ : ∃ k : Nat, rs + 1 = (k : Int) := ⟨(rs + 1).toNat, by omega⟩
  have hk2 : k < 256 ^ 2 := by omega
  have hrs : rs = (k : Int) - 1 := by omega
  have ht2 : tm < 256 ^ 6 := by omega
  unfold rRw rRwS rowB
  rw [hk]
  simp only [List.append_assoc, rD_num, rD_int, rHi_num _ _ _ h0, rLo_num _ _ _ h0, rHi_num _ _ _ h1, rLo_num _ _ _ h1, rHi_num _ _ _ h2, rLo_num _ _ _ h2, rHi_num _ _ _ h3, rLo_num _ _ _ h3, rHi_num _ _ _ h4, rLo_num _ _ _ h4, rHi_num _ _ _ h5, rLo_num _ _ _ h5, rI_int 6 tm _ ht2 (by decide), rI_int 2 k _ hk2 (by decide), hrs, and_self]
theorem rAq_bytes (a : Aq) (t m : List Nat) (h0 : Word64 (a.hi, a.lo)) (h1 : Word64 (a.h1, a.l1)) (h2 : Word64 (a.h2, a.l2)) (h3 : Word64 (a.h3, a.l3)) (h4 : Word64 (a.h4, a.l4))
    (hl : a.led < 4294967296) (hf : a.fl < 65536) (ht : a.tm < 281474976710656) (hu : a.un < 281474976710656) (h : t.length = 32) :
    rAq (accB a.hi a.lo a.led a.fl a.h1 a.l1 a.h2 a.l2 a.h3 a.l3 a.h4 a.l4 a.tm a.un t ++ m, false) = a ∧ rAqH (accB a.hi a.lo a.led a.fl a.h1 a.l1 a.h2 a.l2 a.h3 a.l3 a.h4 a.l4 a.tm a.un t ++ m, false) = t ∧ rAqS (accB a.hi a.lo a.led a.fl a.h1 a.l1 a.h2 a.l2 a.h3 a.l3 a.h4 a.l4 a.tm a.un t ++ m, false) = (m, false) := by
  have e1 : a.led < 256 ^ 4 := by omega
  have e2 : a.fl < 256 ^ 2 := by omega
  have e3 : a.tm < 256 ^ 6 := by omega
  have e4 : a.un < 256 ^ 6 := by omega
  unfold rAq rAqH rAqS accB acB rAc rAcS
  simp only [List.append_assoc, rD_num, rD_int, rHi_num _ _ _ h0, rLo_num _ _ _ h0, rHi_num _ _ _ h1, rLo_num _ _ _ h1, rHi_num _ _ _ h2, rLo_num _ _ _ h2, rHi_num _ _ _ h3, rLo_num _ _ _ h3, rHi_num _ _ _ h4, rLo_num _ _ _ h4, rI_int 4 a.led _ e1 (by decide), rI_int 2 a.fl _ e2 (by decide), rI_int 6 a.tm _ e3 (by decide), rI_int 6 a.un _ e4 (by decide), rH_app _ _ h, rDrop_app _ _ h, and_self]
end Go.Proofs.Ytekpkbmelhgneaa
