/-
  A string, as an argument.
-/
import Derived.Test.YtcmjinkhfgmgaaaLParses
import Derived.Test.YtcmjinkhfgmgaaaOpen
namespace Go.Proofs.Ytcmjinkhfgmgaaa
open Go.ChangeShapes Go.WideShapes Go.ChangeAt Go.RowKit Go.Joins Go.Deep
open Go.ChangeMaps (open_string)

theorem open_str {H : Type} {enc : TypeId × Value → H} {W : World} {v : Value} {d : DataW H} {p : List MemPlace} {base : Nat} (hv : Value.okWide Try.prog W .any base 9 v) (h : DataW.Trod enc Try.prog W 0 (fun _ => true) true 9 v d p) :
    ∃ s : ByteArray, v = .string s ∧ s.size ≤ maxLen := by
  obtain ⟨s, e, _, _, hs⟩ := open_string Try.underlying9 hv h
  exact ⟨s, e, hs⟩
end Go.Proofs.Ytcmjinkhfgmgaaa
