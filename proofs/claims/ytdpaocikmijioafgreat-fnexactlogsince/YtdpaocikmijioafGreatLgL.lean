/-
  A log that was dropped of: the program's. No statement is proved here.
-/
import Derived.Test.YtdpaocikmijioafGreatLgI
namespace Go.Proofs.YtdpaocikmijioafGreat
open Go.RowKit

def ldr (r : Bool) (f seq : Int) (ss : List Sta) : Int × List Sta := if r = true then (seq, ss.drop (seq - f).toNat) else (f, ss)
theorem kps_iff {c f : Int} {ss : List Sta} {seq : Int} : kps c f ss seq = true ↔ lok c f ss = true ∧ f ≤ seq ∧ seq ≤ f + (ss.length : Int) := by simp [kps, inB]
theorem kps_parts {c f : Int} {ss : List Sta} {seq : Int} {n : Nat} (hn : n = ss.length) (h : kps c f ss seq = true) : ∃ k m : Nat, n = k + m ∧ seq - f = (k : Int) ∧ (seq - f).toNat = k ∧ okL ss = true ∧ n ≤ 8 ∧ 0 ≤ f ∧ f ≤ 100000 ∧ f + (n : Int) ≤ 100000 := by
  obtain ⟨h1, h2, h3⟩ := kps_iff.1 h
  obtain ⟨h4, h5, h6, h7, h8⟩ := lok_iff.1 h1
  refine ⟨(seq - f).toNat, n - (seq - f).toNat, by omega, by omega, rfl, h8, by omega, by omega, by omega, by omega⟩

end Go.Proofs.YtdpaocikmijioafGreat
