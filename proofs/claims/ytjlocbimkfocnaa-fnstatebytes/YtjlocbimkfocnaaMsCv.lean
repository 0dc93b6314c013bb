/-
  A row of bytes that is made a text: what is read, and what is the call's own. No statement is proved here.
-/
import Derived.Test.YtjlocbimkfocnaaTrBS
import Derived.Test.YtjlocbimkfocnaaBase
namespace Go.Proofs.Ytjlocbimkfocnaa
open Go.RowKit

theorem convS {w : World} {a : Option Addr} {cap : Nat} {xs : List Int} {y : ByteArray} (hy : Hid (strOfNums xs = y)) (hne : xs ≠ []) (h : Seg w (.slice a xs.length cap) xs) : (convert 22 9 (.slice a xs.length cap)).run Try.prog w = .ok (.string y) w := by
  rw [← unhide hy]
  obtain ⟨a', cap', e, hcap, hs⟩ := h
  simp only [Value.slice.injEq, true_and] at e
  obtain ⟨rfl, rfl⟩ := e
  rcases hs with h | ⟨g, off, rfl, _, hc⟩
  · exact absurd h hne
  · exact run_convert_bytes_arg (P := Try.prog) w 22 5 Try.underlying22 Try.underlying5 g off xs.length cap xs rfl hc 9 Try.underlying9
theorem convO {w : World} {B : Nat} {v : Value} {xs : List Int} {y : ByteArray} (hy : Hid (strOfNums xs = y)) (h : OwB B w v xs) : (convert 22 9 v).run Try.prog w = .ok (.string y) w := by
  rw [← unhide hy]
  obtain ⟨a, cap, rfl, hcap, hs⟩ := seg_of_owns h
  rcases h.2 with ⟨h1, h0⟩ | ⟨g, cap', cur, h1, _⟩
  · simp only [Value.slice.injEq] at h1
    obtain ⟨rfl, h2, rfl⟩ := h1
    have : xs = [] := List.eq_nil_of_length_eq_zero h2
    subst this
    exact run_convert_bytes_nil (P := Try.prog) w 22 5 Try.underlying22 Try.underlying5 _ _ 9 Try.underlying9
  · simp only [Value.slice.injEq] at h1
    obtain ⟨rfl, _, _⟩ := h1
    refine run_convert_bytes_arg (P := Try.prog) w 22 5 Try.underlying22 Try.underlying5 g 0 xs.length cap xs rfl (fun i hi => ?_) 9 Try.underlying9
    rcases hs with hs | ⟨b, off, he, _, hc⟩
    · subst hs; simp at hi
    · simp only [Option.some.injEq, Addr.mk.injEq] at he
      obtain ⟨rfl, rfl, _⟩ := he
      exact hc i hi
end Go.Proofs.Ytjlocbimkfocnaa
