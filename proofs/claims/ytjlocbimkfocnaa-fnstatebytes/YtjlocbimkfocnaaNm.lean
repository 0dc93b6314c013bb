/-
  Rows of numbers in memory. No program here, no statement is proved here.
-/
import Derived.Test.YtjlocbimkfocnaaApp2
namespace Go.Proofs.Ytjlocbimkfocnaa
open Go.RowKit

def encN (n : Int) : List Value := [.int .i64 n]
theorem encN_len (n : Int) : (encN n).length = 1 := rfl
abbrev RwN := Rw encN 1
theorem Rw.atN {w : World} {a : Option Addr} {n cap : Nat} {ns : List Int} (h : RwN w (.slice a n cap) ns) {i : Nat} (hi : i < n) :
    ∃ z b off, ns[i]? = some z ∧ a = some ⟨b, off, none⟩ ∧ b < w.heap.size ∧ n ≤ cap ∧ w.cell? ⟨b, off + i, none⟩ = some (.int .i64 z) := by
  obtain ⟨z, b, off, h1, h2, h3, h4, h5⟩ := h.at hi
  refine ⟨z, b, off, h1, h2, h3, h4, ?_⟩
  have := h5 0 (by omega)
  rw [Nat.mul_one, Nat.add_zero] at this
  rw [this]; rfl
end Go.Proofs.Ytjlocbimkfocnaa
