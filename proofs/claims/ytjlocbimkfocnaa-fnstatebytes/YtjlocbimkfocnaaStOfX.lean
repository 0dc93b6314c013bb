/-
  StateOf, the specification's and the program's, said with lengths as letters. No statement is proved here.
-/
import Derived.Test.YtjlocbimkfocnaaRdS
import Derived.Test.YtjlocbimkfocnaaMsS
import Derived.Test.YtjlocbimkfocnaaByO
namespace Go.Proofs.Ytjlocbimkfocnaa
open Go.RowKit

theorem sof5 (xs : List Int) : (sofI xs).length ≤ 5 ∧ (sofF xs).length ≤ 5 := by
  cases h : sof xs with
  | none => rw [sofI, sofF, h]; simp
  | some p =>
    have := (sof_is (xs := p.1) (fs := p.2) h).1.len5
    rw [sofI, sofF, h]
    exact this
theorem istateof_v (v : Value) (xs : List Int) (n n1 n2 : Nat) (ok : Bool) (hn : Hid (xs.length = n)) (h1 : Hid ((sofI xs).length = n1)) (h2 : Hid ((sofF xs).length = n2)) (hok : Hid ((sof xs).isSome = ok)) (w : World) (hlen : n ≤ 1048576) (hbd : ∀ z ∈ xs, 0 ≤ z ∧ z ≤ 255) (hv : Seg w v xs) :
    Calls Try.prog 8 #[v] w fun e w' => ∃ a1 c1 a2 c2, e = .returned (.tuple #[.agg #[.slice a1 n1 c1, .slice a2 n2 c2], .bool ok]) ∧ OwI w.heap.size w' (.slice a1 n1 c1) (sofI xs) ∧ OwF w.heap.size w' (.slice a2 n2 c2) (sofF xs) ∧ Below w.heap.size w w' := by
  have hn := unhide hn
  refine (istateof_any v xs w (by omega) hbd hv).mono ?_
  rintro e w1 ⟨a1, k1, c1, a2, k2, c2, rfl, o1, o2, b⟩
  obtain rfl : k1 = n1 := by rw [← unhide h1]; exact (o1.rw encI_len).len.1
  obtain rfl : k2 = n2 := by rw [← unhide h2]; exact (o2.rw encF_len).len.1
  exact ⟨a1, c1, a2, c2, by rw [unhide hok], o1, o2, b⟩
theorem sstateof_v (v : Value) (xs : List Int) (n n1 n2 : Nat) (ok : Bool) (hn : Hid (xs.length = n)) (h1 : Hid ((sofI xs).length = n1)) (h2 : Hid ((sofF xs).length = n2)) (hok : Hid ((sof xs).isSome = ok)) (w : World) (hlen : n ≤ 1048576) (hbd : ∀ z ∈ xs, 0 ≤ z ∧ z ≤ 255) (hv : Seg w v xs) :
    Calls Try.prog 12 #[v] w fun e w' => ∃ a1 c1 a2 c2, e = .returned (.tuple #[.agg #[.slice a1 n1 c1, .slice a2 n2 c2], .bool ok]) ∧ OwI w.heap.size w' (.slice a1 n1 c1) (sofI xs) ∧ OwF w.heap.size w' (.slice a2 n2 c2) (sofF xs) ∧ Below w.heap.size w w' := by
  have hn := unhide hn
  refine (sstateof_any v xs w (by omega) hbd hv).mono ?_
  rintro e w1 ⟨a1, k1, c1, a2, k2, c2, rfl, o1, o2, b⟩
  obtain rfl : k1 = n1 := by rw [← unhide h1]; exact (o1.rw encI_len).len.1
  obtain rfl : k2 = n2 := by rw [← unhide h2]; exact (o2.rw encF_len).len.1
  exact ⟨a1, c1, a2, c2, by rw [unhide hok], o1, o2, b⟩
end Go.Proofs.Ytjlocbimkfocnaa
