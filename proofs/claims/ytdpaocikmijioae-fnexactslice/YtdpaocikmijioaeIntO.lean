/-
  A slice of numbers, and a tree, as an argument, opened; the laws' helpers on slices of numbers, said of values. No statement is proved here.
-/
import Derived.Test.YtdpaocikmijioaeIntS
import Derived.Test.YtdpaocikmijioaeRwI
import Derived.Test.YtdpaocikmijioaeStO
namespace Go.Proofs.Ytdpaocikmijioae
open Go.RowKit

def FitNs (ns : List Int) : Prop := ∀ (k : Nat) (x : Int), ns[k]? = some x → FitN x
section
variable {H : Type} {enc : TypeId × Value → H} {w : World} {base : Nat} {spare : Nat → Bool} {held : Bool}
theorem int_of_cells {fuel : Nat} {cs : List Value} {x : DataW H × List MemPlace} (h : DataW.trod enc Try.prog w base spare held fuel 3 cs = some x) : ∃ y : Int, cs = encN y ∧ FitN y := by
  obtain ⟨n0, e0, -, f0⟩ := DataW.trod_int Try.underlying3 h
  exact ⟨n0, by rw [e0]; rfl, fit_of f0⟩
set_option maxRecDepth 100000 in
theorem open_numrow {r : Reach} {b0 : Nat} {v : Value} {d : DataW H} {p : List MemPlace}
    (hv : Value.okWide Try.prog w r b0 39 v) (h : DataW.Trod enc Try.prog w base spare held 39 v d p) :
    ∃ a n c ns, v = .slice a n c ∧ n ≤ 9223372036854775807 ∧ RwN w (.slice a n c) ns ∧ FitNs ns := by
  obtain ⟨a0, l0, c0, rfl⟩ := Go.WideShapes.okWide_slice Try.underlying39 hv
  obtain ⟨fuel, hf⟩ := h
  obtain ⟨a, n, c, ns, e, l1, r1, q1⟩ := rw_of_slice (ec := encN) (k := 1) (Q := FitN) Try.underlying39 (by kernel_rfl) (by omega) (fun _ _ _ h => int_of_cells h) (c := .slice a0 l0 c0) (by simpa [Value.cells] using hf)
  unfold maxLen at l1
  exact ⟨a, n, c, ns, e, l1, r1, q1⟩
end
theorem toints_v (a : Option Addr) (n c : Nat) (ns : List Int) (w : World) (hn : n ≤ 1073741824) (h : RwN w (.slice a n c) ns) :
    Calls Try.prog 19 #[.slice a n c] w fun e w' => ∃ a1 c1, e = .returned (.slice a1 n c1) ∧ OwN w.heap.size w' (.slice a1 n c1) ns ∧ Below w.heap.size w w' := by
  obtain rfl := h.len.1
  refine (toints_any _ ns w hn (segN_of h)).mono ?_
  rintro e w1 ⟨u, rfl, o, b⟩
  have o := ownN_iff.2 o
  obtain ⟨a1, c1, rfl⟩ := o.form
  exact ⟨a1, c1, rfl, o, b⟩
theorem eqints_v (a a1 : Option Addr) (n c c1 : Nat) (ns : List Int) (w : World) (hn : n ≤ 140737488351232) (h : RwN w (.slice a n c) ns) (h1 : RwN w (.slice a1 n c1) ns) :
    Calls Try.prog 21 #[.slice a n c, .slice a1 n c1] w fun e w' => e = .returned (.bool true) ∧ Below w.heap.size w w' := by
  obtain rfl := h.len.1
  refine (eqints_same _ _ ns w hn (segN_of h) (segN_of h1)).mono ?_
  rintro e w1 ⟨rfl, b⟩
  exact ⟨rfl, b _⟩
theorem markints_v {E : TypeId} (base : Nat) (a : Option Addr) (n c : Nat) (ns : List Int) (k : Int) (w : World) (hn : n ≤ 140737488351232) (hk0 : 0 ≤ k) (hk1 : k ≤ 140737488351232) (h : Ow encN 1 E base w (.slice a n c) ns) :
    Calls Try.prog 22 #[.slice a n c, .int .i64 k] w fun e w' => e = .returned (.int .i64 (k + n)) ∧ Ow encN 1 E base w' (.slice a n c) (markN k n) ∧ w.grownBy w' (Value.slice a n c).ownBlock := by
  obtain rfl := (h.rw encN_len).len.1
  refine (markN_any E base _ ns k ns.length w hn hk0 hk1 (ownN_iff.1 h)).mono ?_
  rintro e w1 ⟨rfl, o, b⟩
  exact ⟨rfl, ownN_iff.2 (by rw [markN_length]; exact o), b⟩
theorem heldints_v (a : Option Addr) (n c : Nat) (k : Int) (w : World) (hn : n ≤ 140737488351232) (hk0 : 0 ≤ k) (hk1 : k ≤ 140737488351232) (h : RwN w (.slice a n c) (markN k n)) :
    Calls Try.prog 62 #[.slice a n c, .int .i64 k] w fun e w' => e = .returned (.int .i64 (k + n)) ∧ w = w' :=
  heldN_any _ k n w hn hk0 hk1 (segN_of h)
end Go.Proofs.Ytdpaocikmijioae
