/-
  A slice of numbers, and a tree, as an argument, opened; the laws' helpers on slices of numbers, said of values. No statement is proved here.
-/
import Derived.Test.YtjlocbimkfocnaaIntS
import Derived.Test.YtjlocbimkfocnaaRwI
import Derived.Test.YtjlocbimkfocnaaStO
namespace Go.Proofs.Ytjlocbimkfocnaa
open Go.RowKit

def FitNs (ns : List Int) : Prop := ∀ (k : Nat) (x : Int), ns[k]? = some x → FitN x
section
variable {H : Type} {enc : TypeId × Value → H} {w : World} {base : Nat} {spare : Nat → Bool} {held : Bool}
theorem int_of_cells {fuel : Nat} {cs : List Value} {x : DataW H × List MemPlace} (h : DataW.trod enc Try.prog w base spare held fuel 3 cs = some x) : ∃ y : Int, cs = encN y ∧ FitN y := by
  obtain ⟨n0, e0, -, f0⟩ := DataW.trod_int Try.underlying3 h
  exact ⟨n0, by rw [e0]; rfl, fit_of f0⟩
set_option maxRecDepth 100000 in
theorem open_numrow {r : Reach} {b0 : Nat} {v : Value} {d : DataW H} {p : List MemPlace}
    (hv : Value.okWide Try.prog w r b0 35 v) (h : DataW.Trod enc Try.prog w base spare held 35 v d p) :
    ∃ a n c ns, v = .slice a n c ∧ n ≤ 9223372036854775807 ∧ RwN w (.slice a n c) ns ∧ FitNs ns := by
  obtain ⟨a0, l0, c0, rfl⟩ := Go.WideShapes.okWide_slice Try.underlying35 hv
  obtain ⟨fuel, hf⟩ := h
  obtain ⟨a, n, c, ns, e, l1, r1, q1⟩ := rw_of_slice (ec := encN) (k := 1) (Q := FitN) Try.underlying35 (by kernel_rfl) (by omega) (fun _ _ _ h => int_of_cells h) (c := .slice a0 l0 c0) (by simpa [Value.cells] using hf)
  unfold maxLen at l1
  exact ⟨a, n, c, ns, e, l1, r1, q1⟩
set_option maxRecDepth 100000 in
theorem open_tree {r : Reach} {b0 : Nat} {v : Value} {d : DataW H} {p : List MemPlace}
    (hv : Value.okWide Try.prog w r b0 37 v) (h : DataW.Trod enc Try.prog w base spare held 37 v d p) :
    ∃ a n c ns q, v = .agg #[.slice a n c, .int .i64 q] ∧ n ≤ 9223372036854775807 ∧ RwN w (.slice a n c) ns ∧ FitNs ns ∧ FitN q := by
  obtain ⟨cs, rfl, hsz⟩ := Go.WideShapes.okWide_struct Try.underlying37 hv
  have hs2 : cs.size = 2 := hsz.trans (by kernel_rfl)
  have c1 : Try.prog.cellsOf 35 = 1 := by kernel_rfl
  have c2 : Try.prog.cellsOf 3 = 1 := by kernel_rfl
  obtain ⟨l⟩ := cs
  match l, hs2 with
  | [v0, v1], _ =>
    obtain ⟨fuel, hf⟩ := h
    obtain ⟨xs, n, _, hx, hl, hlen, hfs⟩ := DataW.trod_struct Try.underlying37 hf
    have h0 : DataW.trod enc Try.prog w base spare held n 35 [v0] = xs[0]? := by
      have := hfs 0 _ rfl
      simpa [Value.cells, c1] using this
    have h1 : DataW.trod enc Try.prog w base spare held n 3 [v1] = xs[1]? := by
      have := hfs 1 _ rfl
      simpa [Value.cells, c1, c2] using this
    match xs, hlen with
    | [y0, y1], _ =>
      simp only [List.getElem?_cons_zero, List.getElem?_cons_succ] at h0 h1
      obtain ⟨a, n, c, ns, rfl, l1, r1, q1⟩ := rw_of_slice (ec := encN) (k := 1) (Q := FitN) Try.underlying35 (by kernel_rfl) (by omega) (fun _ _ _ h => int_of_cells h) h0
      obtain ⟨q, e1, f1⟩ := int_of_cells h1
      simp only [encN, List.cons.injEq, and_true] at e1
      subst e1
      unfold maxLen at l1
      exact ⟨a, n, c, ns, q, rfl, l1, r1, q1, f1⟩
end
theorem toints_v (a : Option Addr) (n c : Nat) (ns : List Int) (w : World) (hn : n ≤ 1073741824) (h : RwN w (.slice a n c) ns) :
    Calls Try.prog 51 #[.slice a n c] w fun e w' => ∃ a1 c1, e = .returned (.slice a1 n c1) ∧ OwN w.heap.size w' (.slice a1 n c1) ns ∧ Below w.heap.size w w' := by
  obtain rfl := h.len.1
  refine (toints_any _ ns w hn (segN_of h)).mono ?_
  rintro e w1 ⟨u, rfl, o, b⟩
  have o := ownN_iff.2 o
  obtain ⟨a1, c1, rfl⟩ := o.form
  exact ⟨a1, c1, rfl, o, b⟩
theorem eqints_v (a a1 : Option Addr) (n c c1 : Nat) (ns : List Int) (w : World) (hn : n ≤ 140737488351232) (h : RwN w (.slice a n c) ns) (h1 : RwN w (.slice a1 n c1) ns) :
    Calls Try.prog 61 #[.slice a n c, .slice a1 n c1] w fun e w' => e = .returned (.bool true) ∧ Below w.heap.size w w' := by
  obtain rfl := h.len.1
  refine (eqints_same _ _ ns w hn (segN_of h) (segN_of h1)).mono ?_
  rintro e w1 ⟨rfl, b⟩
  exact ⟨rfl, b _⟩
theorem markints_v {E : TypeId} (base : Nat) (a : Option Addr) (n c : Nat) (ns : List Int) (k : Int) (w : World) (hn : n ≤ 140737488351232) (hk0 : 0 ≤ k) (hk1 : k ≤ 140737488351232) (h : Ow encN 1 E base w (.slice a n c) ns) :
    Calls Try.prog 65 #[.slice a n c, .int .i64 k] w fun e w' => e = .returned (.int .i64 (k + n)) ∧ Ow encN 1 E base w' (.slice a n c) (markN k n) ∧ w.grownBy w' (Value.slice a n c).ownBlock := by
  obtain rfl := (h.rw encN_len).len.1
  refine (markN_any E base _ ns k ns.length w hn hk0 hk1 (ownN_iff.1 h)).mono ?_
  rintro e w1 ⟨rfl, o, b⟩
  exact ⟨rfl, ownN_iff.2 (by rw [markN_length]; exact o), b⟩
end Go.Proofs.Ytjlocbimkfocnaa
