/-
  A row that came in as an argument: what it reads as. No statement is proved here.
  A slice of numbers, and a tree, as an argument, opened; the laws' helpers on slices of numbers, said of values. No statement is proved here.
  The helpers of the laws on trees. No statement is proved here.
-/
import Derived.Test.YtjlocbimkfocnaaGreatApp2
import Derived.ProofKit
import Derived.ChangeArms
import Derived.Deep.Slices
import Derived.Test.YtjlocbimkfocnaaGreatIntS
import Derived.Test.YtjlocbimkfocnaaGreatTrA
namespace Go.Proofs.YtjlocbimkfocnaaGreat
open Go.ChangeShapes Go.WideShapes Go.ChangeAt Go.RowKit

def FitN (n : Int) : Prop := -9223372036854775808 ≤ n ∧ n ≤ 9223372036854775807
theorem list_of {α : Type} {p : Nat → α → Prop} : ∀ (n : Nat), (∀ i, i < n → ∃ y, p i y) → ∃ xs : List α, xs.length = n ∧ ∀ (i : Nat) (y : α), xs[i]? = some y → p i y
  | 0, _ => ⟨[], rfl, fun i y h => by simp at h⟩
  | n + 1, h => by
    obtain ⟨xs, hl, hx⟩ := list_of n (fun i hi => h i (by omega))
    obtain ⟨y, hy⟩ := h n (by omega)
    refine ⟨xs ++ [y], by simp [hl], fun i z hz => ?_⟩
    by_cases hi : i < n
    · rw [List.getElem?_append_left (by omega)] at hz; exact hx i z hz
    · have hlt := (List.getElem?_eq_some_iff.1 hz).1
      simp [hl] at hlt
      obtain rfl : i = n := by omega
      rw [List.getElem?_append_right (by omega)] at hz
      simp [hl] at hz
      subst hz; exact hy

theorem fit_of {n : Int} (h : (Lit.int .i64 n).wf = true) : FitN n := by
  simp [Lit.wf, IntKind.min, IntKind.max, IntKind.bits, IntKind.signed] at h
  unfold FitN
  omega

theorem addr_off (b off i : Nat) : (⟨b, off, none⟩ : Addr).add i = ⟨b, off + i, none⟩ := by
  unfold Addr.add
  split
  · rename_i e; rw [e]; rfl
  · rfl

section
variable {H : Type} {enc : TypeId × Value → H} {w : World} {base : Nat} {spare : Nat → Bool} {held : Bool}

/-- A slice whose elements are structs. -/
theorem rw_of_slice {α : Type} {ec : α → List Value} {k : Nat} {Q : α → Prop} {T E : TypeId} (hT : Tryz.prog.underlying T = some (.slice E)) (hE : Tryz.prog.cellsOf E = k) (h0 : 0 < k)
    (dec : ∀ (fuel : Nat) (cs : List Value) (x : DataW H × List MemPlace), DataW.trod enc Tryz.prog w base spare held fuel E cs = some x → ∃ y, cs = ec y ∧ Q y)
    {fuel : Nat} {c : Value} {x : DataW H × List MemPlace} (h : DataW.trod enc Tryz.prog w base spare held fuel T [c] = some x) :
    ∃ a n cap xs, c = .slice a n cap ∧ n ≤ maxLen ∧ Rw ec k w (.slice a n cap) xs ∧ ∀ (i : Nat) (y : α), xs[i]? = some y → Q y := by
  rcases Deep.open_slice hT h with ⟨h1, -⟩ | ⟨a, len, cap, m, n, D, Pl, h1, hb, hl, hm, hmm, -, hx⟩
  · simp only [List.cons.injEq, and_true] at h1
    exact ⟨none, 0, 0, [], h1, by unfold maxLen; omega, Rw.nil, fun i y hy => by simp at hy⟩
  · simp only [List.cons.injEq, and_true] at h1
    subst h1
    have hlm : len ≤ m := by rw [hmm]; split <;> omega
    obtain ⟨xs, hxl, hxs⟩ := list_of (p := fun i y => (w.cells? base (a.add (i * k)) k = some (ec y)) ∧ Q y) len (fun i hi => by
      obtain ⟨cs', e1, e2⟩ := hx i (by omega)
      obtain ⟨y, rfl, hq⟩ := dec _ _ _ e2
      rw [hE] at e1
      exact ⟨y, e1, hq⟩)
    refine ⟨some a, len, cap, xs, rfl, by omega, ?_, fun i y hy => (hxs i y hy).2⟩
    subst hxl
    refine ⟨some a, cap, rfl, hl, ?_⟩
    by_cases hz : xs = []
    · exact .inl hz
    · have hpos : 0 < xs.length := List.length_pos_iff.2 hz
      have hc0 := (hxs 0 xs[0] (by simp [hpos])).1
      obtain ⟨_, hlen0, hcell0⟩ := World.cells?_some hc0
      have hc00 := hcell0 0 h0
      rw [List.getElem?_eq_getElem (by omega)] at hc00
      obtain ⟨b, off, spot⟩ := a
      have hspot : spot = none := by
        have := World.cell?_spot hc00
        simpa [Addr.add] using this
      subst hspot
      refine .inr ⟨b, off, rfl, by simpa [Addr.add] using World.block_lt_of_cell? w _ hc00, fun i y hy j hj => ?_⟩
      obtain ⟨_, _, hcell⟩ := World.cells?_some (hxs i y hy).1
      have := hcell j hj
      rw [Deep.add_add, addr_off] at this
      rw [Nat.add_assoc]
      exact this
end
end Go.Proofs.YtjlocbimkfocnaaGreat

namespace Go.Proofs.YtjlocbimkfocnaaGreat
open Go.RowKit

def FitNs (ns : List Int) : Prop := ∀ (k : Nat) (x : Int), ns[k]? = some x → FitN x
section
variable {H : Type} {enc : TypeId × Value → H} {w : World} {base : Nat} {spare : Nat → Bool} {held : Bool}
theorem int_of_cells {fuel : Nat} {cs : List Value} {x : DataW H × List MemPlace} (h : DataW.trod enc Tryz.prog w base spare held fuel 3 cs = some x) : ∃ y : Int, cs = encN y ∧ FitN y := by
  obtain ⟨n0, e0, -, f0⟩ := DataW.trod_int Tryz.underlying3 h
  exact ⟨n0, by rw [e0]; rfl, fit_of f0⟩
set_option maxRecDepth 100000 in
theorem open_numrow {r : Reach} {b0 : Nat} {v : Value} {d : DataW H} {p : List MemPlace}
    (hv : Value.okWide Tryz.prog w r b0 24 v) (h : DataW.Trod enc Tryz.prog w base spare held 24 v d p) :
    ∃ a n c ns, v = .slice a n c ∧ n ≤ 9223372036854775807 ∧ RwN w (.slice a n c) ns ∧ FitNs ns := by
  obtain ⟨a0, l0, c0, rfl⟩ := Go.WideShapes.okWide_slice Tryz.underlying24 hv
  obtain ⟨fuel, hf⟩ := h
  obtain ⟨a, n, c, ns, e, l1, r1, q1⟩ := rw_of_slice (ec := encN) (k := 1) (Q := FitN) Tryz.underlying24 (by kernel_rfl) (by omega) (fun _ _ _ h => int_of_cells h) (c := .slice a0 l0 c0) (by simpa [Value.cells] using hf)
  unfold maxLen at l1
  exact ⟨a, n, c, ns, e, l1, r1, q1⟩
end
theorem eqints_v (a a1 : Option Addr) (n c c1 : Nat) (ns : List Int) (w : World) (hn : n ≤ 140737488351232) (h : RwN w (.slice a n c) ns) (h1 : RwN w (.slice a1 n c1) ns) :
    Calls Tryz.prog 59 #[.slice a n c, .slice a1 n c1] w fun e w' => e = .returned (.bool true) ∧ Below w.heap.size w w' := by
  obtain rfl := h.len.1
  refine (eqints_same _ _ ns w hn (segN_of h) (segN_of h1)).mono ?_
  rintro e w1 ⟨rfl, b⟩
  exact ⟨rfl, b _⟩
theorem markints_v {E : TypeId} (base : Nat) (a : Option Addr) (n c : Nat) (ns : List Int) (k : Int) (w : World) (hn : n ≤ 140737488351232) (hk0 : 0 ≤ k) (hk1 : k ≤ 140737488351232) (h : Ow encN 1 E base w (.slice a n c) ns) :
    Calls Tryz.prog 63 #[.slice a n c, .int .i64 k] w fun e w' => e = .returned (.int .i64 (k + n)) ∧ Ow encN 1 E base w' (.slice a n c) (markN k n) ∧ w.grownBy w' (Value.slice a n c).ownBlock := by
  obtain rfl := (h.rw encN_len).len.1
  refine (markN_any E base _ ns k ns.length w hn hk0 hk1 (ownN_iff.1 h)).mono ?_
  rintro e w1 ⟨rfl, o, b⟩
  exact ⟨rfl, ownN_iff.2 (by rw [markN_length]; exact o), b⟩
theorem heldints_v (a : Option Addr) (n c : Nat) (k : Int) (w : World) (hn : n ≤ 140737488351232) (hk0 : 0 ≤ k) (hk1 : k ≤ 140737488351232) (h : RwN w (.slice a n c) (markN k n)) :
    Calls Tryz.prog 67 #[.slice a n c, .int .i64 k] w fun e w' => e = .returned (.int .i64 (k + n)) ∧ w = w' :=
  heldN_any _ k n w hn hk0 hk1 (segN_of h)
end Go.Proofs.YtjlocbimkfocnaaGreat

namespace Go.Proofs.YtjlocbimkfocnaaGreat
open Go.RowKit

set_option maxHeartbeats 4000000 in
set_option maxRecDepth 100000 in
theorem eqtree_same (a a1 : Option Addr) (n c c1 : Nat) (ns : List Int) (q : Int) (w : World) (hn : n ≤ 140737488351232) (h : RwN w (.slice a n c) ns) (h1 : RwN w (.slice a1 n c1) ns) :
    Calls Tryz.prog 58 #[.agg #[.slice a n c, .int .i64 q], .agg #[.slice a1 n c1, .int .i64 q]] w fun e w' => e = .returned (.bool true) ∧ Below w.heap.size w w' := by
  have HR := hide h
  have HR1 := hide h1
  have hne : (q != q) = false := by simp
  clear h h1
  go_enter Tryz.func58, Tryz.ntmps58
  go_wp2_with fail
  have bW : Below w.heap.size w ((w.alloc (TreB (.slice a n c) q)).alloc (TreB (.slice a1 n c1) q)) := ((Below.refl w.heap.size w).alloc (Nat.le_refl _) _).alloc (by simp) _
  refine (eqints_v a a1 n c c1 ns _ hn ((unhide HR).later bW) ((unhide HR1).later bW)).mono ?_
  rintro e w1 ⟨rfl, b1⟩
  have BL := hide (bW.trans (b1.mono (by simp <;> omega)))
  obtain ⟨a0, a1', -⟩ := blk_cells2 ((b1.block w.heap.size (by simp <;> omega)).trans (lowB2 w _ _))
  obtain ⟨r0, r1, -⟩ := blk_cells2 ((b1.block (w.heap.size + 1) (by simp)).trans (newB2 w _ _))
  have z1 : w.heap.size + 1 < w1.heap.size := by have := b1.size; simp at this; omega
  have zA : w.heap.size < w1.heap.size := by omega
  clear bW b1
  go_wp2
  go_ret
  exact ⟨rfl, unhide BL⟩
set_option maxHeartbeats 4000000 in
theorem marktree_v {E : TypeId} (base : Nat) (a : Option Addr) (n c : Nat) (ns : List Int) (q k : Int) (w : World) (hn : n ≤ 140737488351232) (hk0 : 0 ≤ k) (hk1 : k ≤ 140737488351232) (h : Ow encN 1 E base w (.slice a n c) ns) :
    Calls Tryz.prog 62 #[.agg #[.slice a n c, .int .i64 q], .int .i64 k] w fun e w' => e = .returned (.int .i64 (k + n)) ∧ Ow encN 1 E base w' (.slice a n c) (markN k n) ∧ w.grownBy w' (Value.slice a n c).ownBlock := by
  have HO := hide (World.ownsRow.alloc h (TreB (.slice a n c) q))
  clear h
  go_enter Tryz.func62, Tryz.ntmps62
  go_wp2_with fail
  refine (markints_v base a n c ns k _ hn hk0 hk1 (unhide HO)).mono ?_
  rintro e w1 ⟨rfl, o1, g1⟩
  have O1 := hide o1
  have G1 := hide (grown_on (World.grownBy_alloc w (TreB (.slice a n c) q) (Value.slice a n c).ownBlock) g1)
  clear o1 g1
  go_wp2
  go_ret
  exact ⟨rfl, unhide O1, unhide G1⟩
set_option maxHeartbeats 4000000 in
theorem heldtree_v (a : Option Addr) (n c : Nat) (q k : Int) (w : World) (hn : n ≤ 140737488351232) (hk0 : 0 ≤ k) (hk1 : k ≤ 140737488351232) (h : RwN w (.slice a n c) (markN k n)) :
    Calls Tryz.prog 66 #[.agg #[.slice a n c, .int .i64 q], .int .i64 k] w fun e w' => e = .returned (.int .i64 (k + n)) ∧ Below w.heap.size w w' := by
  have HR := hide (h.alloc (TreB (.slice a n c) q))
  have hd : decide (k + (n : Int) < 0) = false := by simp; omega
  clear h
  go_enter Tryz.func66, Tryz.ntmps66
  go_wp2_with fail
  refine (heldints_v a n c k _ hn hk0 hk1 (unhide HR)).mono ?_
  rintro e _ ⟨rfl, rfl⟩
  go_wp2
  go_ret
  exact ⟨rfl, (Below.refl _ _).alloc (Nat.le_refl _) _⟩
end Go.Proofs.YtjlocbimkfocnaaGreat
