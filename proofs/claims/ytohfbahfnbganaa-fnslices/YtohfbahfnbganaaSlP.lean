/-
  While the slices of a state are joined: the variable that holds what is joined so far. No statement is proved here.
-/
import Derived.Test.YtohfbahfnbganaaL6D
import Derived.Test.YtohfbahfnbganaaSStSame
import Derived.Test.YtohfbahfnbganaaIStSame
import Derived.Test.YtohfbahfnbganaaIJoin
import Derived.Lib.ConvBytes
namespace Go.Proofs.Ytohfbahfnbganaa
open Go.RowKit

/-- The variable was laid right behind P; it holds a state of the call's own. -/
structure Al6 (P W : World) (a1 : Option Addr) (n1 c1 : Nat) (a2 : Option Addr) (n2 c2 : Nat) (xs : List Itm) (fs : List Flr) : Prop where
  bel : Below P.heap.size P W
  blk : W.heap[P.heap.size]? = some (.cells #[.slice a1 n1 c1, .slice a2 n2 c2] 27 (0, 0))
  lt : P.heap.size < W.heap.size
  o1 : OwI (P.heap.size + 1) W (.slice a1 n1 c1) xs
  o2 : OwF (P.heap.size + 1) W (.slice a2 n2 c2) fs
theorem Al6.new (P : World) : Al6 P (P.alloc (.cells #[.slice none 0 0, .slice none 0 0] 27)) none 0 0 none 0 0 [] [] :=
  ⟨(Below.refl _ _).alloc (Nat.le_refl _) _, heap_alloc_new _ _, by simp, World.ownsRow_nil _ _ _ _, World.ownsRow_nil _ _ _ _⟩
theorem Al6.later {P W W' : World} {a1 a2 : Option Addr} {n1 c1 n2 c2 : Nat} {xs : List Itm} {fs : List Flr} (h : Al6 P W a1 n1 c1 a2 n2 c2 xs fs) (b : Below W.heap.size W W') : Al6 P W' a1 n1 c1 a2 n2 c2 xs fs :=
  ⟨h.bel.trans (b.mono h.bel.size), (b.block _ h.lt).trans h.blk, Nat.lt_of_lt_of_le h.lt b.size, h.o1.later b, h.o2.later b⟩
theorem Al6.put {P V W : World} {a1 a2 b1 b2 : Option Addr} {n1 c1 n2 c2 m1 d1 m2 d2 : Nat} {xs ys : List Itm} {fs gs : List Flr} (h : Al6 P W a1 n1 c1 a2 n2 c2 xs fs) (hv : P.heap.size < V.heap.size) (o1 : OwI V.heap.size W (.slice b1 m1 d1) ys) (o2 : OwF V.heap.size W (.slice b2 m2 d2) gs) :
    Al6 P ((W.setCell ⟨P.heap.size, 0, none⟩ (.slice b1 m1 d1)).setCell ⟨P.heap.size, 1, none⟩ (.slice b2 m2 d2)) b1 m1 d1 b2 m2 d2 ys gs :=
  ⟨(h.bel.setCell (p := ⟨P.heap.size, 0, none⟩) (Nat.le_refl _) _).setCell (p := ⟨P.heap.size, 1, none⟩) (Nat.le_refl _) _, blk_set2 h.blk _ _, by simpa using h.lt,
    Ow.base ((o1.set ⟨P.heap.size, 0, none⟩ hv _).set ⟨P.heap.size, 1, none⟩ hv _) hv, Ow.base ((o2.set ⟨P.heap.size, 0, none⟩ hv _).set ⟨P.heap.size, 1, none⟩ hv _) hv⟩
theorem sl_nil (xs : List Itm) (fs : List Flr) : slI (([0, 1, 2, 3] : List Int).take 0) xs = [] ∧ slF (([0, 1, 2, 3] : List Int).take 0) fs = [] := by
  simp [slI, slF, hasN]
theorem take_four {k : Nat} (h : k < 4) : ([0, 1, 2, 3] : List Int).take (k + 1) = ([0, 1, 2, 3] : List Int).take k ++ [(k : Int)] := by
  rcases (by omega : k = 0 ∨ k = 1 ∨ k = 2 ∨ k = 3) with rfl | rfl | rfl | rfl <;> rfl
theorem OkS.slice_step {xs : List Itm} {fs : List Flr} (h : OkS xs fs) {k : Nat} (hk : k < 4) :
    jnI true (slI (([0, 1, 2, 3] : List Int).take k) xs) (slF (([0, 1, 2, 3] : List Int).take k) fs) (slI [(k : Int)] xs) (slF [(k : Int)] fs) = slI (([0, 1, 2, 3] : List Int).take (k + 1)) xs ∧ jnF true (slF (([0, 1, 2, 3] : List Int).take k) fs) (slF [(k : Int)] fs) = slF (([0, 1, 2, 3] : List Int).take (k + 1)) fs := by
  rw [take_four hk]
  exact h.slice_join _ _
theorem OkS.slice_ok {xs : List Itm} {fs : List Flr} (h : OkS xs fs) (A : List Int) : okS (slI A xs) (slF A fs) = true := (okS_iff _ _).2 (h.slice A)
/-- string(b) of what is owned. -/
theorem conv6 {w : World} {B : Nat} {v : Value} {xs : List Int} {y : ByteArray} (hy : Hid (strOfNums xs = y)) (h : OwB B w v xs) : (convert 22 9 v).run Try.prog w = .ok (.string y) w := by
  rw [← unhide hy]
  obtain ⟨a, cap, rfl, hcap, hs⟩ := seg_of_owns h
  rcases h.2 with ⟨h1, h0⟩ | ⟨g, cap', cur, h1, _⟩
  · simp only [Value.slice.injEq] at h1
    obtain ⟨rfl, h2, rfl⟩ := h1
    have : xs = [] := List.eq_nil_of_length_eq_zero h2
    subst this
    exact run_convert_bytes_nil (P := Try.prog) w 22 5 Try.underlying22 Try.underlying5 _ _ 9 Try.underlying9
  · simp only [Value.slice.injEq] at h1
    obtain ⟨rfl, _, _⟩ := h1
    refine run_convert_bytes_arg (P := Try.prog) w 22 5 Try.underlying22 Try.underlying5 g 0 xs.length cap xs rfl (fun i hi => ?_) 9 Try.underlying9
    rcases hs with hs | ⟨b, off, he, _, hc⟩
    · subst hs; simp at hi
    · simp only [Option.some.injEq, Addr.mk.injEq] at he
      obtain ⟨rfl, rfl, _⟩ := he
      exact hc i hi
theorem OwB.later {B : Nat} {w w' : World} {v : Value} {xs : List Int} (h : OwB B w v xs) (hb : Below w.heap.size w w') : OwB B w' v xs := owns_later h hb (Nat.le_refl _)
theorem OwB.slice {B : Nat} {w : World} {v : Value} {xs : List Int} (h : OwB B w v xs) : ∃ a c, v = .slice a xs.length c := by
  obtain ⟨a, cap, h1, _⟩ := seg_of_owns h
  exact ⟨a, cap, h1⟩
/-- Where the bytes of a leaf's slices are the same, its sums are. -/
theorem same_sum {xs ys : List Itm} {fs gs : List Flr} (h1 : okS xs fs = true) (h2 : okS ys gs = true) {k : Nat} {a b : ByteArray} (ha : strOfNums (sbS (slI [(k : Int)] xs) (slF [(k : Int)] fs)) = a) (hb : strOfNums (sbS (slI [(k : Int)] ys) (slF [(k : Int)] gs)) = b) (h : (a.toList == b.toList) = true) :
    lsm xs fs k = lsm ys gs k := by
  subst ha
  subst hb
  rw [str_eq _ _ (sbS_bytes _ _), bl_str _ (sbS_bytes _ _)] at h
  have e := of_decide_eq_true h
  have k1 := ((okS_iff _ _).1 h1).slice_ok [(k : Int)]
  have k2 := ((okS_iff _ _).1 h2).slice_ok [(k : Int)]
  rw [sbS, if_pos k1, sbS, if_pos k2] at e
  unfold lsm
  rw [h1, h2, e]
theorem ok_of_len {xs : List Itm} {fs : List Flr} {n k : Nat} (h : (trL xs fs).length = n) (hk : k < n) : okS xs fs = true ∧ n = 4 := by
  rw [trL_len] at h
  split at h
  · rename_i h1; exact ⟨h1, h.symm⟩
  · omega
end Go.Proofs.Ytohfbahfnbganaa
