/-
  What the law on each node's entry wants besides: short texts, a variable that holds an entry, equal entries. No statement is proved here.
-/
import Derived.Test.YtohfbahfnbganaaL3W
import Derived.Test.YtohfbahfnbganaaEntEq
import Derived.Test.YtohfbahfnbganaaIJoin
import Derived.Test.YtohfbahfnbganaaVwP
namespace Go.Proofs.Ytohfbahfnbganaa
open Go.RowKit

theorem entR_nine {its : List Itm} {k : Int} {x : Key} {b : Bool} (h : Nine its) (hk : entR its k = (x, b)) : x.2.2.2.2.size ≤ 9 := by
  cases b
  · have : x = zeroK := by
      unfold entR at hk
      split at hk
      · cases hk
      · exact (Prod.mk.inj hk).1.symm
    subst this
    decide
  · obtain ⟨i, hi⟩ := ent_mem (entR_true hk)
    exact h (i, x) hi
variable {w X Y : World} {b q : Nat} {v1 v2 : Value} {its : List Itm} {fls : List Flr}
theorem U3.far {cs : Array Value} {fz : Nat × Nat} (h : U3 w X b v1 v2 its fls) (hk : X.heap[q]? = some (.cells cs 46 fz)) (hne : b ≠ q) (hg : X.grownBy Y (some q)) : U3 w Y b v1 v2 its fls :=
  ⟨h.ge, blk_grown hg h.k1 hne, h.oi.other hk (by decide) hg, h.of.other hk (by decide) hg⟩
/-- A variable that holds an entry. -/
structure E3 (X : World) (b : Nat) (x : Key) : Prop where
  k : X.heap[b]? = some (.cells #[.int .i64 x.1, .int .i64 x.2.1, .int .i64 x.2.2.1, .int .i64 x.2.2.2.1, .string x.2.2.2.2] 46 (0, 0))
theorem E3.lt {x : Key} (h : E3 X b x) : b < X.heap.size := (Array.getElem?_eq_some_iff.1 h.k).1
theorem E3.later {x : Key} (h : E3 X b x) (bl : Below X.heap.size X Y) : E3 Y b x := ⟨(bl.block _ h.lt).trans h.k⟩
theorem E3.far {x : Key} (h : E3 X b x) (hne : b ≠ q) (hg : X.grownBy Y (some q)) : E3 Y b x := ⟨blk_grown hg h.k hne⟩
def put5 (X : World) (b : Nat) (y : Key) : World := ((((X.setCell ⟨b, 0, none⟩ (.int .i64 y.1)).setCell ⟨b, 1, none⟩ (.int .i64 y.2.1)).setCell ⟨b, 2, none⟩ (.int .i64 y.2.2.1)).setCell ⟨b, 3, none⟩ (.int .i64 y.2.2.2.1)).setCell ⟨b, 4, none⟩ (.string y.2.2.2.2)
theorem put5_grown (X : World) (b : Nat) (y : Key) : X.grownBy (put5 X b y) (some b) :=
  grown_trans (grown_trans (grown_trans (grown_trans (grown_set _ _ _ _) (grown_set _ _ _ _)) (grown_set _ _ _ _)) (grown_set _ _ _ _)) (grown_set _ _ _ _)
theorem E3.put {x : Key} (h : E3 X b x) (y : Key) : E3 (put5 X b y) b y := ⟨blk_set5 h.k _ _ _ _ _⟩
theorem put5_below {B : Nat} (h : Below B w X) (hb : B ≤ b) (y : Key) : Below B w (put5 X b y) := below_set5 hb h
theorem eqK_self (x : Key) (W : World) : (Op.equalIn 10000 46 (.agg #[.int .i64 x.1, .int .i64 x.2.1, .int .i64 x.2.2.1, .int .i64 x.2.2.2.1, .string x.2.2.2.2]) (.agg #[.int .i64 x.1, .int .i64 x.2.1, .int .i64 x.2.2.1, .int .i64 x.2.2.2.1, .string x.2.2.2.2])).run Try.prog W = .ok true W := by
  rw [eq_run, cmpE_self]; rfl
end Go.Proofs.Ytohfbahfnbganaa
