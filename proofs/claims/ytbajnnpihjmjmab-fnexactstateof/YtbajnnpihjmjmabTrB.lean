/-
  Rows of bytes that are put together; numbers as bytes, one behind the other: the program's putNums. No statement is proved here.
-/
import Derived.Test.YtbajnnpihjmjmabMsX
import Derived.Test.YtbajnnpihjmjmabIntS
import Derived.Test.YtbajnnpihjmjmabAppAny
import Derived.Test.YtbajnnpihjmjmabStT
import Derived.Test.YtbajnnpihjmjmabStM
import Derived.Test.YtbajnnpihjmjmabApp2
import Derived.Test.YtbajnnpihjmjmabCrcP
import Derived.Test.YtbajnnpihjmjmabSPutText
namespace Go.Proofs.Ytbajnnpihjmjmab
open Go.RowKit

/-- A row of bytes that the call itself owns. -/
abbrev OwB (base : Nat) (w : World) (v : Value) (bs : List Int) : Prop := w.ownsRow base 5 1 v bs.length (bs.map (Value.int .u8))
theorem OwB.nil (base : Nat) (w : World) : OwB base w (.slice none 0 0) [] := World.ownsRow_nil _ _ _ _
theorem wpList_appB {ops : Array Oper} {rest : List Oper} {o : Oper} {a : Act} {Q : Exit → Act → World → Prop} (w : World) (hgd : o.guard = none) (s x : Operand)
    (ho : o.op = .call { callee := .builtin .append, args := #[s, x], argTypes := #[22, 22] })
    (base : Nat) (v : Value) (xs : List Int) (hs : a.eval s = v) (hown : OwB base w v xs) (B' : Nat) (u : Value) (ys : List Int) (hx : a.eval x = u) (hu : OwB B' w u ys) (hl : xs.length + ys.length ≤ 100000000) (hbase : base ≤ w.heap.size)
    (h : ∀ v' w', OwB base w' v' (xs ++ ys) → w.grownBy w' v.ownBlock → wpList Try.prog ops Q rest (a.put o.dst v') w') : wpList Try.prog ops Q (o :: rest) a w := by
  obtain ⟨i0, hi, hz0, hz1, hz2⟩ := info_parts Try.infoByte
  refine wpList_append_any w hgd s x 22 ho base 5 i0 (.int .u8 0) 1 Try.underlying22 hi hz0 hz1 hz2 rfl v xs.length (xs.map (Value.int .u8)) hs hown B' u ys.length (ys.map (Value.int .u8)) hx hu (ints_oneCell _ _) (by unfold maxLen; omega) (by omega) hbase (fun v' w' o1 g1 => h v' w' ?_ g1)
  unfold OwB
  rw [List.map_append, List.length_append]
  exact o1

end Go.Proofs.Ytbajnnpihjmjmab
