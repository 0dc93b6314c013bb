/-
  A law of the walk: append(dst, x) of one element of several cells onto a row that the call itself owns. No statement is proved here.
  append(dst, x) of one element onto a row of the call's own, at a step of a statement that draws its order. No statement is proved here.
-/
import Derived.Test.YtbajnnpihjmjmabRwO
import Derived.Test.YtbajnnpihjmjmabSt3
import Derived.Deep.AppendLies
namespace Go.Proofs.Ytbajnnpihjmjmab
open Go.RowKit

theorem wpList_app1x {P : Program} {α : Type} {enc : α → List Value} {k : Nat} (hk : ∀ x, (enc x).length = k) (h0 : 0 < k) {ops : Array Oper} {rest : List Oper} {o : Oper} {a : Act} {Q : Exit → Act → World → Prop}
    (E T : TypeId) (i : TypeInfo) (z : Value) (bytes : Nat) (ht : P.underlying T = some (.slice E)) (hi : P.info? E = some i) (hz : i.zero = some z) (hsize : i.size = k) (hby : i.bytes = bytes) (hzs : z.cells.size = k) (hb : bytes ≤ 1000)
    (w : World) (x : α) (h1 : ∀ u ∈ enc x, u.oneCell' = true) (hgd : o.guard = none) (s xo : Operand) (ho : o.op = .call { callee := .builtin .append, args := #[s, xo], argTypes := #[T, T] })
    (base : Nat) (v : Value) (xs : List α) (n : Nat) (hn : Hid (n = xs.length)) (hs : a.eval s = v) (hown : Ow enc k E base w v xs) (hx : a.eval xo = .slice (some ⟨w.heap.size, 0, none⟩) 1 1) (hlen : n ≤ 2000000) (hbase : base ≤ w.heap.size)
    (h : ∀ a' c' w', Ow enc k E base w' (.slice a' (n + 1) c') (xs ++ [x]) → w.grownBy w' v.ownBlock → wpList P ops Q rest (a.put o.dst (.slice a' (n + 1) c')) w') :
    wpList P ops Q (o :: rest) a (w.alloc (.cells (enc x).toArray E)) := by
  obtain rfl := unhide hn
  refine wpList_append_own _ hgd s xo T ho base E i z k bytes ht hi hz hsize hby hzs h0 v xs.length (xs.flatMap enc) hs (World.ownsRow.alloc hown _) ⟨w.heap.size, 0, none⟩ 1 1 (enc x) hx (by rw [hk]; omega) ?_ h1 (by unfold maxLen; omega) ?_ (by simp; omega) ?_
  · intro j u hj
    have e : (⟨w.heap.size, 0, none⟩ : Addr).add j = ⟨w.heap.size, j, none⟩ := by unfold Addr.add; split <;> simp_all
    rw [e]
    have : (w.alloc (.cells (enc x).toArray E)).heap[w.heap.size]? = some (.cells (enc x).toArray E (0, 0)) := heap_alloc_new w _
    simp only [World.cell?, this]
    simpa using hj
  · have : (xs.length + 1) * bytes ≤ 2000001 * 1000 := Nat.mul_le_mul (by omega) hb
    omega
  · intro v' w' h2 h3 _
    have hO : Ow enc k E base w' v' (xs ++ [x]) := by
      unfold Ow
      rw [List.length_append, List.flatMap_append]
      simpa using h2
    obtain ⟨a', c', rfl⟩ := hO.form
    rw [List.length_append] at hO ⊢
    exact h a' c' w' hO (by
      have g0 := World.grownBy_alloc w (.cells (enc x).toArray E) v.ownBlock
      exact ⟨h3.os.trans g0.os, h3.tape.trans g0.tape, h3.output.trans g0.output, Nat.le_trans g0.size h3.size, fun i hi hne => (h3.block i (Nat.lt_of_lt_of_le hi g0.size) hne).trans (g0.block i hi hne)⟩)
theorem wpList_app1 {P : Program} {α : Type} {enc : α → List Value} {k : Nat} (hk : ∀ x, (enc x).length = k) (h0 : 0 < k) (h1 : ∀ x, ∀ u ∈ enc x, u.oneCell' = true) {ops : Array Oper} {rest : List Oper} {o : Oper} {a : Act} {Q : Exit → Act → World → Prop}
    (E T : TypeId) (i : TypeInfo) (z : Value) (bytes : Nat) (ht : P.underlying T = some (.slice E)) (hi : P.info? E = some i) (hz : i.zero = some z) (hsize : i.size = k) (hby : i.bytes = bytes) (hzs : z.cells.size = k) (hb : bytes ≤ 1000)
    (w : World) (x : α) (hgd : o.guard = none) (s xo : Operand) (ho : o.op = .call { callee := .builtin .append, args := #[s, xo], argTypes := #[T, T] })
    (base : Nat) (v : Value) (xs : List α) (n : Nat) (hn : Hid (n = xs.length)) (hs : a.eval s = v) (hown : Ow enc k E base w v xs) (hx : a.eval xo = .slice (some ⟨w.heap.size, 0, none⟩) 1 1) (hlen : n ≤ 2000000) (hbase : base ≤ w.heap.size)
    (h : ∀ a' c' w', Ow enc k E base w' (.slice a' (n + 1) c') (xs ++ [x]) → w.grownBy w' v.ownBlock → wpList P ops Q rest (a.put o.dst (.slice a' (n + 1) c')) w') :
    wpList P ops Q (o :: rest) a (w.alloc (.cells (enc x).toArray E)) := wpList_app1x hk h0 E T i z bytes ht hi hz hsize hby hzs hb w x (h1 x) hgd s xo ho base v xs n hn hs hown hx hlen hbase h
/-- A row and a variable of another type are not one block. -/
theorem own_ne {base : Nat} {e T : TypeId} {k : Nat} {w : World} {v : Value} {n : Nat} {xs : List Value} {g : Nat} {cs : Array Value} {fz : Nat × Nat} (h : w.ownsRow base e k v n xs) (hg : w.heap[g]? = some (.cells cs T fz)) (hne : e ≠ T) : v.ownBlock ≠ some g := by
  intro q
  rcases h.2 with ⟨rfl, _⟩ | ⟨g', cap, cur, rfl, _, hh, _⟩
  · cases q
  · simp only [Value.ownBlock, Option.some.injEq] at q
    subst q
    rw [hh] at hg
    simp at hg
    exact hne hg.2.1
theorem oneI (x : Int × Int × Int × Int × Int × ByteArray) : ∀ u ∈ ([.int .i64 x.1, .int .i64 x.2.1, .int .i64 x.2.2.1, .int .i64 x.2.2.2.1, .int .i64 x.2.2.2.2.1, .string x.2.2.2.2.2] : List Value), u.oneCell' = true := by
  intro u hu
  simp at hu
  rcases hu with rfl | rfl | rfl | rfl | rfl | rfl <;> rfl
theorem oneF (x : Int × Int) : ∀ u ∈ ([.int .i64 x.1, .int .i64 x.2] : List Value), u.oneCell' = true := by
  intro u hu
  simp at hu
  rcases hu with rfl | rfl <;> rfl
end Go.Proofs.Ytbajnnpihjmjmab

namespace Go.Proofs.Ytbajnnpihjmjmab
open Go.RowKit

theorem step_app1x {P : Program} {α : Type} {enc : α → List Value} {k : Nat} (hk : ∀ x, (enc x).length = k) (h0 : 0 < k) {ops : Array Oper} {o : Oper} {a : Act} {K : Act → World → Prop} {Q : Exit → Act → World → Prop} {R : Prop}
    (E T : TypeId) (i : TypeInfo) (z : Value) (bytes : Nat) (ht : P.underlying T = some (.slice E)) (hi : P.info? E = some i) (hz : i.zero = some z) (hsize : i.size = k) (hby : i.bytes = bytes) (hzs : z.cells.size = k) (hb : bytes ≤ 1000)
    (w : World) (x : α) (h1 : ∀ u ∈ enc x, u.oneCell' = true) (hgd : o.guard = none) (s xo : Operand) (ho : o.op = .call { callee := .builtin .append, args := #[s, xo], argTypes := #[T, T] })
    (base : Nat) (v : Value) (xs : List α) (n : Nat) (hn : Hid (n = xs.length)) (hs : a.eval s = v) (hown : Ow enc k E base w v xs) (hx : a.eval xo = .slice (some ⟨w.heap.size, 0, none⟩) 1 1) (hlen : n ≤ 20000000) (hbase : base ≤ w.heap.size)
    (h : ∀ a' c' w', Ow enc k E base w' (.slice a' (n + 1) c') (xs ++ [x]) → w.grownBy w' v.ownBlock → K (a.put o.dst (.slice a' (n + 1) c')) w') :
    if Region.wanted o (yielded ops a.tmps) = true then Oper.wp P o a (w.alloc (.cells (enc x).toArray E)) K Q else R := by
  obtain rfl := unhide hn
  refine step_append_lies _ hgd s xo T ho base E i z k bytes ht hi hz hsize hby hzs h0 v xs.length (xs.flatMap enc) hs (World.ownsRow.alloc hown _) ⟨w.heap.size, 0, none⟩ 1 1 (enc x) hx (by rw [hk]; omega) ?_ h1 (by omega) (by unfold maxLen; omega) ?_ (by simp; omega) _ rfl ?_
  · intro j u hj
    have e : (⟨w.heap.size, 0, none⟩ : Addr).add j = ⟨w.heap.size, j, none⟩ := by unfold Addr.add; split <;> simp_all
    rw [e]
    have : (w.alloc (.cells (enc x).toArray E)).heap[w.heap.size]? = some (.cells (enc x).toArray E (0, 0)) := heap_alloc_new w _
    simp only [World.cell?, this]
    simpa using hj
  · have : (xs.length + 1) * bytes ≤ 20000001 * 1000 := Nat.mul_le_mul (by omega) hb
    omega
  · intro g cap w' h2 h3 _ _
    have hO : Ow enc k E base w' (.slice (some ⟨g, 0, none⟩) (xs.length + 1) cap) (xs ++ [x]) := by
      unfold Ow
      rw [List.length_append, List.flatMap_append]
      simpa using h2
    exact h _ _ w' hO (by
      have g0 := World.grownBy_alloc w (.cells (enc x).toArray E) v.ownBlock
      exact ⟨h3.os.trans g0.os, h3.tape.trans g0.tape, h3.output.trans g0.output, Nat.le_trans g0.size h3.size, fun i hi hne => (h3.block i (Nat.lt_of_lt_of_le hi g0.size) hne).trans (g0.block i hi hne)⟩)
theorem step_app1 {P : Program} {α : Type} {enc : α → List Value} {k : Nat} (hk : ∀ x, (enc x).length = k) (h0 : 0 < k) (h1 : ∀ x, ∀ u ∈ enc x, u.oneCell' = true) {ops : Array Oper} {o : Oper} {a : Act} {K : Act → World → Prop} {Q : Exit → Act → World → Prop} {R : Prop}
    (E T : TypeId) (i : TypeInfo) (z : Value) (bytes : Nat) (ht : P.underlying T = some (.slice E)) (hi : P.info? E = some i) (hz : i.zero = some z) (hsize : i.size = k) (hby : i.bytes = bytes) (hzs : z.cells.size = k) (hb : bytes ≤ 1000)
    (w : World) (x : α) (hgd : o.guard = none) (s xo : Operand) (ho : o.op = .call { callee := .builtin .append, args := #[s, xo], argTypes := #[T, T] })
    (base : Nat) (v : Value) (xs : List α) (n : Nat) (hn : Hid (n = xs.length)) (hs : a.eval s = v) (hown : Ow enc k E base w v xs) (hx : a.eval xo = .slice (some ⟨w.heap.size, 0, none⟩) 1 1) (hlen : n ≤ 20000000) (hbase : base ≤ w.heap.size)
    (h : ∀ a' c' w', Ow enc k E base w' (.slice a' (n + 1) c') (xs ++ [x]) → w.grownBy w' v.ownBlock → K (a.put o.dst (.slice a' (n + 1) c')) w') :
    if Region.wanted o (yielded ops a.tmps) = true then Oper.wp P o a (w.alloc (.cells (enc x).toArray E)) K Q else R := step_app1x hk h0 E T i z bytes ht hi hz hsize hby hzs hb w x (h1 x) hgd s xo ho base v xs n hn hs hown hx hlen hbase h
end Go.Proofs.Ytbajnnpihjmjmab
