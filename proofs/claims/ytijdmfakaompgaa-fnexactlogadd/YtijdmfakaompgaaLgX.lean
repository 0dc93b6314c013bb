/-
  impl.LogAdd: a change is logged. No statement is proved here.
-/
import Derived.Test.YtijdmfakaompgaaLgW
import Derived.Deep.AppendLies
namespace Go.Proofs.Ytijdmfakaompgaa
open Go.RowKit

/-- append(dst, x) where dst has no room: a new row. -/
theorem step_appR {P : Program} {α : Type} {enc : α → List Value} {k : Nat} (hk : ∀ x, (enc x).length = k) (h0 : 0 < k) {ops : Array Oper} {o : Oper} {a : Act} {K : Act → World → Prop} {Q : Exit → Act → World → Prop} {R : Prop}
    (E T : TypeId) (i : TypeInfo) (z : Value) (bytes : Nat) (ht : P.underlying T = some (.slice E)) (hi : P.info? E = some i) (hz : i.zero = some z) (hsize : i.size = k) (hby : i.bytes = bytes) (hzs : z.cells.size = k) (hb : bytes ≤ 1000)
    (w : World) (x : α) (h1 : ∀ u ∈ enc x, u.oneCell' = true) (hgd : o.guard = none) (s xo : Operand) (ho : o.op = .call { callee := .builtin .append, args := #[s, xo], argTypes := #[T, T] })
    (p : Option Addr) (n : Nat) (xs : List α) (hs : a.eval s = .slice p n n) (hown : Rw enc k w (.slice p n n) xs) (g : Nat) (hx : a.eval xo = .slice (some ⟨g, 0, none⟩) 1 1) (hg : w.heap[g]? = some (.cells (enc x).toArray E (0, 0))) (hlen : n ≤ 2000000)
    (h : ∀ a' c' w', Ow enc k E w.heap.size w' (.slice a' (n + 1) c') (xs ++ [x]) → Below w.heap.size w w' → K (a.put o.dst (.slice a' (n + 1) c')) w') :
    if Region.wanted o (yielded ops a.tmps) = true then Oper.wp P o a w K Q else R := by
  have hn := hown.len.1
  have hnews : ∀ j u, (enc x)[j]? = some u → w.cell? ((⟨g, 0, none⟩ : Addr).add j) = some u := by
    intro j u hj
    rw [add_off, Nat.zero_add]
    simp only [World.cell?, hg]
    simpa using hj
  have hby2 : (n + 1) * bytes ≤ 140737488355328 := by
    have : (n + 1) * bytes ≤ 2000001 * 1000 := Nat.mul_le_mul (by omega) hb
    omega
  cases p with
  | none =>
    obtain rfl : n = 0 := by
      obtain ⟨a', cap', e, _, hr⟩ := hown
      simp only [Value.slice.injEq] at e
      rcases hr with rfl | ⟨b, off, e2, _⟩
      · simpa using hn
      · rw [← e.1] at e2; cases e2
    obtain rfl : xs = [] := List.eq_nil_of_length_eq_zero hn.symm
    refine step_append_lies _ hgd s xo T ho w.heap.size E i z k bytes ht hi hz hsize hby hzs h0 (.slice none 0 0) 0 [] hs (World.ownsRow_nil _ _ _ _) ⟨g, 0, none⟩ 1 1 (enc x) hx (by rw [hk]; omega) hnews h1 (by omega) (by unfold maxLen; omega) (by simpa using hby2) (Nat.le_refl _) _ rfl ?_
    intro g' cap w' h2 h3 _ _
    refine h _ _ w' ?_ ⟨h3.os, h3.tape, h3.output, h3.size, fun q hq => h3.block q hq (by simp [Value.ownBlock])⟩
    unfold Ow
    simpa using h2
  | some ad =>
    have holds : ∀ j u, (xs.flatMap enc)[j]? = some u → w.cell? (ad.add j) = some u := by
      by_cases hz : xs = []
      · subst hz; intro j u hj; simp at hj
      · obtain ⟨a', cap', e, _, hr⟩ := id hown
        simp only [Value.slice.injEq] at e
        rcases hr with hr | ⟨b, off, e2, _⟩
        · exact absurd hr hz
        · rw [← e.1] at e2
          cases e2
          exact hown.flat hk h0
    obtain ⟨v', w', hrun, r1, r2⟩ := run_append_arg_grows (P := P) w T o.type E i z k bytes ht hi hz hsize hby hzs h0 ad n n (xs.flatMap enc) (by rw [flat_len hk, hn]) holds ⟨g, 0, none⟩ 1 1 (enc x) (by rw [hk]; omega) hnews (by omega) (by unfold maxLen; omega) hby2
    have hO : Ow enc k E w.heap.size w' v' (xs ++ [x]) := by
      unfold Ow
      rw [List.length_append, List.flatMap_append, ← hn]
      simpa using r1
    obtain ⟨a', c', rfl⟩ := hO.form
    rw [if_pos (by simp [Region.wanted, hgd])]
    unfold Oper.wp
    simp [execOp, ho, resolve, invoke, builtin, hs, hx, hrun, Result.andThen]
    have e : (xs ++ [x]).length = n + 1 := by rw [List.length_append, ← hn]; rfl
    rw [List.length_append, ← hn] at hO
    rw [← hn]
    exact h a' c' w' hO ⟨r2.os, r2.tape, r2.output, r2.size, fun q hq => r2.block q hq (by simp)⟩

/-- While a change is added: both arguments' variables, the result's. -/
structure Li7 (w W : World) (c f : Int) (va v1 v2 : Value) : Prop where
  bel : Below w.heap.size w W
  k1 : W.heap[w.heap.size]? = some (LgO c f va)
  k2 : W.heap[w.heap.size + 1]? = some (.cells #[v1, v2] 32 (0, 0))
  k3 : W.heap[w.heap.size + 1 + 1]? = some (LgO 0 0 (.slice none 0 0))
variable {w W Y : World} {c f : Int} {va v1 v2 : Value}
theorem Li7.lt (h : Li7 w W c f va v1 v2) : w.heap.size + 1 + 1 < W.heap.size := (Array.getElem?_eq_some_iff.1 h.k3).1
theorem Li7.later (h : Li7 w W c f va v1 v2) (b : Below W.heap.size W Y) : Li7 w Y c f va v1 v2 := by
  have := h.lt
  exact ⟨h.bel.trans (b.mono h.bel.size), (b.block _ (by omega)).trans h.k1, (b.block _ (by omega)).trans h.k2, (b.block _ h.lt).trans h.k3⟩
theorem Li7.drewH (h : Hid (Li7 w W c f va v1 v2)) : Hid (Li7 w W.drew c f va v1 v2) := hide ((unhide h).later ((Below.refl _ _).drew))
theorem Li7.allocH (h : Hid (Li7 w W c f va v1 v2)) (o : Obj) : Hid (Li7 w (W.alloc o) c f va v1 v2) := hide ((unhide h).later ((Below.refl _ _).alloc (Nat.le_refl _) o))
theorem kLi7 (h : Hid (Li7 w W c f va v1 v2)) : Below w.heap.size w W ∧ W.cell? ⟨w.heap.size, 0, none⟩ = some (.int .i64 c) ∧ W.cell? ⟨w.heap.size, 1, none⟩ = some (.int .i64 f) ∧ W.cell? ⟨w.heap.size, 2, none⟩ = some va ∧ W.cell? ⟨w.heap.size + 1, 0, none⟩ = some v1 ∧ W.cell? ⟨w.heap.size + 1, 1, none⟩ = some v2 := by
  obtain ⟨p0, p1, p2, -⟩ := blk_cells3 (unhide h).k1
  obtain ⟨q0, q1, -⟩ := blk_cells2 (unhide h).k2
  exact ⟨(unhide h).bel, p0, p1, p2, q0, q1⟩
theorem set3_far {W : World} {g h : Nat} {u0 u1 u2 : Value} {x : Obj} (k : W.heap[g]? = some x) (ne : g ≠ h) : (((W.setCell ⟨h, 0, none⟩ u0).setCell ⟨h, 1, none⟩ u1).setCell ⟨h, 2, none⟩ u2).heap[g]? = some x := blk_at (blk_at (blk_at k ne) ne) ne
theorem kLi7s (h : Hid (Li7 w W c f va v1 v2)) (u0 u1 u2 : Value) : Below w.heap.size w (((W.setCell ⟨w.heap.size + 1 + 1, 0, none⟩ u0).setCell ⟨w.heap.size + 1 + 1, 1, none⟩ u1).setCell ⟨w.heap.size + 1 + 1, 2, none⟩ u2) ∧ (((W.setCell ⟨w.heap.size + 1 + 1, 0, none⟩ u0).setCell ⟨w.heap.size + 1 + 1, 1, none⟩ u1).setCell ⟨w.heap.size + 1 + 1, 2, none⟩ u2).cell? ⟨w.heap.size, 0, none⟩ = some (.int .i64 c) ∧ (((W.setCell ⟨w.heap.size + 1 + 1, 0, none⟩ u0).setCell ⟨w.heap.size + 1 + 1, 1, none⟩ u1).setCell ⟨w.heap.size + 1 + 1, 2, none⟩ u2).cell? ⟨w.heap.size, 1, none⟩ = some (.int .i64 f) ∧ (((W.setCell ⟨w.heap.size + 1 + 1, 0, none⟩ u0).setCell ⟨w.heap.size + 1 + 1, 1, none⟩ u1).setCell ⟨w.heap.size + 1 + 1, 2, none⟩ u2).cell? ⟨w.heap.size, 2, none⟩ = some va ∧ (((W.setCell ⟨w.heap.size + 1 + 1, 0, none⟩ u0).setCell ⟨w.heap.size + 1 + 1, 1, none⟩ u1).setCell ⟨w.heap.size + 1 + 1, 2, none⟩ u2).cell? ⟨w.heap.size + 1, 0, none⟩ = some v1 ∧ (((W.setCell ⟨w.heap.size + 1 + 1, 0, none⟩ u0).setCell ⟨w.heap.size + 1 + 1, 1, none⟩ u1).setCell ⟨w.heap.size + 1 + 1, 2, none⟩ u2).cell? ⟨w.heap.size + 1, 1, none⟩ = some v2 := by
  obtain ⟨p0, p1, p2, -⟩ := blk_cells3 (set3_far (h := w.heap.size + 1 + 1) (u0 := u0) (u1 := u1) (u2 := u2) (unhide h).k1 (by omega))
  obtain ⟨q0, q1, -⟩ := blk_cells2 (set3_far (h := w.heap.size + 1 + 1) (u0 := u0) (u1 := u1) (u2 := u2) (unhide h).k2 (by omega))
  exact ⟨below_set3 (by omega) (unhide h).bel, p0, p1, p2, q0, q1⟩
theorem Li7.new (w : World) (c f : Int) (va v1 v2 : Value) : Li7 w (((w.alloc (LgO c f va)).alloc (.cells #[v1, v2] 32)).alloc (LgO 0 0 (.slice none 0 0))) c f va v1 v2 :=
  ⟨(((Below.refl w.heap.size w).alloc (Nat.le_refl _) _).alloc (by simp) _).alloc (by simp; omega) _, lowB3 w _ _ _, midB3 w _ _ _, newB3 w _ _ _⟩
theorem Ins.snoc {ps : List Two} {ss : List Sta} {p : Two} {s : Sta} (h : Ins w ps ss) (h1 : Rw encI 6 w p.1 s.1) (h2 : Rw encF 2 w p.2 s.2) : Ins w (ps ++ [p]) (ss ++ [s]) := by
  refine ⟨by simp [h.len], fun i q t hq ht => ?_⟩
  by_cases hi : i < ps.length
  · rw [List.getElem?_append_left hi] at hq
    rw [List.getElem?_append_left (by rw [← h.len]; exact hi)] at ht
    exact h.ins i q t hq ht
  · rw [List.getElem?_append_right (by omega)] at hq
    rw [List.getElem?_append_right (by rw [← h.len]; omega), ← h.len] at ht
    have e : i - ps.length = 0 := by
      have := (List.getElem?_eq_some_iff.1 hq).1
      simp at this; omega
    rw [e] at hq ht
    simp at hq ht
    subst hq ht
    exact ⟨h1, h2⟩
theorem SmlS.snoc {ss : List Sta} {s : Sta} (h : SmlS ss) (h1 : Sml s.1) : SmlS (ss ++ [s]) := fun i t ht => by
  by_cases hi : i < ss.length
  · rw [List.getElem?_append_left hi] at ht; exact h i t ht
  · rw [List.getElem?_append_right (by omega)] at ht
    have := (List.getElem?_eq_some_iff.1 ht).1
    simp at this
    rw [show i - ss.length = 0 by omega] at ht
    simp at ht; subst ht; exact h1
theorem SzS.snoc {ss : List Sta} {s : Sta} (h : SzS ss) (h1 : s.1.length ≤ 1048576 ∧ s.2.length ≤ 1048576) : SzS (ss ++ [s]) := fun i t ht => by
  by_cases hi : i < ss.length
  · rw [List.getElem?_append_left hi] at ht; exact h i t ht
  · rw [List.getElem?_append_right (by omega)] at ht
    have := (List.getElem?_eq_some_iff.1 ht).1
    simp at this
    rw [show i - ss.length = 0 by omega] at ht
    simp at ht; subst ht; exact h1
end Go.Proofs.Ytijdmfakaompgaa
