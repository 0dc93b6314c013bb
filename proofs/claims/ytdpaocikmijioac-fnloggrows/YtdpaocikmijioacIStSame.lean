/-
  What was said since some number: plain lists. No statement is proved here.
  What is logged, joined: plain lists. No program here, no statement is proved here.
  impl.LogAdd: a change is logged. No statement is proved here.
  impl.LogAdd: a change is logged. No statement is proved here.
  What was said since some number: the program's. No statement is proved here.
  What was said since some number: the specification's. No statement is proved here.
  Equality of items and of floors, as the model reckons it. No statement is proved here.
  StateSame of the program: it answers whether both read the same. No statement is proved here.
-/
import Derived.Test.YtdpaocikmijioacIJnP
import Derived.Test.YtdpaocikmijioacIJoin
import Derived.Test.YtdpaocikmijioacStSg
import Derived.Deep.AppendLies
import Derived.Test.YtdpaocikmijioacEntOf
import Derived.Laws.StructEq
import Derived.Lib.Strings
import Derived.Test.YtdpaocikmijioacRegs6
namespace Go.Proofs.Ytdpaocikmijioac
open Go.RowKit

def jn2 (s t : Sta) : Sta := (joinI s.1 s.2 t.1 t.2, joinF s.2 t.2)
def jnL (ss : List Sta) : Sta := ss.foldl jn2 ([], [])
def lsn (r : Bool) (f seq : Int) (ss : List Sta) : Sta := if r = true then jnL (ss.drop (seq - f).toNat) else ([], [])
theorem jnL_next {ss : List Sta} {k : Nat} {s : Sta} (h : ss[k]? = some s) : jnL (ss.take (k + 1)) = jn2 (jnL (ss.take k)) s := by
  rw [take_at h, jnL, List.foldl_append]; rfl
theorem okL_take {ss : List Sta} (h : okL ss = true) (k : Nat) : okL (ss.take k) = true := by
  rw [okL, List.all_eq_true] at h ⊢
  exact fun s hs => h s (List.mem_of_mem_take hs)
theorem okL_drop {ss : List Sta} (h : okL ss = true) (k : Nat) : okL (ss.drop k) = true := by
  rw [okL, List.all_eq_true] at h ⊢
  exact fun s hs => h s (List.mem_of_mem_drop hs)
theorem foldl_ok : ∀ (ss : List Sta) (s : Sta), OkS s.1 s.2 → okL ss = true → OkS (ss.foldl jn2 s).1 (ss.foldl jn2 s).2
  | [], _, h, _ => h
  | t :: r, s, h, hk => by
    simp only [okL, List.all_cons, Bool.and_eq_true] at hk
    exact foldl_ok r _ (h.join ((okS_iff _ _).1 hk.1)) (by rw [okL]; exact hk.2)
theorem jnL_ok {ss : List Sta} (h : okL ss = true) : OkS (jnL ss).1 (jnL ss).2 := foldl_ok ss _ OkS.nil h
end Go.Proofs.Ytdpaocikmijioac

namespace Go.Proofs.Ytdpaocikmijioac
open Go.RowKit

theorem jn_nil {ys : List Itm} {gs : List Flr} (h : OkS ys gs) : joinI [] [] ys gs = ys ∧ joinF [] gs = gs := by
  refine OkS.ext (OkS.join OkS.nil h) h (fun id => ?_) (fun id => ?_)
  · rw [join_ent' OkS.nil h, ent_nil]
    have e : jE none (ent ys id) = ent ys id := rfl
    rw [e]
    exact h.keep_ent id (by rw [(OkS.fl2_nn OkS.nil h id).2.2, flo_nil]; have := h.flo_nn id; omega)
  · rw [join_flo OkS.nil h, (OkS.fl2_nn OkS.nil h id).2.2, flo_nil]
    have := h.flo_nn id
    omega
theorem jn2_nil {s : Sta} (h : OkS s.1 s.2) : jn2 ([], []) s = s := by
  obtain ⟨h1, h2⟩ := jn_nil h
  exact Prod.ext h1 h2
theorem jn2_assoc {s t u : Sta} (hs : OkS s.1 s.2) (ht : OkS t.1 t.2) (hu : OkS u.1 u.2) : jn2 (jn2 s t) u = jn2 s (jn2 t u) := by
  obtain ⟨h1, h2⟩ := OkS.assoc hs ht hu
  exact Prod.ext h1 h2
theorem okL_cons {t : Sta} {r : List Sta} (h : okL (t :: r) = true) : OkS t.1 t.2 ∧ okL r = true := by
  simp only [okL, List.all_cons, Bool.and_eq_true] at h
  exact ⟨(okS_iff _ _).1 h.1, by rw [okL]; exact h.2⟩
theorem foldl_jn : ∀ (r : List Sta) (s : Sta), OkS s.1 s.2 → okL r = true → r.foldl jn2 s = jn2 s (jnL r)
  | [], s, hs, _ => by
    have h := OkS.comm hs OkS.nil
    have h2 := jn_nil hs
    exact (Prod.ext (h.1.trans h2.1) (h.2.trans h2.2)).symm
  | t :: r, s, hs, hk => by
    obtain ⟨ht, hr⟩ := okL_cons hk
    have e1 : jnL (t :: r) = r.foldl jn2 (jn2 ([], []) t) := rfl
    rw [e1, jn2_nil ht, foldl_jn r t ht hr, List.foldl_cons, foldl_jn r (jn2 s t) (hs.join ht) hr, jn2_assoc hs ht (jnL_ok hr)]
theorem jnL_app {a b : List Sta} (ha : okL a = true) (hb : okL b = true) : jnL (a ++ b) = jn2 (jnL a) (jnL b) := by
  rw [jnL, List.foldl_append]
  exact foldl_jn b _ (jnL_ok ha) hb
theorem jnL_one {d : Sta} (h : OkS d.1 d.2) : jnL [d] = d := jn2_nil h
theorem okL_app {a b : List Sta} : okL (a ++ b) = (okL a && okL b) := by simp [okL]

theorem lad_tot7 {r : Bool} {c f : Int} {ss : List Sta} {d : Sta} {f1 : Int} {ss1 : List Sta} (h : lad r c f ss d = (f1, ss1)) : ss1.length ≤ ss.length + 1 ∧ tot ss1 ≤ tot ss + (d.1.length + d.2.length) := by
  have ht : tot (ss ++ [d]) = tot ss + (d.1.length + d.2.length) := by rw [tot_app]; simp [tot]
  have hd : ∀ l : List Sta, tot (l.drop 1) ≤ tot l := fun l => by cases l <;> simp [tot]
  unfold lad at h
  split at h
  · split at h
    · simp only [Prod.mk.injEq] at h
      obtain ⟨-, rfl⟩ := h
      exact ⟨by simp, by have := hd (ss ++ [d]); omega⟩
    · simp only [Prod.mk.injEq] at h
      obtain ⟨-, rfl⟩ := h
      exact ⟨by simp, by omega⟩
  · simp only [Prod.mk.injEq] at h
    obtain ⟨-, rfl⟩ := h
    exact ⟨by omega, by omega⟩
/-- One log in a variable, carried to a later world. -/
theorem keepL1 {w5 W : World} {g : Nat} {T : TypeId} {a0 a1 a2 : Value} (hg : Hid (w5.heap[g]? = some (.cells #[a0, a1, a2] T (0, 0)) ∧ g < w5.heap.size)) (hb : Below w5.heap.size w5 W) : Below w5.heap.size w5 W ∧ W.cell? ⟨g, 0, none⟩ = some a0 ∧ W.cell? ⟨g, 1, none⟩ = some a1 ∧ W.cell? ⟨g, 2, none⟩ = some a2 := by
  obtain ⟨p0, p1, p2, -⟩ := blk_cells3 ((hb.block _ (unhide hg).2).trans (unhide hg).1)
  exact ⟨hb, p0, p1, p2⟩
/-- A change that was logged is the last. -/
theorem lad_true {c f : Int} {ss : List Sta} {d : Sta} {f1 : Int} {ss1 : List Sta} (h0 : lar c f ss d = true) (h : lad true c f ss d = (f1, ss1)) :
    lok c f ss = true ∧ lok c f1 ss1 = true ∧ OkS d.1 d.2 ∧ f1 + (ss1.length : Int) = f + (ss.length : Int) + 1 ∧ f ≤ f1 ∧ 1 ≤ ss1.length ∧ ss1.drop (ss1.length - 1) = [d] := by
  simp only [lar, Bool.and_eq_true, Bool.not_eq_true', beq_eq_false_iff_ne] at h0
  obtain ⟨⟨h1, h2⟩, h3⟩ := h0
  obtain ⟨⟨c1, c2⟩, cn, ⟨f1', f2'⟩, fn, hk⟩ := lok_iff.1 h1
  have hd : okL (ss ++ [d]) = true := by rw [okL_app, hk]; simp [okL, h2]
  rw [lad, if_pos rfl] at h
  split at h
  · rename_i hc
    simp only [Prod.mk.injEq] at h
    obtain ⟨rfl, rfl⟩ := h
    have hl : ((ss ++ [d]).drop 1).length = ss.length := by simp
    refine ⟨h1, lok_iff.2 ⟨⟨c1, c2⟩, by rw [hl]; exact cn, ⟨by omega, by omega⟩, by rw [hl]; omega, okL_drop hd 1⟩, (okS_iff _ _).1 h2, by rw [hl]; omega, by omega, by rw [hl]; omega, ?_⟩
    rw [hl, List.drop_drop, show 1 + (ss.length - 1) = ss.length by omega, List.drop_append_of_le_length (Nat.le_refl _), List.drop_length]
    rfl
  · rename_i hc
    simp only [Prod.mk.injEq] at h
    obtain ⟨rfl, rfl⟩ := h
    have hl : (ss ++ [d]).length = ss.length + 1 := by simp
    refine ⟨h1, lok_iff.2 ⟨⟨c1, c2⟩, by rw [hl]; omega, ⟨f1', f2'⟩, by rw [hl]; omega, hd⟩, (okS_iff _ _).1 h2, by rw [hl]; omega, by omega, by rw [hl]; omega, ?_⟩
    rw [hl, show ss.length + 1 - 1 = ss.length by omega, List.drop_append_of_le_length (Nat.le_refl _), List.drop_length]
    rfl
end Go.Proofs.Ytdpaocikmijioac

namespace Go.Proofs.Ytdpaocikmijioac
open Go.RowKit

/-- append(dst, x) where dst has no room: a new row. -/
theorem step_appR {P : Program} {α : Type} {enc : α → List Value} {k : Nat} (hk : ∀ x, (enc x).length = k) (h0 : 0 < k) {ops : Array Oper} {o : Oper} {a : Act} {K : Act → World → Prop} {Q : Exit → Act → World → Prop} {R : Prop}
    (E T : TypeId) (i : TypeInfo) (z : Value) (bytes : Nat) (ht : P.underlying T = some (.slice E)) (hi : P.info? E = some i) (hz : i.zero = some z) (hsize : i.size = k) (hby : i.bytes = bytes) (hzs : z.cells.size = k) (hb : bytes ≤ 1000)
    (w : World) (x : α) (h1 : ∀ u ∈ enc x, u.oneCell' = true) (hgd : o.guard = none) (s xo : Operand) (ho : o.op = .call { callee := .builtin .append, args := #[s, xo], argTypes := #[T, T] })
    (p : Option Addr) (n : Nat) (xs : List α) (hs : a.eval s = .slice p n n) (hown : Rw enc k w (.slice p n n) xs) (g : Nat) (hx : a.eval xo = .slice (some ⟨g, 0, none⟩) 1 1) (hg : w.heap[g]? = some (.cells (enc x).toArray E (0, 0))) (hlen : n ≤ 2000000)
    (h : ∀ a' c' w', Ow enc k E w.heap.size w' (.slice a' (n + 1) c') (xs ++ [x]) → Below w.heap.size w w' → K (a.put o.dst (.slice a' (n + 1) c')) w') :
    if Region.wanted o (yielded ops a.tmps) = true then Oper.wp P o a w K Q else R := by
  have hn := hown.len.1
  have hnews : ∀ j u, (enc x)[j]? = some u → w.cell? ((⟨g, 0, none⟩ : Addr).add j) = some u := by
    intro j u hj
    rw [add_off, Nat.zero_add]
    simp only [World.cell?, hg]
    simpa using hj
  have hby2 : (n + 1) * bytes ≤ 140737488355328 := by
    have : (n + 1) * bytes ≤ 2000001 * 1000 := Nat.mul_le_mul (by omega) hb
    omega
  cases p with
  | none =>
    obtain rfl : n = 0 := by
      obtain ⟨a', cap', e, _, hr⟩ := hown
      simp only [Value.slice.injEq] at e
      rcases hr with rfl | ⟨b, off, e2, _⟩
      · simpa using hn
      · rw [← e.1] at e2; cases e2
    obtain rfl : xs = [] := List.eq_nil_of_length_eq_zero hn.symm
    refine step_append_lies _ hgd s xo T ho w.heap.size E i z k bytes ht hi hz hsize hby hzs h0 (.slice none 0 0) 0 [] hs (World.ownsRow_nil _ _ _ _) ⟨g, 0, none⟩ 1 1 (enc x) hx (by rw [hk]; omega) hnews h1 (by omega) (by unfold maxLen; omega) (by simpa using hby2) (Nat.le_refl _) _ rfl ?_
    intro g' cap w' h2 h3 _ _
    refine h _ _ w' ?_ ⟨h3.os, h3.tape, h3.output, h3.size, fun q hq => h3.block q hq (by simp [Value.ownBlock])⟩
    unfold Ow
    simpa using h2
  | some ad =>
    have holds : ∀ j u, (xs.flatMap enc)[j]? = some u → w.cell? (ad.add j) = some u := by
      by_cases hz : xs = []
      · subst hz; intro j u hj; simp at hj
      · obtain ⟨a', cap', e, _, hr⟩ := id hown
        simp only [Value.slice.injEq] at e
        rcases hr with hr | ⟨b, off, e2, _⟩
        · exact absurd hr hz
        · rw [← e.1] at e2
          cases e2
          exact hown.flat hk h0
    obtain ⟨v', w', hrun, r1, r2⟩ := run_append_arg_grows (P := P) w T o.type E i z k bytes ht hi hz hsize hby hzs h0 ad n n (xs.flatMap enc) (by rw [flat_len hk, hn]) holds ⟨g, 0, none⟩ 1 1 (enc x) (by rw [hk]; omega) hnews (by omega) (by unfold maxLen; omega) hby2
    have hO : Ow enc k E w.heap.size w' v' (xs ++ [x]) := by
      unfold Ow
      rw [List.length_append, List.flatMap_append, ← hn]
      simpa using r1
    obtain ⟨a', c', rfl⟩ := hO.form
    rw [if_pos (by simp [Region.wanted, hgd])]
    unfold Oper.wp
    simp [execOp, ho, resolve, invoke, builtin, hs, hx, hrun, Result.andThen]
    have e : (xs ++ [x]).length = n + 1 := by rw [List.length_append, ← hn]; rfl
    rw [List.length_append, ← hn] at hO
    rw [← hn]
    exact h a' c' w' hO ⟨r2.os, r2.tape, r2.output, r2.size, fun q hq => r2.block q hq (by simp)⟩

/-- While a change is added: both arguments' variables, the result's. -/
structure Li7 (w W : World) (c f : Int) (va v1 v2 : Value) : Prop where
  bel : Below w.heap.size w W
  k1 : W.heap[w.heap.size]? = some (LgO c f va)
  k2 : W.heap[w.heap.size + 1]? = some (.cells #[v1, v2] 30 (0, 0))
  k3 : W.heap[w.heap.size + 1 + 1]? = some (LgO 0 0 (.slice none 0 0))
variable {w W Y : World} {c f : Int} {va v1 v2 : Value}
theorem Li7.lt (h : Li7 w W c f va v1 v2) : w.heap.size + 1 + 1 < W.heap.size := (Array.getElem?_eq_some_iff.1 h.k3).1
theorem Li7.later (h : Li7 w W c f va v1 v2) (b : Below W.heap.size W Y) : Li7 w Y c f va v1 v2 := by
  have := h.lt
  exact ⟨h.bel.trans (b.mono h.bel.size), (b.block _ (by omega)).trans h.k1, (b.block _ (by omega)).trans h.k2, (b.block _ h.lt).trans h.k3⟩
theorem Li7.drewH (h : Hid (Li7 w W c f va v1 v2)) : Hid (Li7 w W.drew c f va v1 v2) := hide ((unhide h).later ((Below.refl _ _).drew))
theorem Li7.allocH (h : Hid (Li7 w W c f va v1 v2)) (o : Obj) : Hid (Li7 w (W.alloc o) c f va v1 v2) := hide ((unhide h).later ((Below.refl _ _).alloc (Nat.le_refl _) o))
theorem kLi7 (h : Hid (Li7 w W c f va v1 v2)) : Below w.heap.size w W ∧ W.cell? ⟨w.heap.size, 0, none⟩ = some (.int .i64 c) ∧ W.cell? ⟨w.heap.size, 1, none⟩ = some (.int .i64 f) ∧ W.cell? ⟨w.heap.size, 2, none⟩ = some va ∧ W.cell? ⟨w.heap.size + 1, 0, none⟩ = some v1 ∧ W.cell? ⟨w.heap.size + 1, 1, none⟩ = some v2 := by
  obtain ⟨p0, p1, p2, -⟩ := blk_cells3 (unhide h).k1
  obtain ⟨q0, q1, -⟩ := blk_cells2 (unhide h).k2
  exact ⟨(unhide h).bel, p0, p1, p2, q0, q1⟩
theorem set3_far {W : World} {g h : Nat} {u0 u1 u2 : Value} {x : Obj} (k : W.heap[g]? = some x) (ne : g ≠ h) : (((W.setCell ⟨h, 0, none⟩ u0).setCell ⟨h, 1, none⟩ u1).setCell ⟨h, 2, none⟩ u2).heap[g]? = some x := blk_at (blk_at (blk_at k ne) ne) ne
theorem kLi7s (h : Hid (Li7 w W c f va v1 v2)) (u0 u1 u2 : Value) : Below w.heap.size w (((W.setCell ⟨w.heap.size + 1 + 1, 0, none⟩ u0).setCell ⟨w.heap.size + 1 + 1, 1, none⟩ u1).setCell ⟨w.heap.size + 1 + 1, 2, none⟩ u2) ∧ (((W.setCell ⟨w.heap.size + 1 + 1, 0, none⟩ u0).setCell ⟨w.heap.size + 1 + 1, 1, none⟩ u1).setCell ⟨w.heap.size + 1 + 1, 2, none⟩ u2).cell? ⟨w.heap.size, 0, none⟩ = some (.int .i64 c) ∧ (((W.setCell ⟨w.heap.size + 1 + 1, 0, none⟩ u0).setCell ⟨w.heap.size + 1 + 1, 1, none⟩ u1).setCell ⟨w.heap.size + 1 + 1, 2, none⟩ u2).cell? ⟨w.heap.size, 1, none⟩ = some (.int .i64 f) ∧ (((W.setCell ⟨w.heap.size + 1 + 1, 0, none⟩ u0).setCell ⟨w.heap.size + 1 + 1, 1, none⟩ u1).setCell ⟨w.heap.size + 1 + 1, 2, none⟩ u2).cell? ⟨w.heap.size, 2, none⟩ = some va ∧ (((W.setCell ⟨w.heap.size + 1 + 1, 0, none⟩ u0).setCell ⟨w.heap.size + 1 + 1, 1, none⟩ u1).setCell ⟨w.heap.size + 1 + 1, 2, none⟩ u2).cell? ⟨w.heap.size + 1, 0, none⟩ = some v1 ∧ (((W.setCell ⟨w.heap.size + 1 + 1, 0, none⟩ u0).setCell ⟨w.heap.size + 1 + 1, 1, none⟩ u1).setCell ⟨w.heap.size + 1 + 1, 2, none⟩ u2).cell? ⟨w.heap.size + 1, 1, none⟩ = some v2 := by
  obtain ⟨p0, p1, p2, -⟩ := blk_cells3 (set3_far (h := w.heap.size + 1 + 1) (u0 := u0) (u1 := u1) (u2 := u2) (unhide h).k1 (by omega))
  obtain ⟨q0, q1, -⟩ := blk_cells2 (set3_far (h := w.heap.size + 1 + 1) (u0 := u0) (u1 := u1) (u2 := u2) (unhide h).k2 (by omega))
  exact ⟨below_set3 (by omega) (unhide h).bel, p0, p1, p2, q0, q1⟩
theorem Li7.new (w : World) (c f : Int) (va v1 v2 : Value) : Li7 w (((w.alloc (LgO c f va)).alloc (.cells #[v1, v2] 30)).alloc (LgO 0 0 (.slice none 0 0))) c f va v1 v2 :=
  ⟨(((Below.refl w.heap.size w).alloc (Nat.le_refl _) _).alloc (by simp) _).alloc (by simp; omega) _, lowB3 w _ _ _, midB3 w _ _ _, newB3 w _ _ _⟩
theorem Ins.snoc {ps : List Two} {ss : List Sta} {p : Two} {s : Sta} (h : Ins w ps ss) (h1 : Rw encI 6 w p.1 s.1) (h2 : Rw encF 2 w p.2 s.2) : Ins w (ps ++ [p]) (ss ++ [s]) := by
  refine ⟨by simp [h.len], fun i q t hq ht => ?_⟩
  by_cases hi : i < ps.length
  · rw [List.getElem?_append_left hi] at hq
    rw [List.getElem?_append_left (by rw [← h.len]; exact hi)] at ht
    exact h.ins i q t hq ht
  · rw [List.getElem?_append_right (by omega)] at hq
    rw [List.getElem?_append_right (by rw [← h.len]; omega), ← h.len] at ht
    have e : i - ps.length = 0 := by
      have := (List.getElem?_eq_some_iff.1 hq).1
      simp at this; omega
    rw [e] at hq ht
    simp at hq ht
    subst hq ht
    exact ⟨h1, h2⟩
theorem SmlS.snoc {ss : List Sta} {s : Sta} (h : SmlS ss) (h1 : Sml s.1) : SmlS (ss ++ [s]) := fun i t ht => by
  by_cases hi : i < ss.length
  · rw [List.getElem?_append_left hi] at ht; exact h i t ht
  · rw [List.getElem?_append_right (by omega)] at ht
    have := (List.getElem?_eq_some_iff.1 ht).1
    simp at this
    rw [show i - ss.length = 0 by omega] at ht
    simp at ht; subst ht; exact h1
theorem SzS.snoc {ss : List Sta} {s : Sta} (h : SzS ss) (h1 : s.1.length ≤ 1048576 ∧ s.2.length ≤ 1048576) : SzS (ss ++ [s]) := fun i t ht => by
  by_cases hi : i < ss.length
  · rw [List.getElem?_append_left hi] at ht; exact h i t ht
  · rw [List.getElem?_append_right (by omega)] at ht
    have := (List.getElem?_eq_some_iff.1 ht).1
    simp at this
    rw [show i - ss.length = 0 by omega] at ht
    simp at ht; subst ht; exact h1
end Go.Proofs.Ytdpaocikmijioac

namespace Go.Proofs.Ytdpaocikmijioac
open Go.RowKit

set_option maxHeartbeats 8000000 in
set_option maxRecDepth 100000 in
theorem ilogadd_any (c f : Int) (a : Option Addr) (n cap : Nat) (ss : List Sta) (ai : Option Addr) (ni ci : Nat) (xs : List Itm) (af : Option Addr) (nf cf : Nat) (fs : List Flr) (r : Bool) (h0 : Hid (lar c f ss (xs, fs) = r)) (f1 : Int) (ss1 : List Sta) (h1 : Hid (lad r c f ss (xs, fs) = (f1, ss1))) (m : Nat) (hm : Hid (m = ss1.length)) (hS : SmlS ss) (hSd : Sml xs) (w : World) (hn : n ≤ 1048576) (ht : tot ss ≤ 1048576) (hni : ni ≤ 1048576) (hnf : nf ≤ 1048576) (hx : RwS w (.slice a n cap) ss) (hd : Rw encI 6 w (.slice ai ni ci) xs) (he : Rw encF 2 w (.slice af nf cf) fs) :
    Calls Try.prog 11 #[LgV c f (.slice a n cap), .agg #[.slice ai ni ci, .slice af nf cf]] w fun e w' => ∃ a' c', e = .returned (.tuple #[LgV c f1 (.slice a' m c'), .bool r]) ∧ OwS w.heap.size w'.heap.size w' (.slice a' m c') ss1 ∧ Below w.heap.size w w' := by
  obtain ⟨i0, hi, hz0, hz1, hz2⟩ := info_parts Try.infoState
  have HX := hide hx
  have HL := hide hx.len.1
  have HD := hide hd
  have HE0 := hide he
  have HS := hide hS
  have HSd := hide hSd
  obtain ⟨ok, hok⟩ : ∃ ok, lok c f ss = ok := ⟨_, rfl⟩
  obtain ⟨q, hq⟩ : ∃ q, okS xs fs = q := ⟨_, rfl⟩
  obtain ⟨b3, d3⟩ : ∃ b, (f + (n : Int) == 100000) = b := ⟨_, rfl⟩
  have hE := unhide h0
  rw [lar, hok, hq, ← unhide HL, d3] at hE
  have HOK := hide hok
  have HQ := hide hq
  clear hx hd he hok hq h0 hS hSd
  go_enter Try.func11, Try.ntmps11
  go_wp2_with fail
  refine (ilogok_any c f a n cap ss ok HOK _ (by omega) (by omega) ((unhide HX).later (Li7.new w c f (.slice a n cap) (.slice ai ni ci) (.slice af nf cf)).bel)).mono ?_
  rintro e w2 ⟨rfl, b2⟩
  have C2 := hide ((Li7.new w c f (.slice a n cap) (.slice ai ni ci) (.slice af nf cf)).later b2)
  clear b2
  obtain ⟨p0, p1, p2, pf⟩ := blk_cells3 (unhide C2).k1
  obtain ⟨s0, s1, sf⟩ := blk_cells2 (unhide C2).k2
  have z2 := (unhide C2).lt
  have zl2 : w.heap.size < w2.heap.size := by omega
  have zd2 : w.heap.size + 1 < w2.heap.size := by omega
  cases ok
  · obtain rfl : r = false := by rw [← hE]; rfl
    obtain ⟨rfl, rfl⟩ : f1 = f ∧ ss1 = ss := by have h := unhide h1; simp [lad] at h; exact ⟨h.1.symm, h.2.symm⟩
    obtain rfl : m = n := by rw [unhide hm, unhide HL]
    go_wp2_with fail
    refine (ilogcopy_any c f1 a m cap ss1 (unhide HS) (SzS.tot ht) _ (by omega) ((unhide HX).later (unhide C2).bel)).mono ?_
    rintro e w9 ⟨a9, c9, rfl, o9, b9⟩
    have CE := hide ((unhide C2).later b9)
    have O9 := hide (o9.mono (unhide C2).bel.size (Nat.le_refl _))
    obtain ⟨y0, y1, y2, yf⟩ := blk_cells3 (unhide CE).k3
    have zE := (unhide CE).lt
    clear o9 b9 p0 p1 p2 pf s0 s1 sf
    go_wp2
    exact bodyPost_ret (v := .tuple #[LgV c f1 (.slice a9 m c9), .bool false]) (by simp [results, Try.results11, go_sem, y0, y1, y2]) rfl ⟨a9, c9, rfl, by have h := log_set (unhide CE).k3 (.int .i64 c) (.int .i64 f1) (.slice a9 m c9) (unhide O9); simpa using h, (kLi7s CE _ _ _).1⟩
  obtain ⟨⟨c1', c2'⟩, cn, ⟨f1', f2'⟩, fn, hokL⟩ := lok_iff.1 (unhide HOK)
  have cn' : (n : Int) ≤ c := by rw [unhide HL]; exact cn
  have HSV : Hid (lsq c f ss = f + (n : Int)) := hide (by rw [lsq, if_pos (unhide HOK), unhide HL])
  clear cn fn hokL
  go_wp2_with fail
  refine (istateok_any ai ni ci xs af nf cf fs q HQ _ (by omega) (by omega) ((unhide HD).later (unhide C2).bel) ((unhide HE0).later (unhide C2).bel)).mono ?_
  rintro e w3 ⟨rfl, b3'⟩
  have C3 := hide ((unhide C2).later b3')
  clear b3' C2 p0 p1 p2 pf s0 s1 sf z2 zl2 zd2
  obtain ⟨p0, p1, p2, pf⟩ := blk_cells3 (unhide C3).k1
  obtain ⟨s0, s1, sf⟩ := blk_cells2 (unhide C3).k2
  have z3 := (unhide C3).lt
  have zl3 : w.heap.size < w3.heap.size := by omega
  have zd3 : w.heap.size + 1 < w3.heap.size := by omega
  cases q
  · obtain rfl : r = false := by rw [← hE]; rfl
    obtain ⟨rfl, rfl⟩ : f1 = f ∧ ss1 = ss := by have h := unhide h1; simp [lad] at h; exact ⟨h.1.symm, h.2.symm⟩
    obtain rfl : m = n := by rw [unhide hm, unhide HL]
    go_wp2_with fail
    refine (ilogcopy_any c f1 a m cap ss1 (unhide HS) (SzS.tot ht) _ (by omega) ((unhide HX).later (unhide C3).bel)).mono ?_
    rintro e w9 ⟨a9, c9, rfl, o9, b9⟩
    have CE := hide ((unhide C3).later b9)
    have O9 := hide (o9.mono (unhide C3).bel.size (Nat.le_refl _))
    obtain ⟨y0, y1, y2, yf⟩ := blk_cells3 (unhide CE).k3
    have zE := (unhide CE).lt
    clear o9 b9 p0 p1 p2 pf s0 s1 sf
    go_wp2
    exact bodyPost_ret (v := .tuple #[LgV c f1 (.slice a9 m c9), .bool false]) (by simp [results, Try.results11, go_sem, y0, y1, y2]) rfl ⟨a9, c9, rfl, by have h := log_set (unhide CE).k3 (.int .i64 c) (.int .i64 f1) (.slice a9 m c9) (unhide O9); simpa using h, (kLi7s CE _ _ _).1⟩
  go_wp2_with fail
  refine (ilogseq_any c f a n cap ss (f + (n : Int)) HSV _ (by omega) (by omega) ((unhide HX).later (unhide C3).bel)).mono ?_
  rintro e w4 ⟨rfl, b4'⟩
  have C4 := hide ((unhide C3).later b4')
  clear b4' C3 p0 p1 p2 pf s0 s1 sf z3 zl3 zd3
  obtain ⟨p0, p1, p2, pf⟩ := blk_cells3 (unhide C4).k1
  obtain ⟨s0, s1, sf⟩ := blk_cells2 (unhide C4).k2
  have z4 := (unhide C4).lt
  have zl4 : w.heap.size < w4.heap.size := by omega
  have zd4 : w.heap.size + 1 < w4.heap.size := by omega
  cases b3
  · obtain rfl : r = true := by rw [← hE]; rfl
    obtain ⟨b4, d4⟩ : ∃ b, ((n : Int) == c) = b := ⟨_, rfl⟩
    cases b4
    · have hnc : ¬ (n : Int) = c := by simpa using d4
      obtain ⟨rfl, rfl⟩ : f1 = f ∧ ss1 = ss.drop 0 ++ [(xs, fs)] := by
        have h := unhide h1
        rw [lad, if_pos rfl, if_neg (by rw [← unhide HL]; exact hnc)] at h
        simp only [Prod.mk.injEq] at h
        exact ⟨h.1.symm, by rw [← h.2]; rfl⟩
      obtain rfl : m = n + 1 := by rw [unhide hm, unhide HL]; simp
      have HK : Hid (n = 0 + n) := hide (by omega)
      have HSQ : Hid (f1 - f1 = ((0 : Nat) : Int)) := hide (by simp)
      clear hnc
      have HSk : Hid (SmlS (ss.drop 0 ++ [(xs, fs)])) := hide (((unhide HS).drop 0).snoc (unhide HSd))
      have HZk : Hid (SzS (ss.drop 0 ++ [(xs, fs)])) := hide (((SzS.tot ht).drop 0).snoc (by have := (unhide HD).len.1; have := (unhide HE0).len.1; simp only; omega))
      have hq2 : n ≤ 2000000 := by omega
      clear h1 hm hE p0 p1 p2 pf s0 s1 sf
      obtain ⟨p0, p1, p2, pf⟩ := blk_cells3 (unhide C4).k1
      go_upto_region 6 with fail
      clear p0 p1 p2 pf d4
      have CD := Li7.drewH C4
      have CN := Li7.allocH CD (.cells #[.slice ai ni ci, .slice af nf cf] 30)
      have CN' := Li7.drewH (Li7.allocH C4 (.cells #[.slice ai ni ci, .slice af nf cf] 30))
      go_region_held3 (fun W => Below w.heap.size w W ∧ W.cell? ⟨w.heap.size, 0, none⟩ = some (.int .i64 c) ∧ W.cell? ⟨w.heap.size, 1, none⟩ = some (.int .i64 f1) ∧ W.cell? ⟨w.heap.size, 2, none⟩ = some (.slice a n cap) ∧ W.cell? ⟨w.heap.size + 1, 0, none⟩ = some (.slice ai ni ci) ∧ W.cell? ⟨w.heap.size + 1, 1, none⟩ = some (.slice af nf cf))
        (first | (with_reducible exact kLi7 C4) | (with_reducible exact kLi7 CD) | (with_reducible exact kLi7 CN) | (with_reducible exact kLi7 CN') | (with_reducible exact kLi7 CA) | (with_reducible exact kLi7 (Li7.allocH CA _)) | (with_reducible exact kLi7 CB) | (with_reducible exact kLi7 CC) | (with_reducible exact kLi7s CC _ _ _))
        (first
          | (go_at_call 43; refine (iabove_any c f1 a n cap ss f1 0 n (unhide HK) (unhide HSQ) w _ (by omega) (unhide HX)).mono ?_; rintro e w5 ⟨a5, rfl, r5, b5⟩; (first | (with_reducible have CA := hide ((unhide CD).later b5)) | (with_reducible have CA := hide ((unhide CN).later b5); have HG := hide (newblk b5).1) | (with_reducible have CA := hide ((unhide CN').later b5); have HG := hide (newblkD b5).1)); have R5 := hide r5; clear b5 r5)
          | (obtain ⟨ps, hrow, hins⟩ := unhide R5; refine step_appR encS_len (by omega) 30 24 i0 _ 48 Try.underlying24 hi hz0 hz1 hz2 rfl (by omega) _ (.slice ai ni ci, .slice af nf cf) (oneS _ rfl rfl) rfl _ _ rfl a5 n ps rfl (hrow.later (kb1 (by assumption))) _ rfl (by first | (exact unhide HG) | (exact heap_alloc_new w5 _)) hq2 ?_; intro a6 c6 w6 hO6 hB6; (first | (with_reducible have CB := hide ((unhide CA).later hB6)) | (with_reducible have CB := hide ((unhide (Li7.allocH CA _)).later hB6))); have R6 : Hid (RwS w6 (.slice a6 (n + 1) c6) (ss.drop 0 ++ [(xs, fs)])) := hide ⟨ps ++ [(.slice ai ni ci, .slice af nf cf)], hO6.rw encS_len, (hins.later (unhide CB).bel).snoc ((unhide HD).later (unhide CB).bel) ((unhide HE0).later (unhide CB).bel)⟩; clear hO6 hB6 hrow hins)
          | (go_at_call 42; refine (ichangescopy_any a6 (n + 1) c6 (ss.drop 0 ++ [(xs, fs)]) (unhide HSk) _ (by omega) (unhide HZk) (unhide R6)).mono ?_; rintro e w7 ⟨a7, c7, rfl, o7, b7⟩; have CC := hide ((unhide CB).later b7); have O7 := hide (o7.mono (unhide CB).bel.size (Nat.le_refl _)); obtain ⟨y0, y1, y2, yf⟩ := blk_cells3 (unhide CC).k3; have zC := (unhide CC).lt; clear o7 b7))
      all_goals go_wp2
      all_goals exact bodyPost_ret (v := .tuple #[LgV c f1 (.slice a7 (n + 1) c7), .bool true]) (by simp [results, Try.results11, go_sem, y0, y1, y2]) rfl ⟨a7, c7, rfl, by have h := log_set (unhide CC).k3 (.int .i64 c) (.int .i64 f1) (.slice a7 (n + 1) c7) (unhide O7); simpa using h, (kLi7s CC _ _ _).1⟩
    · have hnc : (n : Int) = c := by simpa using d4
      obtain ⟨n', hn'⟩ : ∃ n', n = n' + 1 := ⟨n - 1, by omega⟩
      have hn'' : n' ≤ 1048576 := by omega
      obtain ⟨rfl, rfl⟩ : f1 = f + 1 ∧ ss1 = ss.drop 1 ++ [(xs, fs)] := by
        have h := unhide h1
        rw [lad, if_pos rfl, if_pos (by rw [← unhide HL]; exact hnc), List.drop_append_of_le_length (by rw [← unhide HL]; omega)] at h
        simp only [Prod.mk.injEq] at h
        exact ⟨h.1.symm, h.2.symm⟩
      obtain rfl : m = n' + 1 := by rw [unhide hm]; simp; have := unhide HL; omega
      have HK : Hid (n = 1 + n') := hide (by omega)
      have HSQ : Hid (f + 1 - f = ((1 : Nat) : Int)) := hide (by simp; omega)
      clear hnc hn'
      have HSk : Hid (SmlS (ss.drop 1 ++ [(xs, fs)])) := hide (((unhide HS).drop 1).snoc (unhide HSd))
      have HZk : Hid (SzS (ss.drop 1 ++ [(xs, fs)])) := hide (((SzS.tot ht).drop 1).snoc (by have := (unhide HD).len.1; have := (unhide HE0).len.1; simp only; omega))
      have hq2 : n' ≤ 2000000 := by omega
      clear h1 hm hE p0 p1 p2 pf s0 s1 sf
      obtain ⟨p0, p1, p2, pf⟩ := blk_cells3 (unhide C4).k1
      go_upto_region 6 with fail
      clear p0 p1 p2 pf d4
      have CD := Li7.drewH C4
      have CN := Li7.allocH CD (.cells #[.slice ai ni ci, .slice af nf cf] 30)
      have CN' := Li7.drewH (Li7.allocH C4 (.cells #[.slice ai ni ci, .slice af nf cf] 30))
      go_region_held3 (fun W => Below w.heap.size w W ∧ W.cell? ⟨w.heap.size, 0, none⟩ = some (.int .i64 c) ∧ W.cell? ⟨w.heap.size, 1, none⟩ = some (.int .i64 f) ∧ W.cell? ⟨w.heap.size, 2, none⟩ = some (.slice a n cap) ∧ W.cell? ⟨w.heap.size + 1, 0, none⟩ = some (.slice ai ni ci) ∧ W.cell? ⟨w.heap.size + 1, 1, none⟩ = some (.slice af nf cf))
        (first | (with_reducible exact kLi7 C4) | (with_reducible exact kLi7 CD) | (with_reducible exact kLi7 CN) | (with_reducible exact kLi7 CN') | (with_reducible exact kLi7 CA) | (with_reducible exact kLi7 (Li7.allocH CA _)) | (with_reducible exact kLi7 CB) | (with_reducible exact kLi7 CC) | (with_reducible exact kLi7s CC _ _ _))
        (first
          | (go_at_call 43; refine (iabove_any c f a n cap ss (f + 1) 1 n' (unhide HK) (unhide HSQ) w _ (by omega) (unhide HX)).mono ?_; rintro e w5 ⟨a5, rfl, r5, b5⟩; (first | (with_reducible have CA := hide ((unhide CD).later b5)) | (with_reducible have CA := hide ((unhide CN).later b5); have HG := hide (newblk b5).1) | (with_reducible have CA := hide ((unhide CN').later b5); have HG := hide (newblkD b5).1)); have R5 := hide r5; clear b5 r5)
          | (obtain ⟨ps, hrow, hins⟩ := unhide R5; refine step_appR encS_len (by omega) 30 24 i0 _ 48 Try.underlying24 hi hz0 hz1 hz2 rfl (by omega) _ (.slice ai ni ci, .slice af nf cf) (oneS _ rfl rfl) rfl _ _ rfl a5 n' ps rfl (hrow.later (kb1 (by assumption))) _ rfl (by first | (exact unhide HG) | (exact heap_alloc_new w5 _)) hq2 ?_; intro a6 c6 w6 hO6 hB6; (first | (with_reducible have CB := hide ((unhide CA).later hB6)) | (with_reducible have CB := hide ((unhide (Li7.allocH CA _)).later hB6))); have R6 : Hid (RwS w6 (.slice a6 (n' + 1) c6) (ss.drop 1 ++ [(xs, fs)])) := hide ⟨ps ++ [(.slice ai ni ci, .slice af nf cf)], hO6.rw encS_len, (hins.later (unhide CB).bel).snoc ((unhide HD).later (unhide CB).bel) ((unhide HE0).later (unhide CB).bel)⟩; clear hO6 hB6 hrow hins)
          | (go_at_call 42; refine (ichangescopy_any a6 (n' + 1) c6 (ss.drop 1 ++ [(xs, fs)]) (unhide HSk) _ (by omega) (unhide HZk) (unhide R6)).mono ?_; rintro e w7 ⟨a7, c7, rfl, o7, b7⟩; have CC := hide ((unhide CB).later b7); have O7 := hide (o7.mono (unhide CB).bel.size (Nat.le_refl _)); obtain ⟨y0, y1, y2, yf⟩ := blk_cells3 (unhide CC).k3; have zC := (unhide CC).lt; clear o7 b7))
      all_goals go_wp2
      all_goals exact bodyPost_ret (v := .tuple #[LgV c (f + 1) (.slice a7 (n' + 1) c7), .bool true]) (by simp [results, Try.results11, go_sem, y0, y1, y2]) rfl ⟨a7, c7, rfl, by have h := log_set (unhide CC).k3 (.int .i64 c) (.int .i64 (f + 1)) (.slice a7 (n' + 1) c7) (unhide O7); simpa using h, (kLi7s CC _ _ _).1⟩
  · obtain rfl : r = false := by rw [← hE]; rfl
    obtain ⟨rfl, rfl⟩ : f1 = f ∧ ss1 = ss := by have h := unhide h1; simp [lad] at h; exact ⟨h.1.symm, h.2.symm⟩
    obtain rfl : m = n := by rw [unhide hm, unhide HL]
    go_wp2_with fail
    refine (ilogcopy_any c f1 a m cap ss1 (unhide HS) (SzS.tot ht) _ (by omega) ((unhide HX).later (unhide C4).bel)).mono ?_
    rintro e w9 ⟨a9, c9, rfl, o9, b9⟩
    have CE := hide ((unhide C4).later b9)
    have O9 := hide (o9.mono (unhide C4).bel.size (Nat.le_refl _))
    obtain ⟨y0, y1, y2, yf⟩ := blk_cells3 (unhide CE).k3
    have zE := (unhide CE).lt
    clear o9 b9 p0 p1 p2 pf s0 s1 sf
    go_wp2
    exact bodyPost_ret (v := .tuple #[LgV c f1 (.slice a9 m c9), .bool false]) (by simp [results, Try.results11, go_sem, y0, y1, y2]) rfl ⟨a9, c9, rfl, by have h := log_set (unhide CE).k3 (.int .i64 c) (.int .i64 f1) (.slice a9 m c9) (unhide O9); simpa using h, (kLi7s CE _ _ _).1⟩
end Go.Proofs.Ytdpaocikmijioac

namespace Go.Proofs.Ytdpaocikmijioac
open Go.RowKit

set_option maxHeartbeats 8000000 in
set_option maxRecDepth 100000 in
theorem ilogsince_any (c f : Int) (a : Option Addr) (n cap : Nat) (ss : List Sta) (seq : Int) (r : Bool) (h0 : Hid (kps c f ss seq = r)) (n1 n2 : Nat) (hn1 : Hid ((lsn r f seq ss).1.length = n1)) (hn2 : Hid ((lsn r f seq ss).2.length = n2)) (w : World) (hn : n ≤ 140737488351232) (ht : tot ss ≤ 140737488351232) (hx : RwS w (.slice a n cap) ss) :
    Calls Try.prog 13 #[LgV c f (.slice a n cap), .int .i64 seq] w fun e w' => ∃ a1 c1 a2 c2, e = .returned (.tuple #[.agg #[.slice a1 n1 c1, .slice a2 n2 c2], .bool r]) ∧ OwI w.heap.size w' (.slice a1 n1 c1) (lsn r f seq ss).1 ∧ OwF w.heap.size w' (.slice a2 n2 c2) (lsn r f seq ss).2 ∧ Below w.heap.size w w' := by
  have HX := hide hx
  have HL := hide hx.len.1
  have hbV : Below w.heap.size w ((w.alloc (LgO c f (.slice a n cap))).alloc StZ) := ((Below.refl w.heap.size w).alloc (Nat.le_refl _) _).alloc (by simp) _
  have HBV := hide hbV
  clear hx hbV
  go_enter Try.func13, Try.ntmps13
  go_wp2_with fail
  refine (ikeeps_any c f a n cap ss seq r h0 _ hn ht ((unhide HX).later (unhide HBV))).mono ?_
  rintro e w1 ⟨rfl, b1⟩
  have k1 : w1.heap[w.heap.size]? = some (LgO c f (.slice a n cap)) := (b1.block _ (by simp; omega)).trans (lowB2 w _ _)
  have k2 : w1.heap[w.heap.size + 1]? = some StZ := (b1.block _ (by simp)).trans (newB2 w _ _)
  have B1 := hide ((unhide HBV).trans (b1.mono (unhide HBV).size))
  have z1 : w.heap.size + 1 < w1.heap.size := (Array.getElem?_eq_some_iff.1 k2).1
  have z0 : w.heap.size < w1.heap.size := by omega
  have K1 := hide k1
  have K2 := hide k2
  clear b1 k1 k2 HBV
  cases r
  · obtain ⟨q0, q1, qf⟩ := blk_cells2 (unhide K2)
    have e1 : n1 = 0 := (unhide hn1).symm
    have e2 : n2 = 0 := (unhide hn2).symm
    subst e1 e2
    go_wp2
    exact bodyPost_ret (v := .tuple #[.agg #[.slice none 0 0, .slice none 0 0], .bool false]) (by simp [results, Try.results13, go_sem, q0, q1]) rfl ⟨none, 0, none, 0, rfl, World.ownsRow_nil _ _ _ _, World.ownsRow_nil _ _ _ _, ((unhide B1).setCell (p := ⟨w.heap.size + 1, 0, none⟩) (by simp) _).setCell (p := ⟨w.heap.size + 1, 1, none⟩) (by simp) _⟩
  · obtain ⟨k, m, hk, hs, ht2, hok, h8, -, -, -⟩ := kps_parts (unhide HL) (unhide h0)
    have HR : Hid (lsn true f seq ss = jnL (ss.drop k)) := hide (by rw [lsn, if_pos rfl, ht2])
    have HOK := hide (okL_drop hok k)
    have HK := hide hk
    have HSQ := hide hs
    have hm8 : m ≤ 8 := by omega
    obtain ⟨p0, p1, p2, -⟩ := blk_cells3 (unhide K1)
    have hLT : Hid (m = (ss.drop k).length) := hide (by rw [List.length_drop, ← unhide HL]; omega)
    have bA : Below w.heap.size w (w1.alloc StZ) := (unhide B1).alloc (by omega) _
    have BA := hide bA
    clear hk hs ht2 hok h0 bA
    rw [unhide HR] at hn1 hn2
    go_wp2_with fail
    refine (iabove_any c f a n cap ss seq k m (unhide HK) (unhide HSQ) w _ hn (unhide HX)).mono ?_
    rintro e w2 ⟨a3, rfl, r3, b2⟩
    have k1 : w2.heap[w.heap.size]? = some (LgO c f (.slice a n cap)) := (b2.block _ (by simp; omega)).trans ((Below.heap_alloc _ _ _ (by omega)).trans (unhide K1))
    have k2 : w2.heap[w.heap.size + 1]? = some StZ := (b2.block _ (by simp; omega)).trans ((Below.heap_alloc _ _ _ (by omega)).trans (unhide K2))
    have k3 : w2.heap[w1.heap.size]? = some StZ := (b2.block _ (by simp)).trans (heap_alloc_new _ _)
    have B2 := hide ((unhide BA).trans (b2.mono (unhide BA).size))
    have R3 := hide r3
    generalize hg : w1.heap.size = g at *
    have HK1 := hide k1
    have HK2 := hide k2
    have HK3 := hide k3
    clear r3 b2 k1 k2 k3 BA p0 p1 p2 K1 K2 B1
    go_wp2
    go_loopw [18] (fun i wr => ∃ (j : Nat) (v1 v2 : Value), j ≤ m ∧ i = .int .i64 j ∧ Below w.heap.size w wr ∧ wr.heap[w.heap.size + 1]? = some StZ ∧ wr.heap[g]? = some (.cells #[v1, v2] 30 (0, 0)) ∧ OwI (w.heap.size + 1 + 1) wr v1 (jnL ((ss.drop k).take j)).1 ∧ OwF (w.heap.size + 1 + 1) wr v2 (jnL ((ss.drop k).take j)).2) (fun i _ => m - (intOf i).toNat)
    case atStart => exact ⟨0, .slice none 0 0, .slice none 0 0, Nat.zero_le _, rfl, unhide B2, unhide HK2, unhide HK3, World.ownsRow_nil _ _ _ _, World.ownsRow_nil _ _ _ _⟩
    case round =>
      obtain ⟨j, v1, v2, hj, rfl, hb, hk2, hk3, ho1, ho2⟩ := hrel
      obtain ⟨b1, e1, rfl⟩ := ho1.form
      obtain ⟨b2, e2, rfl⟩ := ho2.form
      have hzr : w.heap.size + 1 < wr.heap.size := (Array.getElem?_eq_some_iff.1 hk2).1
      have hzg : g < wr.heap.size := (Array.getElem?_eq_some_iff.1 hk3).1
      have hJ := jnL_ok (okL_take (unhide HOK) j)
      by_cases hlt : j < m
      · obtain ⟨xs, fs, ai, ni, ci, af, nf, cf, b, off, hx, rfl, hbw, hcap, c0, c1, rx, rf⟩ := (unhide R3).at hlt
        have d0 := (hb.cell (p := ⟨b, off + j * 2, none⟩) hbw).trans c0
        have d1 := (hb.cell (p := ⟨b, off + j * 2 + 1, none⟩) hbw).trans c1
        have hoks : okS xs fs = true := okL_at (unhide HOK) hx
        have hO := (okS_iff _ _).1 hoks
        have hn5 : ni ≤ 5 := by have := hO.len5.1; have := rx.len.1; omega
        have hf5 : nf ≤ 5 := by have := hO.len5.2; have := rf.len.1; omega
        have l1 := hJ.len5.1
        have l2 := hJ.len5.2
        have HNX := hide (jnL_next hx)
        have HJ2 : Hid ((okS (jnL ((ss.drop k).take j)).1 (jnL ((ss.drop k).take j)).2 && okS xs fs) = true) := hide (by rw [hoks, (okS_iff _ _).2 hJ]; rfl)
        generalize hjt : jnL ((ss.drop k).take j) = jt at *
        have hbwr : b < wr.heap.size := Nat.lt_of_lt_of_le hbw hb.size
        have RX := hide (rx.later hb)
        have RF := hide (rf.later hb)
        have HB := hide hb
        have HKR := hide hk2
        have HKG := hide hk3
        have HO1 := hide ho1
        have HO2 := hide ho2
        generalize hl1 : jt.1.length = q1 at *
        generalize hl2 : jt.2.length = q2 at *
        obtain ⟨g0, g1, gf⟩ := blk_cells2 hk3
        obtain ⟨r1, hr1⟩ : ∃ r, (jnI true jt.1 jt.2 xs fs).length = r := ⟨_, rfl⟩
        obtain ⟨r2, hr2⟩ : ∃ r, (jnF true jt.2 fs).length = r := ⟨_, rfl⟩
        have HR1 := hide hr1
        have HR2 := hide hr2
        have HL1 := hide hl1
        have HL2 := hide hl2
        have HJT := hide hjt
        clear c0 c1 rx rf hx hb hk2 hk3 ho1 ho2 hoks hO hJ hr1 hr2 hl1 hl2 hjt
        go_wp2_with fail
        obtain ⟨Y, hY⟩ : ∃ Y, Y = wr.alloc (.cells #[.slice ai ni ci, .slice af nf cf] 30) := ⟨_, rfl⟩
        have bY : Below wr.heap.size wr Y := by rw [hY]; exact (Below.refl wr.heap.size wr).alloc (Nat.le_refl _) _
        rw [← hY]
        clear hY
        refine (ijoin_any b1 q1 e1 jt.1 b2 q2 e2 jt.2 ai ni ci xs af nf cf fs true HJ2 r1 r2 HR1 HR2 _ (by omega) (by omega) (by omega) (by omega) (((unhide HO1).rw encI_len).later bY) (((unhide HO2).rw encF_len).later bY) ((unhide RX).later bY) ((unhide RF).later bY)).mono ?_
        rintro e w4 ⟨a5, c5, a6, c6, rfl, o5, o6, b4⟩
        have b4' : Below wr.heap.size wr w4 := bY.trans (b4.mono bY.size)
        have kg4 := (b4'.block _ hzg).trans (unhide HKG)
        obtain ⟨t0, t1, tf⟩ := blk_cells2 kg4
        have zg4 : g < w4.heap.size := (Array.getElem?_eq_some_iff.1 kg4).1
        have HKG4 := hide kg4
        have HKR4 := hide ((b4'.block _ hzr).trans (unhide HKR))
        have HB4 := hide ((unhide HB).trans (b4'.mono (unhide HB).size))
        have O5 := hide (Ow.base (base' := w.heap.size + 1 + 1) o5 (by have := bY.size; omega))
        have O6 := hide (Ow.base (base' := w.heap.size + 1 + 1) o6 (by have := bY.size; omega))
        clear o5 o6 b4 b4' kg4 bY g0 g1 gf d0 d1 HKG HKR HB HO1 HO2 RX RF
        go_wp2
        go_roundw
        case rel =>
          have hqq : ∀ q, some g = some q → ∃ cs fz, w4.heap[q]? = some (.cells cs 30 fz) := fun q e => by cases e; exact ⟨_, _, unhide HKG4⟩
          refine ⟨j + 1, .slice a5 r1 c5, .slice a6 r2 c6, by omega, by go_num, ((unhide HB4).setCell (p := ⟨g, 0, none⟩) (by simp; omega) _).setCell (p := ⟨g, 1, none⟩) (by simp; omega) _, blk_at (blk_at (unhide HKR4) (by omega)) (by omega), blk_set2 (unhide HKG4) _ _, ?_, ?_⟩
          · rw [unhide HNX]; exact (unhide O5).otherT hqq (by decide) (grownS _ _ _ _)
          · rw [unhide HNX]; exact (unhide O6).otherT hqq (by decide) (grownS _ _ _ _)
        case measure => simp [intOf]; omega
      · have hjm : j = m := by omega
        obtain ⟨g0, g1, gf⟩ := blk_cells2 hk3
        obtain ⟨p0, p1, pf⟩ := blk_cells2 hk2
        have hT : (ss.drop k).take j = ss.drop k := List.take_of_length_le (by have := unhide hLT; omega)
        rw [hT] at ho1 ho2 g0 g1
        have HO1 := hide ho1
        have HO2 := hide ho2
        have HB := hide hb
        have HKR := hide hk2
        rw [unhide hn1] at g0
        rw [unhide hn2] at g1
        clear hb hk2 hk3 ho1 ho2 hJ hT
        go_wp2
        refine bodyPost_ret (v := .tuple #[.agg #[.slice b1 n1 e1, .slice b2 n2 e2], .bool true]) (by simp [results, Try.results13, go_sem, p0, p1]) rfl ⟨b1, e1, b2, e2, rfl, ?_, ?_, ((unhide HB).setCell (p := ⟨w.heap.size + 1, 0, none⟩) (by simp) _).setCell (p := ⟨w.heap.size + 1, 1, none⟩) (by simp) _⟩
        · rw [unhide HR]
          have h := (((unhide HO1).set ⟨w.heap.size + 1, 0, none⟩ (by simp) (.slice b1 n1 e1)).set ⟨w.heap.size + 1, 1, none⟩ (by simp) (.slice b2 n2 e2)).base (base' := w.heap.size) (by omega)
          rw [unhide hn1] at h
          exact h
        · rw [unhide HR]
          have h := (((unhide HO2).set ⟨w.heap.size + 1, 0, none⟩ (by simp) (.slice b1 n1 e1)).set ⟨w.heap.size + 1, 1, none⟩ (by simp) (.slice b2 n2 e2)).base (base' := w.heap.size) (by omega)
          rw [unhide hn2] at h
          exact h
end Go.Proofs.Ytdpaocikmijioac

namespace Go.Proofs.Ytdpaocikmijioac
open Go.RowKit

theorem kept3' {w W : World} {A B C : Obj} (b : Below (((w.alloc A).alloc B).alloc C).heap.size (((w.alloc A).alloc B).alloc C) W) : W.heap[w.heap.size]? = some A ∧ W.heap[w.heap.size + 1]? = some B ∧ W.heap[w.heap.size + 1 + 1]? = some C := (kept3 b).2.imp id (fun h => ⟨h.1, h.2.1⟩)
end Go.Proofs.Ytdpaocikmijioac

namespace Go.Proofs.Ytdpaocikmijioac
open Go.RowKit

theorem bytes_eq (x y : ByteArray) : x.toList = y.toList ↔ x = y := by
  refine ⟨fun h => ?_, fun h => by rw [h]⟩
  rw [Lib.toList_data, Lib.toList_data] at h
  obtain ⟨⟨x⟩⟩ := x
  obtain ⟨⟨y⟩⟩ := y
  simp at h
  rw [h]
theorem eqI_iff (x y : Itm) : x = y ↔ x.1 = y.1 ∧ x.2.1 = y.2.1 ∧ x.2.2.1 = y.2.2.1 ∧ x.2.2.2.1 = y.2.2.2.1 ∧ x.2.2.2.2.1 = y.2.2.2.2.1 ∧ x.2.2.2.2.2.toList = y.2.2.2.2.2.toList := by
  rw [bytes_eq]
  obtain ⟨a0, a1, a2, a3, a4, a5⟩ := x
  obtain ⟨b0, b1, b2, b3, b4, b5⟩ := y
  simp only [Prod.mk.injEq]
set_option maxHeartbeats 1000000 in
theorem eqI_run (x y : Itm) (b : Bool) (hb : decide (x = y) = b) (W : World) : (Op.equalIn 10000 75 (.agg #[.int .i64 x.1, .int .i64 x.2.1, .int .i64 x.2.2.1, .int .i64 x.2.2.2.1, .int .i64 x.2.2.2.2.1, .string x.2.2.2.2.2]) (.agg #[.int .i64 y.1, .int .i64 y.2.1, .int .i64 y.2.2.1, .int .i64 y.2.2.2.1, .int .i64 y.2.2.2.2.1, .string y.2.2.2.2.2])).run Try.prog W = .ok b W := by
  subst hb
  have e : decide (x = y) = decide (x.1 = y.1 ∧ x.2.1 = y.2.1 ∧ x.2.2.1 = y.2.2.1 ∧ x.2.2.2.1 = y.2.2.2.1 ∧ x.2.2.2.2.1 = y.2.2.2.2.1 ∧ x.2.2.2.2.2.toList = y.2.2.2.2.2.toList) := decide_eq_decide.mpr (eqI_iff x y)
  rw [e]
  clear e
  generalize x.1 = a0
  generalize y.1 = b0
  obtain ⟨a1, a2, a3, a4, a5⟩ := x.2
  obtain ⟨b1, b2, b3, b4, b5⟩ := y.2
  go_simp
  repeat' split
  all_goals simp_all
set_option maxHeartbeats 1000000 in
theorem eqF_run (x y : Flr) (b : Bool) (hb : decide (x = y) = b) (W : World) : (Op.equalIn 10000 78 (.agg #[.int .i64 x.1, .int .i64 x.2]) (.agg #[.int .i64 y.1, .int .i64 y.2])).run Try.prog W = .ok b W := by
  subst hb
  obtain ⟨a0, a1⟩ := x
  obtain ⟨b0, b1⟩ := y
  have e : decide ((a0, a1) = (b0, b1)) = decide (a0 = b0 ∧ a1 = b1) := decide_eq_decide.mpr (by simp)
  rw [e]
  clear e
  go_simp
  repeat' split
  all_goals simp_all

theorem same_all {α : Type} {xs ys : List α} {n : Nat} (h1 : n = xs.length) (h2 : n = ys.length) (h : ∀ j : Nat, j < n → xs[j]? = ys[j]?) : xs = ys := by
  apply List.ext_getElem?
  intro i
  by_cases hi : i < n
  · exact h i hi
  · rw [List.getElem?_eq_none (by omega), List.getElem?_eq_none (by omega)]
theorem same_step {α : Type} {xs ys : List α} {k : Nat} {x y : α} (hx : xs[k]? = some x) (hy : ys[k]? = some y) (e : x = y) (h : ∀ j : Nat, j < k → xs[j]? = ys[j]?) : ∀ j : Nat, j < k + 1 → xs[j]? = ys[j]? := by
  intro j hj
  by_cases c : j = k
  · subst c; rw [hx, hy, e]
  · exact h j (by omega)
theorem same_not {α : Type} {xs ys : List α} {k : Nat} {x y : α} (hx : xs[k]? = some x) (hy : ys[k]? = some y) (e : x ≠ y) : xs ≠ ys := by
  intro h
  subst h
  rw [hx] at hy
  exact e (Option.some.inj hy)
theorem same_len {α : Type} {xs ys : List α} {n m : Nat} (h1 : n = xs.length) (h2 : m = ys.length) (h : n ≠ m) : xs ≠ ys := by
  intro e; subst e; omega
theorem nb_false {a b : Nat} (h : a ≠ b) : ((a : Int) != (b : Int)) = true := by
  simp; omega
end Go.Proofs.Ytdpaocikmijioac

namespace Go.Proofs.Ytdpaocikmijioac
open Go.RowKit

set_option maxHeartbeats 2000000 in
theorem sleqi_any (a : Option Addr) (n cap : Nat) (a2 : Option Addr) (m cap2 : Nat) (xs ys : List Itm) (r : Bool) (hr : Hid (decide (xs = ys) = r)) (w : World) (hn : n ≤ 140737488351232) (hm : m ≤ 140737488351232) (hx : Rw encI 6 w (.slice a n cap) xs) (hy : Rw encI 6 w (.slice a2 m cap2) ys) :
    Calls Try.prog 48 #[.slice a n cap, .slice a2 m cap2] w fun e w' => e = .returned (.bool r) ∧ Below w.heap.size w w' := by
  have HX := hide hx
  have HY := hide hy
  clear hx hy
  by_cases hnm : n = m
  rotate_left
  · have d0 := nb_false hnm
    obtain rfl : r = false := by rw [← unhide hr]; simpa using same_len (unhide HX).len.1 (unhide HY).len.1 hnm
    go_enter Try.func48, Try.ntmps48
    go_wp2
    go_ret
    exact ⟨rfl, Below.refl _ _⟩
  subst hnm
  have d0 : ((n : Int) != (n : Int)) = false := by simp
  go_enter Try.func48, Try.ntmps48
  go_wp2
  go_loopw [13] (fun i wr => ∃ k : Nat, k ≤ n ∧ i = .int .i64 k ∧ (∀ j : Nat, j < k → xs[j]? = ys[j]?) ∧ Below w.heap.size w wr) (fun i _ => n - (intOf i).toNat)
  case atStart => exact ⟨0, Nat.zero_le _, rfl, fun j hj => absurd hj (Nat.not_lt_zero _), Below.refl _ _⟩
  case round =>
    obtain ⟨k, hk, rfl, hno, hbel⟩ := hrel
    have HN := hide hno
    have HB := hide hbel
    have hsz := hbel.size
    clear hno
    by_cases hlt : k < n
    · obtain ⟨x, b, off, hx, rfl, hb, hcap, hc⟩ := (unhide HX).at hlt
      obtain ⟨y, b2, off2, hy, rfl, hb2, hcap2, hc2⟩ := (unhide HY).at hlt
      have l0 := later_some (w := wr) (b := b) (o := off + k * 6) (v := .int .i64 x.1) (by omega) ((hbel.cell (p := ⟨b, off + k * 6, none⟩) hb).trans (hc 0 (by omega)))
      have l1 := later_some (w := wr) (b := b) (o := off + k * 6 + 1) (v := .int .i64 x.2.1) (by omega) ((hbel.cell (p := ⟨b, off + k * 6 + 1, none⟩) hb).trans (hc 1 (by omega)))
      have l2 := later_some (w := wr) (b := b) (o := off + k * 6 + 2) (v := .int .i64 x.2.2.1) (by omega) ((hbel.cell (p := ⟨b, off + k * 6 + 2, none⟩) hb).trans (hc 2 (by omega)))
      have l3 := later_some (w := wr) (b := b) (o := off + k * 6 + 3) (v := .int .i64 x.2.2.2.1) (by omega) ((hbel.cell (p := ⟨b, off + k * 6 + 3, none⟩) hb).trans (hc 3 (by omega)))
      have l4 := later_some (w := wr) (b := b) (o := off + k * 6 + 4) (v := .int .i64 x.2.2.2.2.1) (by omega) ((hbel.cell (p := ⟨b, off + k * 6 + 4, none⟩) hb).trans (hc 4 (by omega)))
      have l5 := later_some (w := wr) (b := b) (o := off + k * 6 + 5) (v := .string x.2.2.2.2.2) (by omega) ((hbel.cell (p := ⟨b, off + k * 6 + 5, none⟩) hb).trans (hc 5 (by omega)))
      have m0 := later_some (w := wr) (b := b2) (o := off2 + k * 6) (v := .int .i64 y.1) (by omega) ((hbel.cell (p := ⟨b2, off2 + k * 6, none⟩) hb2).trans (hc2 0 (by omega)))
      have m1 := later_some (w := wr) (b := b2) (o := off2 + k * 6 + 1) (v := .int .i64 y.2.1) (by omega) ((hbel.cell (p := ⟨b2, off2 + k * 6 + 1, none⟩) hb2).trans (hc2 1 (by omega)))
      have m2 := later_some (w := wr) (b := b2) (o := off2 + k * 6 + 2) (v := .int .i64 y.2.2.1) (by omega) ((hbel.cell (p := ⟨b2, off2 + k * 6 + 2, none⟩) hb2).trans (hc2 2 (by omega)))
      have m3 := later_some (w := wr) (b := b2) (o := off2 + k * 6 + 3) (v := .int .i64 y.2.2.2.1) (by omega) ((hbel.cell (p := ⟨b2, off2 + k * 6 + 3, none⟩) hb2).trans (hc2 3 (by omega)))
      have m4 := later_some (w := wr) (b := b2) (o := off2 + k * 6 + 4) (v := .int .i64 y.2.2.2.2.1) (by omega) ((hbel.cell (p := ⟨b2, off2 + k * 6 + 4, none⟩) hb2).trans (hc2 4 (by omega)))
      have m5 := later_some (w := wr) (b := b2) (o := off2 + k * 6 + 5) (v := .string y.2.2.2.2.2) (by omega) ((hbel.cell (p := ⟨b2, off2 + k * 6 + 5, none⟩) hb2).trans (hc2 5 (by omega)))
      have HX1 := hide hx
      have HY1 := hide hy
      clear hc hc2 hx hy hbel
      rcases Bool.eq_false_or_eq_true (decide (x = y)) with he | he
      · have hrun := eqI_run x y true he
        have HE := hide (same_step (unhide HX1) (unhide HY1) (of_decide_eq_true he) (unhide HN))
        clear he
        go_wp2_with fail
        refine wp_region_later (by kernel_rfl) (by kernel_rfl) ?_
        repeat (first | go_big_quiet_step (fail) | quiet_step (fail))
        refine wpQuiet_nil ?_
        intro w1 hb1
        have HB1 := hide ((unhide HB).trans (hb1.mono hsz))
        clear hb1 HB hrun
        go_wp2
        go_roundw
        case rel => exact ⟨k + 1, by omega, by go_num, unhide HE, unhide HB1⟩
        case measure => simp [intOf]; omega
      · have hrun := eqI_run x y false he
        obtain rfl : r = false := by rw [← unhide hr]; simpa using same_not (unhide HX1) (unhide HY1) (of_decide_eq_false he)
        clear he
        go_wp2_with fail
        refine wp_region_later (by kernel_rfl) (by kernel_rfl) ?_
        repeat (first | go_big_quiet_step (fail) | quiet_step (fail))
        refine wpQuiet_nil ?_
        intro w1 hb1
        have HB1 := hide ((unhide HB).trans (hb1.mono hsz))
        clear hb1 HB hrun
        go_wp2
        go_ret
        exact ⟨rfl, unhide HB1⟩
    · obtain rfl : r = true := by
        rw [← unhide hr]
        have e : k = n := by omega
        simpa using same_all (unhide HX).len.1 (unhide HY).len.1 (e ▸ unhide HN)
      clear hbel
      go_wp2
      go_ret
      exact ⟨rfl, unhide HB⟩

set_option maxHeartbeats 2000000 in
theorem sleqf_any (a : Option Addr) (n cap : Nat) (a2 : Option Addr) (m cap2 : Nat) (xs ys : List Flr) (r : Bool) (hr : Hid (decide (xs = ys) = r)) (w : World) (hn : n ≤ 140737488351232) (hm : m ≤ 140737488351232) (hx : Rw encF 2 w (.slice a n cap) xs) (hy : Rw encF 2 w (.slice a2 m cap2) ys) :
    Calls Try.prog 49 #[.slice a n cap, .slice a2 m cap2] w fun e w' => e = .returned (.bool r) ∧ Below w.heap.size w w' := by
  have HX := hide hx
  have HY := hide hy
  clear hx hy
  by_cases hnm : n = m
  rotate_left
  · have d0 := nb_false hnm
    obtain rfl : r = false := by rw [← unhide hr]; simpa using same_len (unhide HX).len.1 (unhide HY).len.1 hnm
    go_enter Try.func49, Try.ntmps49
    go_wp2
    go_ret
    exact ⟨rfl, Below.refl _ _⟩
  subst hnm
  have d0 : ((n : Int) != (n : Int)) = false := by simp
  go_enter Try.func49, Try.ntmps49
  go_wp2
  go_loopw [13] (fun i wr => ∃ k : Nat, k ≤ n ∧ i = .int .i64 k ∧ (∀ j : Nat, j < k → xs[j]? = ys[j]?) ∧ Below w.heap.size w wr) (fun i _ => n - (intOf i).toNat)
  case atStart => exact ⟨0, Nat.zero_le _, rfl, fun j hj => absurd hj (Nat.not_lt_zero _), Below.refl _ _⟩
  case round =>
    obtain ⟨k, hk, rfl, hno, hbel⟩ := hrel
    have HN := hide hno
    have HB := hide hbel
    have hsz := hbel.size
    clear hno
    by_cases hlt : k < n
    · obtain ⟨x, b, off, hx, rfl, hb, hcap, hc⟩ := (unhide HX).at hlt
      obtain ⟨y, b2, off2, hy, rfl, hb2, hcap2, hc2⟩ := (unhide HY).at hlt
      have l0 := later_some (w := wr) (b := b) (o := off + k * 2) (v := .int .i64 x.1) (by omega) ((hbel.cell (p := ⟨b, off + k * 2, none⟩) hb).trans (hc 0 (by omega)))
      have l1 := later_some (w := wr) (b := b) (o := off + k * 2 + 1) (v := .int .i64 x.2) (by omega) ((hbel.cell (p := ⟨b, off + k * 2 + 1, none⟩) hb).trans (hc 1 (by omega)))
      have m0 := later_some (w := wr) (b := b2) (o := off2 + k * 2) (v := .int .i64 y.1) (by omega) ((hbel.cell (p := ⟨b2, off2 + k * 2, none⟩) hb2).trans (hc2 0 (by omega)))
      have m1 := later_some (w := wr) (b := b2) (o := off2 + k * 2 + 1) (v := .int .i64 y.2) (by omega) ((hbel.cell (p := ⟨b2, off2 + k * 2 + 1, none⟩) hb2).trans (hc2 1 (by omega)))
      have HX1 := hide hx
      have HY1 := hide hy
      clear hc hc2 hx hy hbel
      rcases Bool.eq_false_or_eq_true (decide (x = y)) with he | he
      · have hrun := eqF_run x y true he
        have HE := hide (same_step (unhide HX1) (unhide HY1) (of_decide_eq_true he) (unhide HN))
        clear he
        go_wp2_with fail
        refine wp_region_later (by kernel_rfl) (by kernel_rfl) ?_
        repeat (first | go_big_quiet_step (fail) | quiet_step (fail))
        refine wpQuiet_nil ?_
        intro w1 hb1
        have HB1 := hide ((unhide HB).trans (hb1.mono hsz))
        clear hb1 HB hrun
        go_wp2
        go_roundw
        case rel => exact ⟨k + 1, by omega, by go_num, unhide HE, unhide HB1⟩
        case measure => simp [intOf]; omega
      · have hrun := eqF_run x y false he
        obtain rfl : r = false := by rw [← unhide hr]; simpa using same_not (unhide HX1) (unhide HY1) (of_decide_eq_false he)
        clear he
        go_wp2_with fail
        refine wp_region_later (by kernel_rfl) (by kernel_rfl) ?_
        repeat (first | go_big_quiet_step (fail) | quiet_step (fail))
        refine wpQuiet_nil ?_
        intro w1 hb1
        have HB1 := hide ((unhide HB).trans (hb1.mono hsz))
        clear hb1 HB hrun
        go_wp2
        go_ret
        exact ⟨rfl, unhide HB1⟩
    · obtain rfl : r = true := by
        rw [← unhide hr]
        have e : k = n := by omega
        simpa using same_all (unhide HX).len.1 (unhide HY).len.1 (e ▸ unhide HN)
      clear hbel
      go_wp2
      go_ret
      exact ⟨rfl, unhide HB⟩

set_option maxHeartbeats 2000000 in
theorem isame_any (ai : Option Addr) (ni ci : Nat) (xs : List Itm) (af : Option Addr) (nf cf : Nat) (fs : List Flr) (bi : Option Addr) (mi di : Nat) (ys : List Itm) (bf : Option Addr) (mf df : Nat) (gs : List Flr) (r : Bool) (hr : Hid ((decide (xs = ys) && decide (fs = gs)) = r)) (w : World)
    (hni : ni ≤ 140737488351232) (hnf : nf ≤ 140737488351232) (hmi : mi ≤ 140737488351232) (hmf : mf ≤ 140737488351232) (hx : Rw encI 6 w (.slice ai ni ci) xs) (hf : Rw encF 2 w (.slice af nf cf) fs) (hy : Rw encI 6 w (.slice bi mi di) ys) (hg : Rw encF 2 w (.slice bf mf df) gs) :
    Calls Try.prog 15 #[.agg #[.slice ai ni ci, .slice af nf cf], .agg #[.slice bi mi di, .slice bf mf df]] w fun e w' => e = .returned (.bool r) ∧ Below w.heap.size w w' := by
  have HX := hide hx
  have HY := hide hy
  have HF := hide hf
  have HG := hide hg
  clear hx hy hf hg
  obtain ⟨r1, hr1⟩ : ∃ r1, decide (xs = ys) = r1 := ⟨_, rfl⟩
  obtain ⟨r2, hr2⟩ : ∃ r2, decide (fs = gs) = r2 := ⟨_, rfl⟩
  have HR1 := hide hr1
  have HR2 := hide hr2
  have hrr := unhide hr
  rw [hr1, hr2] at hrr
  clear hr1 hr2 hr
  cases r1
  · obtain rfl : r = false := hrr.symm
    go_enter Try.func15, Try.ntmps15
    go_wp2_with fail
    refine (sleqi_any ai ni ci bi mi di xs ys _ HR1 _ hni hmi (((unhide HX).alloc _).alloc _) (((unhide HY).alloc _).alloc _)).mono ?_
    rintro e w1 ⟨rfl, b1⟩
    have HB := hide ((((Below.refl w.heap.size w).alloc (Nat.le_refl _) _).alloc (by simp) _).trans (b1.mono (by simp; omega)))
    clear b1
    go_wp2
    go_ret
    exact ⟨rfl, unhide HB⟩
  · obtain rfl : r = r2 := hrr.symm
    clear hrr
    go_enter Try.func15, Try.ntmps15
    go_wp2_with fail
    refine (sleqi_any ai ni ci bi mi di xs ys _ HR1 _ hni hmi (((unhide HX).alloc _).alloc _) (((unhide HY).alloc _).alloc _)).mono ?_
    rintro e w1 ⟨rfl, b1⟩
    obtain ⟨p0, p1, -⟩ := blk_cells2 ((b1.block w.heap.size (by simp; omega)).trans (lowB2 w _ _))
    obtain ⟨q0, q1, -⟩ := blk_cells2 ((b1.block (w.heap.size + 1) (by simp)).trans (newB2 w _ _))
    have HB := hide ((((Below.refl w.heap.size w).alloc (Nat.le_refl _) _).alloc (by simp) _).trans (b1.mono (by simp; omega)))
    clear b1
    go_wp2_with fail
    refine (sleqf_any af nf cf bf mf df fs gs _ HR2 _ hnf hmf ((unhide HF).later (unhide HB)) ((unhide HG).later (unhide HB))).mono ?_
    rintro e w2 ⟨rfl, b2⟩
    have HB2 := hide ((unhide HB).trans (b2.mono (unhide HB).size))
    clear b2
    go_wp2
    go_ret
    exact ⟨rfl, unhide HB2⟩
end Go.Proofs.Ytdpaocikmijioac
