/-
  impl.LogAdd: a change is logged. No statement is proved here.
  impl.LogAdd: a change is logged. No statement is proved here.
  A variable that a drawn statement lays at some time, and stores a log of the call's own into. No program here, no statement is proved here.
  A log that came in as an argument: its value written out, and what its rows read as. No statement is proved here.
-/
import Derived.Test.YtdpaocikmijioafLgW
import Derived.Deep.AppendLies
import Derived.Test.YtdpaocikmijioafLgV
import Derived.Test.YtdpaocikmijioafLgA
import Derived.Test.YtdpaocikmijioafStO
import Derived.ProofKit
import Derived.ChangeArms
import Derived.Deep.Slices
namespace Go.Proofs.Ytdpaocikmijioaf
open Go.RowKit

/-- append(dst, x) where dst has no room: a new row. -/
theorem step_appR {P : Program} {α : Type} {enc : α → List Value} {k : Nat} (hk : ∀ x, (enc x).length = k) (h0 : 0 < k) {ops : Array Oper} {o : Oper} {a : Act} {K : Act → World → Prop} {Q : Exit → Act → World → Prop} {R : Prop}
    (E T : TypeId) (i : TypeInfo) (z : Value) (bytes : Nat) (ht : P.underlying T = some (.slice E)) (hi : P.info? E = some i) (hz : i.zero = some z) (hsize : i.size = k) (hby : i.bytes = bytes) (hzs : z.cells.size = k) (hb : bytes ≤ 1000)
    (w : World) (x : α) (h1 : ∀ u ∈ enc x, u.oneCell' = true) (hgd : o.guard = none) (s xo : Operand) (ho : o.op = .call { callee := .builtin .append, args := #[s, xo], argTypes := #[T, T] })
    (p : Option Addr) (n : Nat) (xs : List α) (hs : a.eval s = .slice p n n) (hown : Rw enc k w (.slice p n n) xs) (g : Nat) (hx : a.eval xo = .slice (some ⟨g, 0, none⟩) 1 1) (hg : w.heap[g]? = some (.cells (enc x).toArray E (0, 0))) (hlen : n ≤ 2000000)
    (h : ∀ a' c' w', Ow enc k E w.heap.size w' (.slice a' (n + 1) c') (xs ++ [x]) → Below w.heap.size w w' → K (a.put o.dst (.slice a' (n + 1) c')) w') :
    if Region.wanted o (yielded ops a.tmps) = true then Oper.wp P o a w K Q else R := by
  have hn := hown.len.1
  have hnews : ∀ j u, (enc x)[j]? = some u → w.cell? ((⟨g, 0, none⟩ : Addr).add j) = some u := by
    intro j u hj
    rw [add_off, Nat.zero_add]
    simp only [World.cell?, hg]
    simpa using hj
  have hby2 : (n + 1) * bytes ≤ 140737488355328 := by
    have : (n + 1) * bytes ≤ 2000001 * 1000 := Nat.mul_le_mul (by omega) hb
    omega
  cases p with
  | none =>
    obtain rfl : n = 0 := by
      obtain ⟨a', cap', e, _, hr⟩ := hown
      simp only [Value.slice.injEq] at e
      rcases hr with rfl | ⟨b, off, e2, _⟩
      · simpa using hn
      · rw [← e.1] at e2; cases e2
    obtain rfl : xs = [] := List.eq_nil_of_length_eq_zero hn.symm
    refine step_append_lies _ hgd s xo T ho w.heap.size E i z k bytes ht hi hz hsize hby hzs h0 (.slice none 0 0) 0 [] hs (World.ownsRow_nil _ _ _ _) ⟨g, 0, none⟩ 1 1 (enc x) hx (by rw [hk]; omega) hnews h1 (by omega) (by unfold maxLen; omega) (by simpa using hby2) (Nat.le_refl _) _ rfl ?_
    intro g' cap w' h2 h3 _ _
    refine h _ _ w' ?_ ⟨h3.os, h3.tape, h3.output, h3.size, fun q hq => h3.block q hq (by simp [Value.ownBlock])⟩
    unfold Ow
    simpa using h2
  | some ad =>
    have holds : ∀ j u, (xs.flatMap enc)[j]? = some u → w.cell? (ad.add j) = some u := by
      by_cases hz : xs = []
      · subst hz; intro j u hj; simp at hj
      · obtain ⟨a', cap', e, _, hr⟩ := id hown
        simp only [Value.slice.injEq] at e
        rcases hr with hr | ⟨b, off, e2, _⟩
        · exact absurd hr hz
        · rw [← e.1] at e2
          cases e2
          exact hown.flat hk h0
    obtain ⟨v', w', hrun, r1, r2⟩ := run_append_arg_grows (P := P) w T o.type E i z k bytes ht hi hz hsize hby hzs h0 ad n n (xs.flatMap enc) (by rw [flat_len hk, hn]) holds ⟨g, 0, none⟩ 1 1 (enc x) (by rw [hk]; omega) hnews (by omega) (by unfold maxLen; omega) hby2
    have hO : Ow enc k E w.heap.size w' v' (xs ++ [x]) := by
      unfold Ow
      rw [List.length_append, List.flatMap_append, ← hn]
      simpa using r1
    obtain ⟨a', c', rfl⟩ := hO.form
    rw [if_pos (by simp [Region.wanted, hgd])]
    unfold Oper.wp
    simp [execOp, ho, resolve, invoke, builtin, hs, hx, hrun, Result.andThen]
    have e : (xs ++ [x]).length = n + 1 := by rw [List.length_append, ← hn]; rfl
    rw [List.length_append, ← hn] at hO
    rw [← hn]
    exact h a' c' w' hO ⟨r2.os, r2.tape, r2.output, r2.size, fun q hq => r2.block q hq (by simp)⟩

/-- While a change is added: both arguments' variables, the result's. -/
structure Li7 (w W : World) (c f : Int) (va v1 v2 : Value) : Prop where
  bel : Below w.heap.size w W
  k1 : W.heap[w.heap.size]? = some (LgO c f va)
  k2 : W.heap[w.heap.size + 1]? = some (.cells #[v1, v2] 37 (0, 0))
  k3 : W.heap[w.heap.size + 1 + 1]? = some (LgO 0 0 (.slice none 0 0))
variable {w W Y : World} {c f : Int} {va v1 v2 : Value}
theorem Li7.lt (h : Li7 w W c f va v1 v2) : w.heap.size + 1 + 1 < W.heap.size := (Array.getElem?_eq_some_iff.1 h.k3).1
theorem Li7.later (h : Li7 w W c f va v1 v2) (b : Below W.heap.size W Y) : Li7 w Y c f va v1 v2 := by
  have := h.lt
  exact ⟨h.bel.trans (b.mono h.bel.size), (b.block _ (by omega)).trans h.k1, (b.block _ (by omega)).trans h.k2, (b.block _ h.lt).trans h.k3⟩
theorem Li7.drewH (h : Hid (Li7 w W c f va v1 v2)) : Hid (Li7 w W.drew c f va v1 v2) := hide ((unhide h).later ((Below.refl _ _).drew))
theorem Li7.allocH (h : Hid (Li7 w W c f va v1 v2)) (o : Obj) : Hid (Li7 w (W.alloc o) c f va v1 v2) := hide ((unhide h).later ((Below.refl _ _).alloc (Nat.le_refl _) o))
theorem kLi7 (h : Hid (Li7 w W c f va v1 v2)) : Below w.heap.size w W ∧ W.cell? ⟨w.heap.size, 0, none⟩ = some (.int .i64 c) ∧ W.cell? ⟨w.heap.size, 1, none⟩ = some (.int .i64 f) ∧ W.cell? ⟨w.heap.size, 2, none⟩ = some va ∧ W.cell? ⟨w.heap.size + 1, 0, none⟩ = some v1 ∧ W.cell? ⟨w.heap.size + 1, 1, none⟩ = some v2 := by
  obtain ⟨p0, p1, p2, -⟩ := blk_cells3 (unhide h).k1
  obtain ⟨q0, q1, -⟩ := blk_cells2 (unhide h).k2
  exact ⟨(unhide h).bel, p0, p1, p2, q0, q1⟩
theorem set3_far {W : World} {g h : Nat} {u0 u1 u2 : Value} {x : Obj} (k : W.heap[g]? = some x) (ne : g ≠ h) : (((W.setCell ⟨h, 0, none⟩ u0).setCell ⟨h, 1, none⟩ u1).setCell ⟨h, 2, none⟩ u2).heap[g]? = some x := blk_at (blk_at (blk_at k ne) ne) ne
theorem kLi7s (h : Hid (Li7 w W c f va v1 v2)) (u0 u1 u2 : Value) : Below w.heap.size w (((W.setCell ⟨w.heap.size + 1 + 1, 0, none⟩ u0).setCell ⟨w.heap.size + 1 + 1, 1, none⟩ u1).setCell ⟨w.heap.size + 1 + 1, 2, none⟩ u2) ∧ (((W.setCell ⟨w.heap.size + 1 + 1, 0, none⟩ u0).setCell ⟨w.heap.size + 1 + 1, 1, none⟩ u1).setCell ⟨w.heap.size + 1 + 1, 2, none⟩ u2).cell? ⟨w.heap.size, 0, none⟩ = some (.int .i64 c) ∧ (((W.setCell ⟨w.heap.size + 1 + 1, 0, none⟩ u0).setCell ⟨w.heap.size + 1 + 1, 1, none⟩ u1).setCell ⟨w.heap.size + 1 + 1, 2, none⟩ u2).cell? ⟨w.heap.size, 1, none⟩ = some (.int .i64 f) ∧ (((W.setCell ⟨w.heap.size + 1 + 1, 0, none⟩ u0).setCell ⟨w.heap.size + 1 + 1, 1, none⟩ u1).setCell ⟨w.heap.size + 1 + 1, 2, none⟩ u2).cell? ⟨w.heap.size, 2, none⟩ = some va ∧ (((W.setCell ⟨w.heap.size + 1 + 1, 0, none⟩ u0).setCell ⟨w.heap.size + 1 + 1, 1, none⟩ u1).setCell ⟨w.heap.size + 1 + 1, 2, none⟩ u2).cell? ⟨w.heap.size + 1, 0, none⟩ = some v1 ∧ (((W.setCell ⟨w.heap.size + 1 + 1, 0, none⟩ u0).setCell ⟨w.heap.size + 1 + 1, 1, none⟩ u1).setCell ⟨w.heap.size + 1 + 1, 2, none⟩ u2).cell? ⟨w.heap.size + 1, 1, none⟩ = some v2 := by
  obtain ⟨p0, p1, p2, -⟩ := blk_cells3 (set3_far (h := w.heap.size + 1 + 1) (u0 := u0) (u1 := u1) (u2 := u2) (unhide h).k1 (by omega))
  obtain ⟨q0, q1, -⟩ := blk_cells2 (set3_far (h := w.heap.size + 1 + 1) (u0 := u0) (u1 := u1) (u2 := u2) (unhide h).k2 (by omega))
  exact ⟨below_set3 (by omega) (unhide h).bel, p0, p1, p2, q0, q1⟩
theorem Li7.new (w : World) (c f : Int) (va v1 v2 : Value) : Li7 w (((w.alloc (LgO c f va)).alloc (.cells #[v1, v2] 37)).alloc (LgO 0 0 (.slice none 0 0))) c f va v1 v2 :=
  ⟨(((Below.refl w.heap.size w).alloc (Nat.le_refl _) _).alloc (by simp) _).alloc (by simp; omega) _, lowB3 w _ _ _, midB3 w _ _ _, newB3 w _ _ _⟩
theorem Ins.snoc {ps : List Two} {ss : List Sta} {p : Two} {s : Sta} (h : Ins w ps ss) (h1 : Rw encI 6 w p.1 s.1) (h2 : Rw encF 2 w p.2 s.2) : Ins w (ps ++ [p]) (ss ++ [s]) := by
  refine ⟨by simp [h.len], fun i q t hq ht => ?_⟩
  by_cases hi : i < ps.length
  · rw [List.getElem?_append_left hi] at hq
    rw [List.getElem?_append_left (by rw [← h.len]; exact hi)] at ht
    exact h.ins i q t hq ht
  · rw [List.getElem?_append_right (by omega)] at hq
    rw [List.getElem?_append_right (by rw [← h.len]; omega), ← h.len] at ht
    have e : i - ps.length = 0 := by
      have := (List.getElem?_eq_some_iff.1 hq).1
      simp at this; omega
    rw [e] at hq ht
    simp at hq ht
    subst hq ht
    exact ⟨h1, h2⟩
theorem SmlS.snoc {ss : List Sta} {s : Sta} (h : SmlS ss) (h1 : Sml s.1) : SmlS (ss ++ [s]) := fun i t ht => by
  by_cases hi : i < ss.length
  · rw [List.getElem?_append_left hi] at ht; exact h i t ht
  · rw [List.getElem?_append_right (by omega)] at ht
    have := (List.getElem?_eq_some_iff.1 ht).1
    simp at this
    rw [show i - ss.length = 0 by omega] at ht
    simp at ht; subst ht; exact h1
theorem SzS.snoc {ss : List Sta} {s : Sta} (h : SzS ss) (h1 : s.1.length ≤ 1048576 ∧ s.2.length ≤ 1048576) : SzS (ss ++ [s]) := fun i t ht => by
  by_cases hi : i < ss.length
  · rw [List.getElem?_append_left hi] at ht; exact h i t ht
  · rw [List.getElem?_append_right (by omega)] at ht
    have := (List.getElem?_eq_some_iff.1 ht).1
    simp at this
    rw [show i - ss.length = 0 by omega] at ht
    simp at ht; subst ht; exact h1
end Go.Proofs.Ytdpaocikmijioaf

namespace Go.Proofs.Ytdpaocikmijioaf
open Go.RowKit

set_option maxHeartbeats 8000000 in
set_option maxRecDepth 100000 in
theorem ilogadd_any (c f : Int) (a : Option Addr) (n cap : Nat) (ss : List Sta) (ai : Option Addr) (ni ci : Nat) (xs : List Itm) (af : Option Addr) (nf cf : Nat) (fs : List Flr) (r : Bool) (h0 : Hid (lar c f ss (xs, fs) = r)) (f1 : Int) (ss1 : List Sta) (h1 : Hid (lad r c f ss (xs, fs) = (f1, ss1))) (m : Nat) (hm : Hid (m = ss1.length)) (hS : SmlS ss) (hSd : Sml xs) (w : World) (hn : n ≤ 1048576) (ht : tot ss ≤ 1048576) (hni : ni ≤ 1048576) (hnf : nf ≤ 1048576) (hx : RwS w (.slice a n cap) ss) (hd : Rw encI 6 w (.slice ai ni ci) xs) (he : Rw encF 2 w (.slice af nf cf) fs) :
    Calls Try.prog 27 #[LgV c f (.slice a n cap), .agg #[.slice ai ni ci, .slice af nf cf]] w fun e w' => ∃ a' c', e = .returned (.tuple #[LgV c f1 (.slice a' m c'), .bool r]) ∧ OwS w.heap.size w'.heap.size w' (.slice a' m c') ss1 ∧ Below w.heap.size w w' := by
  obtain ⟨i0, hi, hz0, hz1, hz2⟩ := info_parts Try.infoState
  have HX := hide hx
  have HL := hide hx.len.1
  have HD := hide hd
  have HE0 := hide he
  have HS := hide hS
  have HSd := hide hSd
  obtain ⟨ok, hok⟩ : ∃ ok, lok c f ss = ok := ⟨_, rfl⟩
  obtain ⟨q, hq⟩ : ∃ q, okS xs fs = q := ⟨_, rfl⟩
  obtain ⟨b3, d3⟩ : ∃ b, (f + (n : Int) == 100000) = b := ⟨_, rfl⟩
  have hE := unhide h0
  rw [lar, hok, hq, ← unhide HL, d3] at hE
  have HOK := hide hok
  have HQ := hide hq
  clear hx hd he hok hq h0 hS hSd
  go_enter Try.func27, Try.ntmps27
  go_wp2_with fail
  refine (ilogok_any c f a n cap ss ok HOK _ (by omega) (by omega) ((unhide HX).later (Li7.new w c f (.slice a n cap) (.slice ai ni ci) (.slice af nf cf)).bel)).mono ?_
  rintro e w2 ⟨rfl, b2⟩
  have C2 := hide ((Li7.new w c f (.slice a n cap) (.slice ai ni ci) (.slice af nf cf)).later b2)
  clear b2
  obtain ⟨p0, p1, p2, pf⟩ := blk_cells3 (unhide C2).k1
  obtain ⟨s0, s1, sf⟩ := blk_cells2 (unhide C2).k2
  have z2 := (unhide C2).lt
  have zl2 : w.heap.size < w2.heap.size := by omega
  have zd2 : w.heap.size + 1 < w2.heap.size := by omega
  cases ok
  · obtain rfl : r = false := by rw [← hE]; rfl
    obtain ⟨rfl, rfl⟩ : f1 = f ∧ ss1 = ss := by have h := unhide h1; simp [lad] at h; exact ⟨h.1.symm, h.2.symm⟩
    obtain rfl : m = n := by rw [unhide hm, unhide HL]
    go_wp2_with fail
    refine (ilogcopy_any c f1 a m cap ss1 (unhide HS) (SzS.tot ht) _ (by omega) ((unhide HX).later (unhide C2).bel)).mono ?_
    rintro e w9 ⟨a9, c9, rfl, o9, b9⟩
    have CE := hide ((unhide C2).later b9)
    have O9 := hide (o9.mono (unhide C2).bel.size (Nat.le_refl _))
    obtain ⟨y0, y1, y2, yf⟩ := blk_cells3 (unhide CE).k3
    have zE := (unhide CE).lt
    clear o9 b9 p0 p1 p2 pf s0 s1 sf
    go_wp2
    exact bodyPost_ret (v := .tuple #[LgV c f1 (.slice a9 m c9), .bool false]) (by simp [results, Try.results27, go_sem, y0, y1, y2]) rfl ⟨a9, c9, rfl, by have h := log_set (unhide CE).k3 (.int .i64 c) (.int .i64 f1) (.slice a9 m c9) (unhide O9); simpa using h, (kLi7s CE _ _ _).1⟩
  obtain ⟨⟨c1', c2'⟩, cn, ⟨f1', f2'⟩, fn, hokL⟩ := lok_iff.1 (unhide HOK)
  have cn' : (n : Int) ≤ c := by rw [unhide HL]; exact cn
  have HSV : Hid (lsq c f ss = f + (n : Int)) := hide (by rw [lsq, if_pos (unhide HOK), unhide HL])
  clear cn fn hokL
  go_wp2_with fail
  refine (istateok_any ai ni ci xs af nf cf fs q HQ _ (by omega) (by omega) ((unhide HD).later (unhide C2).bel) ((unhide HE0).later (unhide C2).bel)).mono ?_
  rintro e w3 ⟨rfl, b3'⟩
  have C3 := hide ((unhide C2).later b3')
  clear b3' C2 p0 p1 p2 pf s0 s1 sf z2 zl2 zd2
  obtain ⟨p0, p1, p2, pf⟩ := blk_cells3 (unhide C3).k1
  obtain ⟨s0, s1, sf⟩ := blk_cells2 (unhide C3).k2
  have z3 := (unhide C3).lt
  have zl3 : w.heap.size < w3.heap.size := by omega
  have zd3 : w.heap.size + 1 < w3.heap.size := by omega
  cases q
  · obtain rfl : r = false := by rw [← hE]; rfl
    obtain ⟨rfl, rfl⟩ : f1 = f ∧ ss1 = ss := by have h := unhide h1; simp [lad] at h; exact ⟨h.1.symm, h.2.symm⟩
    obtain rfl : m = n := by rw [unhide hm, unhide HL]
    go_wp2_with fail
    refine (ilogcopy_any c f1 a m cap ss1 (unhide HS) (SzS.tot ht) _ (by omega) ((unhide HX).later (unhide C3).bel)).mono ?_
    rintro e w9 ⟨a9, c9, rfl, o9, b9⟩
    have CE := hide ((unhide C3).later b9)
    have O9 := hide (o9.mono (unhide C3).bel.size (Nat.le_refl _))
    obtain ⟨y0, y1, y2, yf⟩ := blk_cells3 (unhide CE).k3
    have zE := (unhide CE).lt
    clear o9 b9 p0 p1 p2 pf s0 s1 sf
    go_wp2
    exact bodyPost_ret (v := .tuple #[LgV c f1 (.slice a9 m c9), .bool false]) (by simp [results, Try.results27, go_sem, y0, y1, y2]) rfl ⟨a9, c9, rfl, by have h := log_set (unhide CE).k3 (.int .i64 c) (.int .i64 f1) (.slice a9 m c9) (unhide O9); simpa using h, (kLi7s CE _ _ _).1⟩
  go_wp2_with fail
  refine (ilogseq_any c f a n cap ss (f + (n : Int)) HSV _ (by omega) (by omega) ((unhide HX).later (unhide C3).bel)).mono ?_
  rintro e w4 ⟨rfl, b4'⟩
  have C4 := hide ((unhide C3).later b4')
  clear b4' C3 p0 p1 p2 pf s0 s1 sf z3 zl3 zd3
  obtain ⟨p0, p1, p2, pf⟩ := blk_cells3 (unhide C4).k1
  obtain ⟨s0, s1, sf⟩ := blk_cells2 (unhide C4).k2
  have z4 := (unhide C4).lt
  have zl4 : w.heap.size < w4.heap.size := by omega
  have zd4 : w.heap.size + 1 < w4.heap.size := by omega
  cases b3
  · obtain rfl : r = true := by rw [← hE]; rfl
    obtain ⟨b4, d4⟩ : ∃ b, ((n : Int) == c) = b := ⟨_, rfl⟩
    cases b4
    · have hnc : ¬ (n : Int) = c := by simpa using d4
      obtain ⟨rfl, rfl⟩ : f1 = f ∧ ss1 = ss.drop 0 ++ [(xs, fs)] := by
        have h := unhide h1
        rw [lad, if_pos rfl, if_neg (by rw [← unhide HL]; exact hnc)] at h
        simp only [Prod.mk.injEq] at h
        exact ⟨h.1.symm, by rw [← h.2]; rfl⟩
      obtain rfl : m = n + 1 := by rw [unhide hm, unhide HL]; simp
      have HK : Hid (n = 0 + n) := hide (by omega)
      have HSQ : Hid (f1 - f1 = ((0 : Nat) : Int)) := hide (by simp)
      clear hnc
      have HSk : Hid (SmlS (ss.drop 0 ++ [(xs, fs)])) := hide (((unhide HS).drop 0).snoc (unhide HSd))
      have HZk : Hid (SzS (ss.drop 0 ++ [(xs, fs)])) := hide (((SzS.tot ht).drop 0).snoc (by have := (unhide HD).len.1; have := (unhide HE0).len.1; simp only; omega))
      have hq2 : n ≤ 2000000 := by omega
      clear h1 hm hE p0 p1 p2 pf s0 s1 sf
      obtain ⟨p0, p1, p2, pf⟩ := blk_cells3 (unhide C4).k1
      go_upto_region 6 with fail
      clear p0 p1 p2 pf d4
      have CD := Li7.drewH C4
      have CN := Li7.allocH CD (.cells #[.slice ai ni ci, .slice af nf cf] 37)
      have CN' := Li7.drewH (Li7.allocH C4 (.cells #[.slice ai ni ci, .slice af nf cf] 37))
      go_region_held3 (fun W => Below w.heap.size w W ∧ W.cell? ⟨w.heap.size, 0, none⟩ = some (.int .i64 c) ∧ W.cell? ⟨w.heap.size, 1, none⟩ = some (.int .i64 f1) ∧ W.cell? ⟨w.heap.size, 2, none⟩ = some (.slice a n cap) ∧ W.cell? ⟨w.heap.size + 1, 0, none⟩ = some (.slice ai ni ci) ∧ W.cell? ⟨w.heap.size + 1, 1, none⟩ = some (.slice af nf cf))
        (first | (with_reducible exact kLi7 C4) | (with_reducible exact kLi7 CD) | (with_reducible exact kLi7 CN) | (with_reducible exact kLi7 CN') | (with_reducible exact kLi7 CA) | (with_reducible exact kLi7 (Li7.allocH CA _)) | (with_reducible exact kLi7 CB) | (with_reducible exact kLi7 CC) | (with_reducible exact kLi7s CC _ _ _))
        (first
          | (go_at_call 68; refine (iabove_any c f1 a n cap ss f1 0 n (unhide HK) (unhide HSQ) w _ (by omega) (unhide HX)).mono ?_; rintro e w5 ⟨a5, rfl, r5, b5⟩; (first | (with_reducible have CA := hide ((unhide CD).later b5)) | (with_reducible have CA := hide ((unhide CN).later b5); have HG := hide (newblk b5).1) | (with_reducible have CA := hide ((unhide CN').later b5); have HG := hide (newblkD b5).1)); have R5 := hide r5; clear b5 r5)
          | (obtain ⟨ps, hrow, hins⟩ := unhide R5; refine step_appR encS_len (by omega) 37 49 i0 _ 48 Try.underlying49 hi hz0 hz1 hz2 rfl (by omega) _ (.slice ai ni ci, .slice af nf cf) (oneS _ rfl rfl) rfl _ _ rfl a5 n ps rfl (hrow.later (kb1 (by assumption))) _ rfl (by first | (exact unhide HG) | (exact heap_alloc_new w5 _)) hq2 ?_; intro a6 c6 w6 hO6 hB6; (first | (with_reducible have CB := hide ((unhide CA).later hB6)) | (with_reducible have CB := hide ((unhide (Li7.allocH CA _)).later hB6))); have R6 : Hid (RwS w6 (.slice a6 (n + 1) c6) (ss.drop 0 ++ [(xs, fs)])) := hide ⟨ps ++ [(.slice ai ni ci, .slice af nf cf)], hO6.rw encS_len, (hins.later (unhide CB).bel).snoc ((unhide HD).later (unhide CB).bel) ((unhide HE0).later (unhide CB).bel)⟩; clear hO6 hB6 hrow hins)
          | (go_at_call 67; refine (ichangescopy_any a6 (n + 1) c6 (ss.drop 0 ++ [(xs, fs)]) (unhide HSk) _ (by omega) (unhide HZk) (unhide R6)).mono ?_; rintro e w7 ⟨a7, c7, rfl, o7, b7⟩; have CC := hide ((unhide CB).later b7); have O7 := hide (o7.mono (unhide CB).bel.size (Nat.le_refl _)); obtain ⟨y0, y1, y2, yf⟩ := blk_cells3 (unhide CC).k3; have zC := (unhide CC).lt; clear o7 b7))
      all_goals go_wp2
      all_goals exact bodyPost_ret (v := .tuple #[LgV c f1 (.slice a7 (n + 1) c7), .bool true]) (by simp [results, Try.results27, go_sem, y0, y1, y2]) rfl ⟨a7, c7, rfl, by have h := log_set (unhide CC).k3 (.int .i64 c) (.int .i64 f1) (.slice a7 (n + 1) c7) (unhide O7); simpa using h, (kLi7s CC _ _ _).1⟩
    · have hnc : (n : Int) = c := by simpa using d4
      obtain ⟨n', hn'⟩ : ∃ n', n = n' + 1 := ⟨n - 1, by omega⟩
      have hn'' : n' ≤ 1048576 := by omega
      obtain ⟨rfl, rfl⟩ : f1 = f + 1 ∧ ss1 = ss.drop 1 ++ [(xs, fs)] := by
        have h := unhide h1
        rw [lad, if_pos rfl, if_pos (by rw [← unhide HL]; exact hnc), List.drop_append_of_le_length (by rw [← unhide HL]; omega)] at h
        simp only [Prod.mk.injEq] at h
        exact ⟨h.1.symm, h.2.symm⟩
      obtain rfl : m = n' + 1 := by rw [unhide hm]; simp; have := unhide HL; omega
      have HK : Hid (n = 1 + n') := hide (by omega)
      have HSQ : Hid (f + 1 - f = ((1 : Nat) : Int)) := hide (by simp; omega)
      clear hnc hn'
      have HSk : Hid (SmlS (ss.drop 1 ++ [(xs, fs)])) := hide (((unhide HS).drop 1).snoc (unhide HSd))
      have HZk : Hid (SzS (ss.drop 1 ++ [(xs, fs)])) := hide (((SzS.tot ht).drop 1).snoc (by have := (unhide HD).len.1; have := (unhide HE0).len.1; simp only; omega))
      have hq2 : n' ≤ 2000000 := by omega
      clear h1 hm hE p0 p1 p2 pf s0 s1 sf
      obtain ⟨p0, p1, p2, pf⟩ := blk_cells3 (unhide C4).k1
      go_upto_region 6 with fail
      clear p0 p1 p2 pf d4
      have CD := Li7.drewH C4
      have CN := Li7.allocH CD (.cells #[.slice ai ni ci, .slice af nf cf] 37)
      have CN' := Li7.drewH (Li7.allocH C4 (.cells #[.slice ai ni ci, .slice af nf cf] 37))
      go_region_held3 (fun W => Below w.heap.size w W ∧ W.cell? ⟨w.heap.size, 0, none⟩ = some (.int .i64 c) ∧ W.cell? ⟨w.heap.size, 1, none⟩ = some (.int .i64 f) ∧ W.cell? ⟨w.heap.size, 2, none⟩ = some (.slice a n cap) ∧ W.cell? ⟨w.heap.size + 1, 0, none⟩ = some (.slice ai ni ci) ∧ W.cell? ⟨w.heap.size + 1, 1, none⟩ = some (.slice af nf cf))
        (first | (with_reducible exact kLi7 C4) | (with_reducible exact kLi7 CD) | (with_reducible exact kLi7 CN) | (with_reducible exact kLi7 CN') | (with_reducible exact kLi7 CA) | (with_reducible exact kLi7 (Li7.allocH CA _)) | (with_reducible exact kLi7 CB) | (with_reducible exact kLi7 CC) | (with_reducible exact kLi7s CC _ _ _))
        (first
          | (go_at_call 68; refine (iabove_any c f a n cap ss (f + 1) 1 n' (unhide HK) (unhide HSQ) w _ (by omega) (unhide HX)).mono ?_; rintro e w5 ⟨a5, rfl, r5, b5⟩; (first | (with_reducible have CA := hide ((unhide CD).later b5)) | (with_reducible have CA := hide ((unhide CN).later b5); have HG := hide (newblk b5).1) | (with_reducible have CA := hide ((unhide CN').later b5); have HG := hide (newblkD b5).1)); have R5 := hide r5; clear b5 r5)
          | (obtain ⟨ps, hrow, hins⟩ := unhide R5; refine step_appR encS_len (by omega) 37 49 i0 _ 48 Try.underlying49 hi hz0 hz1 hz2 rfl (by omega) _ (.slice ai ni ci, .slice af nf cf) (oneS _ rfl rfl) rfl _ _ rfl a5 n' ps rfl (hrow.later (kb1 (by assumption))) _ rfl (by first | (exact unhide HG) | (exact heap_alloc_new w5 _)) hq2 ?_; intro a6 c6 w6 hO6 hB6; (first | (with_reducible have CB := hide ((unhide CA).later hB6)) | (with_reducible have CB := hide ((unhide (Li7.allocH CA _)).later hB6))); have R6 : Hid (RwS w6 (.slice a6 (n' + 1) c6) (ss.drop 1 ++ [(xs, fs)])) := hide ⟨ps ++ [(.slice ai ni ci, .slice af nf cf)], hO6.rw encS_len, (hins.later (unhide CB).bel).snoc ((unhide HD).later (unhide CB).bel) ((unhide HE0).later (unhide CB).bel)⟩; clear hO6 hB6 hrow hins)
          | (go_at_call 67; refine (ichangescopy_any a6 (n' + 1) c6 (ss.drop 1 ++ [(xs, fs)]) (unhide HSk) _ (by omega) (unhide HZk) (unhide R6)).mono ?_; rintro e w7 ⟨a7, c7, rfl, o7, b7⟩; have CC := hide ((unhide CB).later b7); have O7 := hide (o7.mono (unhide CB).bel.size (Nat.le_refl _)); obtain ⟨y0, y1, y2, yf⟩ := blk_cells3 (unhide CC).k3; have zC := (unhide CC).lt; clear o7 b7))
      all_goals go_wp2
      all_goals exact bodyPost_ret (v := .tuple #[LgV c (f + 1) (.slice a7 (n' + 1) c7), .bool true]) (by simp [results, Try.results27, go_sem, y0, y1, y2]) rfl ⟨a7, c7, rfl, by have h := log_set (unhide CC).k3 (.int .i64 c) (.int .i64 (f + 1)) (.slice a7 (n' + 1) c7) (unhide O7); simpa using h, (kLi7s CC _ _ _).1⟩
  · obtain rfl : r = false := by rw [← hE]; rfl
    obtain ⟨rfl, rfl⟩ : f1 = f ∧ ss1 = ss := by have h := unhide h1; simp [lad] at h; exact ⟨h.1.symm, h.2.symm⟩
    obtain rfl : m = n := by rw [unhide hm, unhide HL]
    go_wp2_with fail
    refine (ilogcopy_any c f1 a m cap ss1 (unhide HS) (SzS.tot ht) _ (by omega) ((unhide HX).later (unhide C4).bel)).mono ?_
    rintro e w9 ⟨a9, c9, rfl, o9, b9⟩
    have CE := hide ((unhide C4).later b9)
    have O9 := hide (o9.mono (unhide C4).bel.size (Nat.le_refl _))
    obtain ⟨y0, y1, y2, yf⟩ := blk_cells3 (unhide CE).k3
    have zE := (unhide CE).lt
    clear o9 b9 p0 p1 p2 pf s0 s1 sf
    go_wp2
    exact bodyPost_ret (v := .tuple #[LgV c f1 (.slice a9 m c9), .bool false]) (by simp [results, Try.results27, go_sem, y0, y1, y2]) rfl ⟨a9, c9, rfl, by have h := log_set (unhide CE).k3 (.int .i64 c) (.int .i64 f1) (.slice a9 m c9) (unhide O9); simpa using h, (kLi7s CE _ _ _).1⟩
end Go.Proofs.Ytdpaocikmijioaf

namespace Go.Proofs.Ytdpaocikmijioaf
open Go.RowKit

theorem OwS.ow {lo hi : Nat} {w : World} {v : Value} {ss : List Sta} (h : OwS lo hi w v ss) : OwW lo w v ss := by
  obtain ⟨ps, h1, h2⟩ := h.own
  exact ⟨ps, h1, h2.len, fun i p s hp hs => ⟨.inl (h2.ins i p s hp hs).1, .inl (h2.ins i p s hp hs).2⟩⟩
abbrev LgZ0 : Obj := .cells #[.int .i64 0, .int .i64 0, .slice none 0 0] 51
/-- The variable lies in block g, behind P, and is as it was laid. -/
structure BxL (P W : World) (g : Nat) : Prop where
  blk : W.heap[g]? = some LgZ0
  lt : g < W.heap.size
  ge : P.heap.size ≤ g
theorem BxL.new {P W w1 : World} (b : Below (W.alloc LgZ0).heap.size (W.alloc LgZ0) w1) (h : P.heap.size ≤ W.heap.size) : BxL P w1 W.heap.size := ⟨(newblk b).1, (newblk b).2, h⟩
theorem BxL.newD {P W w1 : World} (b : Below (W.alloc LgZ0).drew.heap.size (W.alloc LgZ0).drew w1) (h : P.heap.size ≤ W.heap.size) : BxL P w1 W.heap.size := ⟨(newblkD b).1, (newblkD b).2, h⟩
theorem BxL.kept {P W w1 : World} {g : Nat} (M : Hid (BxL P W g)) (b : Below W.heap.size W w1) : BxL P w1 g := ⟨(b.block _ (unhide M).lt).trans (unhide M).blk, Nat.lt_of_lt_of_le (unhide M).lt b.size, (unhide M).ge⟩
theorem ksetL {P W : World} {g : Nat} {v0 v1 v2 : Value} (b : Below P.heap.size P W) (M : Hid (BxL P W g)) : Below P.heap.size P (((W.setCell ⟨g, 0, none⟩ v0).setCell ⟨g, 1, none⟩ v1).setCell ⟨g, 2, none⟩ v2) := below_set3 (unhide M).ge b
theorem kalL {P W : World} {o : Obj} (h : Below P.heap.size P W) : Below P.heap.size P (W.alloc o) := h.alloc h.size _
/-- The variable holds the log. -/
structure FinL (P W : World) (g : Nat) (c f : Int) (v : Value) (ss : List Sta) : Prop where
  bel : Below P.heap.size P W
  ge : P.heap.size ≤ g
  lt : g < W.heap.size
  blk : W.heap[g]? = some (LgO c f v)
  row : OwW P.heap.size W v ss
theorem FinL.set {P W : World} {g : Nat} {c f : Int} {v : Value} {ss : List Sta} (b : Below P.heap.size P W) (M : Hid (BxL P W g)) (o : Hid (OwW P.heap.size W v ss)) :
    FinL P (((W.setCell ⟨g, 0, none⟩ (.int .i64 c)).setCell ⟨g, 1, none⟩ (.int .i64 f)).setCell ⟨g, 2, none⟩ v) g c f v ss :=
  ⟨below_set3 (unhide M).ge b, (unhide M).ge, by simpa using (unhide M).lt, blk_set3 (unhide M).blk _ _ _, OwW.log3 (unhide M).blk _ _ _ (unhide o)⟩
theorem FinL.new {P W : World} {c f : Int} {v : Value} {ss : List Sta} (b : Below P.heap.size P W) (o : Hid (OwW P.heap.size W v ss)) : FinL P (W.alloc (LgO c f v)) W.heap.size c f v ss :=
  ⟨b.alloc b.size _, b.size, by simp, heap_alloc_new _ _, (unhide o).later ((Below.refl _ _).alloc (Nat.le_refl _) _)⟩
theorem RwS.later2 {w w' : World} {o : Obj} {v : Value} {ss : List Sta} (h : RwS w v ss) (b : Below (w.alloc o).heap.size (w.alloc o) w') : RwS w' v ss := (h.alloc o).later b
/-- A log and a state in variables, carried to a later world. -/
theorem keepLS {w5 W : World} {g h : Nat} {T U : TypeId} {a0 a1 a2 b0 b1 : Value} (hg : Hid (w5.heap[g]? = some (.cells #[a0, a1, a2] T (0, 0)) ∧ g < w5.heap.size)) (hh : Hid (w5.heap[h]? = some (.cells #[b0, b1] U (0, 0)) ∧ h < w5.heap.size)) (hb : Below w5.heap.size w5 W) :
    Below w5.heap.size w5 W ∧ W.cell? ⟨g, 0, none⟩ = some a0 ∧ W.cell? ⟨g, 1, none⟩ = some a1 ∧ W.cell? ⟨g, 2, none⟩ = some a2 ∧ W.cell? ⟨h, 0, none⟩ = some b0 ∧ W.cell? ⟨h, 1, none⟩ = some b1 := by
  obtain ⟨p0, p1, p2, -⟩ := blk_cells3 ((hb.block _ (unhide hg).2).trans (unhide hg).1)
  obtain ⟨q0, q1, -⟩ := blk_cells2 ((hb.block _ (unhide hh).2).trans (unhide hh).1)
  exact ⟨hb, p0, p1, p2, q0, q1⟩
end Go.Proofs.Ytdpaocikmijioaf

namespace Go.Proofs.Ytdpaocikmijioaf
open Go.ChangeShapes Go.WideShapes Go.ChangeAt Go.RowKit

section
variable {H : Type} {enc : TypeId × Value → H} {w : World} {base : Nat} {spare : Nat → Bool} {held : Bool}

def StaAt (w : World) (p : Two) (s : Sta) : Prop := Rw encI 6 w p.1 s.1 ∧ Rw encF 2 w p.2 s.2 ∧ Big s.1 ∧ s.1.length ≤ 9223372036854775807 ∧ s.2.length ≤ 9223372036854775807
set_option maxRecDepth 100000 in
theorem sta_of_cells {fuel : Nat} {cs : List Value} {x : DataW H × List MemPlace} (h : DataW.trod enc Try.prog w base spare held fuel 28 cs = some x) :
    ∃ p : Two, cs = encS p ∧ ∃ s : Sta, StaAt w p s := by
  obtain ⟨xs, n, _, hx, hl, hlen, hfs⟩ := DataW.trod_struct Try.underlying28 h
  have hl2 : cs.length = 2 := hl.trans (by kernel_rfl)
  have c1 : Try.prog.cellsOf 25 = 1 := by kernel_rfl
  have c2 : Try.prog.cellsOf 26 = 1 := by kernel_rfl
  match cs, hl2 with
  | [v0, v1], _ =>
    have h0 : DataW.trod enc Try.prog w base spare held n 25 [v0] = xs[0]? := by
      have := hfs 0 _ rfl
      simpa [c1] using this
    have h1 : DataW.trod enc Try.prog w base spare held n 26 [v1] = xs[1]? := by
      have := hfs 1 _ rfl
      simpa [c2] using this
    match xs, hlen with
    | [y0, y1], _ =>
      simp only [List.getElem?_cons_zero, List.getElem?_cons_succ] at h0 h1
      obtain ⟨ai, ni, ci, xs, rfl, l1, r1, q1⟩ := rw_of_slice (ec := encI) (k := 6) (Q := fun y => y.2.2.2.2.2.size ≤ maxLen ∧ FitN y.1 ∧ FitK y.2) Try.underlying25 (by kernel_rfl) (by omega) (fun _ _ _ h => itm_of_cells h) h0
      obtain ⟨af, nf, cf, fs, rfl, l2, r2, q2⟩ := rw_of_slice (ec := encF) (k := 2) (Q := fun y => FitN y.1 ∧ FitN y.2) Try.underlying26 (by kernel_rfl) (by omega) (fun _ _ _ h => flr_of_cells h) h1
      unfold maxLen at l1 l2
      refine ⟨(.slice ai ni ci, .slice af nf cf), rfl, (xs, fs), r1, r2, fun k x hx => (q1 k x hx).1, ?_, ?_⟩
      · rw [← r1.len.1]; exact l1
      · rw [← r2.len.1]; exact l2

set_option maxRecDepth 100000 in
theorem open_log {r : Reach} {b0 : Nat} {v : Value} {d : DataW H} {p : List MemPlace}
    (hv : Value.okWide Try.prog w r b0 46 v) (h : DataW.Trod enc Try.prog w base spare held 46 v d p) :
    ∃ (c f : Int) (a : Option Addr) (n cap : Nat) (ss : List Sta), v = .agg #[.int .i64 c, .int .i64 f, .slice a n cap] ∧ n ≤ 9223372036854775807 ∧ RwS w (.slice a n cap) ss ∧ BigS ss ∧ FitN c ∧ FitN f := by
  obtain ⟨cs, rfl, hsz⟩ := okWide_struct Try.underlying46 hv
  have hs3 : cs.size = 3 := hsz.trans (by kernel_rfl)
  have c1 : Try.prog.cellsOf 44 = 1 := by kernel_rfl
  have ci : Try.prog.cellsOf 3 = 1 := by kernel_rfl
  obtain ⟨l⟩ := cs
  match l, hs3 with
  | [v0, v1, v2], _ =>
    obtain ⟨fuel, hf⟩ := h
    obtain ⟨xs, n, _, hx, hl, hlen, hfs⟩ := DataW.trod_struct Try.underlying46 hf
    have h0 : DataW.trod enc Try.prog w base spare held n 3 [v0] = xs[0]? := by
      have := hfs 0 _ rfl
      simpa [Value.cells, ci] using this
    have h1 : DataW.trod enc Try.prog w base spare held n 3 [v1] = xs[1]? := by
      have := hfs 1 _ rfl
      simpa [Value.cells, ci] using this
    have h2 : DataW.trod enc Try.prog w base spare held n 44 [v2] = xs[2]? := by
      have := hfs 2 _ rfl
      simpa [Value.cells, c1] using this
    match xs, hlen with
    | [y0, y1, y2], _ =>
      simp only [List.getElem?_cons_zero, List.getElem?_cons_succ] at h0 h1 h2
      obtain ⟨n0, e0, -, f0⟩ := DataW.trod_int Try.underlying3 h0
      obtain ⟨n1, e1, -, f1⟩ := DataW.trod_int Try.underlying3 h1
      simp only [List.cons.injEq, and_true] at e0 e1
      subst e0 e1
      obtain ⟨a, m, cap, ps, rfl, l1, r1, q1⟩ := rw_of_slice (ec := encS) (k := 2) (Q := fun y => ∃ s : Sta, StaAt w y s) Try.underlying44 (by kernel_rfl) (by omega) (fun _ _ _ h => sta_of_cells h) h2
      obtain ⟨ss, hsl, hss⟩ := list_of (p := fun i s => ∀ y, ps[i]? = some y → StaAt w y s) ps.length (fun i hi => by
        obtain ⟨s, hs⟩ := q1 i ps[i] (by simp [hi])
        exact ⟨s, fun y hy => by simp [hi] at hy; subst hy; exact hs⟩)
      unfold maxLen at l1
      refine ⟨n0, n1, a, m, cap, ss, rfl, l1, ⟨ps, r1, hsl.symm, fun i p s hp hs => ⟨(hss i s hs p hp).1, (hss i s hs p hp).2.1⟩⟩, fun i s hs => ?_, fit_of f0, fit_of f1⟩
      have hi : i < ps.length := by rw [← hsl]; exact (List.getElem?_eq_some_iff.1 hs).1
      exact (hss i s hs ps[i] (by simp [hi])).2.2
end
end Go.Proofs.Ytdpaocikmijioaf
