/-
  A message that came in as an argument; what is kept of two messages' variables while a statement draws its order. No statement is proved here.
-/
import Derived.Test.YtjlocbimkfocnaaMsL
namespace Go.Proofs.Ytjlocbimkfocnaa
open Go.ChangeShapes Go.WideShapes Go.ChangeAt Go.RowKit

structure FitMg (m : Mg) : Prop where
  k : FitN m.k
  f : FitN m.f
  t : FitN m.t
  n : FitN m.n
  h : FitN m.h
  tr : FitN m.tr
  tl : FitNs m.tl
  ve : FitNs m.ve
  le : FitNs m.le
section
variable {H : Type} {enc : TypeId × Value → H} {w : World} {base : Nat} {spare : Nat → Bool} {held : Bool}
set_option maxRecDepth 100000 in
theorem tree_of_cells {fuel : Nat} {cs : List Value} {x : DataW H × List MemPlace} (h : DataW.trod enc Try.prog w base spare held fuel 37 cs = some x) :
    ∃ a n c ns q, cs = [.slice a n c, .int .i64 q] ∧ n ≤ 9223372036854775807 ∧ RwN w (.slice a n c) ns ∧ FitNs ns ∧ FitN q := by
  obtain ⟨xs, n, _, hx, hl, hlen, hfs⟩ := DataW.trod_struct Try.underlying37 h
  have hl2 : cs.length = 2 := hl.trans (by kernel_rfl)
  have c1 : Try.prog.cellsOf 35 = 1 := by kernel_rfl
  have c2 : Try.prog.cellsOf 3 = 1 := by kernel_rfl
  match cs, hl2 with
  | [v0, v1], _ =>
    have h0 : DataW.trod enc Try.prog w base spare held n 35 [v0] = xs[0]? := by
      have := hfs 0 _ rfl
      simpa [c1] using this
    have h1 : DataW.trod enc Try.prog w base spare held n 3 [v1] = xs[1]? := by
      have := hfs 1 _ rfl
      simpa [c1, c2] using this
    match xs, hlen with
    | [y0, y1], _ =>
      simp only [List.getElem?_cons_zero, List.getElem?_cons_succ] at h0 h1
      obtain ⟨a, n, c, ns, rfl, l1, r1, q1⟩ := rw_of_slice (ec := encN) (k := 1) (Q := FitN) Try.underlying35 (by kernel_rfl) (by omega) (fun _ _ _ h => int_of_cells h) h0
      obtain ⟨q, e1, f1⟩ := int_of_cells h1
      simp only [encN, List.cons.injEq, and_true] at e1
      subst e1
      unfold maxLen at l1
      exact ⟨a, n, c, ns, q, rfl, l1, r1, q1, f1⟩
set_option maxRecDepth 100000 in
theorem state_of_cells {fuel : Nat} {cs : List Value} {x : DataW H × List MemPlace} (h : DataW.trod enc Try.prog w base spare held fuel 41 cs = some x) :
    ∃ ai ni ci xs af nf cf fs, cs = [.slice ai ni ci, .slice af nf cf] ∧ ni ≤ 9223372036854775807 ∧ nf ≤ 9223372036854775807 ∧ Rw encI 6 w (.slice ai ni ci) xs ∧ Rw encF 2 w (.slice af nf cf) fs ∧ Big xs := by
  obtain ⟨xs, n, _, hx, hl, hlen, hfs⟩ := DataW.trod_struct Try.underlying41 h
  have hl2 : cs.length = 2 := hl.trans (by kernel_rfl)
  have c1 : Try.prog.cellsOf 38 = 1 := by kernel_rfl
  have c2 : Try.prog.cellsOf 39 = 1 := by kernel_rfl
  match cs, hl2 with
  | [v0, v1], _ =>
    have h0 : DataW.trod enc Try.prog w base spare held n 38 [v0] = xs[0]? := by
      have := hfs 0 _ rfl
      simpa [c1] using this
    have h1 : DataW.trod enc Try.prog w base spare held n 39 [v1] = xs[1]? := by
      have := hfs 1 _ rfl
      simpa [c2] using this
    match xs, hlen with
    | [y0, y1], _ =>
      simp only [List.getElem?_cons_zero, List.getElem?_cons_succ] at h0 h1
      obtain ⟨ai, ni, ci, xs, rfl, l1, r1, q1⟩ := rw_of_slice (ec := encI) (k := 6) (Q := fun y => y.2.2.2.2.2.size ≤ maxLen ∧ FitN y.1 ∧ FitK y.2) Try.underlying38 (by kernel_rfl) (by omega) (fun _ _ _ h => itm_of_cells h) h0
      obtain ⟨af, nf, cf, fs, rfl, l2, r2, q2⟩ := rw_of_slice (ec := encF) (k := 2) (Q := fun y => FitN y.1 ∧ FitN y.2) Try.underlying39 (by kernel_rfl) (by omega) (fun _ _ _ h => flr_of_cells h) h1
      unfold maxLen at l1 l2
      exact ⟨ai, ni, ci, xs, af, nf, cf, fs, rfl, l1, l2, r1, r2, fun k x hx => (q1 k x hx).1⟩
set_option maxHeartbeats 4000000 in
set_option maxRecDepth 100000 in
theorem open_msg {r : Reach} {b0 : Nat} {v : Value} {d : DataW H} {p : List MemPlace}
    (hv : Value.okWide Try.prog w r b0 44 v) (h : DataW.Trod enc Try.prog w base spare held 44 v d p) :
    ∃ (m : Mg) (q : Mp), v = .agg #[.int .i64 m.k, .int .i64 m.f, .int .i64 m.t, .int .i64 m.n, .int .i64 m.h, .slice q.ta q.tn q.tc, .int .i64 m.tr, .slice q.va q.vn q.vc, .slice q.la q.ln q.lc, .slice q.xa q.xn q.xc, .slice q.ya q.yn q.yc, .slice q.ka q.kn q.kc] ∧ SzM q 9223372036854775807 ∧ RwM w m q ∧ Big m.its ∧ FitMg m := by
  obtain ⟨cs, rfl, hsz⟩ := okWide_struct Try.underlying44 hv
  have hs : cs.size = 12 := hsz.trans (by kernel_rfl)
  have c1 : Try.prog.cellsOf 35 = 1 := by kernel_rfl
  have c2 : Try.prog.cellsOf 3 = 1 := by kernel_rfl
  have c3 : Try.prog.cellsOf 37 = 2 := by kernel_rfl
  have c4 : Try.prog.cellsOf 41 = 2 := by kernel_rfl
  have c5 : Try.prog.cellsOf 42 = 1 := by kernel_rfl
  obtain ⟨l⟩ := cs
  match l, hs with
  | [v0, v1, v2, v3, v4, v5, v6, v7, v8, v9, va, vb], _ =>
    obtain ⟨fuel, hf⟩ := h
    obtain ⟨xs, n, _, hx, hl, hlen, hfs⟩ := DataW.trod_struct Try.underlying44 hf
    have h0 : DataW.trod enc Try.prog w base spare held n 3 [v0] = xs[0]? := by
      have := hfs 0 _ rfl
      simpa [Value.cells, c1, c2, c3, c4, c5] using this
    have h1 : DataW.trod enc Try.prog w base spare held n 3 [v1] = xs[1]? := by
      have := hfs 1 _ rfl
      simpa [Value.cells, c1, c2, c3, c4, c5] using this
    have h2 : DataW.trod enc Try.prog w base spare held n 3 [v2] = xs[2]? := by
      have := hfs 2 _ rfl
      simpa [Value.cells, c1, c2, c3, c4, c5] using this
    have h3 : DataW.trod enc Try.prog w base spare held n 3 [v3] = xs[3]? := by
      have := hfs 3 _ rfl
      simpa [Value.cells, c1, c2, c3, c4, c5] using this
    have h4 : DataW.trod enc Try.prog w base spare held n 3 [v4] = xs[4]? := by
      have := hfs 4 _ rfl
      simpa [Value.cells, c1, c2, c3, c4, c5] using this
    have h5 : DataW.trod enc Try.prog w base spare held n 37 [v5, v6] = xs[5]? := by
      have := hfs 5 _ rfl
      simpa [Value.cells, c1, c2, c3, c4, c5] using this
    have h6 : DataW.trod enc Try.prog w base spare held n 35 [v7] = xs[6]? := by
      have := hfs 6 _ rfl
      simpa [Value.cells, c1, c2, c3, c4, c5] using this
    have h7 : DataW.trod enc Try.prog w base spare held n 35 [v8] = xs[7]? := by
      have := hfs 7 _ rfl
      simpa [Value.cells, c1, c2, c3, c4, c5] using this
    have h8 : DataW.trod enc Try.prog w base spare held n 41 [v9, va] = xs[8]? := by
      have := hfs 8 _ rfl
      simpa [Value.cells, c1, c2, c3, c4, c5] using this
    have h9 : DataW.trod enc Try.prog w base spare held n 42 [vb] = xs[9]? := by
      have := hfs 9 _ rfl
      simpa [Value.cells, c1, c2, c3, c4, c5] using this
    match xs, hlen with
    | [y0, y1, y2, y3, y4, y5, y6, y7, y8, y9], _ =>
      simp only [List.getElem?_cons_zero, List.getElem?_cons_succ] at h0 h1 h2 h3 h4 h5 h6 h7 h8 h9
      obtain ⟨n0, e0, f0⟩ := int_of_cells h0
      obtain ⟨n1, e1, f1⟩ := int_of_cells h1
      obtain ⟨n2, e2, f2⟩ := int_of_cells h2
      obtain ⟨n3, e3, f3⟩ := int_of_cells h3
      obtain ⟨n4, e4, f4⟩ := int_of_cells h4
      simp only [encN, List.cons.injEq, and_true] at e0 e1 e2 e3 e4
      subst e0 e1 e2 e3 e4
      obtain ⟨ta, tn, tc, tl, tr, et, lt, rt, ft, fr⟩ := tree_of_cells h5
      simp only [List.cons.injEq, and_true] at et
      obtain ⟨rfl, rfl⟩ := et
      obtain ⟨va', vn, vc, ve, rfl, lv, rv, fv⟩ := rw_of_slice (ec := encN) (k := 1) (Q := FitN) Try.underlying35 (by kernel_rfl) (by omega) (fun _ _ _ h => int_of_cells h) h6
      obtain ⟨la, ln, lc, le, rfl, ll, rl, fl⟩ := rw_of_slice (ec := encN) (k := 1) (Q := FitN) Try.underlying35 (by kernel_rfl) (by omega) (fun _ _ _ h => int_of_cells h) h7
      obtain ⟨xa, xn, xc, its, ya, yn, yc, fls, es, lx, ly, rx, ry, hb⟩ := state_of_cells h8
      simp only [List.cons.injEq, and_true] at es
      obtain ⟨rfl, rfl⟩ := es
      obtain ⟨ka, kn, kc, ma, rfl, lk, rk, fk⟩ := rw_of_slice (ec := encF) (k := 2) (Q := fun y => FitN y.1 ∧ FitN y.2) Try.underlying42 (by kernel_rfl) (by omega) (fun _ _ _ h => mrk_of_cells h) h9
      unfold maxLen at lv ll lk
      exact ⟨⟨n0, n1, n2, n3, n4, tl, tr, ve, le, its, fls, ma⟩, ⟨ta, tn, tc, va', vn, vc, la, ln, lc, xa, xn, xc, ya, yn, yc, ka, kn, kc⟩, rfl, ⟨lt, lv, ll, lx, ly, lk⟩, ⟨rt, rv, rl, rx, ry, rk⟩, hb, ⟨f0, f1, f2, f3, f4, fr, ft, fv, fl⟩⟩
end
theorem keepMM {P W : World} {bx ba : Nat} {T U : TypeId} {c0 c1 c2 c3 c4 c5 c6 c7 c8 c9 ca cb g0 g1 g2 g3 g4 g5 g6 g7 g8 g9 ga gb : Value} (kx : Hid (P.heap[bx]? = some (.cells #[c0, c1, c2, c3, c4, c5, c6, c7, c8, c9, ca, cb] T (0, 0)) ∧ bx < P.heap.size)) (ka : Hid (P.heap[ba]? = some (.cells #[g0, g1, g2, g3, g4, g5, g6, g7, g8, g9, ga, gb] U (0, 0)) ∧ ba < P.heap.size)) (hb : Below P.heap.size P W) :
    Below P.heap.size P W ∧ (W.cell? ⟨bx, 0, none⟩ = some c0 ∧ W.cell? ⟨bx, 1, none⟩ = some c1 ∧ W.cell? ⟨bx, 2, none⟩ = some c2 ∧ W.cell? ⟨bx, 3, none⟩ = some c3 ∧ W.cell? ⟨bx, 4, none⟩ = some c4 ∧ W.cell? ⟨bx, 5, none⟩ = some c5 ∧ W.cell? ⟨bx, 6, none⟩ = some c6 ∧ W.cell? ⟨bx, 7, none⟩ = some c7 ∧ W.cell? ⟨bx, 8, none⟩ = some c8 ∧ W.cell? ⟨bx, 9, none⟩ = some c9 ∧ W.cell? ⟨bx, 10, none⟩ = some ca ∧ W.cell? ⟨bx, 11, none⟩ = some cb) ∧ (W.cell? ⟨ba, 0, none⟩ = some g0 ∧ W.cell? ⟨ba, 1, none⟩ = some g1 ∧ W.cell? ⟨ba, 2, none⟩ = some g2 ∧ W.cell? ⟨ba, 3, none⟩ = some g3 ∧ W.cell? ⟨ba, 4, none⟩ = some g4 ∧ W.cell? ⟨ba, 5, none⟩ = some g5 ∧ W.cell? ⟨ba, 6, none⟩ = some g6 ∧ W.cell? ⟨ba, 7, none⟩ = some g7 ∧ W.cell? ⟨ba, 8, none⟩ = some g8 ∧ W.cell? ⟨ba, 9, none⟩ = some g9 ∧ W.cell? ⟨ba, 10, none⟩ = some ga ∧ W.cell? ⟨ba, 11, none⟩ = some gb) := by
  obtain ⟨p0, p1, p2, p3, p4, p5, p6, p7, p8, p9, pa, pb, -⟩ := msg_cells ((hb.block _ (unhide kx).2).trans (unhide kx).1)
  obtain ⟨q0, q1, q2, q3, q4, q5, q6, q7, q8, q9, qa, qb, -⟩ := msg_cells ((hb.block _ (unhide ka).2).trans (unhide ka).1)
  exact ⟨hb, ⟨p0, p1, p2, p3, p4, p5, p6, p7, p8, p9, pa, pb⟩, ⟨q0, q1, q2, q3, q4, q5, q6, q7, q8, q9, qa, qb⟩⟩
end Go.Proofs.Ytjlocbimkfocnaa
