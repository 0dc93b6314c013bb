/-
  What the laws do with a message: its size is taken off, it is turned into the program's own, two are compared, it is marked and held; a message as an argument. No statement is proved here.
-/
import Derived.Test.YtjlocbimkfocnaaGreatMsM
import Derived.Test.YtjlocbimkfocnaaGreatTreL
import Derived.Test.YtjlocbimkfocnaaGreatMkA
import Derived.Test.YtjlocbimkfocnaaGreatStT
import Derived.Test.YtjlocbimkfocnaaGreatStE
import Derived.Test.YtjlocbimkfocnaaGreatStH
import Derived.Test.YtjlocbimkfocnaaGreatStO
namespace Go.Proofs.YtjlocbimkfocnaaGreat
open Go.ChangeShapes Go.WideShapes Go.ChangeAt Go.RowKit

/-- What was laid first stays. -/
structure Bm (w X : World) (cs : Array Value) (T : TypeId) : Prop where
  bel : Below w.heap.size w X
  blk : X.heap[w.heap.size]? = some (.cells cs T (0, 0))
theorem Bm.later {w X Y : World} {cs : Array Value} {T : TypeId} (h : Bm w X cs T) (b : Below X.heap.size X Y) : Bm w Y cs T :=
  ⟨h.bel.trans (b.mono h.bel.size), (b.block _ (Array.getElem?_eq_some_iff.1 h.blk).1).trans h.blk⟩
theorem Bm.lt {w X : World} {cs : Array Value} {T : TypeId} (h : Bm w X cs T) : w.heap.size < X.heap.size := (Array.getElem?_eq_some_iff.1 h.blk).1
theorem bm_new (w : World) (cs : Array Value) (T : TypeId) : Bm w (w.alloc (.cells cs T)) cs T := ⟨(Below.refl _ _).alloc (Nat.le_refl _) _, heap_alloc_new w _⟩
/-- What was laid first and behind it stays. -/
structure E2 (w X : World) (cs ds : Array Value) (T : TypeId) : Prop where
  bel : Below w.heap.size w X
  k1 : X.heap[w.heap.size]? = some (.cells cs T (0, 0))
  k2 : X.heap[w.heap.size + 1]? = some (.cells ds T (0, 0))
theorem E2.lt {w X : World} {cs ds : Array Value} {T : TypeId} (h : E2 w X cs ds T) : w.heap.size + 1 < X.heap.size := (Array.getElem?_eq_some_iff.1 h.k2).1
theorem E2.lt' {w X : World} {cs ds : Array Value} {T : TypeId} (h : E2 w X cs ds T) : w.heap.size < X.heap.size := (Array.getElem?_eq_some_iff.1 h.k1).1
theorem E2.later {w X Y : World} {cs ds : Array Value} {T : TypeId} (h : E2 w X cs ds T) (b : Below X.heap.size X Y) : E2 w Y cs ds T :=
  ⟨h.bel.trans (b.mono h.bel.size), (b.block _ h.lt').trans h.k1, (b.block _ h.lt).trans h.k2⟩
set_option maxHeartbeats 4000000 in
set_option maxRecDepth 100000 in
theorem eqmsg_same (m : Mg) (p q : Mp) (w : World) (hp : SzM p 140737488351232) (hm : RwM w m p) (hq : RwM w m q) :
    Calls Tryz.prog 17 #[.agg #[.int .i64 m.k, .int .i64 m.f, .int .i64 m.t, .int .i64 m.n, .int .i64 m.h, .slice p.ta p.tn p.tc, .int .i64 m.tr, .slice p.va p.vn p.vc, .slice p.la p.ln p.lc, .slice p.xa p.xn p.xc, .slice p.ya p.yn p.yc, .slice p.ka p.kn p.kc], .agg #[.int .i64 m.k, .int .i64 m.f, .int .i64 m.t, .int .i64 m.n, .int .i64 m.h, .slice q.ta q.tn q.tc, .int .i64 m.tr, .slice q.va q.vn q.vc, .slice q.la q.ln q.lc, .slice q.xa q.xn q.xc, .slice q.ya q.yn q.yc, .slice q.ka q.kn q.kc]] w fun e w' => e = .returned (.bool true) ∧ Below w.heap.size w w' := by
  obtain ⟨e1, e2, e3, e4, e5, e6⟩ := hm.len
  obtain ⟨f1, f2, f3, f4, f5, f6⟩ := hq.len
  obtain ⟨ta, tn, tc, va, vn, vc, la, ln, lc, xa, xn, xc, ya, yn, yc, ka, kn, kc⟩ := p
  obtain ⟨ta', tn', tc', va', vn', vc', la', ln', lc', xa', xn', xc', ya', yn', yc', ka', kn', kc'⟩ := q
  simp only at e1 e2 e3 e4 e5 e6 f1 f2 f3 f4 f5 f6
  obtain rfl : tn' = tn := by omega
  obtain rfl : vn' = vn := by omega
  obtain rfl : ln' = ln := by omega
  obtain rfl : xn' = xn := by omega
  obtain rfl : yn' = yn := by omega
  obtain rfl : kn' = kn := by omega
  have HM := hide hm
  have HQ := hide hq
  have s1 := hp.t
  have s2 := hp.v
  have s3 := hp.l
  have s4 := hp.x
  have s5 := hp.y
  have s6 := hp.k
  simp only at s1 s2 s3 s4 s5 s6
  have d1 : (m.k != m.k) = false := by simp
  have d2 : (m.f != m.f) = false := by simp
  have d3 : (m.t != m.t) = false := by simp
  have d4 : (m.n != m.n) = false := by simp
  have d5 : (m.h != m.h) = false := by simp
  clear hm hq hp e1 e2 e3 e4 e5 e6 f1 f2 f3 f4 f5 f6
  obtain ⟨wA, hwA⟩ : ∃ W, W = (w.alloc (.cells #[.int .i64 m.k, .int .i64 m.f, .int .i64 m.t, .int .i64 m.n, .int .i64 m.h, .slice ta tn' tc, .int .i64 m.tr, .slice va vn' vc, .slice la ln' lc, .slice xa xn' xc, .slice ya yn' yc, .slice ka kn' kc] 33)).alloc (.cells #[.int .i64 m.k, .int .i64 m.f, .int .i64 m.t, .int .i64 m.n, .int .i64 m.h, .slice ta' tn' tc', .int .i64 m.tr, .slice va' vn' vc', .slice la' ln' lc', .slice xa' xn' xc', .slice ya' yn' yc', .slice ka' kn' kc'] 33) := ⟨_, rfl⟩
  have EA := hide (show E2 w wA #[.int .i64 m.k, .int .i64 m.f, .int .i64 m.t, .int .i64 m.n, .int .i64 m.h, .slice ta tn' tc, .int .i64 m.tr, .slice va vn' vc, .slice la ln' lc, .slice xa xn' xc, .slice ya yn' yc, .slice ka kn' kc] #[.int .i64 m.k, .int .i64 m.f, .int .i64 m.t, .int .i64 m.n, .int .i64 m.h, .slice ta' tn' tc', .int .i64 m.tr, .slice va' vn' vc', .slice la' ln' lc', .slice xa' xn' xc', .slice ya' yn' yc', .slice ka' kn' kc'] 33 from by rw [hwA]; exact ⟨((Below.refl _ _).alloc (Nat.le_refl _) _).alloc (by simp) _, lowB2 w _ _, newB2 w _ _⟩)
  go_enter Tryz.func17, Tryz.ntmps17
  obtain ⟨c0, c1, c2, c3, c4, c5, c6, c7, c8, c9, ca, cb, -⟩ := msg_cells (unhide EA).k1
  obtain ⟨g0, g1, g2, g3, g4, g5, g6, g7, g8, g9, ga, gb, -⟩ := msg_cells (unhide EA).k2
  have zA := (unhide EA).lt
  have zA' := (unhide EA).lt'
  rw [hwA] at c0 c1 c2 c3 c4 c5 c6 c7 c8 c9 ca cb g0 g1 g2 g3 g4 g5 g6 g7 g8 g9 ga gb zA zA'
  go_wp2_with fail
  rw [← hwA]
  clear c0 c1 c2 c3 c4 c5 c6 c7 c8 c9 ca cb g0 g1 g2 g3 g4 g5 g6 g7 g8 g9 ga gb zA zA'
  clear hwA
  refine (eqtree_same ta ta' tn' tc tc' m.tl m.tr wA s1 ((unhide HM).later (unhide EA).bel).t ((unhide HQ).later (unhide EA).bel).t).mono ?_
  rintro e w1 ⟨rfl, b1⟩
  have EC := hide ((unhide EA).later b1)
  clear b1 EA
  have EB := EC
  clear EC
  obtain ⟨c0, c1, c2, c3, c4, c5, c6, c7, c8, c9, ca, cb, -⟩ := msg_cells (unhide EB).k1
  obtain ⟨g0, g1, g2, g3, g4, g5, g6, g7, g8, g9, ga, gb, -⟩ := msg_cells (unhide EB).k2
  have zA := (unhide EB).lt
  have zA' := (unhide EB).lt'
  go_wp2_with fail
  refine (eqints_v va va' vn' vc vc' m.ve w1 s2 ((unhide HM).later (unhide EB).bel).v ((unhide HQ).later (unhide EB).bel).v).mono ?_
  rintro e w2 ⟨rfl, b1⟩
  have EC := hide ((unhide EB).later b1)
  clear b1 EB c0 c1 c2 c3 c4 c5 c6 c7 c8 c9 ca cb g0 g1 g2 g3 g4 g5 g6 g7 g8 g9 ga gb zA zA'
  have EB := EC
  clear EC
  obtain ⟨c0, c1, c2, c3, c4, c5, c6, c7, c8, c9, ca, cb, -⟩ := msg_cells (unhide EB).k1
  obtain ⟨g0, g1, g2, g3, g4, g5, g6, g7, g8, g9, ga, gb, -⟩ := msg_cells (unhide EB).k2
  have zA := (unhide EB).lt
  have zA' := (unhide EB).lt'
  go_wp2_with fail
  refine (eqints_v la la' ln' lc lc' m.le w2 s3 ((unhide HM).later (unhide EB).bel).l ((unhide HQ).later (unhide EB).bel).l).mono ?_
  rintro e w3 ⟨rfl, b1⟩
  have EC := hide ((unhide EB).later b1)
  clear b1 EB c0 c1 c2 c3 c4 c5 c6 c7 c8 c9 ca cb g0 g1 g2 g3 g4 g5 g6 g7 g8 g9 ga gb zA zA'
  have EB := EC
  clear EC
  obtain ⟨c0, c1, c2, c3, c4, c5, c6, c7, c8, c9, ca, cb, -⟩ := msg_cells (unhide EB).k1
  obtain ⟨g0, g1, g2, g3, g4, g5, g6, g7, g8, g9, ga, gb, -⟩ := msg_cells (unhide EB).k2
  have zA := (unhide EB).lt
  have zA' := (unhide EB).lt'
  go_wp2_with fail
  refine (eqstate_same xa xn' xc xa' xc' m.its ya yn' yc ya' yc' m.fls w3 s4 s5 ((unhide HM).later (unhide EB).bel).x ((unhide HQ).later (unhide EB).bel).x ((unhide HM).later (unhide EB).bel).y ((unhide HQ).later (unhide EB).bel).y).mono ?_
  rintro e w4 ⟨rfl, b1⟩
  have EC := hide ((unhide EB).later b1)
  clear b1 EB c0 c1 c2 c3 c4 c5 c6 c7 c8 c9 ca cb g0 g1 g2 g3 g4 g5 g6 g7 g8 g9 ga gb zA zA'
  have EB := EC
  clear EC
  obtain ⟨c0, c1, c2, c3, c4, c5, c6, c7, c8, c9, ca, cb, -⟩ := msg_cells (unhide EB).k1
  obtain ⟨g0, g1, g2, g3, g4, g5, g6, g7, g8, g9, ga, gb, -⟩ := msg_cells (unhide EB).k2
  have zA := (unhide EB).lt
  have zA' := (unhide EB).lt'
  go_wp2_with fail
  refine (eqmarks_same ka kn' kc ka' kc' m.ma w4 s6 ((unhide HM).later (unhide EB).bel).k ((unhide HQ).later (unhide EB).bel).k).mono ?_
  rintro e w5 ⟨rfl, b1⟩
  have BE := hide ((unhide EB).bel.trans (b1.mono (unhide EB).bel.size))
  clear b1
  go_wp2
  go_ret
  exact ⟨rfl, unhide BE⟩
end Go.Proofs.YtjlocbimkfocnaaGreat
