/-
  What the laws do with a message: its size is taken off, it is turned into the program's own, two are compared, it is marked and held; a message as an argument. No statement is proved here.
-/
import Derived.Test.YtjlocbimkfocnaaMsM
import Derived.Test.YtjlocbimkfocnaaTreL
import Derived.Test.YtjlocbimkfocnaaMkA
import Derived.Test.YtjlocbimkfocnaaStT
import Derived.Test.YtjlocbimkfocnaaStE
import Derived.Test.YtjlocbimkfocnaaStH
import Derived.Test.YtjlocbimkfocnaaStO
namespace Go.Proofs.Ytjlocbimkfocnaa
open Go.ChangeShapes Go.WideShapes Go.ChangeAt Go.RowKit

/-- What was laid first stays. -/
structure Bm (w X : World) (cs : Array Value) (T : TypeId) : Prop where
  bel : Below w.heap.size w X
  blk : X.heap[w.heap.size]? = some (.cells cs T (0, 0))
theorem Bm.later {w X Y : World} {cs : Array Value} {T : TypeId} (h : Bm w X cs T) (b : Below X.heap.size X Y) : Bm w Y cs T :=
  ⟨h.bel.trans (b.mono h.bel.size), (b.block _ (Array.getElem?_eq_some_iff.1 h.blk).1).trans h.blk⟩
theorem Bm.lt {w X : World} {cs : Array Value} {T : TypeId} (h : Bm w X cs T) : w.heap.size < X.heap.size := (Array.getElem?_eq_some_iff.1 h.blk).1
theorem bm_new (w : World) (cs : Array Value) (T : TypeId) : Bm w (w.alloc (.cells cs T)) cs T := ⟨(Below.refl _ _).alloc (Nat.le_refl _) _, heap_alloc_new w _⟩
/-- What was laid first and behind it stays. -/
structure E2 (w X : World) (cs ds : Array Value) (T : TypeId) : Prop where
  bel : Below w.heap.size w X
  k1 : X.heap[w.heap.size]? = some (.cells cs T (0, 0))
  k2 : X.heap[w.heap.size + 1]? = some (.cells ds T (0, 0))
theorem E2.lt {w X : World} {cs ds : Array Value} {T : TypeId} (h : E2 w X cs ds T) : w.heap.size + 1 < X.heap.size := (Array.getElem?_eq_some_iff.1 h.k2).1
theorem E2.lt' {w X : World} {cs ds : Array Value} {T : TypeId} (h : E2 w X cs ds T) : w.heap.size < X.heap.size := (Array.getElem?_eq_some_iff.1 h.k1).1
theorem E2.later {w X Y : World} {cs ds : Array Value} {T : TypeId} (h : E2 w X cs ds T) (b : Below X.heap.size X Y) : E2 w Y cs ds T :=
  ⟨h.bel.trans (b.mono h.bel.size), (b.block _ h.lt').trans h.k1, (b.block _ h.lt).trans h.k2⟩
theorem szints_m (a : Option Addr) (n c : Nat) (left : Int) (w : World) (hn : n ≤ 9223372036854775807) (h0 : 0 ≤ left) (h1 : left ≤ 1048576) :
    Calls Try.prog 44 #[.slice a n c, .int .i64 left] w fun e w' => ((e = .returned (.int .i64 (-1)) ∧ left < n) ∨ (e = .returned (.int .i64 (left - n)) ∧ (n : Int) ≤ left)) ∧ w = w' := by
  by_cases hl : left < n
  · have hd : decide (left - (n : Int) < 0) = true := by simp; omega
    go_enter Try.func44, Try.ntmps44
    go_wp2
    go_ret
    exact ⟨.inl ⟨rfl, hl⟩, rfl⟩
  · have hd : decide (left - (n : Int) < 0) = false := by simp; omega
    go_enter Try.func44, Try.ntmps44
    go_wp2
    go_ret
    first
      | exact ⟨.inr ⟨rfl, by omega⟩, rfl⟩
      | exact ⟨.inr rfl, rfl⟩
set_option maxHeartbeats 4000000 in
set_option maxRecDepth 100000 in
theorem szmsg_any (m : Mg) (p : Mp) (hbig : Big m.its) (n : Int) (h1 : 0 ≤ n) (h2 : n ≤ 1048576) (w : World) (hp : SzM p 9223372036854775807) (hm : RwM w m p) :
    Calls Try.prog 14 #[.agg #[.int .i64 m.k, .int .i64 m.f, .int .i64 m.t, .int .i64 m.n, .int .i64 m.h, .slice p.ta p.tn p.tc, .int .i64 m.tr, .slice p.va p.vn p.vc, .slice p.la p.ln p.lc, .slice p.xa p.xn p.xc, .slice p.ya p.yn p.yc, .slice p.ka p.kn p.kc], .int .i64 n] w fun e w' => (e = .returned (.int .i64 (-1)) ∨ ∃ r : Int, e = .returned (.int .i64 r) ∧ 0 ≤ r ∧ r ≤ n ∧ SzM p 1048576 ∧ Sml m.its) ∧ Below w.heap.size w w' := by
  have HM := hide hm
  have HG := hide hbig
  have s1 := hp.t
  have s2 := hp.v
  have s3 := hp.l
  have s4 := hp.x
  have s5 := hp.y
  have s6 := hp.k
  have hneg : decide ((-1 : Int) < 0) = true := rfl
  clear hm hbig
  go_enter Try.func14, Try.ntmps14
  have B0 := hide (bm_new w #[.int .i64 m.k, .int .i64 m.f, .int .i64 m.t, .int .i64 m.n, .int .i64 m.h, .slice p.ta p.tn p.tc, .int .i64 m.tr, .slice p.va p.vn p.vc, .slice p.la p.ln p.lc, .slice p.xa p.xn p.xc, .slice p.ya p.yn p.yc, .slice p.ka p.kn p.kc] 44)
  go_wp2_with fail
  refine (sztree_any p.ta p.tn p.tc m.tr n _ s1 h1 h2).mono ?_
  rintro e w1 ⟨he, b1⟩
  have B1 := hide ((unhide B0).later b1)
  obtain ⟨c0, c1, c2, c3, c4, c5, c6, c7, c8, c9, ca, cb, -⟩ := msg_cells (unhide B1).blk
  have z1 := (unhide B1).lt
  clear b1 B0
  rcases he with ⟨rfl, -⟩ | ⟨rfl, hl1⟩
  · go_wp2
    go_ret
    exact ⟨.inl rfl, (unhide B1).bel⟩
  have hd1 : decide (n - (p.tn : Int) < 0) = false := by simp; omega
  go_wp2_with fail
  refine (szints_m p.va p.vn p.vc (n - p.tn) w1 s2 (by omega) (by omega)).mono ?_
  rintro e _ ⟨he, rfl⟩
  rcases he with ⟨rfl, -⟩ | ⟨rfl, hl2⟩
  · go_wp2
    go_ret
    exact ⟨.inl rfl, (unhide B1).bel⟩
  have hd2 : decide (n - (p.tn : Int) - p.vn < 0) = false := by simp; omega
  go_wp2_with fail
  refine (szints_m p.la p.ln p.lc (n - p.tn - p.vn) w1 s3 (by omega) (by omega)).mono ?_
  rintro e _ ⟨he, rfl⟩
  rcases he with ⟨rfl, -⟩ | ⟨rfl, hl3⟩
  · go_wp2
    go_ret
    exact ⟨.inl rfl, (unhide B1).bel⟩
  have hd3 : decide (n - (p.tn : Int) - p.vn - p.ln < 0) = false := by simp; omega
  go_wp2_with fail
  refine (szstate_any p.xa p.xn p.xc m.its (unhide HG) p.ya p.yn p.yc (n - p.tn - p.vn - p.ln) (by omega) (by omega) w1 s4 s5 ((unhide HM).later (unhide B1).bel).x).mono ?_
  rintro e w2 ⟨he, b2⟩
  have B2 := hide ((unhide B1).later b2)
  clear b2 B1 c0 c1 c2 c3 c4 c5 c6 c7 c8 c9 ca cb
  obtain ⟨c0, c1, c2, c3, c4, c5, c6, c7, c8, c9, ca, cb, -⟩ := msg_cells (unhide B2).blk
  have z2 := (unhide B2).lt
  rcases he with rfl | ⟨r, rfl, hr0, hr1, hx1, hy1, hsml⟩
  · go_wp2
    go_ret
    exact ⟨.inl rfl, (unhide B2).bel⟩
  have HS := hide hsml
  clear hsml
  have hd4 : decide (r < 0) = false := by simp; omega
  go_wp2_with fail
  refine (szmarks_any p.ka p.kn p.kc r hr0 (by omega) w2 s6).mono ?_
  rintro e w3 ⟨he, b3⟩
  have B3 := hide ((unhide B2).bel.trans (b3.mono (unhide B2).bel.size))
  clear b3 B2 c0 c1 c2 c3 c4 c5 c6 c7 c8 c9 ca cb
  rcases he with rfl | ⟨r', rfl, hr0', hr1', hk1⟩
  · go_wp2
    go_ret
    exact ⟨.inl rfl, unhide B3⟩
  have hd5 : decide (r' < 0) = false := by simp; omega
  go_wp2
  go_ret
  exact ⟨.inr ⟨r', rfl, hr0', by omega, ⟨by omega, by omega, by omega, hx1, hy1, hk1⟩, unhide HS⟩, unhide B3⟩
set_option maxHeartbeats 4000000 in
set_option maxRecDepth 100000 in
theorem eqmsg_same (m : Mg) (p q : Mp) (w : World) (hp : SzM p 140737488351232) (hm : RwM w m p) (hq : RwM w m q) :
    Calls Try.prog 19 #[.agg #[.int .i64 m.k, .int .i64 m.f, .int .i64 m.t, .int .i64 m.n, .int .i64 m.h, .slice p.ta p.tn p.tc, .int .i64 m.tr, .slice p.va p.vn p.vc, .slice p.la p.ln p.lc, .slice p.xa p.xn p.xc, .slice p.ya p.yn p.yc, .slice p.ka p.kn p.kc], .agg #[.int .i64 m.k, .int .i64 m.f, .int .i64 m.t, .int .i64 m.n, .int .i64 m.h, .slice q.ta q.tn q.tc, .int .i64 m.tr, .slice q.va q.vn q.vc, .slice q.la q.ln q.lc, .slice q.xa q.xn q.xc, .slice q.ya q.yn q.yc, .slice q.ka q.kn q.kc]] w fun e w' => e = .returned (.bool true) ∧ Below w.heap.size w w' := by
  obtain ⟨e1, e2, e3, e4, e5, e6⟩ := hm.len
  obtain ⟨f1, f2, f3, f4, f5, f6⟩ := hq.len
  obtain ⟨ta, tn, tc, va, vn, vc, la, ln, lc, xa, xn, xc, ya, yn, yc, ka, kn, kc⟩ := p
  obtain ⟨ta', tn', tc', va', vn', vc', la', ln', lc', xa', xn', xc', ya', yn', yc', ka', kn', kc'⟩ := q
  simp only at e1 e2 e3 e4 e5 e6 f1 f2 f3 f4 f5 f6
  obtain rfl : tn' = tn := by omega
  obtain rfl : vn' = vn := by omega
  obtain rfl : ln' = ln := by omega
  obtain rfl : xn' = xn := by omega
  obtain rfl : yn' = yn := by omega
  obtain rfl : kn' = kn := by omega
  have HM := hide hm
  have HQ := hide hq
  have s1 := hp.t
  have s2 := hp.v
  have s3 := hp.l
  have s4 := hp.x
  have s5 := hp.y
  have s6 := hp.k
  simp only at s1 s2 s3 s4 s5 s6
  have d1 : (m.k != m.k) = false := by simp
  have d2 : (m.f != m.f) = false := by simp
  have d3 : (m.t != m.t) = false := by simp
  have d4 : (m.n != m.n) = false := by simp
  have d5 : (m.h != m.h) = false := by simp
  clear hm hq hp e1 e2 e3 e4 e5 e6 f1 f2 f3 f4 f5 f6
  obtain ⟨wA, hwA⟩ : ∃ W, W = (w.alloc (.cells #[.int .i64 m.k, .int .i64 m.f, .int .i64 m.t, .int .i64 m.n, .int .i64 m.h, .slice ta tn' tc, .int .i64 m.tr, .slice va vn' vc, .slice la ln' lc, .slice xa xn' xc, .slice ya yn' yc, .slice ka kn' kc] 50)).alloc (.cells #[.int .i64 m.k, .int .i64 m.f, .int .i64 m.t, .int .i64 m.n, .int .i64 m.h, .slice ta' tn' tc', .int .i64 m.tr, .slice va' vn' vc', .slice la' ln' lc', .slice xa' xn' xc', .slice ya' yn' yc', .slice ka' kn' kc'] 50) := ⟨_, rfl⟩
  have EA := hide (show E2 w wA #[.int .i64 m.k, .int .i64 m.f, .int .i64 m.t, .int .i64 m.n, .int .i64 m.h, .slice ta tn' tc, .int .i64 m.tr, .slice va vn' vc, .slice la ln' lc, .slice xa xn' xc, .slice ya yn' yc, .slice ka kn' kc] #[.int .i64 m.k, .int .i64 m.f, .int .i64 m.t, .int .i64 m.n, .int .i64 m.h, .slice ta' tn' tc', .int .i64 m.tr, .slice va' vn' vc', .slice la' ln' lc', .slice xa' xn' xc', .slice ya' yn' yc', .slice ka' kn' kc'] 50 from by rw [hwA]; exact ⟨((Below.refl _ _).alloc (Nat.le_refl _) _).alloc (by simp) _, lowB2 w _ _, newB2 w _ _⟩)
  go_enter Try.func19, Try.ntmps19
  obtain ⟨c0, c1, c2, c3, c4, c5, c6, c7, c8, c9, ca, cb, -⟩ := msg_cells (unhide EA).k1
  obtain ⟨g0, g1, g2, g3, g4, g5, g6, g7, g8, g9, ga, gb, -⟩ := msg_cells (unhide EA).k2
  have zA := (unhide EA).lt
  have zA' := (unhide EA).lt'
  rw [hwA] at c0 c1 c2 c3 c4 c5 c6 c7 c8 c9 ca cb g0 g1 g2 g3 g4 g5 g6 g7 g8 g9 ga gb zA zA'
  go_wp2_with fail
  rw [← hwA]
  clear c0 c1 c2 c3 c4 c5 c6 c7 c8 c9 ca cb g0 g1 g2 g3 g4 g5 g6 g7 g8 g9 ga gb zA zA'
  clear hwA
  refine (eqtree_same ta ta' tn' tc tc' m.tl m.tr wA s1 ((unhide HM).later (unhide EA).bel).t ((unhide HQ).later (unhide EA).bel).t).mono ?_
  rintro e w1 ⟨rfl, b1⟩
  have EC := hide ((unhide EA).later b1)
  clear b1 EA
  have EB := EC
  clear EC
  obtain ⟨c0, c1, c2, c3, c4, c5, c6, c7, c8, c9, ca, cb, -⟩ := msg_cells (unhide EB).k1
  obtain ⟨g0, g1, g2, g3, g4, g5, g6, g7, g8, g9, ga, gb, -⟩ := msg_cells (unhide EB).k2
  have zA := (unhide EB).lt
  have zA' := (unhide EB).lt'
  go_wp2_with fail
  refine (eqints_v va va' vn' vc vc' m.ve w1 s2 ((unhide HM).later (unhide EB).bel).v ((unhide HQ).later (unhide EB).bel).v).mono ?_
  rintro e w2 ⟨rfl, b1⟩
  have EC := hide ((unhide EB).later b1)
  clear b1 EB c0 c1 c2 c3 c4 c5 c6 c7 c8 c9 ca cb g0 g1 g2 g3 g4 g5 g6 g7 g8 g9 ga gb zA zA'
  have EB := EC
  clear EC
  obtain ⟨c0, c1, c2, c3, c4, c5, c6, c7, c8, c9, ca, cb, -⟩ := msg_cells (unhide EB).k1
  obtain ⟨g0, g1, g2, g3, g4, g5, g6, g7, g8, g9, ga, gb, -⟩ := msg_cells (unhide EB).k2
  have zA := (unhide EB).lt
  have zA' := (unhide EB).lt'
  go_wp2_with fail
  refine (eqints_v la la' ln' lc lc' m.le w2 s3 ((unhide HM).later (unhide EB).bel).l ((unhide HQ).later (unhide EB).bel).l).mono ?_
  rintro e w3 ⟨rfl, b1⟩
  have EC := hide ((unhide EB).later b1)
  clear b1 EB c0 c1 c2 c3 c4 c5 c6 c7 c8 c9 ca cb g0 g1 g2 g3 g4 g5 g6 g7 g8 g9 ga gb zA zA'
  have EB := EC
  clear EC
  obtain ⟨c0, c1, c2, c3, c4, c5, c6, c7, c8, c9, ca, cb, -⟩ := msg_cells (unhide EB).k1
  obtain ⟨g0, g1, g2, g3, g4, g5, g6, g7, g8, g9, ga, gb, -⟩ := msg_cells (unhide EB).k2
  have zA := (unhide EB).lt
  have zA' := (unhide EB).lt'
  go_wp2_with fail
  refine (eqstate_same xa xn' xc xa' xc' m.its ya yn' yc ya' yc' m.fls w3 s4 s5 ((unhide HM).later (unhide EB).bel).x ((unhide HQ).later (unhide EB).bel).x ((unhide HM).later (unhide EB).bel).y ((unhide HQ).later (unhide EB).bel).y).mono ?_
  rintro e w4 ⟨rfl, b1⟩
  have EC := hide ((unhide EB).later b1)
  clear b1 EB c0 c1 c2 c3 c4 c5 c6 c7 c8 c9 ca cb g0 g1 g2 g3 g4 g5 g6 g7 g8 g9 ga gb zA zA'
  have EB := EC
  clear EC
  obtain ⟨c0, c1, c2, c3, c4, c5, c6, c7, c8, c9, ca, cb, -⟩ := msg_cells (unhide EB).k1
  obtain ⟨g0, g1, g2, g3, g4, g5, g6, g7, g8, g9, ga, gb, -⟩ := msg_cells (unhide EB).k2
  have zA := (unhide EB).lt
  have zA' := (unhide EB).lt'
  go_wp2_with fail
  refine (eqmarks_same ka kn' kc ka' kc' m.ma w4 s6 ((unhide HM).later (unhide EB).bel).k ((unhide HQ).later (unhide EB).bel).k).mono ?_
  rintro e w5 ⟨rfl, b1⟩
  have BE := hide ((unhide EB).bel.trans (b1.mono (unhide EB).bel.size))
  clear b1
  go_wp2
  go_ret
  exact ⟨rfl, unhide BE⟩
/-- While a message is copied: the argument, the result's variable, the copy's. -/
structure Tm3 (w X : World) (cs rs os : Array Value) (T U : TypeId) : Prop where
  bel : Below w.heap.size w X
  a : X.heap[w.heap.size]? = some (.cells cs T (0, 0))
  r : X.heap[w.heap.size + 1]? = some (.cells rs U (0, 0))
  o : X.heap[w.heap.size + 1 + 1]? = some (.cells os U (0, 0))
theorem Tm3.lt {w X : World} {cs rs os : Array Value} {T U : TypeId} (h : Tm3 w X cs rs os T U) : w.heap.size + 1 + 1 < X.heap.size := (Array.getElem?_eq_some_iff.1 h.o).1
theorem Tm3.later {w X Y : World} {cs rs os : Array Value} {T U : TypeId} (h : Tm3 w X cs rs os T U) (b : Below X.heap.size X Y) : Tm3 w Y cs rs os T U := by
  have := h.lt
  exact ⟨h.bel.trans (b.mono h.bel.size), (b.block _ (by omega)).trans h.a, (b.block _ (by omega)).trans h.r, (b.block _ (by omega)).trans h.o⟩
theorem Tm3.new (w : World) (cs rs os : Array Value) (T U : TypeId) : Tm3 w (((w.alloc (.cells cs T)).alloc (.cells rs U)).alloc (.cells os U)) cs rs os T U :=
  ⟨(((Below.refl _ _).alloc (Nat.le_refl _) _).alloc (by simp) _).alloc (by simp; omega) _, lowB3 w _ _ _, midB3 w _ _ _, newB3 w _ _ _⟩
theorem Tm3.set {w X : World} {cs rs os : Array Value} {T U : TypeId} (h : Tm3 w X cs rs os T U) (k : Nat) (v : Value) : Tm3 w (X.setCell ⟨w.heap.size + 1 + 1, k, none⟩ v) cs rs (os.setIfInBounds k v) T U :=
  ⟨h.bel.setCell (p := ⟨w.heap.size + 1 + 1, k, none⟩) (by show w.heap.size ≤ w.heap.size + 1 + 1; omega) v, (heap_setCell_other _ ⟨w.heap.size + 1 + 1, k, none⟩ _ _ (by show w.heap.size ≠ w.heap.size + 1 + 1; omega)).trans h.a, (heap_setCell_other _ ⟨w.heap.size + 1 + 1, k, none⟩ _ _ (by show w.heap.size + 1 ≠ w.heap.size + 1 + 1; omega)).trans h.r, heap_setCell_same _ _ k _ _ v h.o⟩
theorem Tm3.ret {w X : World} {cs rs os : Array Value} {T U : TypeId} (h : Tm3 w X cs rs os T U) (k : Nat) (v : Value) : Tm3 w (X.setCell ⟨w.heap.size + 1, k, none⟩ v) cs (rs.setIfInBounds k v) os T U :=
  ⟨h.bel.setCell (p := ⟨w.heap.size + 1, k, none⟩) (by show w.heap.size ≤ w.heap.size + 1; omega) v, (heap_setCell_other _ ⟨w.heap.size + 1, k, none⟩ _ _ (by show w.heap.size ≠ w.heap.size + 1; omega)).trans h.a, heap_setCell_same _ _ k _ _ v h.r, (heap_setCell_other _ ⟨w.heap.size + 1, k, none⟩ _ _ (by show w.heap.size + 1 + 1 ≠ w.heap.size + 1; omega)).trans h.o⟩
set_option maxHeartbeats 8000000 in
set_option maxRecDepth 100000 in
theorem tomsg_any (m : Mg) (p : Mp) (w : World) (hp : SzM p 1048576) (hm : RwM w m p) :
    Calls Try.prog 16 #[.agg #[.int .i64 m.k, .int .i64 m.f, .int .i64 m.t, .int .i64 m.n, .int .i64 m.h, .slice p.ta p.tn p.tc, .int .i64 m.tr, .slice p.va p.vn p.vc, .slice p.la p.ln p.lc, .slice p.xa p.xn p.xc, .slice p.ya p.yn p.yc, .slice p.ka p.kn p.kc]] w fun e w' => ∃ q : Mp, e = .returned (.agg #[.int .i64 m.k, .int .i64 m.f, .int .i64 m.t, .int .i64 m.n, .int .i64 m.h, .slice q.ta q.tn q.tc, .int .i64 m.tr, .slice q.va q.vn q.vc, .slice q.la q.ln q.lc, .slice q.xa q.xn q.xc, .slice q.ya q.yn q.yc, .slice q.ka q.kn q.kc]) ∧ OwMg w.heap.size w' m q ∧ SzM q 1048576 ∧ Below w.heap.size w w' := by
  have HM := hide hm
  have s1 := hp.t
  have s2 := hp.v
  have s3 := hp.l
  have s4 := hp.x
  have s5 := hp.y
  have s6 := hp.k
  clear hm
  have T0 := hide (Tm3.new w #[.int .i64 m.k, .int .i64 m.f, .int .i64 m.t, .int .i64 m.n, .int .i64 m.h, .slice p.ta p.tn p.tc, .int .i64 m.tr, .slice p.va p.vn p.vc, .slice p.la p.ln p.lc, .slice p.xa p.xn p.xc, .slice p.ya p.yn p.yc, .slice p.ka p.kn p.kc] #[.int .i64 0, .int .i64 0, .int .i64 0, .int .i64 0, .int .i64 0, .slice none 0 0, .int .i64 0, .slice none 0 0, .slice none 0 0, .slice none 0 0, .slice none 0 0, .slice none 0 0] #[.int .i64 m.k, .int .i64 m.f, .int .i64 m.t, .int .i64 m.n, .int .i64 m.h, .slice none 0 0, .int .i64 0, .slice none 0 0, .slice none 0 0, .slice none 0 0, .slice none 0 0, .slice none 0 0] 44 50)
  go_enter Try.func16, Try.ntmps16
  go_wp2_with fail
  refine (totree_any p.ta p.tn p.tc m.tl m.tr _ (by omega) ((unhide HM).later (unhide T0).bel).t).mono ?_
  rintro e w1 ⟨a1, c1, rfl, o1, b1⟩
  have S0 := hide ((unhide T0).later b1)
  have Ot := hide (Ow.base (base' := w.heap.size + 1 + 1 + 1) o1 (unhide T0).lt)
  have Zt := hide (fun g hg => (World.ownsRow.lt (unhide Ot) g hg).2)
  clear T0 b1 o1
  have S1 : Hid (Tm3 w _ #[.int .i64 m.k, .int .i64 m.f, .int .i64 m.t, .int .i64 m.n, .int .i64 m.h, .slice p.ta p.tn p.tc, .int .i64 m.tr, .slice p.va p.vn p.vc, .slice p.la p.ln p.lc, .slice p.xa p.xn p.xc, .slice p.ya p.yn p.yc, .slice p.ka p.kn p.kc] #[.int .i64 0, .int .i64 0, .int .i64 0, .int .i64 0, .int .i64 0, .slice none 0 0, .int .i64 0, .slice none 0 0, .slice none 0 0, .slice none 0 0, .slice none 0 0, .slice none 0 0] #[.int .i64 m.k, .int .i64 m.f, .int .i64 m.t, .int .i64 m.n, .int .i64 m.h, .slice a1 p.tn c1, .int .i64 0, .slice none 0 0, .slice none 0 0, .slice none 0 0, .slice none 0 0, .slice none 0 0] 44 50) := hide ((unhide S0).set 5 (.slice a1 p.tn c1))
  have Ot := hide ((unhide Ot).set ⟨w.heap.size + 1 + 1, 5, none⟩ (by show w.heap.size + 1 + 1 < _; omega) (.slice a1 p.tn c1))
  have S2 : Hid (Tm3 w _ #[.int .i64 m.k, .int .i64 m.f, .int .i64 m.t, .int .i64 m.n, .int .i64 m.h, .slice p.ta p.tn p.tc, .int .i64 m.tr, .slice p.va p.vn p.vc, .slice p.la p.ln p.lc, .slice p.xa p.xn p.xc, .slice p.ya p.yn p.yc, .slice p.ka p.kn p.kc] #[.int .i64 0, .int .i64 0, .int .i64 0, .int .i64 0, .int .i64 0, .slice none 0 0, .int .i64 0, .slice none 0 0, .slice none 0 0, .slice none 0 0, .slice none 0 0, .slice none 0 0] #[.int .i64 m.k, .int .i64 m.f, .int .i64 m.t, .int .i64 m.n, .int .i64 m.h, .slice a1 p.tn c1, .int .i64 m.tr, .slice none 0 0, .slice none 0 0, .slice none 0 0, .slice none 0 0, .slice none 0 0] 44 50) := hide ((unhide S1).set 6 (.int .i64 m.tr))
  have Ot := hide ((unhide Ot).set ⟨w.heap.size + 1 + 1, 6, none⟩ (by show w.heap.size + 1 + 1 < _; omega) (.int .i64 m.tr))
  obtain ⟨c0, c1x, c2x, c3x, c4x, c5x, c6x, c7x, c8x, c9x, cax, cbx, -⟩ := msg_cells (unhide S0).a
  obtain ⟨g0, g1, g2, g3, g4, g5, g6, g7, g8, g9, ga, gb, gf⟩ := msg_cells (unhide S0).o
  obtain ⟨r0, r1, r2, r3, r4, r5, r6, r7, r8, r9, ra, rb, rf⟩ := msg_cells (unhide S0).r
  have zA := (unhide S0).lt
  have zB : w.heap.size + 1 < w1.heap.size := by omega
  have zC : w.heap.size < w1.heap.size := by omega
  go_wp2_with fail
  clear c0 c1x c2x c3x c4x c5x c6x c7x c8x c9x cax cbx g0 g1 g2 g3 g4 g5 g6 g7 g8 g9 ga gb gf r0 r1 r2 r3 r4 r5 r6 r7 r8 r9 ra rb rf zA zB zC
  have T1 := S2
  clear S0 S1 S2
  refine (toints_v p.va p.vn p.vc m.ve _ (by omega) ((unhide HM).later (unhide T1).bel).v).mono ?_
  rintro e w2 ⟨a2, c2, rfl, o1, b1⟩
  have S0 := hide ((unhide T1).later b1)
  have Y1 : w1.heap.size ≤ w2.heap.size := by have h := b1.size; simpa using h
  have Ot := hide ((unhide Ot).later b1)
  have Ov := hide (Ow.base (base' := w.heap.size + 1 + 1 + 1) o1 (unhide T1).lt)
  have Zv := hide (fun g hg => (World.ownsRow.lt (unhide Ov) g hg).2)
  have Ntv := hide (show ∀ g, (Value.slice a1 p.tn c1).ownBlock = some g → (Value.slice a2 p.vn c2).ownBlock ≠ some g from fun g h1 h2 => by have h3 := (World.ownsRow.lt o1 g h2).1; have h4 := unhide Zt g h1; simp at h3; omega)
  clear T1 b1 o1
  have S1 : Hid (Tm3 w _ #[.int .i64 m.k, .int .i64 m.f, .int .i64 m.t, .int .i64 m.n, .int .i64 m.h, .slice p.ta p.tn p.tc, .int .i64 m.tr, .slice p.va p.vn p.vc, .slice p.la p.ln p.lc, .slice p.xa p.xn p.xc, .slice p.ya p.yn p.yc, .slice p.ka p.kn p.kc] #[.int .i64 0, .int .i64 0, .int .i64 0, .int .i64 0, .int .i64 0, .slice none 0 0, .int .i64 0, .slice none 0 0, .slice none 0 0, .slice none 0 0, .slice none 0 0, .slice none 0 0] #[.int .i64 m.k, .int .i64 m.f, .int .i64 m.t, .int .i64 m.n, .int .i64 m.h, .slice a1 p.tn c1, .int .i64 m.tr, .slice a2 p.vn c2, .slice none 0 0, .slice none 0 0, .slice none 0 0, .slice none 0 0] 44 50) := hide ((unhide S0).set 7 (.slice a2 p.vn c2))
  have Ot := hide ((unhide Ot).set ⟨w.heap.size + 1 + 1, 7, none⟩ (by show w.heap.size + 1 + 1 < _; omega) (.slice a2 p.vn c2))
  have Ov := hide ((unhide Ov).set ⟨w.heap.size + 1 + 1, 7, none⟩ (by show w.heap.size + 1 + 1 < _; omega) (.slice a2 p.vn c2))
  obtain ⟨c0, c1x, c2x, c3x, c4x, c5x, c6x, c7x, c8x, c9x, cax, cbx, -⟩ := msg_cells (unhide S0).a
  obtain ⟨g0, g1, g2, g3, g4, g5, g6, g7, g8, g9, ga, gb, gf⟩ := msg_cells (unhide S0).o
  obtain ⟨r0, r1, r2, r3, r4, r5, r6, r7, r8, r9, ra, rb, rf⟩ := msg_cells (unhide S0).r
  have zA := (unhide S0).lt
  have zB : w.heap.size + 1 < w2.heap.size := by omega
  have zC : w.heap.size < w2.heap.size := by omega
  go_wp2_with fail
  clear c0 c1x c2x c3x c4x c5x c6x c7x c8x c9x cax cbx g0 g1 g2 g3 g4 g5 g6 g7 g8 g9 ga gb gf r0 r1 r2 r3 r4 r5 r6 r7 r8 r9 ra rb rf zA zB zC
  have T2 := S1
  clear S0 S1
  refine (toints_v p.la p.ln p.lc m.le _ (by omega) ((unhide HM).later (unhide T2).bel).l).mono ?_
  rintro e w3 ⟨a3, c3, rfl, o1, b1⟩
  have S0 := hide ((unhide T2).later b1)
  have Y2 : w2.heap.size ≤ w3.heap.size := by have h := b1.size; simpa using h
  have Ot := hide ((unhide Ot).later b1)
  have Ov := hide ((unhide Ov).later b1)
  have Ol := hide (Ow.base (base' := w.heap.size + 1 + 1 + 1) o1 (unhide T2).lt)
  have Zl := hide (fun g hg => (World.ownsRow.lt (unhide Ol) g hg).2)
  have Ntl := hide (show ∀ g, (Value.slice a1 p.tn c1).ownBlock = some g → (Value.slice a3 p.ln c3).ownBlock ≠ some g from fun g h1 h2 => by have h3 := (World.ownsRow.lt o1 g h2).1; have h4 := unhide Zt g h1; simp at h3; omega)
  have Nvl := hide (show ∀ g, (Value.slice a2 p.vn c2).ownBlock = some g → (Value.slice a3 p.ln c3).ownBlock ≠ some g from fun g h1 h2 => by have h3 := (World.ownsRow.lt o1 g h2).1; have h4 := unhide Zv g h1; simp at h3; omega)
  clear T2 b1 o1
  have S1 : Hid (Tm3 w _ #[.int .i64 m.k, .int .i64 m.f, .int .i64 m.t, .int .i64 m.n, .int .i64 m.h, .slice p.ta p.tn p.tc, .int .i64 m.tr, .slice p.va p.vn p.vc, .slice p.la p.ln p.lc, .slice p.xa p.xn p.xc, .slice p.ya p.yn p.yc, .slice p.ka p.kn p.kc] #[.int .i64 0, .int .i64 0, .int .i64 0, .int .i64 0, .int .i64 0, .slice none 0 0, .int .i64 0, .slice none 0 0, .slice none 0 0, .slice none 0 0, .slice none 0 0, .slice none 0 0] #[.int .i64 m.k, .int .i64 m.f, .int .i64 m.t, .int .i64 m.n, .int .i64 m.h, .slice a1 p.tn c1, .int .i64 m.tr, .slice a2 p.vn c2, .slice a3 p.ln c3, .slice none 0 0, .slice none 0 0, .slice none 0 0] 44 50) := hide ((unhide S0).set 8 (.slice a3 p.ln c3))
  have Ot := hide ((unhide Ot).set ⟨w.heap.size + 1 + 1, 8, none⟩ (by show w.heap.size + 1 + 1 < _; omega) (.slice a3 p.ln c3))
  have Ov := hide ((unhide Ov).set ⟨w.heap.size + 1 + 1, 8, none⟩ (by show w.heap.size + 1 + 1 < _; omega) (.slice a3 p.ln c3))
  have Ol := hide ((unhide Ol).set ⟨w.heap.size + 1 + 1, 8, none⟩ (by show w.heap.size + 1 + 1 < _; omega) (.slice a3 p.ln c3))
  obtain ⟨c0, c1x, c2x, c3x, c4x, c5x, c6x, c7x, c8x, c9x, cax, cbx, -⟩ := msg_cells (unhide S0).a
  obtain ⟨g0, g1, g2, g3, g4, g5, g6, g7, g8, g9, ga, gb, gf⟩ := msg_cells (unhide S0).o
  obtain ⟨r0, r1, r2, r3, r4, r5, r6, r7, r8, r9, ra, rb, rf⟩ := msg_cells (unhide S0).r
  have zA := (unhide S0).lt
  have zB : w.heap.size + 1 < w3.heap.size := by omega
  have zC : w.heap.size < w3.heap.size := by omega
  go_wp2_with fail
  clear c0 c1x c2x c3x c4x c5x c6x c7x c8x c9x cax cbx g0 g1 g2 g3 g4 g5 g6 g7 g8 g9 ga gb gf r0 r1 r2 r3 r4 r5 r6 r7 r8 r9 ra rb rf zA zB zC
  have Tm3 := S1
  clear S0 S1
  refine (tostate_any p.xa p.xn p.xc m.its p.ya p.yn p.yc m.fls _ (by omega) (by omega) ((unhide HM).later (unhide Tm3).bel).x ((unhide HM).later (unhide Tm3).bel).y).mono ?_
  rintro e w4 ⟨a4, c4, a5, c5, rfl, o1, o2, b1⟩
  have S0 := hide ((unhide Tm3).later b1)
  have Y3 : w3.heap.size ≤ w4.heap.size := by have h := b1.size; simpa using h
  have Ot := hide ((unhide Ot).later b1)
  have Ov := hide ((unhide Ov).later b1)
  have Ol := hide ((unhide Ol).later b1)
  have Ox := hide (Ow.base (base' := w.heap.size + 1 + 1 + 1) o1 (unhide Tm3).lt)
  have Oy := hide (Ow.base (base' := w.heap.size + 1 + 1 + 1) o2 (unhide Tm3).lt)
  clear Tm3 b1 o1 o2
  have S1 : Hid (Tm3 w _ #[.int .i64 m.k, .int .i64 m.f, .int .i64 m.t, .int .i64 m.n, .int .i64 m.h, .slice p.ta p.tn p.tc, .int .i64 m.tr, .slice p.va p.vn p.vc, .slice p.la p.ln p.lc, .slice p.xa p.xn p.xc, .slice p.ya p.yn p.yc, .slice p.ka p.kn p.kc] #[.int .i64 0, .int .i64 0, .int .i64 0, .int .i64 0, .int .i64 0, .slice none 0 0, .int .i64 0, .slice none 0 0, .slice none 0 0, .slice none 0 0, .slice none 0 0, .slice none 0 0] #[.int .i64 m.k, .int .i64 m.f, .int .i64 m.t, .int .i64 m.n, .int .i64 m.h, .slice a1 p.tn c1, .int .i64 m.tr, .slice a2 p.vn c2, .slice a3 p.ln c3, .slice a4 p.xn c4, .slice none 0 0, .slice none 0 0] 44 50) := hide ((unhide S0).set 9 (.slice a4 p.xn c4))
  have Ot := hide ((unhide Ot).set ⟨w.heap.size + 1 + 1, 9, none⟩ (by show w.heap.size + 1 + 1 < _; omega) (.slice a4 p.xn c4))
  have Ov := hide ((unhide Ov).set ⟨w.heap.size + 1 + 1, 9, none⟩ (by show w.heap.size + 1 + 1 < _; omega) (.slice a4 p.xn c4))
  have Ol := hide ((unhide Ol).set ⟨w.heap.size + 1 + 1, 9, none⟩ (by show w.heap.size + 1 + 1 < _; omega) (.slice a4 p.xn c4))
  have Ox := hide ((unhide Ox).set ⟨w.heap.size + 1 + 1, 9, none⟩ (by show w.heap.size + 1 + 1 < _; omega) (.slice a4 p.xn c4))
  have Oy := hide ((unhide Oy).set ⟨w.heap.size + 1 + 1, 9, none⟩ (by show w.heap.size + 1 + 1 < _; omega) (.slice a4 p.xn c4))
  have S2 : Hid (Tm3 w _ #[.int .i64 m.k, .int .i64 m.f, .int .i64 m.t, .int .i64 m.n, .int .i64 m.h, .slice p.ta p.tn p.tc, .int .i64 m.tr, .slice p.va p.vn p.vc, .slice p.la p.ln p.lc, .slice p.xa p.xn p.xc, .slice p.ya p.yn p.yc, .slice p.ka p.kn p.kc] #[.int .i64 0, .int .i64 0, .int .i64 0, .int .i64 0, .int .i64 0, .slice none 0 0, .int .i64 0, .slice none 0 0, .slice none 0 0, .slice none 0 0, .slice none 0 0, .slice none 0 0] #[.int .i64 m.k, .int .i64 m.f, .int .i64 m.t, .int .i64 m.n, .int .i64 m.h, .slice a1 p.tn c1, .int .i64 m.tr, .slice a2 p.vn c2, .slice a3 p.ln c3, .slice a4 p.xn c4, .slice a5 p.yn c5, .slice none 0 0] 44 50) := hide ((unhide S1).set 10 (.slice a5 p.yn c5))
  have Ot := hide ((unhide Ot).set ⟨w.heap.size + 1 + 1, 10, none⟩ (by show w.heap.size + 1 + 1 < _; omega) (.slice a5 p.yn c5))
  have Ov := hide ((unhide Ov).set ⟨w.heap.size + 1 + 1, 10, none⟩ (by show w.heap.size + 1 + 1 < _; omega) (.slice a5 p.yn c5))
  have Ol := hide ((unhide Ol).set ⟨w.heap.size + 1 + 1, 10, none⟩ (by show w.heap.size + 1 + 1 < _; omega) (.slice a5 p.yn c5))
  have Ox := hide ((unhide Ox).set ⟨w.heap.size + 1 + 1, 10, none⟩ (by show w.heap.size + 1 + 1 < _; omega) (.slice a5 p.yn c5))
  have Oy := hide ((unhide Oy).set ⟨w.heap.size + 1 + 1, 10, none⟩ (by show w.heap.size + 1 + 1 < _; omega) (.slice a5 p.yn c5))
  obtain ⟨c0, c1x, c2x, c3x, c4x, c5x, c6x, c7x, c8x, c9x, cax, cbx, -⟩ := msg_cells (unhide S0).a
  obtain ⟨g0, g1, g2, g3, g4, g5, g6, g7, g8, g9, ga, gb, gf⟩ := msg_cells (unhide S0).o
  obtain ⟨r0, r1, r2, r3, r4, r5, r6, r7, r8, r9, ra, rb, rf⟩ := msg_cells (unhide S0).r
  have zA := (unhide S0).lt
  have zB : w.heap.size + 1 < w4.heap.size := by omega
  have zC : w.heap.size < w4.heap.size := by omega
  go_wp2_with fail
  clear c0 c1x c2x c3x c4x c5x c6x c7x c8x c9x cax cbx g0 g1 g2 g3 g4 g5 g6 g7 g8 g9 ga gb gf r0 r1 r2 r3 r4 r5 r6 r7 r8 r9 ra rb rf zA zB zC
  have T4 := S2
  clear S0 S1 S2
  refine (tomarks_any p.ka p.kn p.kc m.ma _ (by omega) ((unhide HM).later (unhide T4).bel).k).mono ?_
  rintro e w5 ⟨a6, c6, rfl, o1, b1⟩
  have S0 := hide ((unhide T4).later b1)
  have Y4 : w4.heap.size ≤ w5.heap.size := by have h := b1.size; simpa using h
  have Ot := hide ((unhide Ot).later b1)
  have Ov := hide ((unhide Ov).later b1)
  have Ol := hide ((unhide Ol).later b1)
  have Ox := hide ((unhide Ox).later b1)
  have Oy := hide ((unhide Oy).later b1)
  have Ok := hide (Ow.base (base' := w.heap.size + 1 + 1 + 1) o1 (unhide T4).lt)
  clear T4 b1 o1
  have S1 : Hid (Tm3 w _ #[.int .i64 m.k, .int .i64 m.f, .int .i64 m.t, .int .i64 m.n, .int .i64 m.h, .slice p.ta p.tn p.tc, .int .i64 m.tr, .slice p.va p.vn p.vc, .slice p.la p.ln p.lc, .slice p.xa p.xn p.xc, .slice p.ya p.yn p.yc, .slice p.ka p.kn p.kc] #[.int .i64 0, .int .i64 0, .int .i64 0, .int .i64 0, .int .i64 0, .slice none 0 0, .int .i64 0, .slice none 0 0, .slice none 0 0, .slice none 0 0, .slice none 0 0, .slice none 0 0] #[.int .i64 m.k, .int .i64 m.f, .int .i64 m.t, .int .i64 m.n, .int .i64 m.h, .slice a1 p.tn c1, .int .i64 m.tr, .slice a2 p.vn c2, .slice a3 p.ln c3, .slice a4 p.xn c4, .slice a5 p.yn c5, .slice a6 p.kn c6] 44 50) := hide ((unhide S0).set 11 (.slice a6 p.kn c6))
  have Ot := hide ((unhide Ot).set ⟨w.heap.size + 1 + 1, 11, none⟩ (by show w.heap.size + 1 + 1 < _; omega) (.slice a6 p.kn c6))
  have Ov := hide ((unhide Ov).set ⟨w.heap.size + 1 + 1, 11, none⟩ (by show w.heap.size + 1 + 1 < _; omega) (.slice a6 p.kn c6))
  have Ol := hide ((unhide Ol).set ⟨w.heap.size + 1 + 1, 11, none⟩ (by show w.heap.size + 1 + 1 < _; omega) (.slice a6 p.kn c6))
  have Ox := hide ((unhide Ox).set ⟨w.heap.size + 1 + 1, 11, none⟩ (by show w.heap.size + 1 + 1 < _; omega) (.slice a6 p.kn c6))
  have Oy := hide ((unhide Oy).set ⟨w.heap.size + 1 + 1, 11, none⟩ (by show w.heap.size + 1 + 1 < _; omega) (.slice a6 p.kn c6))
  have Ok := hide ((unhide Ok).set ⟨w.heap.size + 1 + 1, 11, none⟩ (by show w.heap.size + 1 + 1 < _; omega) (.slice a6 p.kn c6))
  obtain ⟨c0, c1x, c2x, c3x, c4x, c5x, c6x, c7x, c8x, c9x, cax, cbx, -⟩ := msg_cells (unhide S0).a
  obtain ⟨g0, g1, g2, g3, g4, g5, g6, g7, g8, g9, ga, gb, gf⟩ := msg_cells (unhide S0).o
  obtain ⟨r0, r1, r2, r3, r4, r5, r6, r7, r8, r9, ra, rb, rf⟩ := msg_cells (unhide S0).r
  have zA := (unhide S0).lt
  have zB : w.heap.size + 1 < w5.heap.size := by omega
  have zC : w.heap.size < w5.heap.size := by omega
  have R0 : Hid (Tm3 w _ #[.int .i64 m.k, .int .i64 m.f, .int .i64 m.t, .int .i64 m.n, .int .i64 m.h, .slice p.ta p.tn p.tc, .int .i64 m.tr, .slice p.va p.vn p.vc, .slice p.la p.ln p.lc, .slice p.xa p.xn p.xc, .slice p.ya p.yn p.yc, .slice p.ka p.kn p.kc] #[.int .i64 m.k, .int .i64 0, .int .i64 0, .int .i64 0, .int .i64 0, .slice none 0 0, .int .i64 0, .slice none 0 0, .slice none 0 0, .slice none 0 0, .slice none 0 0, .slice none 0 0] #[.int .i64 m.k, .int .i64 m.f, .int .i64 m.t, .int .i64 m.n, .int .i64 m.h, .slice a1 p.tn c1, .int .i64 m.tr, .slice a2 p.vn c2, .slice a3 p.ln c3, .slice a4 p.xn c4, .slice a5 p.yn c5, .slice a6 p.kn c6] 44 50) := hide ((unhide S1).ret 0 (.int .i64 m.k))
  have Ot := hide ((unhide Ot).set ⟨w.heap.size + 1, 0, none⟩ (by show w.heap.size + 1 < _; omega) (.int .i64 m.k))
  have Ov := hide ((unhide Ov).set ⟨w.heap.size + 1, 0, none⟩ (by show w.heap.size + 1 < _; omega) (.int .i64 m.k))
  have Ol := hide ((unhide Ol).set ⟨w.heap.size + 1, 0, none⟩ (by show w.heap.size + 1 < _; omega) (.int .i64 m.k))
  have Ox := hide ((unhide Ox).set ⟨w.heap.size + 1, 0, none⟩ (by show w.heap.size + 1 < _; omega) (.int .i64 m.k))
  have Oy := hide ((unhide Oy).set ⟨w.heap.size + 1, 0, none⟩ (by show w.heap.size + 1 < _; omega) (.int .i64 m.k))
  have Ok := hide ((unhide Ok).set ⟨w.heap.size + 1, 0, none⟩ (by show w.heap.size + 1 < _; omega) (.int .i64 m.k))
  have R1 : Hid (Tm3 w _ #[.int .i64 m.k, .int .i64 m.f, .int .i64 m.t, .int .i64 m.n, .int .i64 m.h, .slice p.ta p.tn p.tc, .int .i64 m.tr, .slice p.va p.vn p.vc, .slice p.la p.ln p.lc, .slice p.xa p.xn p.xc, .slice p.ya p.yn p.yc, .slice p.ka p.kn p.kc] #[.int .i64 m.k, .int .i64 m.f, .int .i64 0, .int .i64 0, .int .i64 0, .slice none 0 0, .int .i64 0, .slice none 0 0, .slice none 0 0, .slice none 0 0, .slice none 0 0, .slice none 0 0] #[.int .i64 m.k, .int .i64 m.f, .int .i64 m.t, .int .i64 m.n, .int .i64 m.h, .slice a1 p.tn c1, .int .i64 m.tr, .slice a2 p.vn c2, .slice a3 p.ln c3, .slice a4 p.xn c4, .slice a5 p.yn c5, .slice a6 p.kn c6] 44 50) := hide ((unhide R0).ret 1 (.int .i64 m.f))
  have Ot := hide ((unhide Ot).set ⟨w.heap.size + 1, 1, none⟩ (by show w.heap.size + 1 < _; omega) (.int .i64 m.f))
  have Ov := hide ((unhide Ov).set ⟨w.heap.size + 1, 1, none⟩ (by show w.heap.size + 1 < _; omega) (.int .i64 m.f))
  have Ol := hide ((unhide Ol).set ⟨w.heap.size + 1, 1, none⟩ (by show w.heap.size + 1 < _; omega) (.int .i64 m.f))
  have Ox := hide ((unhide Ox).set ⟨w.heap.size + 1, 1, none⟩ (by show w.heap.size + 1 < _; omega) (.int .i64 m.f))
  have Oy := hide ((unhide Oy).set ⟨w.heap.size + 1, 1, none⟩ (by show w.heap.size + 1 < _; omega) (.int .i64 m.f))
  have Ok := hide ((unhide Ok).set ⟨w.heap.size + 1, 1, none⟩ (by show w.heap.size + 1 < _; omega) (.int .i64 m.f))
  clear R0
  have R2 : Hid (Tm3 w _ #[.int .i64 m.k, .int .i64 m.f, .int .i64 m.t, .int .i64 m.n, .int .i64 m.h, .slice p.ta p.tn p.tc, .int .i64 m.tr, .slice p.va p.vn p.vc, .slice p.la p.ln p.lc, .slice p.xa p.xn p.xc, .slice p.ya p.yn p.yc, .slice p.ka p.kn p.kc] #[.int .i64 m.k, .int .i64 m.f, .int .i64 m.t, .int .i64 0, .int .i64 0, .slice none 0 0, .int .i64 0, .slice none 0 0, .slice none 0 0, .slice none 0 0, .slice none 0 0, .slice none 0 0] #[.int .i64 m.k, .int .i64 m.f, .int .i64 m.t, .int .i64 m.n, .int .i64 m.h, .slice a1 p.tn c1, .int .i64 m.tr, .slice a2 p.vn c2, .slice a3 p.ln c3, .slice a4 p.xn c4, .slice a5 p.yn c5, .slice a6 p.kn c6] 44 50) := hide ((unhide R1).ret 2 (.int .i64 m.t))
  have Ot := hide ((unhide Ot).set ⟨w.heap.size + 1, 2, none⟩ (by show w.heap.size + 1 < _; omega) (.int .i64 m.t))
  have Ov := hide ((unhide Ov).set ⟨w.heap.size + 1, 2, none⟩ (by show w.heap.size + 1 < _; omega) (.int .i64 m.t))
  have Ol := hide ((unhide Ol).set ⟨w.heap.size + 1, 2, none⟩ (by show w.heap.size + 1 < _; omega) (.int .i64 m.t))
  have Ox := hide ((unhide Ox).set ⟨w.heap.size + 1, 2, none⟩ (by show w.heap.size + 1 < _; omega) (.int .i64 m.t))
  have Oy := hide ((unhide Oy).set ⟨w.heap.size + 1, 2, none⟩ (by show w.heap.size + 1 < _; omega) (.int .i64 m.t))
  have Ok := hide ((unhide Ok).set ⟨w.heap.size + 1, 2, none⟩ (by show w.heap.size + 1 < _; omega) (.int .i64 m.t))
  clear R1
  have R3 : Hid (Tm3 w _ #[.int .i64 m.k, .int .i64 m.f, .int .i64 m.t, .int .i64 m.n, .int .i64 m.h, .slice p.ta p.tn p.tc, .int .i64 m.tr, .slice p.va p.vn p.vc, .slice p.la p.ln p.lc, .slice p.xa p.xn p.xc, .slice p.ya p.yn p.yc, .slice p.ka p.kn p.kc] #[.int .i64 m.k, .int .i64 m.f, .int .i64 m.t, .int .i64 m.n, .int .i64 0, .slice none 0 0, .int .i64 0, .slice none 0 0, .slice none 0 0, .slice none 0 0, .slice none 0 0, .slice none 0 0] #[.int .i64 m.k, .int .i64 m.f, .int .i64 m.t, .int .i64 m.n, .int .i64 m.h, .slice a1 p.tn c1, .int .i64 m.tr, .slice a2 p.vn c2, .slice a3 p.ln c3, .slice a4 p.xn c4, .slice a5 p.yn c5, .slice a6 p.kn c6] 44 50) := hide ((unhide R2).ret 3 (.int .i64 m.n))
  have Ot := hide ((unhide Ot).set ⟨w.heap.size + 1, 3, none⟩ (by show w.heap.size + 1 < _; omega) (.int .i64 m.n))
  have Ov := hide ((unhide Ov).set ⟨w.heap.size + 1, 3, none⟩ (by show w.heap.size + 1 < _; omega) (.int .i64 m.n))
  have Ol := hide ((unhide Ol).set ⟨w.heap.size + 1, 3, none⟩ (by show w.heap.size + 1 < _; omega) (.int .i64 m.n))
  have Ox := hide ((unhide Ox).set ⟨w.heap.size + 1, 3, none⟩ (by show w.heap.size + 1 < _; omega) (.int .i64 m.n))
  have Oy := hide ((unhide Oy).set ⟨w.heap.size + 1, 3, none⟩ (by show w.heap.size + 1 < _; omega) (.int .i64 m.n))
  have Ok := hide ((unhide Ok).set ⟨w.heap.size + 1, 3, none⟩ (by show w.heap.size + 1 < _; omega) (.int .i64 m.n))
  clear R2
  have R4 : Hid (Tm3 w _ #[.int .i64 m.k, .int .i64 m.f, .int .i64 m.t, .int .i64 m.n, .int .i64 m.h, .slice p.ta p.tn p.tc, .int .i64 m.tr, .slice p.va p.vn p.vc, .slice p.la p.ln p.lc, .slice p.xa p.xn p.xc, .slice p.ya p.yn p.yc, .slice p.ka p.kn p.kc] #[.int .i64 m.k, .int .i64 m.f, .int .i64 m.t, .int .i64 m.n, .int .i64 m.h, .slice none 0 0, .int .i64 0, .slice none 0 0, .slice none 0 0, .slice none 0 0, .slice none 0 0, .slice none 0 0] #[.int .i64 m.k, .int .i64 m.f, .int .i64 m.t, .int .i64 m.n, .int .i64 m.h, .slice a1 p.tn c1, .int .i64 m.tr, .slice a2 p.vn c2, .slice a3 p.ln c3, .slice a4 p.xn c4, .slice a5 p.yn c5, .slice a6 p.kn c6] 44 50) := hide ((unhide R3).ret 4 (.int .i64 m.h))
  have Ot := hide ((unhide Ot).set ⟨w.heap.size + 1, 4, none⟩ (by show w.heap.size + 1 < _; omega) (.int .i64 m.h))
  have Ov := hide ((unhide Ov).set ⟨w.heap.size + 1, 4, none⟩ (by show w.heap.size + 1 < _; omega) (.int .i64 m.h))
  have Ol := hide ((unhide Ol).set ⟨w.heap.size + 1, 4, none⟩ (by show w.heap.size + 1 < _; omega) (.int .i64 m.h))
  have Ox := hide ((unhide Ox).set ⟨w.heap.size + 1, 4, none⟩ (by show w.heap.size + 1 < _; omega) (.int .i64 m.h))
  have Oy := hide ((unhide Oy).set ⟨w.heap.size + 1, 4, none⟩ (by show w.heap.size + 1 < _; omega) (.int .i64 m.h))
  have Ok := hide ((unhide Ok).set ⟨w.heap.size + 1, 4, none⟩ (by show w.heap.size + 1 < _; omega) (.int .i64 m.h))
  clear R3
  have R5 : Hid (Tm3 w _ #[.int .i64 m.k, .int .i64 m.f, .int .i64 m.t, .int .i64 m.n, .int .i64 m.h, .slice p.ta p.tn p.tc, .int .i64 m.tr, .slice p.va p.vn p.vc, .slice p.la p.ln p.lc, .slice p.xa p.xn p.xc, .slice p.ya p.yn p.yc, .slice p.ka p.kn p.kc] #[.int .i64 m.k, .int .i64 m.f, .int .i64 m.t, .int .i64 m.n, .int .i64 m.h, .slice a1 p.tn c1, .int .i64 0, .slice none 0 0, .slice none 0 0, .slice none 0 0, .slice none 0 0, .slice none 0 0] #[.int .i64 m.k, .int .i64 m.f, .int .i64 m.t, .int .i64 m.n, .int .i64 m.h, .slice a1 p.tn c1, .int .i64 m.tr, .slice a2 p.vn c2, .slice a3 p.ln c3, .slice a4 p.xn c4, .slice a5 p.yn c5, .slice a6 p.kn c6] 44 50) := hide ((unhide R4).ret 5 (.slice a1 p.tn c1))
  have Ot := hide ((unhide Ot).set ⟨w.heap.size + 1, 5, none⟩ (by show w.heap.size + 1 < _; omega) (.slice a1 p.tn c1))
  have Ov := hide ((unhide Ov).set ⟨w.heap.size + 1, 5, none⟩ (by show w.heap.size + 1 < _; omega) (.slice a1 p.tn c1))
  have Ol := hide ((unhide Ol).set ⟨w.heap.size + 1, 5, none⟩ (by show w.heap.size + 1 < _; omega) (.slice a1 p.tn c1))
  have Ox := hide ((unhide Ox).set ⟨w.heap.size + 1, 5, none⟩ (by show w.heap.size + 1 < _; omega) (.slice a1 p.tn c1))
  have Oy := hide ((unhide Oy).set ⟨w.heap.size + 1, 5, none⟩ (by show w.heap.size + 1 < _; omega) (.slice a1 p.tn c1))
  have Ok := hide ((unhide Ok).set ⟨w.heap.size + 1, 5, none⟩ (by show w.heap.size + 1 < _; omega) (.slice a1 p.tn c1))
  clear R4
  have R6 : Hid (Tm3 w _ #[.int .i64 m.k, .int .i64 m.f, .int .i64 m.t, .int .i64 m.n, .int .i64 m.h, .slice p.ta p.tn p.tc, .int .i64 m.tr, .slice p.va p.vn p.vc, .slice p.la p.ln p.lc, .slice p.xa p.xn p.xc, .slice p.ya p.yn p.yc, .slice p.ka p.kn p.kc] #[.int .i64 m.k, .int .i64 m.f, .int .i64 m.t, .int .i64 m.n, .int .i64 m.h, .slice a1 p.tn c1, .int .i64 m.tr, .slice none 0 0, .slice none 0 0, .slice none 0 0, .slice none 0 0, .slice none 0 0] #[.int .i64 m.k, .int .i64 m.f, .int .i64 m.t, .int .i64 m.n, .int .i64 m.h, .slice a1 p.tn c1, .int .i64 m.tr, .slice a2 p.vn c2, .slice a3 p.ln c3, .slice a4 p.xn c4, .slice a5 p.yn c5, .slice a6 p.kn c6] 44 50) := hide ((unhide R5).ret 6 (.int .i64 m.tr))
  have Ot := hide ((unhide Ot).set ⟨w.heap.size + 1, 6, none⟩ (by show w.heap.size + 1 < _; omega) (.int .i64 m.tr))
  have Ov := hide ((unhide Ov).set ⟨w.heap.size + 1, 6, none⟩ (by show w.heap.size + 1 < _; omega) (.int .i64 m.tr))
  have Ol := hide ((unhide Ol).set ⟨w.heap.size + 1, 6, none⟩ (by show w.heap.size + 1 < _; omega) (.int .i64 m.tr))
  have Ox := hide ((unhide Ox).set ⟨w.heap.size + 1, 6, none⟩ (by show w.heap.size + 1 < _; omega) (.int .i64 m.tr))
  have Oy := hide ((unhide Oy).set ⟨w.heap.size + 1, 6, none⟩ (by show w.heap.size + 1 < _; omega) (.int .i64 m.tr))
  have Ok := hide ((unhide Ok).set ⟨w.heap.size + 1, 6, none⟩ (by show w.heap.size + 1 < _; omega) (.int .i64 m.tr))
  clear R5
  have R7 : Hid (Tm3 w _ #[.int .i64 m.k, .int .i64 m.f, .int .i64 m.t, .int .i64 m.n, .int .i64 m.h, .slice p.ta p.tn p.tc, .int .i64 m.tr, .slice p.va p.vn p.vc, .slice p.la p.ln p.lc, .slice p.xa p.xn p.xc, .slice p.ya p.yn p.yc, .slice p.ka p.kn p.kc] #[.int .i64 m.k, .int .i64 m.f, .int .i64 m.t, .int .i64 m.n, .int .i64 m.h, .slice a1 p.tn c1, .int .i64 m.tr, .slice a2 p.vn c2, .slice none 0 0, .slice none 0 0, .slice none 0 0, .slice none 0 0] #[.int .i64 m.k, .int .i64 m.f, .int .i64 m.t, .int .i64 m.n, .int .i64 m.h, .slice a1 p.tn c1, .int .i64 m.tr, .slice a2 p.vn c2, .slice a3 p.ln c3, .slice a4 p.xn c4, .slice a5 p.yn c5, .slice a6 p.kn c6] 44 50) := hide ((unhide R6).ret 7 (.slice a2 p.vn c2))
  have Ot := hide ((unhide Ot).set ⟨w.heap.size + 1, 7, none⟩ (by show w.heap.size + 1 < _; omega) (.slice a2 p.vn c2))
  have Ov := hide ((unhide Ov).set ⟨w.heap.size + 1, 7, none⟩ (by show w.heap.size + 1 < _; omega) (.slice a2 p.vn c2))
  have Ol := hide ((unhide Ol).set ⟨w.heap.size + 1, 7, none⟩ (by show w.heap.size + 1 < _; omega) (.slice a2 p.vn c2))
  have Ox := hide ((unhide Ox).set ⟨w.heap.size + 1, 7, none⟩ (by show w.heap.size + 1 < _; omega) (.slice a2 p.vn c2))
  have Oy := hide ((unhide Oy).set ⟨w.heap.size + 1, 7, none⟩ (by show w.heap.size + 1 < _; omega) (.slice a2 p.vn c2))
  have Ok := hide ((unhide Ok).set ⟨w.heap.size + 1, 7, none⟩ (by show w.heap.size + 1 < _; omega) (.slice a2 p.vn c2))
  clear R6
  have R8 : Hid (Tm3 w _ #[.int .i64 m.k, .int .i64 m.f, .int .i64 m.t, .int .i64 m.n, .int .i64 m.h, .slice p.ta p.tn p.tc, .int .i64 m.tr, .slice p.va p.vn p.vc, .slice p.la p.ln p.lc, .slice p.xa p.xn p.xc, .slice p.ya p.yn p.yc, .slice p.ka p.kn p.kc] #[.int .i64 m.k, .int .i64 m.f, .int .i64 m.t, .int .i64 m.n, .int .i64 m.h, .slice a1 p.tn c1, .int .i64 m.tr, .slice a2 p.vn c2, .slice a3 p.ln c3, .slice none 0 0, .slice none 0 0, .slice none 0 0] #[.int .i64 m.k, .int .i64 m.f, .int .i64 m.t, .int .i64 m.n, .int .i64 m.h, .slice a1 p.tn c1, .int .i64 m.tr, .slice a2 p.vn c2, .slice a3 p.ln c3, .slice a4 p.xn c4, .slice a5 p.yn c5, .slice a6 p.kn c6] 44 50) := hide ((unhide R7).ret 8 (.slice a3 p.ln c3))
  have Ot := hide ((unhide Ot).set ⟨w.heap.size + 1, 8, none⟩ (by show w.heap.size + 1 < _; omega) (.slice a3 p.ln c3))
  have Ov := hide ((unhide Ov).set ⟨w.heap.size + 1, 8, none⟩ (by show w.heap.size + 1 < _; omega) (.slice a3 p.ln c3))
  have Ol := hide ((unhide Ol).set ⟨w.heap.size + 1, 8, none⟩ (by show w.heap.size + 1 < _; omega) (.slice a3 p.ln c3))
  have Ox := hide ((unhide Ox).set ⟨w.heap.size + 1, 8, none⟩ (by show w.heap.size + 1 < _; omega) (.slice a3 p.ln c3))
  have Oy := hide ((unhide Oy).set ⟨w.heap.size + 1, 8, none⟩ (by show w.heap.size + 1 < _; omega) (.slice a3 p.ln c3))
  have Ok := hide ((unhide Ok).set ⟨w.heap.size + 1, 8, none⟩ (by show w.heap.size + 1 < _; omega) (.slice a3 p.ln c3))
  clear R7
  have R9 : Hid (Tm3 w _ #[.int .i64 m.k, .int .i64 m.f, .int .i64 m.t, .int .i64 m.n, .int .i64 m.h, .slice p.ta p.tn p.tc, .int .i64 m.tr, .slice p.va p.vn p.vc, .slice p.la p.ln p.lc, .slice p.xa p.xn p.xc, .slice p.ya p.yn p.yc, .slice p.ka p.kn p.kc] #[.int .i64 m.k, .int .i64 m.f, .int .i64 m.t, .int .i64 m.n, .int .i64 m.h, .slice a1 p.tn c1, .int .i64 m.tr, .slice a2 p.vn c2, .slice a3 p.ln c3, .slice a4 p.xn c4, .slice none 0 0, .slice none 0 0] #[.int .i64 m.k, .int .i64 m.f, .int .i64 m.t, .int .i64 m.n, .int .i64 m.h, .slice a1 p.tn c1, .int .i64 m.tr, .slice a2 p.vn c2, .slice a3 p.ln c3, .slice a4 p.xn c4, .slice a5 p.yn c5, .slice a6 p.kn c6] 44 50) := hide ((unhide R8).ret 9 (.slice a4 p.xn c4))
  have Ot := hide ((unhide Ot).set ⟨w.heap.size + 1, 9, none⟩ (by show w.heap.size + 1 < _; omega) (.slice a4 p.xn c4))
  have Ov := hide ((unhide Ov).set ⟨w.heap.size + 1, 9, none⟩ (by show w.heap.size + 1 < _; omega) (.slice a4 p.xn c4))
  have Ol := hide ((unhide Ol).set ⟨w.heap.size + 1, 9, none⟩ (by show w.heap.size + 1 < _; omega) (.slice a4 p.xn c4))
  have Ox := hide ((unhide Ox).set ⟨w.heap.size + 1, 9, none⟩ (by show w.heap.size + 1 < _; omega) (.slice a4 p.xn c4))
  have Oy := hide ((unhide Oy).set ⟨w.heap.size + 1, 9, none⟩ (by show w.heap.size + 1 < _; omega) (.slice a4 p.xn c4))
  have Ok := hide ((unhide Ok).set ⟨w.heap.size + 1, 9, none⟩ (by show w.heap.size + 1 < _; omega) (.slice a4 p.xn c4))
  clear R8
  have R10 : Hid (Tm3 w _ #[.int .i64 m.k, .int .i64 m.f, .int .i64 m.t, .int .i64 m.n, .int .i64 m.h, .slice p.ta p.tn p.tc, .int .i64 m.tr, .slice p.va p.vn p.vc, .slice p.la p.ln p.lc, .slice p.xa p.xn p.xc, .slice p.ya p.yn p.yc, .slice p.ka p.kn p.kc] #[.int .i64 m.k, .int .i64 m.f, .int .i64 m.t, .int .i64 m.n, .int .i64 m.h, .slice a1 p.tn c1, .int .i64 m.tr, .slice a2 p.vn c2, .slice a3 p.ln c3, .slice a4 p.xn c4, .slice a5 p.yn c5, .slice none 0 0] #[.int .i64 m.k, .int .i64 m.f, .int .i64 m.t, .int .i64 m.n, .int .i64 m.h, .slice a1 p.tn c1, .int .i64 m.tr, .slice a2 p.vn c2, .slice a3 p.ln c3, .slice a4 p.xn c4, .slice a5 p.yn c5, .slice a6 p.kn c6] 44 50) := hide ((unhide R9).ret 10 (.slice a5 p.yn c5))
  have Ot := hide ((unhide Ot).set ⟨w.heap.size + 1, 10, none⟩ (by show w.heap.size + 1 < _; omega) (.slice a5 p.yn c5))
  have Ov := hide ((unhide Ov).set ⟨w.heap.size + 1, 10, none⟩ (by show w.heap.size + 1 < _; omega) (.slice a5 p.yn c5))
  have Ol := hide ((unhide Ol).set ⟨w.heap.size + 1, 10, none⟩ (by show w.heap.size + 1 < _; omega) (.slice a5 p.yn c5))
  have Ox := hide ((unhide Ox).set ⟨w.heap.size + 1, 10, none⟩ (by show w.heap.size + 1 < _; omega) (.slice a5 p.yn c5))
  have Oy := hide ((unhide Oy).set ⟨w.heap.size + 1, 10, none⟩ (by show w.heap.size + 1 < _; omega) (.slice a5 p.yn c5))
  have Ok := hide ((unhide Ok).set ⟨w.heap.size + 1, 10, none⟩ (by show w.heap.size + 1 < _; omega) (.slice a5 p.yn c5))
  clear R9
  have R11 : Hid (Tm3 w _ #[.int .i64 m.k, .int .i64 m.f, .int .i64 m.t, .int .i64 m.n, .int .i64 m.h, .slice p.ta p.tn p.tc, .int .i64 m.tr, .slice p.va p.vn p.vc, .slice p.la p.ln p.lc, .slice p.xa p.xn p.xc, .slice p.ya p.yn p.yc, .slice p.ka p.kn p.kc] #[.int .i64 m.k, .int .i64 m.f, .int .i64 m.t, .int .i64 m.n, .int .i64 m.h, .slice a1 p.tn c1, .int .i64 m.tr, .slice a2 p.vn c2, .slice a3 p.ln c3, .slice a4 p.xn c4, .slice a5 p.yn c5, .slice a6 p.kn c6] #[.int .i64 m.k, .int .i64 m.f, .int .i64 m.t, .int .i64 m.n, .int .i64 m.h, .slice a1 p.tn c1, .int .i64 m.tr, .slice a2 p.vn c2, .slice a3 p.ln c3, .slice a4 p.xn c4, .slice a5 p.yn c5, .slice a6 p.kn c6] 44 50) := hide ((unhide R10).ret 11 (.slice a6 p.kn c6))
  have Ot := hide ((unhide Ot).set ⟨w.heap.size + 1, 11, none⟩ (by show w.heap.size + 1 < _; omega) (.slice a6 p.kn c6))
  have Ov := hide ((unhide Ov).set ⟨w.heap.size + 1, 11, none⟩ (by show w.heap.size + 1 < _; omega) (.slice a6 p.kn c6))
  have Ol := hide ((unhide Ol).set ⟨w.heap.size + 1, 11, none⟩ (by show w.heap.size + 1 < _; omega) (.slice a6 p.kn c6))
  have Ox := hide ((unhide Ox).set ⟨w.heap.size + 1, 11, none⟩ (by show w.heap.size + 1 < _; omega) (.slice a6 p.kn c6))
  have Oy := hide ((unhide Oy).set ⟨w.heap.size + 1, 11, none⟩ (by show w.heap.size + 1 < _; omega) (.slice a6 p.kn c6))
  have Ok := hide ((unhide Ok).set ⟨w.heap.size + 1, 11, none⟩ (by show w.heap.size + 1 < _; omega) (.slice a6 p.kn c6))
  clear R10
  go_wp2
  exact bodyPost_ret (v := .agg #[.int .i64 m.k, .int .i64 m.f, .int .i64 m.t, .int .i64 m.n, .int .i64 m.h, .slice a1 p.tn c1, .int .i64 m.tr, .slice a2 p.vn c2, .slice a3 p.ln c3, .slice a4 p.xn c4, .slice a5 p.yn c5, .slice a6 p.kn c6]) (by simp [results, Try.results16, go_sem, r0, r1, r2, r3, r4, r5, r6, r7, r8, r9, ra, rb]) rfl ⟨⟨a1, p.tn, c1, a2, p.vn, c2, a3, p.ln, c3, a4, p.xn, c4, a5, p.yn, c5, a6, p.kn, c6⟩, rfl, ⟨Ow.base (unhide Ot) (by omega), Ow.base (unhide Ov) (by omega), Ow.base (unhide Ol) (by omega), Ow.base (unhide Ox) (by omega), Ow.base (unhide Oy) (by omega), Ow.base (unhide Ok) (by omega), unhide Ntv, unhide Ntl, unhide Nvl⟩, ⟨s1, s2, s3, s4, s5, s6⟩, (unhide R11).bel⟩
end Go.Proofs.Ytjlocbimkfocnaa
