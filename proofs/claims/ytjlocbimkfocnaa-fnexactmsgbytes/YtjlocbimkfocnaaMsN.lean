/-
  A message of the call's own is marked list by list, and held against its marks. No statement is proved here.
-/
import Derived.Test.YtjlocbimkfocnaaMsL
namespace Go.Proofs.Ytjlocbimkfocnaa
open Go.ChangeShapes Go.WideShapes Go.ChangeAt Go.RowKit

/-- The blocks of a message's own lists. -/
def MgB (p : Mp) (i : Nat) : Prop := (Value.slice p.ta p.tn p.tc).ownBlock = some i ∨ (Value.slice p.va p.vn p.vc).ownBlock = some i ∨ (Value.slice p.la p.ln p.lc).ownBlock = some i ∨ (Value.slice p.xa p.xn p.xc).ownBlock = some i ∨ (Value.slice p.ya p.yn p.yc).ownBlock = some i ∨ (Value.slice p.ka p.kn p.kc).ownBlock = some i
theorem OwMg.blocks {B : Nat} {w : World} {m : Mg} {p : Mp} (h : OwMg B w m p) : ∀ i, MgB p i → B ≤ i ∧ i < w.heap.size := by
  intro i q
  rcases q with q | q | q | q | q | q
  · exact World.ownsRow.lt h.t i q
  · exact World.ownsRow.lt h.v i q
  · exact World.ownsRow.lt h.l i q
  · exact World.ownsRow.lt h.x i q
  · exact World.ownsRow.lt h.y i q
  · exact World.ownsRow.lt h.k i q
/-- A message whose lists are marked from k on. -/
def mkM (m : Mg) (p : Mp) (k : Int) : Mg := ⟨m.k, m.f, m.t, m.n, m.h, markN k p.tn, m.tr, markN (k + p.tn) p.vn, markN (k + p.tn + p.vn) p.ln, mkIs (k + p.tn + p.vn + p.ln) p.xn, mkFs (k + p.tn + p.vn + p.ln + 6 * p.xn) p.yn, mkFs (k + p.tn + p.vn + p.ln + 6 * p.xn + 2 * p.yn) p.kn⟩
theorem Ow.aptS {α β γ : Type} {enc : α → List Value} {e1 : β → List Value} {e2 : γ → List Value} {k k1 k2 : Nat} {E F G : TypeId} {B B1 B2 : Nat} {w w' : World} {v u1 u2 : Value} {xs : List α} {ys : List β} {zs : List γ} (h : Ow enc k E B w v xs) (o1 : Ow e1 k1 F B1 w u1 ys) (o2 : Ow e2 k2 G B2 w u2 zs) (n1 : E ≠ F) (n2 : E ≠ G) (t : Trn (fun i => u1.ownBlock = some i ∨ u2.ownBlock = some i) w w') : Ow enc k E B w' v xs :=
  t.own h (fun i hi q => by
    rcases q with q | q
    · rcases owns_apart h o1 n1 with z | z
      · rw [z] at hi; cases hi
      · exact z (hi.trans q.symm)
    · rcases owns_apart h o2 n2 with z | z
      · rw [z] at hi; cases hi
      · exact z (hi.trans q.symm))
set_option maxHeartbeats 4000000 in
set_option maxRecDepth 100000 in
theorem markmsg_any (B : Nat) (m : Mg) (p : Mp) (k : Int) (h1 : 0 ≤ k) (h2 : k ≤ 1000000) (w : World) (hp : SzM p 1048576) (hm : OwMg B w m p) :
    Calls Try.prog 20 #[.agg #[.int .i64 m.k, .int .i64 m.f, .int .i64 m.t, .int .i64 m.n, .int .i64 m.h, .slice p.ta p.tn p.tc, .int .i64 m.tr, .slice p.va p.vn p.vc, .slice p.la p.ln p.lc, .slice p.xa p.xn p.xc, .slice p.ya p.yn p.yc, .slice p.ka p.kn p.kc], .int .i64 k] w fun e w' => e = .returned (.int .i64 (k + p.tn + p.vn + p.ln + 6 * p.xn + 2 * p.yn + 2 * p.kn)) ∧ OwMg B w' (mkM m p k) p ∧ Trn (MgB p) w w' := by
  have s1 := hp.t
  have s2 := hp.v
  have s3 := hp.l
  have s4 := hp.x
  have s5 := hp.y
  have s6 := hp.k
  have HB := hide hm.blocks
  have b0 : Below w.heap.size w (w.alloc (.cells #[.int .i64 m.k, .int .i64 m.f, .int .i64 m.t, .int .i64 m.n, .int .i64 m.h, .slice p.ta p.tn p.tc, .int .i64 m.tr, .slice p.va p.vn p.vc, .slice p.la p.ln p.lc, .slice p.xa p.xn p.xc, .slice p.ya p.yn p.yc, .slice p.ka p.kn p.kc] 50)) := (Below.refl w.heap.size w).alloc (Nat.le_refl _) _
  have M0 := hide (hm.later b0)
  have T0 : Hid (Trn (MgB p) w (w.alloc (.cells #[.int .i64 m.k, .int .i64 m.f, .int .i64 m.t, .int .i64 m.n, .int .i64 m.h, .slice p.ta p.tn p.tc, .int .i64 m.tr, .slice p.va p.vn p.vc, .slice p.la p.ln p.lc, .slice p.xa p.xn p.xc, .slice p.ya p.yn p.yc, .slice p.ka p.kn p.kc] 50))) := hide (Trn.of_below b0)
  have K0 : Hid ((w.alloc (.cells #[.int .i64 m.k, .int .i64 m.f, .int .i64 m.t, .int .i64 m.n, .int .i64 m.h, .slice p.ta p.tn p.tc, .int .i64 m.tr, .slice p.va p.vn p.vc, .slice p.la p.ln p.lc, .slice p.xa p.xn p.xc, .slice p.ya p.yn p.yc, .slice p.ka p.kn p.kc] 50)).heap[w.heap.size]? = some (.cells #[.int .i64 m.k, .int .i64 m.f, .int .i64 m.t, .int .i64 m.n, .int .i64 m.h, .slice p.ta p.tn p.tc, .int .i64 m.tr, .slice p.va p.vn p.vc, .slice p.la p.ln p.lc, .slice p.xa p.xn p.xc, .slice p.ya p.yn p.yc, .slice p.ka p.kn p.kc] 50 (0, 0)) ∧ w.heap.size < (w.alloc (.cells #[.int .i64 m.k, .int .i64 m.f, .int .i64 m.t, .int .i64 m.n, .int .i64 m.h, .slice p.ta p.tn p.tc, .int .i64 m.tr, .slice p.va p.vn p.vc, .slice p.la p.ln p.lc, .slice p.xa p.xn p.xc, .slice p.ya p.yn p.yc, .slice p.ka p.kn p.kc] 50)).heap.size) := hide ⟨heap_alloc_new w _, by simp⟩
  clear hm b0
  go_enter Try.func20, Try.ntmps20
  obtain ⟨c0, c1, c2, c3, c4, c5, c6, c7, c8, c9, ca, cb, -⟩ := msg_cells (unhide K0).1
  go_wp2_with fail
  refine (marktree_v B p.ta p.tn p.tc m.tl m.tr k _ (by omega) h1 (by omega) (unhide M0).t).mono ?_
  rintro e w1 ⟨rfl, o1, g1⟩
  have t1 := (Trn.of_grown g1).mono (T := MgB p) (fun i h => .inl h)
  have M1 : Hid (OwMg B w1 ⟨m.k, m.f, m.t, m.n, m.h, markN k p.tn, m.tr, m.ve, m.le, m.its, m.fls, m.ma⟩ p) := hide (have h := unhide M0; ⟨o1, h.v.aptB (fun g hv ht => h.tv g ht hv) g1, h.l.aptB (fun g hv ht => h.tl g ht hv) g1, h.x.aptT h.t (by decide) g1, h.y.aptT h.t (by decide) g1, h.k.aptT h.t (by decide) g1, h.tv, h.tl, h.vl⟩)
  have T1 := hide ((unhide T0).trans t1)
  have K1 := hide (t1.kept K0 (fun q => by have := unhide HB _ q; omega))
  clear o1 g1 t1 T0 K0 M0 c0 c1 c2 c3 c4 c5 c6 c7 c8 c9 ca cb
  obtain ⟨c0, c1, c2, c3, c4, c5, c6, c7, c8, c9, ca, cb, -⟩ := msg_cells (unhide K1).1
  have z1 := (unhide K1).2
  go_wp2_with fail
  refine (markints_v B p.va p.vn p.vc m.ve (k + p.tn) _ (by omega) (by omega) (by omega) (unhide M1).v).mono ?_
  rintro e w2 ⟨rfl, o1, g1⟩
  have t1 := (Trn.of_grown g1).mono (T := MgB p) (fun i h => .inr (.inl h))
  have M2 : Hid (OwMg B w2 ⟨m.k, m.f, m.t, m.n, m.h, markN k p.tn, m.tr, markN (k + p.tn) p.vn, m.le, m.its, m.fls, m.ma⟩ p) := hide (have h := unhide M1; ⟨h.t.aptB (fun g hv ht => h.tv g hv ht) g1, o1, h.l.aptB (fun g hv ht => h.vl g ht hv) g1, h.x.aptT h.v (by decide) g1, h.y.aptT h.v (by decide) g1, h.k.aptT h.v (by decide) g1, h.tv, h.tl, h.vl⟩)
  have T2 := hide ((unhide T1).trans t1)
  have K2 := hide (t1.kept K1 (fun q => by have := unhide HB _ q; omega))
  clear o1 g1 t1 T1 K1 M1 c0 c1 c2 c3 c4 c5 c6 c7 c8 c9 ca cb
  obtain ⟨c0, c1, c2, c3, c4, c5, c6, c7, c8, c9, ca, cb, -⟩ := msg_cells (unhide K2).1
  have z2 := (unhide K2).2
  go_wp2_with fail
  refine (markints_v B p.la p.ln p.lc m.le (k + p.tn + p.vn) _ (by omega) (by omega) (by omega) (unhide M2).l).mono ?_
  rintro e w3 ⟨rfl, o1, g1⟩
  have t1 := (Trn.of_grown g1).mono (T := MgB p) (fun i h => .inr (.inr (.inl h)))
  have M3 : Hid (OwMg B w3 ⟨m.k, m.f, m.t, m.n, m.h, markN k p.tn, m.tr, markN (k + p.tn) p.vn, markN (k + p.tn + p.vn) p.ln, m.its, m.fls, m.ma⟩ p) := hide (have h := unhide M2; ⟨h.t.aptB (fun g hv ht => h.tl g hv ht) g1, h.v.aptB (fun g hv ht => h.vl g hv ht) g1, o1, h.x.aptT h.l (by decide) g1, h.y.aptT h.l (by decide) g1, h.k.aptT h.l (by decide) g1, h.tv, h.tl, h.vl⟩)
  have T3 := hide ((unhide T2).trans t1)
  have K3 := hide (t1.kept K2 (fun q => by have := unhide HB _ q; omega))
  clear o1 g1 t1 T2 K2 M2 c0 c1 c2 c3 c4 c5 c6 c7 c8 c9 ca cb
  obtain ⟨c0, c1, c2, c3, c4, c5, c6, c7, c8, c9, ca, cb, -⟩ := msg_cells (unhide K3).1
  have z3 := (unhide K3).2
  go_wp2_with fail
  refine (markS_any B p.xa p.xn p.xc m.its p.ya p.yn p.yc m.fls (k + p.tn + p.vn + p.ln) (by omega) (by omega) _ (by omega) (by omega) (unhide M3).x (unhide M3).y).mono ?_
  rintro e w4 ⟨rfl, o1, o2, t0⟩
  have t1 := t0.mono (T := MgB p) (fun i h => by rcases h with h | h; exact .inr (.inr (.inr (.inl h))); exact .inr (.inr (.inr (.inr (.inl h)))))
  have M4 : Hid (OwMg B w4 ⟨m.k, m.f, m.t, m.n, m.h, markN k p.tn, m.tr, markN (k + p.tn) p.vn, markN (k + p.tn + p.vn) p.ln, mkIs (k + p.tn + p.vn + p.ln) p.xn, mkFs (k + p.tn + p.vn + p.ln + 6 * p.xn) p.yn, m.ma⟩ p) := hide (have h := unhide M3; ⟨h.t.aptS h.x h.y (by decide) (by decide) t0, h.v.aptS h.x h.y (by decide) (by decide) t0, h.l.aptS h.x h.y (by decide) (by decide) t0, o1, o2, h.k.aptS h.x h.y (by decide) (by decide) t0, h.tv, h.tl, h.vl⟩)
  clear t0
  have T4 := hide ((unhide T3).trans t1)
  have K4 := hide (t1.kept K3 (fun q => by have := unhide HB _ q; omega))
  clear o1 o2 t1 T3 K3 M3 c0 c1 c2 c3 c4 c5 c6 c7 c8 c9 ca cb
  obtain ⟨c0, c1, c2, c3, c4, c5, c6, c7, c8, c9, ca, cb, -⟩ := msg_cells (unhide K4).1
  have z4 := (unhide K4).2
  go_wp2_with fail
  refine (markM_any B p.ka p.kn p.kc m.ma (k + p.tn + p.vn + p.ln + 6 * p.xn + 2 * p.yn) (by omega) (by omega) _ (by omega) (unhide M4).k).mono ?_
  rintro e w5 ⟨rfl, o1, g1⟩
  have t1 := (Trn.of_grown g1).mono (T := MgB p) (fun i h => .inr (.inr (.inr (.inr (.inr h)))))
  have M5 : Hid (OwMg B w5 (mkM m p k) p) := hide (have h := unhide M4; ⟨h.t.aptT h.k (by decide) g1, h.v.aptT h.k (by decide) g1, h.l.aptT h.k (by decide) g1, h.x.aptT h.k (by decide) g1, h.y.aptT h.k (by decide) g1, o1, h.tv, h.tl, h.vl⟩)
  have T5 := hide ((unhide T4).trans t1)
  clear o1 g1 t1 T4 K4 M4 c0 c1 c2 c3 c4 c5 c6 c7 c8 c9 ca cb
  go_wp2
  go_ret
  exact ⟨rfl, unhide M5, unhide T5⟩
end Go.Proofs.Ytjlocbimkfocnaa
