/-
  Whether two messages are the same: MsgSame, the program's and the specification's. No statement is proved here.
-/
import Derived.Test.YtbajnnpihjmjmabMsE
import Derived.Laws.StructEq
namespace Go.Proofs.Ytbajnnpihjmjmab
open Go.RowKit

/-- What was laid for two arguments stays. -/
structure Ev (w X : World) (cs ds : Array Value) (T : TypeId) : Prop where
  bel : Below w.heap.size w X
  k1 : X.heap[w.heap.size]? = some (.cells cs T (0, 0))
  k2 : X.heap[w.heap.size + 1]? = some (.cells ds T (0, 0))
theorem ev_new (w : World) (cs ds : Array Value) (T : TypeId) : Ev w ((w.alloc (.cells cs T)).alloc (.cells ds T)) cs ds T :=
  ⟨((Below.refl _ _).alloc (Nat.le_refl _) _).alloc (by simp) _, lowB2 w _ _, newB2 w _ _⟩
def hdS (m n : Mg) : Bool := m.k == n.k && m.f == n.f && m.t == n.t && m.n == n.n && m.h == n.h
/-- Two messages are the same. -/
def smM (m n : Mg) : Bool := hdS m n && (m.tr == n.tr && decide (m.tl = n.tl)) && decide (m.ve = n.ve) && decide (m.le = n.le) && (decide (m.its = n.its) && decide (m.fls = n.fls)) && decide (m.ma = n.ma)
/-- A region in the order of its text, whose calls make memory but answer plain values: as 'wp_region_later'. -/
theorem wpList_of_quiet {P : Program} {ops : Array Oper} {C : World → Prop} {Q : Act → Prop} {Q' : Exit → Act → World → Prop} (hQ : ∀ a w, C w → Q a → Q' .normal a w) : ∀ (l : List Oper) (a : Act) (w : World), C w → wpQuiet P ops C Q l a → wpList P ops Q' l a w
  | [], _, _, hC, h => hQ _ _ hC h
  | o :: rest, a, w, hC, h => by
    unfold wpQuiet at h
    unfold wpList
    split
    · rename_i hw
      rw [if_pos hw] at h
      exact .inl (Oper.wp_of_quiet hC (fun a' w' hw' h' => wpList_of_quiet hQ rest a' w' hw' h') h)
    · rename_i hw
      rw [if_neg hw] at h
      exact wpList_of_quiet hQ rest _ w hC h
theorem wp_region_plain {P : Program} {id : Nat} {Q : Exit → Act → World → Prop} {a : Act} {w : World} {l : List Oper}
    (h : wpQuiet P l.toArray (fun w' => ∃ p : GrownBy, w' = lw w p.n p.os) (fun a' => ∀ w', Below w.heap.size w w' → Q .normal a' w') l a) : (Code.region id l.toArray false).wp P Q a w :=
  wp_region_lit (wpList_of_quiet (fun _ _ ⟨p, hp⟩ h => h _ (by rw [hp]; exact later_below _ _ _)) l a w (by
    obtain ⟨n, os, h⟩ := below_later (w := w) (W := w) (Below.refl _ _)
    exact ⟨⟨n, os⟩, h⟩) h)
theorem eqH_run (x0 x1 x2 x3 x4 y0 y1 y2 y3 y4 : Int) (W : World) : (Op.equalIn 10000 86 (.agg #[.int .i64 x0, .int .i64 x1, .int .i64 x2, .int .i64 x3, .int .i64 x4]) (.agg #[.int .i64 y0, .int .i64 y1, .int .i64 y2, .int .i64 y3, .int .i64 y4])).run Try.prog W = .ok (x0 == y0 && x1 == y1 && x2 == y2 && x3 == y3 && x4 == y4) W := by
  have u3 := Try.underlying3
  have a3 := Try.isAgg3
  have z3 := Try.sizeOf3
  rw [show (10000 : Nat) = 9999 + 1 from rfl, Op.equalIn]
  simp only [Sem.run_bind, run_underlying Try.underlying86, Result.andThen_ok]
  simp only [Std.Legacy.Range.forIn_eq_forIn_range', Std.Legacy.Range.size, Nat.sub_zero, Nat.add_sub_cancel, Nat.div_one, List.range'_succ, List.range'_zero, List.forIn_cons, List.forIn_nil]
  go_simp
  by_cases h1 : x0 = y0 <;> by_cases h2 : x1 = y1 <;> by_cases h3 : x2 = y2 <;> by_cases h4 : x3 = y3 <;> by_cases h5 : x4 = y4 <;> simp [h1, h2, h3, h4, h5]
set_option maxHeartbeats 4000000 in
set_option maxRecDepth 100000 in
theorem headof_any (m : Mg) (p : Mp) (w : World) :
    Calls Try.prog 43 #[.agg #[.int .i64 m.k, .int .i64 m.f, .int .i64 m.t, .int .i64 m.n, .int .i64 m.h, .slice p.ta p.tn p.tc, .int .i64 m.tr, .slice p.va p.vn p.vc, .slice p.la p.ln p.lc, .slice p.xa p.xn p.xc, .slice p.ya p.yn p.yc, .slice p.ka p.kn p.kc]] w fun e w' => e = .returned (.agg #[.int .i64 m.k, .int .i64 m.f, .int .i64 m.t, .int .i64 m.n, .int .i64 m.h]) ∧ Below w.heap.size w w' := by
  go_enter Try.func43, Try.ntmps43
  go_wp2
  exact bodyPost_ret (v := .agg #[.int .i64 m.k, .int .i64 m.f, .int .i64 m.t, .int .i64 m.n, .int .i64 m.h]) (by simp [results, Try.results43, go_sem]) rfl ⟨rfl, ((Below.refl _ _).alloc (Nat.le_refl _) _).alloc (by simp) _⟩
set_option maxHeartbeats 4000000 in
set_option maxRecDepth 100000 in
theorem treesame_any (a : Option Addr) (n c : Nat) (ns : List Int) (x : Int) (a' : Option Addr) (n' c' : Nat) (ms : List Int) (y : Int) (q : Bool) (hq : Hid ((x == y && decide (ns = ms)) = q)) (w : World) (hn : n ≤ 140737488351232) (hn' : n' ≤ 140737488351232) (h : RwN w (.slice a n c) ns) (h' : RwN w (.slice a' n' c') ms) :
    Calls Try.prog 44 #[.agg #[.slice a n c, .int .i64 x], .agg #[.slice a' n' c', .int .i64 y]] w fun e w' => e = .returned (.bool q) ∧ Below w.heap.size w w' := by
  have HX := hide h
  have HY := hide h'
  obtain ⟨b, hb⟩ : ∃ b, (x == y) = b := ⟨_, rfl⟩
  obtain ⟨d, hd⟩ : ∃ d, Hid (decide (ns = ms) = d) := ⟨_, hide rfl⟩
  have hQ := unhide hq
  rw [hb, unhide hd] at hQ
  clear h h' hq
  cases b
  · obtain rfl : q = false := hQ.symm
    go_enter Try.func44, Try.ntmps44
    go_wp2
    go_ret
    exact ⟨rfl, ((Below.refl _ _).alloc (Nat.le_refl _) _).alloc (by simp) _⟩
  · obtain rfl : q = d := hQ.symm
    go_enter Try.func44, Try.ntmps44
    go_wp2_with fail
    refine (sleqn_any a n c a' n' c' ns ms _ hd _ hn hn' (((unhide HX).alloc _).alloc _) (((unhide HY).alloc _).alloc _)).mono ?_
    rintro e w1 ⟨rfl, b1⟩
    have HB := hide ((((Below.refl w.heap.size w).alloc (Nat.le_refl _) _).alloc (by simp) _).trans (b1.mono (by simp; omega)))
    clear b1
    go_wp2
    go_ret
    exact ⟨rfl, unhide HB⟩
set_option maxHeartbeats 8000000 in
set_option maxRecDepth 100000 in
theorem imsgsame_any (m n : Mg) (p q : Mp) (r : Bool) (hr : Hid (smM m n = r)) (w : World) (hp : SzM p 140737488351232) (hq : SzM q 140737488351232) (hm : RwM w m p) (hn : RwM w n q) :
    Calls Try.prog 16 #[.agg #[.int .i64 m.k, .int .i64 m.f, .int .i64 m.t, .int .i64 m.n, .int .i64 m.h, .slice p.ta p.tn p.tc, .int .i64 m.tr, .slice p.va p.vn p.vc, .slice p.la p.ln p.lc, .slice p.xa p.xn p.xc, .slice p.ya p.yn p.yc, .slice p.ka p.kn p.kc], .agg #[.int .i64 n.k, .int .i64 n.f, .int .i64 n.t, .int .i64 n.n, .int .i64 n.h, .slice q.ta q.tn q.tc, .int .i64 n.tr, .slice q.va q.vn q.vc, .slice q.la q.ln q.lc, .slice q.xa q.xn q.xc, .slice q.ya q.yn q.yc, .slice q.ka q.kn q.kc]] w fun e w' => e = .returned (.bool r) ∧ Below w.heap.size w w' := by
  obtain ⟨wA, hwA⟩ : ∃ W, W = (w.alloc (.cells #[.int .i64 m.k, .int .i64 m.f, .int .i64 m.t, .int .i64 m.n, .int .i64 m.h, .slice p.ta p.tn p.tc, .int .i64 m.tr, .slice p.va p.vn p.vc, .slice p.la p.ln p.lc, .slice p.xa p.xn p.xc, .slice p.ya p.yn p.yc, .slice p.ka p.kn p.kc] 50)).alloc (.cells #[.int .i64 n.k, .int .i64 n.f, .int .i64 n.t, .int .i64 n.n, .int .i64 n.h, .slice q.ta q.tn q.tc, .int .i64 n.tr, .slice q.va q.vn q.vc, .slice q.la q.ln q.lc, .slice q.xa q.xn q.xc, .slice q.ya q.yn q.yc, .slice q.ka q.kn q.kc] 50) := ⟨_, rfl⟩
  have EA := hide (show Ev w wA #[.int .i64 m.k, .int .i64 m.f, .int .i64 m.t, .int .i64 m.n, .int .i64 m.h, .slice p.ta p.tn p.tc, .int .i64 m.tr, .slice p.va p.vn p.vc, .slice p.la p.ln p.lc, .slice p.xa p.xn p.xc, .slice p.ya p.yn p.yc, .slice p.ka p.kn p.kc] #[.int .i64 n.k, .int .i64 n.f, .int .i64 n.t, .int .i64 n.n, .int .i64 n.h, .slice q.ta q.tn q.tc, .int .i64 n.tr, .slice q.va q.vn q.vc, .slice q.la q.ln q.lc, .slice q.xa q.xn q.xc, .slice q.ya q.yn q.yc, .slice q.ka q.kn q.kc] 50 from by rw [hwA]; exact ev_new w _ _ _)
  have HM := hide (hm.later (unhide EA).bel)
  have HN := hide (hn.later (unhide EA).bel)
  have zB : w.heap.size + 1 < wA.heap.size := (Array.getElem?_eq_some_iff.1 (unhide EA).k2).1
  have zA : w.heap.size < wA.heap.size := by omega
  have st := hp.t
  have ut := hq.t
  have sv := hp.v
  have uv := hq.v
  have sl := hp.l
  have ul := hq.l
  have sx := hp.x
  have ux := hq.x
  have sy := hp.y
  have uy := hq.y
  have sk := hp.k
  have uk := hq.k
  obtain ⟨q1, Hq1⟩ : ∃ b, Hid ((m.k == n.k && m.f == n.f && m.t == n.t && m.n == n.n && m.h == n.h) = b) := ⟨_, hide rfl⟩
  obtain ⟨q2, Hq2⟩ : ∃ b, Hid ((m.tr == n.tr && decide (m.tl = n.tl)) = b) := ⟨_, hide rfl⟩
  obtain ⟨q3, Hq3⟩ : ∃ b, Hid ((decide (m.ve = n.ve)) = b) := ⟨_, hide rfl⟩
  obtain ⟨q4, Hq4⟩ : ∃ b, Hid ((decide (m.le = n.le)) = b) := ⟨_, hide rfl⟩
  obtain ⟨q5, Hq5⟩ : ∃ b, Hid ((decide (m.its = n.its) && decide (m.fls = n.fls)) = b) := ⟨_, hide rfl⟩
  obtain ⟨q6, Hq6⟩ : ∃ b, Hid ((decide (m.ma = n.ma)) = b) := ⟨_, hide rfl⟩
  have hR := unhide hr
  simp only [smM, hdS] at hR
  clear hm hn hr hp hq
  cases q1
  · have Eq1 := Hq1
    have hQ : r = false := by rw [← hR]; simp [unhide Eq1]
    subst hQ
    clear hR
    have hrun : ∀ W, (Op.equalIn 10000 86 (.agg #[.int .i64 m.k, .int .i64 m.f, .int .i64 m.t, .int .i64 m.n, .int .i64 m.h]) (.agg #[.int .i64 n.k, .int .i64 n.f, .int .i64 n.t, .int .i64 n.n, .int .i64 n.h])).run Try.prog W = .ok false W := fun W => by rw [← unhide Eq1]; exact eqH_run _ _ _ _ _ _ _ _ _ _ W
    go_enter Try.func16, Try.ntmps16
    go_wp2_with fail
    rw [← hwA]
    clear hwA
    obtain ⟨c0, c1, c2, c3, c4, c5, c6, c7, c8, c9, ca, cb, -⟩ := msg_cells (unhide EA).k1
    obtain ⟨g0, g1, g2, g3, g4, g5, g6, g7, g8, g9, ga, gb, -⟩ := msg_cells (unhide EA).k2
    have l0 := later_some (w := wA) zA c0
    have l1 := later_some (w := wA) zA c1
    have l2 := later_some (w := wA) zA c2
    have l3 := later_some (w := wA) zA c3
    have l4 := later_some (w := wA) zA c4
    have l5 := later_some (w := wA) zA c5
    have l6 := later_some (w := wA) zA c6
    have l7 := later_some (w := wA) zA c7
    have l8 := later_some (w := wA) zA c8
    have l9 := later_some (w := wA) zA c9
    have la := later_some (w := wA) zA ca
    have lb := later_some (w := wA) zA cb
    have k0 := later_some (w := wA) zB g0
    have k1 := later_some (w := wA) zB g1
    have k2 := later_some (w := wA) zB g2
    have k3 := later_some (w := wA) zB g3
    have k4 := later_some (w := wA) zB g4
    have k5 := later_some (w := wA) zB g5
    have k6 := later_some (w := wA) zB g6
    have k7 := later_some (w := wA) zB g7
    have k8 := later_some (w := wA) zB g8
    have k9 := later_some (w := wA) zB g9
    have ka := later_some (w := wA) zB ga
    have kb := later_some (w := wA) zB gb
    clear c0 c1 c2 c3 c4 c5 c6 c7 c8 c9 ca cb g0 g1 g2 g3 g4 g5 g6 g7 g8 g9 ga gb
    refine wp_region_later (by kernel_rfl) (by kernel_rfl) ?_
    repeat (first | go_big_quiet_step (first
      | (go_at_call_of 43 (Value.agg #[.int .i64 m.k, .int .i64 m.f, .int .i64 m.t, .int .i64 m.n, .int .i64 m.h, .slice p.ta p.tn p.tc, .int .i64 m.tr, .slice p.va p.vn p.vc, .slice p.la p.ln p.lc, .slice p.xa p.xn p.xc, .slice p.ya p.yn p.yc, .slice p.ka p.kn p.kc]); exact Calls.later_of (headof_any m p _))
      | (go_at_call_of 43 (Value.agg #[.int .i64 n.k, .int .i64 n.f, .int .i64 n.t, .int .i64 n.n, .int .i64 n.h, .slice q.ta q.tn q.tc, .int .i64 n.tr, .slice q.va q.vn q.vc, .slice q.la q.ln q.lc, .slice q.xa q.xn q.xc, .slice q.ya q.yn q.yc, .slice q.ka q.kn q.kc]); exact Calls.later_of (headof_any n q _))
      | (go_at_call 44; exact Calls.later_of (treesame_any p.ta p.tn p.tc m.tl m.tr q.ta q.tn q.tc n.tl n.tr _ Hq2 _ st ut (((unhide HM).in_later _ _).t) (((unhide HN).in_later _ _).t)))
      | (go_at_call_of 45 (Value.slice p.va p.vn p.vc); exact Calls.later_of (sleqn_any p.va p.vn p.vc q.va q.vn q.vc m.ve n.ve _ Hq3 _ sv uv (((unhide HM).in_later _ _).v) (((unhide HN).in_later _ _).v)))
      | (go_at_call_of 45 (Value.slice p.la p.ln p.lc); exact Calls.later_of (sleqn_any p.la p.ln p.lc q.la q.ln q.lc m.le n.le _ Hq4 _ sl ul (((unhide HM).in_later _ _).l) (((unhide HN).in_later _ _).l)))
      | (go_at_call 46; exact Calls.later_of (isame_any p.xa p.xn p.xc m.its p.ya p.yn p.yc m.fls q.xa q.xn q.xc n.its q.ya q.yn q.yc n.fls _ Hq5 _ sx sy ux uy (((unhide HM).in_later _ _).x) (((unhide HM).in_later _ _).y) (((unhide HN).in_later _ _).x) (((unhide HN).in_later _ _).y)))
      | (go_at_call 47; exact Calls.later_of (sleqk_any p.ka p.kn p.kc q.ka q.kn q.kc m.ma n.ma _ Hq6 _ sk uk (((unhide HM).in_later _ _).k) (((unhide HN).in_later _ _).k)))) | quiet_step (fail))
    refine wpQuiet_nil ?_
    intro w9 b9
    have BL := hide ((unhide EA).bel.trans (b9.mono (unhide EA).bel.size))
    clear b9 l0 k0 l1 k1 l2 k2 l3 k3 l4 k4 l5 k5 l6 k6 l7 k7 l8 k8 l9 k9 la ka lb kb
    go_wp2
    go_ret
    exact ⟨rfl, unhide BL⟩
  · have Eq1 := Hq1
    cases q2
    · have Eq2 := Hq2
      have hQ : r = false := by rw [← hR]; simp [unhide Eq1, unhide Eq2]
      subst hQ
      clear hR
      have hrun : ∀ W, (Op.equalIn 10000 86 (.agg #[.int .i64 m.k, .int .i64 m.f, .int .i64 m.t, .int .i64 m.n, .int .i64 m.h]) (.agg #[.int .i64 n.k, .int .i64 n.f, .int .i64 n.t, .int .i64 n.n, .int .i64 n.h])).run Try.prog W = .ok true W := fun W => by rw [← unhide Eq1]; exact eqH_run _ _ _ _ _ _ _ _ _ _ W
      go_enter Try.func16, Try.ntmps16
      go_wp2_with fail
      rw [← hwA]
      clear hwA
      obtain ⟨c0, c1, c2, c3, c4, c5, c6, c7, c8, c9, ca, cb, -⟩ := msg_cells (unhide EA).k1
      obtain ⟨g0, g1, g2, g3, g4, g5, g6, g7, g8, g9, ga, gb, -⟩ := msg_cells (unhide EA).k2
      have l0 := later_some (w := wA) zA c0
      have l1 := later_some (w := wA) zA c1
      have l2 := later_some (w := wA) zA c2
      have l3 := later_some (w := wA) zA c3
      have l4 := later_some (w := wA) zA c4
      have l5 := later_some (w := wA) zA c5
      have l6 := later_some (w := wA) zA c6
      have l7 := later_some (w := wA) zA c7
      have l8 := later_some (w := wA) zA c8
      have l9 := later_some (w := wA) zA c9
      have la := later_some (w := wA) zA ca
      have lb := later_some (w := wA) zA cb
      have k0 := later_some (w := wA) zB g0
      have k1 := later_some (w := wA) zB g1
      have k2 := later_some (w := wA) zB g2
      have k3 := later_some (w := wA) zB g3
      have k4 := later_some (w := wA) zB g4
      have k5 := later_some (w := wA) zB g5
      have k6 := later_some (w := wA) zB g6
      have k7 := later_some (w := wA) zB g7
      have k8 := later_some (w := wA) zB g8
      have k9 := later_some (w := wA) zB g9
      have ka := later_some (w := wA) zB ga
      have kb := later_some (w := wA) zB gb
      clear c0 c1 c2 c3 c4 c5 c6 c7 c8 c9 ca cb g0 g1 g2 g3 g4 g5 g6 g7 g8 g9 ga gb
      refine wp_region_later (by kernel_rfl) (by kernel_rfl) ?_
      repeat (first | go_big_quiet_step (first
        | (go_at_call_of 43 (Value.agg #[.int .i64 m.k, .int .i64 m.f, .int .i64 m.t, .int .i64 m.n, .int .i64 m.h, .slice p.ta p.tn p.tc, .int .i64 m.tr, .slice p.va p.vn p.vc, .slice p.la p.ln p.lc, .slice p.xa p.xn p.xc, .slice p.ya p.yn p.yc, .slice p.ka p.kn p.kc]); exact Calls.later_of (headof_any m p _))
        | (go_at_call_of 43 (Value.agg #[.int .i64 n.k, .int .i64 n.f, .int .i64 n.t, .int .i64 n.n, .int .i64 n.h, .slice q.ta q.tn q.tc, .int .i64 n.tr, .slice q.va q.vn q.vc, .slice q.la q.ln q.lc, .slice q.xa q.xn q.xc, .slice q.ya q.yn q.yc, .slice q.ka q.kn q.kc]); exact Calls.later_of (headof_any n q _))
        | (go_at_call 44; exact Calls.later_of (treesame_any p.ta p.tn p.tc m.tl m.tr q.ta q.tn q.tc n.tl n.tr _ Hq2 _ st ut (((unhide HM).in_later _ _).t) (((unhide HN).in_later _ _).t)))
        | (go_at_call_of 45 (Value.slice p.va p.vn p.vc); exact Calls.later_of (sleqn_any p.va p.vn p.vc q.va q.vn q.vc m.ve n.ve _ Hq3 _ sv uv (((unhide HM).in_later _ _).v) (((unhide HN).in_later _ _).v)))
        | (go_at_call_of 45 (Value.slice p.la p.ln p.lc); exact Calls.later_of (sleqn_any p.la p.ln p.lc q.la q.ln q.lc m.le n.le _ Hq4 _ sl ul (((unhide HM).in_later _ _).l) (((unhide HN).in_later _ _).l)))
        | (go_at_call 46; exact Calls.later_of (isame_any p.xa p.xn p.xc m.its p.ya p.yn p.yc m.fls q.xa q.xn q.xc n.its q.ya q.yn q.yc n.fls _ Hq5 _ sx sy ux uy (((unhide HM).in_later _ _).x) (((unhide HM).in_later _ _).y) (((unhide HN).in_later _ _).x) (((unhide HN).in_later _ _).y)))
        | (go_at_call 47; exact Calls.later_of (sleqk_any p.ka p.kn p.kc q.ka q.kn q.kc m.ma n.ma _ Hq6 _ sk uk (((unhide HM).in_later _ _).k) (((unhide HN).in_later _ _).k)))) | quiet_step (fail))
      refine wpQuiet_nil ?_
      intro w9 b9
      have BL := hide ((unhide EA).bel.trans (b9.mono (unhide EA).bel.size))
      clear b9 l0 k0 l1 k1 l2 k2 l3 k3 l4 k4 l5 k5 l6 k6 l7 k7 l8 k8 l9 k9 la ka lb kb
      go_wp2
      go_ret
      exact ⟨rfl, unhide BL⟩
    · have Eq2 := Hq2
      cases q3
      · have Eq3 := Hq3
        have hQ : r = false := by rw [← hR]; simp [unhide Eq1, unhide Eq2, unhide Eq3]
        subst hQ
        clear hR
        have hrun : ∀ W, (Op.equalIn 10000 86 (.agg #[.int .i64 m.k, .int .i64 m.f, .int .i64 m.t, .int .i64 m.n, .int .i64 m.h]) (.agg #[.int .i64 n.k, .int .i64 n.f, .int .i64 n.t, .int .i64 n.n, .int .i64 n.h])).run Try.prog W = .ok true W := fun W => by rw [← unhide Eq1]; exact eqH_run _ _ _ _ _ _ _ _ _ _ W
        go_enter Try.func16, Try.ntmps16
        go_wp2_with fail
        rw [← hwA]
        clear hwA
        obtain ⟨c0, c1, c2, c3, c4, c5, c6, c7, c8, c9, ca, cb, -⟩ := msg_cells (unhide EA).k1
        obtain ⟨g0, g1, g2, g3, g4, g5, g6, g7, g8, g9, ga, gb, -⟩ := msg_cells (unhide EA).k2
        have l0 := later_some (w := wA) zA c0
        have l1 := later_some (w := wA) zA c1
        have l2 := later_some (w := wA) zA c2
        have l3 := later_some (w := wA) zA c3
        have l4 := later_some (w := wA) zA c4
        have l5 := later_some (w := wA) zA c5
        have l6 := later_some (w := wA) zA c6
        have l7 := later_some (w := wA) zA c7
        have l8 := later_some (w := wA) zA c8
        have l9 := later_some (w := wA) zA c9
        have la := later_some (w := wA) zA ca
        have lb := later_some (w := wA) zA cb
        have k0 := later_some (w := wA) zB g0
        have k1 := later_some (w := wA) zB g1
        have k2 := later_some (w := wA) zB g2
        have k3 := later_some (w := wA) zB g3
        have k4 := later_some (w := wA) zB g4
        have k5 := later_some (w := wA) zB g5
        have k6 := later_some (w := wA) zB g6
        have k7 := later_some (w := wA) zB g7
        have k8 := later_some (w := wA) zB g8
        have k9 := later_some (w := wA) zB g9
        have ka := later_some (w := wA) zB ga
        have kb := later_some (w := wA) zB gb
        clear c0 c1 c2 c3 c4 c5 c6 c7 c8 c9 ca cb g0 g1 g2 g3 g4 g5 g6 g7 g8 g9 ga gb
        refine wp_region_later (by kernel_rfl) (by kernel_rfl) ?_
        repeat (first | go_big_quiet_step (first
          | (go_at_call_of 43 (Value.agg #[.int .i64 m.k, .int .i64 m.f, .int .i64 m.t, .int .i64 m.n, .int .i64 m.h, .slice p.ta p.tn p.tc, .int .i64 m.tr, .slice p.va p.vn p.vc, .slice p.la p.ln p.lc, .slice p.xa p.xn p.xc, .slice p.ya p.yn p.yc, .slice p.ka p.kn p.kc]); exact Calls.later_of (headof_any m p _))
          | (go_at_call_of 43 (Value.agg #[.int .i64 n.k, .int .i64 n.f, .int .i64 n.t, .int .i64 n.n, .int .i64 n.h, .slice q.ta q.tn q.tc, .int .i64 n.tr, .slice q.va q.vn q.vc, .slice q.la q.ln q.lc, .slice q.xa q.xn q.xc, .slice q.ya q.yn q.yc, .slice q.ka q.kn q.kc]); exact Calls.later_of (headof_any n q _))
          | (go_at_call 44; exact Calls.later_of (treesame_any p.ta p.tn p.tc m.tl m.tr q.ta q.tn q.tc n.tl n.tr _ Hq2 _ st ut (((unhide HM).in_later _ _).t) (((unhide HN).in_later _ _).t)))
          | (go_at_call_of 45 (Value.slice p.va p.vn p.vc); exact Calls.later_of (sleqn_any p.va p.vn p.vc q.va q.vn q.vc m.ve n.ve _ Hq3 _ sv uv (((unhide HM).in_later _ _).v) (((unhide HN).in_later _ _).v)))
          | (go_at_call_of 45 (Value.slice p.la p.ln p.lc); exact Calls.later_of (sleqn_any p.la p.ln p.lc q.la q.ln q.lc m.le n.le _ Hq4 _ sl ul (((unhide HM).in_later _ _).l) (((unhide HN).in_later _ _).l)))
          | (go_at_call 46; exact Calls.later_of (isame_any p.xa p.xn p.xc m.its p.ya p.yn p.yc m.fls q.xa q.xn q.xc n.its q.ya q.yn q.yc n.fls _ Hq5 _ sx sy ux uy (((unhide HM).in_later _ _).x) (((unhide HM).in_later _ _).y) (((unhide HN).in_later _ _).x) (((unhide HN).in_later _ _).y)))
          | (go_at_call 47; exact Calls.later_of (sleqk_any p.ka p.kn p.kc q.ka q.kn q.kc m.ma n.ma _ Hq6 _ sk uk (((unhide HM).in_later _ _).k) (((unhide HN).in_later _ _).k)))) | quiet_step (fail))
        refine wpQuiet_nil ?_
        intro w9 b9
        have BL := hide ((unhide EA).bel.trans (b9.mono (unhide EA).bel.size))
        clear b9 l0 k0 l1 k1 l2 k2 l3 k3 l4 k4 l5 k5 l6 k6 l7 k7 l8 k8 l9 k9 la ka lb kb
        go_wp2
        go_ret
        exact ⟨rfl, unhide BL⟩
      · have Eq3 := Hq3
        cases q4
        · have Eq4 := Hq4
          have hQ : r = false := by rw [← hR]; simp [unhide Eq1, unhide Eq2, unhide Eq3, unhide Eq4]
          subst hQ
          clear hR
          have hrun : ∀ W, (Op.equalIn 10000 86 (.agg #[.int .i64 m.k, .int .i64 m.f, .int .i64 m.t, .int .i64 m.n, .int .i64 m.h]) (.agg #[.int .i64 n.k, .int .i64 n.f, .int .i64 n.t, .int .i64 n.n, .int .i64 n.h])).run Try.prog W = .ok true W := fun W => by rw [← unhide Eq1]; exact eqH_run _ _ _ _ _ _ _ _ _ _ W
          go_enter Try.func16, Try.ntmps16
          go_wp2_with fail
          rw [← hwA]
          clear hwA
          obtain ⟨c0, c1, c2, c3, c4, c5, c6, c7, c8, c9, ca, cb, -⟩ := msg_cells (unhide EA).k1
          obtain ⟨g0, g1, g2, g3, g4, g5, g6, g7, g8, g9, ga, gb, -⟩ := msg_cells (unhide EA).k2
          have l0 := later_some (w := wA) zA c0
          have l1 := later_some (w := wA) zA c1
          have l2 := later_some (w := wA) zA c2
          have l3 := later_some (w := wA) zA c3
          have l4 := later_some (w := wA) zA c4
          have l5 := later_some (w := wA) zA c5
          have l6 := later_some (w := wA) zA c6
          have l7 := later_some (w := wA) zA c7
          have l8 := later_some (w := wA) zA c8
          have l9 := later_some (w := wA) zA c9
          have la := later_some (w := wA) zA ca
          have lb := later_some (w := wA) zA cb
          have k0 := later_some (w := wA) zB g0
          have k1 := later_some (w := wA) zB g1
          have k2 := later_some (w := wA) zB g2
          have k3 := later_some (w := wA) zB g3
          have k4 := later_some (w := wA) zB g4
          have k5 := later_some (w := wA) zB g5
          have k6 := later_some (w := wA) zB g6
          have k7 := later_some (w := wA) zB g7
          have k8 := later_some (w := wA) zB g8
          have k9 := later_some (w := wA) zB g9
          have ka := later_some (w := wA) zB ga
          have kb := later_some (w := wA) zB gb
          clear c0 c1 c2 c3 c4 c5 c6 c7 c8 c9 ca cb g0 g1 g2 g3 g4 g5 g6 g7 g8 g9 ga gb
          refine wp_region_later (by kernel_rfl) (by kernel_rfl) ?_
          repeat (first | go_big_quiet_step (first
            | (go_at_call_of 43 (Value.agg #[.int .i64 m.k, .int .i64 m.f, .int .i64 m.t, .int .i64 m.n, .int .i64 m.h, .slice p.ta p.tn p.tc, .int .i64 m.tr, .slice p.va p.vn p.vc, .slice p.la p.ln p.lc, .slice p.xa p.xn p.xc, .slice p.ya p.yn p.yc, .slice p.ka p.kn p.kc]); exact Calls.later_of (headof_any m p _))
            | (go_at_call_of 43 (Value.agg #[.int .i64 n.k, .int .i64 n.f, .int .i64 n.t, .int .i64 n.n, .int .i64 n.h, .slice q.ta q.tn q.tc, .int .i64 n.tr, .slice q.va q.vn q.vc, .slice q.la q.ln q.lc, .slice q.xa q.xn q.xc, .slice q.ya q.yn q.yc, .slice q.ka q.kn q.kc]); exact Calls.later_of (headof_any n q _))
            | (go_at_call 44; exact Calls.later_of (treesame_any p.ta p.tn p.tc m.tl m.tr q.ta q.tn q.tc n.tl n.tr _ Hq2 _ st ut (((unhide HM).in_later _ _).t) (((unhide HN).in_later _ _).t)))
            | (go_at_call_of 45 (Value.slice p.va p.vn p.vc); exact Calls.later_of (sleqn_any p.va p.vn p.vc q.va q.vn q.vc m.ve n.ve _ Hq3 _ sv uv (((unhide HM).in_later _ _).v) (((unhide HN).in_later _ _).v)))
            | (go_at_call_of 45 (Value.slice p.la p.ln p.lc); exact Calls.later_of (sleqn_any p.la p.ln p.lc q.la q.ln q.lc m.le n.le _ Hq4 _ sl ul (((unhide HM).in_later _ _).l) (((unhide HN).in_later _ _).l)))
            | (go_at_call 46; exact Calls.later_of (isame_any p.xa p.xn p.xc m.its p.ya p.yn p.yc m.fls q.xa q.xn q.xc n.its q.ya q.yn q.yc n.fls _ Hq5 _ sx sy ux uy (((unhide HM).in_later _ _).x) (((unhide HM).in_later _ _).y) (((unhide HN).in_later _ _).x) (((unhide HN).in_later _ _).y)))
            | (go_at_call 47; exact Calls.later_of (sleqk_any p.ka p.kn p.kc q.ka q.kn q.kc m.ma n.ma _ Hq6 _ sk uk (((unhide HM).in_later _ _).k) (((unhide HN).in_later _ _).k)))) | quiet_step (fail))
          refine wpQuiet_nil ?_
          intro w9 b9
          have BL := hide ((unhide EA).bel.trans (b9.mono (unhide EA).bel.size))
          clear b9 l0 k0 l1 k1 l2 k2 l3 k3 l4 k4 l5 k5 l6 k6 l7 k7 l8 k8 l9 k9 la ka lb kb
          go_wp2
          go_ret
          exact ⟨rfl, unhide BL⟩
        · have Eq4 := Hq4
          cases q5
          · have Eq5 := Hq5
            have hQ : r = false := by rw [← hR]; simp [unhide Eq1, unhide Eq2, unhide Eq3, unhide Eq4, unhide Eq5]
            subst hQ
            clear hR
            have hrun : ∀ W, (Op.equalIn 10000 86 (.agg #[.int .i64 m.k, .int .i64 m.f, .int .i64 m.t, .int .i64 m.n, .int .i64 m.h]) (.agg #[.int .i64 n.k, .int .i64 n.f, .int .i64 n.t, .int .i64 n.n, .int .i64 n.h])).run Try.prog W = .ok true W := fun W => by rw [← unhide Eq1]; exact eqH_run _ _ _ _ _ _ _ _ _ _ W
            go_enter Try.func16, Try.ntmps16
            go_wp2_with fail
            rw [← hwA]
            clear hwA
            obtain ⟨c0, c1, c2, c3, c4, c5, c6, c7, c8, c9, ca, cb, -⟩ := msg_cells (unhide EA).k1
            obtain ⟨g0, g1, g2, g3, g4, g5, g6, g7, g8, g9, ga, gb, -⟩ := msg_cells (unhide EA).k2
            have l0 := later_some (w := wA) zA c0
            have l1 := later_some (w := wA) zA c1
            have l2 := later_some (w := wA) zA c2
            have l3 := later_some (w := wA) zA c3
            have l4 := later_some (w := wA) zA c4
            have l5 := later_some (w := wA) zA c5
            have l6 := later_some (w := wA) zA c6
            have l7 := later_some (w := wA) zA c7
            have l8 := later_some (w := wA) zA c8
            have l9 := later_some (w := wA) zA c9
            have la := later_some (w := wA) zA ca
            have lb := later_some (w := wA) zA cb
            have k0 := later_some (w := wA) zB g0
            have k1 := later_some (w := wA) zB g1
            have k2 := later_some (w := wA) zB g2
            have k3 := later_some (w := wA) zB g3
            have k4 := later_some (w := wA) zB g4
            have k5 := later_some (w := wA) zB g5
            have k6 := later_some (w := wA) zB g6
            have k7 := later_some (w := wA) zB g7
            have k8 := later_some (w := wA) zB g8
            have k9 := later_some (w := wA) zB g9
            have ka := later_some (w := wA) zB ga
            have kb := later_some (w := wA) zB gb
            clear c0 c1 c2 c3 c4 c5 c6 c7 c8 c9 ca cb g0 g1 g2 g3 g4 g5 g6 g7 g8 g9 ga gb
            refine wp_region_later (by kernel_rfl) (by kernel_rfl) ?_
            repeat (first | go_big_quiet_step (first
              | (go_at_call_of 43 (Value.agg #[.int .i64 m.k, .int .i64 m.f, .int .i64 m.t, .int .i64 m.n, .int .i64 m.h, .slice p.ta p.tn p.tc, .int .i64 m.tr, .slice p.va p.vn p.vc, .slice p.la p.ln p.lc, .slice p.xa p.xn p.xc, .slice p.ya p.yn p.yc, .slice p.ka p.kn p.kc]); exact Calls.later_of (headof_any m p _))
              | (go_at_call_of 43 (Value.agg #[.int .i64 n.k, .int .i64 n.f, .int .i64 n.t, .int .i64 n.n, .int .i64 n.h, .slice q.ta q.tn q.tc, .int .i64 n.tr, .slice q.va q.vn q.vc, .slice q.la q.ln q.lc, .slice q.xa q.xn q.xc, .slice q.ya q.yn q.yc, .slice q.ka q.kn q.kc]); exact Calls.later_of (headof_any n q _))
              | (go_at_call 44; exact Calls.later_of (treesame_any p.ta p.tn p.tc m.tl m.tr q.ta q.tn q.tc n.tl n.tr _ Hq2 _ st ut (((unhide HM).in_later _ _).t) (((unhide HN).in_later _ _).t)))
              | (go_at_call_of 45 (Value.slice p.va p.vn p.vc); exact Calls.later_of (sleqn_any p.va p.vn p.vc q.va q.vn q.vc m.ve n.ve _ Hq3 _ sv uv (((unhide HM).in_later _ _).v) (((unhide HN).in_later _ _).v)))
              | (go_at_call_of 45 (Value.slice p.la p.ln p.lc); exact Calls.later_of (sleqn_any p.la p.ln p.lc q.la q.ln q.lc m.le n.le _ Hq4 _ sl ul (((unhide HM).in_later _ _).l) (((unhide HN).in_later _ _).l)))
              | (go_at_call 46; exact Calls.later_of (isame_any p.xa p.xn p.xc m.its p.ya p.yn p.yc m.fls q.xa q.xn q.xc n.its q.ya q.yn q.yc n.fls _ Hq5 _ sx sy ux uy (((unhide HM).in_later _ _).x) (((unhide HM).in_later _ _).y) (((unhide HN).in_later _ _).x) (((unhide HN).in_later _ _).y)))
              | (go_at_call 47; exact Calls.later_of (sleqk_any p.ka p.kn p.kc q.ka q.kn q.kc m.ma n.ma _ Hq6 _ sk uk (((unhide HM).in_later _ _).k) (((unhide HN).in_later _ _).k)))) | quiet_step (fail))
            refine wpQuiet_nil ?_
            intro w9 b9
            have BL := hide ((unhide EA).bel.trans (b9.mono (unhide EA).bel.size))
            clear b9 l0 k0 l1 k1 l2 k2 l3 k3 l4 k4 l5 k5 l6 k6 l7 k7 l8 k8 l9 k9 la ka lb kb
            go_wp2
            go_ret
            exact ⟨rfl, unhide BL⟩
          · have Eq5 := Hq5
            cases q6
            · have Eq6 := Hq6
              have hQ : r = false := by rw [← hR]; simp [unhide Eq1, unhide Eq2, unhide Eq3, unhide Eq4, unhide Eq5, unhide Eq6]
              subst hQ
              clear hR
              have hrun : ∀ W, (Op.equalIn 10000 86 (.agg #[.int .i64 m.k, .int .i64 m.f, .int .i64 m.t, .int .i64 m.n, .int .i64 m.h]) (.agg #[.int .i64 n.k, .int .i64 n.f, .int .i64 n.t, .int .i64 n.n, .int .i64 n.h])).run Try.prog W = .ok true W := fun W => by rw [← unhide Eq1]; exact eqH_run _ _ _ _ _ _ _ _ _ _ W
              go_enter Try.func16, Try.ntmps16
              go_wp2_with fail
              rw [← hwA]
              clear hwA
              obtain ⟨c0, c1, c2, c3, c4, c5, c6, c7, c8, c9, ca, cb, -⟩ := msg_cells (unhide EA).k1
              obtain ⟨g0, g1, g2, g3, g4, g5, g6, g7, g8, g9, ga, gb, -⟩ := msg_cells (unhide EA).k2
              have l0 := later_some (w := wA) zA c0
              have l1 := later_some (w := wA) zA c1
              have l2 := later_some (w := wA) zA c2
              have l3 := later_some (w := wA) zA c3
              have l4 := later_some (w := wA) zA c4
              have l5 := later_some (w := wA) zA c5
              have l6 := later_some (w := wA) zA c6
              have l7 := later_some (w := wA) zA c7
              have l8 := later_some (w := wA) zA c8
              have l9 := later_some (w := wA) zA c9
              have la := later_some (w := wA) zA ca
              have lb := later_some (w := wA) zA cb
              have k0 := later_some (w := wA) zB g0
              have k1 := later_some (w := wA) zB g1
              have k2 := later_some (w := wA) zB g2
              have k3 := later_some (w := wA) zB g3
              have k4 := later_some (w := wA) zB g4
              have k5 := later_some (w := wA) zB g5
              have k6 := later_some (w := wA) zB g6
              have k7 := later_some (w := wA) zB g7
              have k8 := later_some (w := wA) zB g8
              have k9 := later_some (w := wA) zB g9
              have ka := later_some (w := wA) zB ga
              have kb := later_some (w := wA) zB gb
              clear c0 c1 c2 c3 c4 c5 c6 c7 c8 c9 ca cb g0 g1 g2 g3 g4 g5 g6 g7 g8 g9 ga gb
              refine wp_region_later (by kernel_rfl) (by kernel_rfl) ?_
              repeat (first | go_big_quiet_step (first
                | (go_at_call_of 43 (Value.agg #[.int .i64 m.k, .int .i64 m.f, .int .i64 m.t, .int .i64 m.n, .int .i64 m.h, .slice p.ta p.tn p.tc, .int .i64 m.tr, .slice p.va p.vn p.vc, .slice p.la p.ln p.lc, .slice p.xa p.xn p.xc, .slice p.ya p.yn p.yc, .slice p.ka p.kn p.kc]); exact Calls.later_of (headof_any m p _))
                | (go_at_call_of 43 (Value.agg #[.int .i64 n.k, .int .i64 n.f, .int .i64 n.t, .int .i64 n.n, .int .i64 n.h, .slice q.ta q.tn q.tc, .int .i64 n.tr, .slice q.va q.vn q.vc, .slice q.la q.ln q.lc, .slice q.xa q.xn q.xc, .slice q.ya q.yn q.yc, .slice q.ka q.kn q.kc]); exact Calls.later_of (headof_any n q _))
                | (go_at_call 44; exact Calls.later_of (treesame_any p.ta p.tn p.tc m.tl m.tr q.ta q.tn q.tc n.tl n.tr _ Hq2 _ st ut (((unhide HM).in_later _ _).t) (((unhide HN).in_later _ _).t)))
                | (go_at_call_of 45 (Value.slice p.va p.vn p.vc); exact Calls.later_of (sleqn_any p.va p.vn p.vc q.va q.vn q.vc m.ve n.ve _ Hq3 _ sv uv (((unhide HM).in_later _ _).v) (((unhide HN).in_later _ _).v)))
                | (go_at_call_of 45 (Value.slice p.la p.ln p.lc); exact Calls.later_of (sleqn_any p.la p.ln p.lc q.la q.ln q.lc m.le n.le _ Hq4 _ sl ul (((unhide HM).in_later _ _).l) (((unhide HN).in_later _ _).l)))
                | (go_at_call 46; exact Calls.later_of (isame_any p.xa p.xn p.xc m.its p.ya p.yn p.yc m.fls q.xa q.xn q.xc n.its q.ya q.yn q.yc n.fls _ Hq5 _ sx sy ux uy (((unhide HM).in_later _ _).x) (((unhide HM).in_later _ _).y) (((unhide HN).in_later _ _).x) (((unhide HN).in_later _ _).y)))
                | (go_at_call 47; exact Calls.later_of (sleqk_any p.ka p.kn p.kc q.ka q.kn q.kc m.ma n.ma _ Hq6 _ sk uk (((unhide HM).in_later _ _).k) (((unhide HN).in_later _ _).k)))) | quiet_step (fail))
              refine wpQuiet_nil ?_
              intro w9 b9
              have BL := hide ((unhide EA).bel.trans (b9.mono (unhide EA).bel.size))
              clear b9 l0 k0 l1 k1 l2 k2 l3 k3 l4 k4 l5 k5 l6 k6 l7 k7 l8 k8 l9 k9 la ka lb kb
              go_wp2
              go_ret
              exact ⟨rfl, unhide BL⟩
            · have Eq6 := Hq6
              have hQ : r = true := by rw [← hR]; simp [unhide Eq1, unhide Eq2, unhide Eq3, unhide Eq4, unhide Eq5, unhide Eq6]
              subst hQ
              clear hR
              have hrun : ∀ W, (Op.equalIn 10000 86 (.agg #[.int .i64 m.k, .int .i64 m.f, .int .i64 m.t, .int .i64 m.n, .int .i64 m.h]) (.agg #[.int .i64 n.k, .int .i64 n.f, .int .i64 n.t, .int .i64 n.n, .int .i64 n.h])).run Try.prog W = .ok true W := fun W => by rw [← unhide Eq1]; exact eqH_run _ _ _ _ _ _ _ _ _ _ W
              go_enter Try.func16, Try.ntmps16
              go_wp2_with fail
              rw [← hwA]
              clear hwA
              obtain ⟨c0, c1, c2, c3, c4, c5, c6, c7, c8, c9, ca, cb, -⟩ := msg_cells (unhide EA).k1
              obtain ⟨g0, g1, g2, g3, g4, g5, g6, g7, g8, g9, ga, gb, -⟩ := msg_cells (unhide EA).k2
              have l0 := later_some (w := wA) zA c0
              have l1 := later_some (w := wA) zA c1
              have l2 := later_some (w := wA) zA c2
              have l3 := later_some (w := wA) zA c3
              have l4 := later_some (w := wA) zA c4
              have l5 := later_some (w := wA) zA c5
              have l6 := later_some (w := wA) zA c6
              have l7 := later_some (w := wA) zA c7
              have l8 := later_some (w := wA) zA c8
              have l9 := later_some (w := wA) zA c9
              have la := later_some (w := wA) zA ca
              have lb := later_some (w := wA) zA cb
              have k0 := later_some (w := wA) zB g0
              have k1 := later_some (w := wA) zB g1
              have k2 := later_some (w := wA) zB g2
              have k3 := later_some (w := wA) zB g3
              have k4 := later_some (w := wA) zB g4
              have k5 := later_some (w := wA) zB g5
              have k6 := later_some (w := wA) zB g6
              have k7 := later_some (w := wA) zB g7
              have k8 := later_some (w := wA) zB g8
              have k9 := later_some (w := wA) zB g9
              have ka := later_some (w := wA) zB ga
              have kb := later_some (w := wA) zB gb
              clear c0 c1 c2 c3 c4 c5 c6 c7 c8 c9 ca cb g0 g1 g2 g3 g4 g5 g6 g7 g8 g9 ga gb
              refine wp_region_later (by kernel_rfl) (by kernel_rfl) ?_
              repeat (first | go_big_quiet_step (first
                | (go_at_call_of 43 (Value.agg #[.int .i64 m.k, .int .i64 m.f, .int .i64 m.t, .int .i64 m.n, .int .i64 m.h, .slice p.ta p.tn p.tc, .int .i64 m.tr, .slice p.va p.vn p.vc, .slice p.la p.ln p.lc, .slice p.xa p.xn p.xc, .slice p.ya p.yn p.yc, .slice p.ka p.kn p.kc]); exact Calls.later_of (headof_any m p _))
                | (go_at_call_of 43 (Value.agg #[.int .i64 n.k, .int .i64 n.f, .int .i64 n.t, .int .i64 n.n, .int .i64 n.h, .slice q.ta q.tn q.tc, .int .i64 n.tr, .slice q.va q.vn q.vc, .slice q.la q.ln q.lc, .slice q.xa q.xn q.xc, .slice q.ya q.yn q.yc, .slice q.ka q.kn q.kc]); exact Calls.later_of (headof_any n q _))
                | (go_at_call 44; exact Calls.later_of (treesame_any p.ta p.tn p.tc m.tl m.tr q.ta q.tn q.tc n.tl n.tr _ Hq2 _ st ut (((unhide HM).in_later _ _).t) (((unhide HN).in_later _ _).t)))
                | (go_at_call_of 45 (Value.slice p.va p.vn p.vc); exact Calls.later_of (sleqn_any p.va p.vn p.vc q.va q.vn q.vc m.ve n.ve _ Hq3 _ sv uv (((unhide HM).in_later _ _).v) (((unhide HN).in_later _ _).v)))
                | (go_at_call_of 45 (Value.slice p.la p.ln p.lc); exact Calls.later_of (sleqn_any p.la p.ln p.lc q.la q.ln q.lc m.le n.le _ Hq4 _ sl ul (((unhide HM).in_later _ _).l) (((unhide HN).in_later _ _).l)))
                | (go_at_call 46; exact Calls.later_of (isame_any p.xa p.xn p.xc m.its p.ya p.yn p.yc m.fls q.xa q.xn q.xc n.its q.ya q.yn q.yc n.fls _ Hq5 _ sx sy ux uy (((unhide HM).in_later _ _).x) (((unhide HM).in_later _ _).y) (((unhide HN).in_later _ _).x) (((unhide HN).in_later _ _).y)))
                | (go_at_call 47; exact Calls.later_of (sleqk_any p.ka p.kn p.kc q.ka q.kn q.kc m.ma n.ma _ Hq6 _ sk uk (((unhide HM).in_later _ _).k) (((unhide HN).in_later _ _).k)))) | quiet_step (fail))
              refine wpQuiet_nil ?_
              intro w9 b9
              have BL := hide ((unhide EA).bel.trans (b9.mono (unhide EA).bel.size))
              clear b9 l0 k0 l1 k1 l2 k2 l3 k3 l4 k4 l5 k5 l6 k6 l7 k7 l8 k8 l9 k9 la ka lb kb
              go_wp2
              go_ret
              exact ⟨rfl, unhide BL⟩
set_option maxHeartbeats 8000000 in
set_option maxRecDepth 100000 in
theorem smsgsame_any (m n : Mg) (p q : Mp) (r : Bool) (hr : Hid (smM m n = r)) (w : World) (hp : SzM p 140737488351232) (hq : SzM q 140737488351232) (hm : RwM w m p) (hn : RwM w n q) :
    Calls Try.prog 14 #[.agg #[.int .i64 m.k, .int .i64 m.f, .int .i64 m.t, .int .i64 m.n, .int .i64 m.h, .slice p.ta p.tn p.tc, .int .i64 m.tr, .slice p.va p.vn p.vc, .slice p.la p.ln p.lc, .slice p.xa p.xn p.xc, .slice p.ya p.yn p.yc, .slice p.ka p.kn p.kc], .agg #[.int .i64 n.k, .int .i64 n.f, .int .i64 n.t, .int .i64 n.n, .int .i64 n.h, .slice q.ta q.tn q.tc, .int .i64 n.tr, .slice q.va q.vn q.vc, .slice q.la q.ln q.lc, .slice q.xa q.xn q.xc, .slice q.ya q.yn q.yc, .slice q.ka q.kn q.kc]] w fun e w' => e = .returned (.bool r) ∧ Below w.heap.size w w' := by
  obtain ⟨wA, hwA⟩ : ∃ W, W = (w.alloc (.cells #[.int .i64 m.k, .int .i64 m.f, .int .i64 m.t, .int .i64 m.n, .int .i64 m.h, .slice p.ta p.tn p.tc, .int .i64 m.tr, .slice p.va p.vn p.vc, .slice p.la p.ln p.lc, .slice p.xa p.xn p.xc, .slice p.ya p.yn p.yc, .slice p.ka p.kn p.kc] 50)).alloc (.cells #[.int .i64 n.k, .int .i64 n.f, .int .i64 n.t, .int .i64 n.n, .int .i64 n.h, .slice q.ta q.tn q.tc, .int .i64 n.tr, .slice q.va q.vn q.vc, .slice q.la q.ln q.lc, .slice q.xa q.xn q.xc, .slice q.ya q.yn q.yc, .slice q.ka q.kn q.kc] 50) := ⟨_, rfl⟩
  have EA := hide (show Ev w wA #[.int .i64 m.k, .int .i64 m.f, .int .i64 m.t, .int .i64 m.n, .int .i64 m.h, .slice p.ta p.tn p.tc, .int .i64 m.tr, .slice p.va p.vn p.vc, .slice p.la p.ln p.lc, .slice p.xa p.xn p.xc, .slice p.ya p.yn p.yc, .slice p.ka p.kn p.kc] #[.int .i64 n.k, .int .i64 n.f, .int .i64 n.t, .int .i64 n.n, .int .i64 n.h, .slice q.ta q.tn q.tc, .int .i64 n.tr, .slice q.va q.vn q.vc, .slice q.la q.ln q.lc, .slice q.xa q.xn q.xc, .slice q.ya q.yn q.yc, .slice q.ka q.kn q.kc] 50 from by rw [hwA]; exact ev_new w _ _ _)
  have HM := hide (hm.later (unhide EA).bel)
  have HN := hide (hn.later (unhide EA).bel)
  have zB : w.heap.size + 1 < wA.heap.size := (Array.getElem?_eq_some_iff.1 (unhide EA).k2).1
  have zA : w.heap.size < wA.heap.size := by omega
  have st := hp.t
  have ut := hq.t
  have sv := hp.v
  have uv := hq.v
  have sl := hp.l
  have ul := hq.l
  have sx := hp.x
  have ux := hq.x
  have sy := hp.y
  have uy := hq.y
  have sk := hp.k
  have uk := hq.k
  obtain ⟨b1, Hb1⟩ : ∃ b, Hid ((m.k == n.k) = b) := ⟨_, hide rfl⟩
  obtain ⟨b2, Hb2⟩ : ∃ b, Hid ((m.f == n.f) = b) := ⟨_, hide rfl⟩
  obtain ⟨b3, Hb3⟩ : ∃ b, Hid ((m.t == n.t) = b) := ⟨_, hide rfl⟩
  obtain ⟨b4, Hb4⟩ : ∃ b, Hid ((m.n == n.n) = b) := ⟨_, hide rfl⟩
  obtain ⟨b5, Hb5⟩ : ∃ b, Hid ((m.h == n.h) = b) := ⟨_, hide rfl⟩
  obtain ⟨q1, Hq1⟩ : ∃ b, Hid ((decide (m.tl = n.tl)) = b) := ⟨_, hide rfl⟩
  obtain ⟨b6, Hb6⟩ : ∃ b, Hid ((m.tr == n.tr) = b) := ⟨_, hide rfl⟩
  obtain ⟨q3, Hq3⟩ : ∃ b, Hid ((decide (m.ve = n.ve)) = b) := ⟨_, hide rfl⟩
  obtain ⟨q4, Hq4⟩ : ∃ b, Hid ((decide (m.le = n.le)) = b) := ⟨_, hide rfl⟩
  obtain ⟨q5, Hq5⟩ : ∃ b, Hid ((decide (m.its = n.its) && decide (m.fls = n.fls)) = b) := ⟨_, hide rfl⟩
  obtain ⟨q6, Hq6⟩ : ∃ b, Hid ((decide (m.ma = n.ma)) = b) := ⟨_, hide rfl⟩
  have hR := unhide hr
  simp only [smM, hdS] at hR
  clear hm hn hr hp hq
  cases b1
  · have Eb1 := Hb1
    have hQ : r = false := by rw [← hR]; simp [unhide Eb1]
    subst hQ
    clear hR
    have Bb1 := unhide Eb1
    go_enter Try.func14, Try.ntmps14
    go_upto_region 1 with fail
    rw [← hwA]
    clear hwA
    obtain ⟨c0, c1, c2, c3, c4, c5, c6, c7, c8, c9, ca, cb, -⟩ := msg_cells (unhide EA).k1
    obtain ⟨g0, g1, g2, g3, g4, g5, g6, g7, g8, g9, ga, gb, -⟩ := msg_cells (unhide EA).k2
    have l0 := later_some (w := wA) zA c0
    have l1 := later_some (w := wA) zA c1
    have l2 := later_some (w := wA) zA c2
    have l3 := later_some (w := wA) zA c3
    have l4 := later_some (w := wA) zA c4
    have l5 := later_some (w := wA) zA c5
    have l6 := later_some (w := wA) zA c6
    have l7 := later_some (w := wA) zA c7
    have l8 := later_some (w := wA) zA c8
    have l9 := later_some (w := wA) zA c9
    have la := later_some (w := wA) zA ca
    have lb := later_some (w := wA) zA cb
    have k0 := later_some (w := wA) zB g0
    have k1 := later_some (w := wA) zB g1
    have k2 := later_some (w := wA) zB g2
    have k3 := later_some (w := wA) zB g3
    have k4 := later_some (w := wA) zB g4
    have k5 := later_some (w := wA) zB g5
    have k6 := later_some (w := wA) zB g6
    have k7 := later_some (w := wA) zB g7
    have k8 := later_some (w := wA) zB g8
    have k9 := later_some (w := wA) zB g9
    have ka := later_some (w := wA) zB ga
    have kb := later_some (w := wA) zB gb
    clear c0 c1 c2 c3 c4 c5 c6 c7 c8 c9 ca cb g0 g1 g2 g3 g4 g5 g6 g7 g8 g9 ga gb
    refine wp_region_plain ?_
    simp only [List.append]
    repeat (first | go_big_quiet_step (first
      | (go_at_call_of 36 (Value.slice p.ta p.tn p.tc); exact Calls.later_of (l1same_any p.ta p.tn p.tc q.ta q.tn q.tc m.tl n.tl _ Hq1 _ st ut (((unhide HM).in_later _ _).t) (((unhide HN).in_later _ _).t)))
      | (go_at_call_of 36 (Value.slice p.va p.vn p.vc); exact Calls.later_of (l1same_any p.va p.vn p.vc q.va q.vn q.vc m.ve n.ve _ Hq3 _ sv uv (((unhide HM).in_later _ _).v) (((unhide HN).in_later _ _).v)))
      | (go_at_call_of 36 (Value.slice p.la p.ln p.lc); exact Calls.later_of (l1same_any p.la p.ln p.lc q.la q.ln q.lc m.le n.le _ Hq4 _ sl ul (((unhide HM).in_later _ _).l) (((unhide HN).in_later _ _).l)))
      | (go_at_call 37; exact Calls.later_of (ssame_any p.xa p.xn p.xc m.its p.ya p.yn p.yc m.fls q.xa q.xn q.xc n.its q.ya q.yn q.yc n.fls _ Hq5 _ sx sy ux uy (((unhide HM).in_later _ _).x) (((unhide HM).in_later _ _).y) (((unhide HN).in_later _ _).x) (((unhide HN).in_later _ _).y)))
      | (go_at_call 38; exact Calls.later_of (l10marks_any p.ka p.kn p.kc q.ka q.kn q.kc m.ma n.ma _ Hq6 _ sk uk (((unhide HM).in_later _ _).k) (((unhide HN).in_later _ _).k)))) | quiet_step (fail))
    refine wpQuiet_nil ?_
    intro w9 b9
    have BL := hide ((unhide EA).bel.trans (b9.mono (unhide EA).bel.size))
    clear b9 l0 k0 l1 k1 l2 k2 l3 k3 l4 k4 l5 k5 l6 k6 l7 k7 l8 k8 l9 k9 la ka lb kb
    go_wp2
    go_ret
    exact ⟨rfl, unhide BL⟩
  · have Eb1 := Hb1
    cases b2
    · have Eb2 := Hb2
      have hQ : r = false := by rw [← hR]; simp [unhide Eb1, unhide Eb2]
      subst hQ
      clear hR
      have Bb1 := unhide Eb1
      have Bb2 := unhide Eb2
      go_enter Try.func14, Try.ntmps14
      go_upto_region 1 with fail
      rw [← hwA]
      clear hwA
      obtain ⟨c0, c1, c2, c3, c4, c5, c6, c7, c8, c9, ca, cb, -⟩ := msg_cells (unhide EA).k1
      obtain ⟨g0, g1, g2, g3, g4, g5, g6, g7, g8, g9, ga, gb, -⟩ := msg_cells (unhide EA).k2
      have l0 := later_some (w := wA) zA c0
      have l1 := later_some (w := wA) zA c1
      have l2 := later_some (w := wA) zA c2
      have l3 := later_some (w := wA) zA c3
      have l4 := later_some (w := wA) zA c4
      have l5 := later_some (w := wA) zA c5
      have l6 := later_some (w := wA) zA c6
      have l7 := later_some (w := wA) zA c7
      have l8 := later_some (w := wA) zA c8
      have l9 := later_some (w := wA) zA c9
      have la := later_some (w := wA) zA ca
      have lb := later_some (w := wA) zA cb
      have k0 := later_some (w := wA) zB g0
      have k1 := later_some (w := wA) zB g1
      have k2 := later_some (w := wA) zB g2
      have k3 := later_some (w := wA) zB g3
      have k4 := later_some (w := wA) zB g4
      have k5 := later_some (w := wA) zB g5
      have k6 := later_some (w := wA) zB g6
      have k7 := later_some (w := wA) zB g7
      have k8 := later_some (w := wA) zB g8
      have k9 := later_some (w := wA) zB g9
      have ka := later_some (w := wA) zB ga
      have kb := later_some (w := wA) zB gb
      clear c0 c1 c2 c3 c4 c5 c6 c7 c8 c9 ca cb g0 g1 g2 g3 g4 g5 g6 g7 g8 g9 ga gb
      refine wp_region_plain ?_
      simp only [List.append]
      repeat (first | go_big_quiet_step (first
        | (go_at_call_of 36 (Value.slice p.ta p.tn p.tc); exact Calls.later_of (l1same_any p.ta p.tn p.tc q.ta q.tn q.tc m.tl n.tl _ Hq1 _ st ut (((unhide HM).in_later _ _).t) (((unhide HN).in_later _ _).t)))
        | (go_at_call_of 36 (Value.slice p.va p.vn p.vc); exact Calls.later_of (l1same_any p.va p.vn p.vc q.va q.vn q.vc m.ve n.ve _ Hq3 _ sv uv (((unhide HM).in_later _ _).v) (((unhide HN).in_later _ _).v)))
        | (go_at_call_of 36 (Value.slice p.la p.ln p.lc); exact Calls.later_of (l1same_any p.la p.ln p.lc q.la q.ln q.lc m.le n.le _ Hq4 _ sl ul (((unhide HM).in_later _ _).l) (((unhide HN).in_later _ _).l)))
        | (go_at_call 37; exact Calls.later_of (ssame_any p.xa p.xn p.xc m.its p.ya p.yn p.yc m.fls q.xa q.xn q.xc n.its q.ya q.yn q.yc n.fls _ Hq5 _ sx sy ux uy (((unhide HM).in_later _ _).x) (((unhide HM).in_later _ _).y) (((unhide HN).in_later _ _).x) (((unhide HN).in_later _ _).y)))
        | (go_at_call 38; exact Calls.later_of (l10marks_any p.ka p.kn p.kc q.ka q.kn q.kc m.ma n.ma _ Hq6 _ sk uk (((unhide HM).in_later _ _).k) (((unhide HN).in_later _ _).k)))) | quiet_step (fail))
      refine wpQuiet_nil ?_
      intro w9 b9
      have BL := hide ((unhide EA).bel.trans (b9.mono (unhide EA).bel.size))
      clear b9 l0 k0 l1 k1 l2 k2 l3 k3 l4 k4 l5 k5 l6 k6 l7 k7 l8 k8 l9 k9 la ka lb kb
      go_wp2
      go_ret
      exact ⟨rfl, unhide BL⟩
    · have Eb2 := Hb2
      cases b3
      · have Eb3 := Hb3
        have hQ : r = false := by rw [← hR]; simp [unhide Eb1, unhide Eb2, unhide Eb3]
        subst hQ
        clear hR
        have Bb1 := unhide Eb1
        have Bb2 := unhide Eb2
        have Bb3 := unhide Eb3
        go_enter Try.func14, Try.ntmps14
        go_upto_region 1 with fail
        rw [← hwA]
        clear hwA
        obtain ⟨c0, c1, c2, c3, c4, c5, c6, c7, c8, c9, ca, cb, -⟩ := msg_cells (unhide EA).k1
        obtain ⟨g0, g1, g2, g3, g4, g5, g6, g7, g8, g9, ga, gb, -⟩ := msg_cells (unhide EA).k2
        have l0 := later_some (w := wA) zA c0
        have l1 := later_some (w := wA) zA c1
        have l2 := later_some (w := wA) zA c2
        have l3 := later_some (w := wA) zA c3
        have l4 := later_some (w := wA) zA c4
        have l5 := later_some (w := wA) zA c5
        have l6 := later_some (w := wA) zA c6
        have l7 := later_some (w := wA) zA c7
        have l8 := later_some (w := wA) zA c8
        have l9 := later_some (w := wA) zA c9
        have la := later_some (w := wA) zA ca
        have lb := later_some (w := wA) zA cb
        have k0 := later_some (w := wA) zB g0
        have k1 := later_some (w := wA) zB g1
        have k2 := later_some (w := wA) zB g2
        have k3 := later_some (w := wA) zB g3
        have k4 := later_some (w := wA) zB g4
        have k5 := later_some (w := wA) zB g5
        have k6 := later_some (w := wA) zB g6
        have k7 := later_some (w := wA) zB g7
        have k8 := later_some (w := wA) zB g8
        have k9 := later_some (w := wA) zB g9
        have ka := later_some (w := wA) zB ga
        have kb := later_some (w := wA) zB gb
        clear c0 c1 c2 c3 c4 c5 c6 c7 c8 c9 ca cb g0 g1 g2 g3 g4 g5 g6 g7 g8 g9 ga gb
        refine wp_region_plain ?_
        simp only [List.append]
        repeat (first | go_big_quiet_step (first
          | (go_at_call_of 36 (Value.slice p.ta p.tn p.tc); exact Calls.later_of (l1same_any p.ta p.tn p.tc q.ta q.tn q.tc m.tl n.tl _ Hq1 _ st ut (((unhide HM).in_later _ _).t) (((unhide HN).in_later _ _).t)))
          | (go_at_call_of 36 (Value.slice p.va p.vn p.vc); exact Calls.later_of (l1same_any p.va p.vn p.vc q.va q.vn q.vc m.ve n.ve _ Hq3 _ sv uv (((unhide HM).in_later _ _).v) (((unhide HN).in_later _ _).v)))
          | (go_at_call_of 36 (Value.slice p.la p.ln p.lc); exact Calls.later_of (l1same_any p.la p.ln p.lc q.la q.ln q.lc m.le n.le _ Hq4 _ sl ul (((unhide HM).in_later _ _).l) (((unhide HN).in_later _ _).l)))
          | (go_at_call 37; exact Calls.later_of (ssame_any p.xa p.xn p.xc m.its p.ya p.yn p.yc m.fls q.xa q.xn q.xc n.its q.ya q.yn q.yc n.fls _ Hq5 _ sx sy ux uy (((unhide HM).in_later _ _).x) (((unhide HM).in_later _ _).y) (((unhide HN).in_later _ _).x) (((unhide HN).in_later _ _).y)))
          | (go_at_call 38; exact Calls.later_of (l10marks_any p.ka p.kn p.kc q.ka q.kn q.kc m.ma n.ma _ Hq6 _ sk uk (((unhide HM).in_later _ _).k) (((unhide HN).in_later _ _).k)))) | quiet_step (fail))
        refine wpQuiet_nil ?_
        intro w9 b9
        have BL := hide ((unhide EA).bel.trans (b9.mono (unhide EA).bel.size))
        clear b9 l0 k0 l1 k1 l2 k2 l3 k3 l4 k4 l5 k5 l6 k6 l7 k7 l8 k8 l9 k9 la ka lb kb
        go_wp2
        go_ret
        exact ⟨rfl, unhide BL⟩
      · have Eb3 := Hb3
        cases b4
        · have Eb4 := Hb4
          have hQ : r = false := by rw [← hR]; simp [unhide Eb1, unhide Eb2, unhide Eb3, unhide Eb4]
          subst hQ
          clear hR
          have Bb1 := unhide Eb1
          have Bb2 := unhide Eb2
          have Bb3 := unhide Eb3
          have Bb4 := unhide Eb4
          go_enter Try.func14, Try.ntmps14
          go_upto_region 1 with fail
          rw [← hwA]
          clear hwA
          obtain ⟨c0, c1, c2, c3, c4, c5, c6, c7, c8, c9, ca, cb, -⟩ := msg_cells (unhide EA).k1
          obtain ⟨g0, g1, g2, g3, g4, g5, g6, g7, g8, g9, ga, gb, -⟩ := msg_cells (unhide EA).k2
          have l0 := later_some (w := wA) zA c0
          have l1 := later_some (w := wA) zA c1
          have l2 := later_some (w := wA) zA c2
          have l3 := later_some (w := wA) zA c3
          have l4 := later_some (w := wA) zA c4
          have l5 := later_some (w := wA) zA c5
          have l6 := later_some (w := wA) zA c6
          have l7 := later_some (w := wA) zA c7
          have l8 := later_some (w := wA) zA c8
          have l9 := later_some (w := wA) zA c9
          have la := later_some (w := wA) zA ca
          have lb := later_some (w := wA) zA cb
          have k0 := later_some (w := wA) zB g0
          have k1 := later_some (w := wA) zB g1
          have k2 := later_some (w := wA) zB g2
          have k3 := later_some (w := wA) zB g3
          have k4 := later_some (w := wA) zB g4
          have k5 := later_some (w := wA) zB g5
          have k6 := later_some (w := wA) zB g6
          have k7 := later_some (w := wA) zB g7
          have k8 := later_some (w := wA) zB g8
          have k9 := later_some (w := wA) zB g9
          have ka := later_some (w := wA) zB ga
          have kb := later_some (w := wA) zB gb
          clear c0 c1 c2 c3 c4 c5 c6 c7 c8 c9 ca cb g0 g1 g2 g3 g4 g5 g6 g7 g8 g9 ga gb
          refine wp_region_plain ?_
          simp only [List.append]
          repeat (first | go_big_quiet_step (first
            | (go_at_call_of 36 (Value.slice p.ta p.tn p.tc); exact Calls.later_of (l1same_any p.ta p.tn p.tc q.ta q.tn q.tc m.tl n.tl _ Hq1 _ st ut (((unhide HM).in_later _ _).t) (((unhide HN).in_later _ _).t)))
            | (go_at_call_of 36 (Value.slice p.va p.vn p.vc); exact Calls.later_of (l1same_any p.va p.vn p.vc q.va q.vn q.vc m.ve n.ve _ Hq3 _ sv uv (((unhide HM).in_later _ _).v) (((unhide HN).in_later _ _).v)))
            | (go_at_call_of 36 (Value.slice p.la p.ln p.lc); exact Calls.later_of (l1same_any p.la p.ln p.lc q.la q.ln q.lc m.le n.le _ Hq4 _ sl ul (((unhide HM).in_later _ _).l) (((unhide HN).in_later _ _).l)))
            | (go_at_call 37; exact Calls.later_of (ssame_any p.xa p.xn p.xc m.its p.ya p.yn p.yc m.fls q.xa q.xn q.xc n.its q.ya q.yn q.yc n.fls _ Hq5 _ sx sy ux uy (((unhide HM).in_later _ _).x) (((unhide HM).in_later _ _).y) (((unhide HN).in_later _ _).x) (((unhide HN).in_later _ _).y)))
            | (go_at_call 38; exact Calls.later_of (l10marks_any p.ka p.kn p.kc q.ka q.kn q.kc m.ma n.ma _ Hq6 _ sk uk (((unhide HM).in_later _ _).k) (((unhide HN).in_later _ _).k)))) | quiet_step (fail))
          refine wpQuiet_nil ?_
          intro w9 b9
          have BL := hide ((unhide EA).bel.trans (b9.mono (unhide EA).bel.size))
          clear b9 l0 k0 l1 k1 l2 k2 l3 k3 l4 k4 l5 k5 l6 k6 l7 k7 l8 k8 l9 k9 la ka lb kb
          go_wp2
          go_ret
          exact ⟨rfl, unhide BL⟩
        · have Eb4 := Hb4
          cases b5
          · have Eb5 := Hb5
            have hQ : r = false := by rw [← hR]; simp [unhide Eb1, unhide Eb2, unhide Eb3, unhide Eb4, unhide Eb5]
            subst hQ
            clear hR
            have Bb1 := unhide Eb1
            have Bb2 := unhide Eb2
            have Bb3 := unhide Eb3
            have Bb4 := unhide Eb4
            have Bb5 := unhide Eb5
            go_enter Try.func14, Try.ntmps14
            go_upto_region 1 with fail
            rw [← hwA]
            clear hwA
            obtain ⟨c0, c1, c2, c3, c4, c5, c6, c7, c8, c9, ca, cb, -⟩ := msg_cells (unhide EA).k1
            obtain ⟨g0, g1, g2, g3, g4, g5, g6, g7, g8, g9, ga, gb, -⟩ := msg_cells (unhide EA).k2
            have l0 := later_some (w := wA) zA c0
            have l1 := later_some (w := wA) zA c1
            have l2 := later_some (w := wA) zA c2
            have l3 := later_some (w := wA) zA c3
            have l4 := later_some (w := wA) zA c4
            have l5 := later_some (w := wA) zA c5
            have l6 := later_some (w := wA) zA c6
            have l7 := later_some (w := wA) zA c7
            have l8 := later_some (w := wA) zA c8
            have l9 := later_some (w := wA) zA c9
            have la := later_some (w := wA) zA ca
            have lb := later_some (w := wA) zA cb
            have k0 := later_some (w := wA) zB g0
            have k1 := later_some (w := wA) zB g1
            have k2 := later_some (w := wA) zB g2
            have k3 := later_some (w := wA) zB g3
            have k4 := later_some (w := wA) zB g4
            have k5 := later_some (w := wA) zB g5
            have k6 := later_some (w := wA) zB g6
            have k7 := later_some (w := wA) zB g7
            have k8 := later_some (w := wA) zB g8
            have k9 := later_some (w := wA) zB g9
            have ka := later_some (w := wA) zB ga
            have kb := later_some (w := wA) zB gb
            clear c0 c1 c2 c3 c4 c5 c6 c7 c8 c9 ca cb g0 g1 g2 g3 g4 g5 g6 g7 g8 g9 ga gb
            refine wp_region_plain ?_
            simp only [List.append]
            repeat (first | go_big_quiet_step (first
              | (go_at_call_of 36 (Value.slice p.ta p.tn p.tc); exact Calls.later_of (l1same_any p.ta p.tn p.tc q.ta q.tn q.tc m.tl n.tl _ Hq1 _ st ut (((unhide HM).in_later _ _).t) (((unhide HN).in_later _ _).t)))
              | (go_at_call_of 36 (Value.slice p.va p.vn p.vc); exact Calls.later_of (l1same_any p.va p.vn p.vc q.va q.vn q.vc m.ve n.ve _ Hq3 _ sv uv (((unhide HM).in_later _ _).v) (((unhide HN).in_later _ _).v)))
              | (go_at_call_of 36 (Value.slice p.la p.ln p.lc); exact Calls.later_of (l1same_any p.la p.ln p.lc q.la q.ln q.lc m.le n.le _ Hq4 _ sl ul (((unhide HM).in_later _ _).l) (((unhide HN).in_later _ _).l)))
              | (go_at_call 37; exact Calls.later_of (ssame_any p.xa p.xn p.xc m.its p.ya p.yn p.yc m.fls q.xa q.xn q.xc n.its q.ya q.yn q.yc n.fls _ Hq5 _ sx sy ux uy (((unhide HM).in_later _ _).x) (((unhide HM).in_later _ _).y) (((unhide HN).in_later _ _).x) (((unhide HN).in_later _ _).y)))
              | (go_at_call 38; exact Calls.later_of (l10marks_any p.ka p.kn p.kc q.ka q.kn q.kc m.ma n.ma _ Hq6 _ sk uk (((unhide HM).in_later _ _).k) (((unhide HN).in_later _ _).k)))) | quiet_step (fail))
            refine wpQuiet_nil ?_
            intro w9 b9
            have BL := hide ((unhide EA).bel.trans (b9.mono (unhide EA).bel.size))
            clear b9 l0 k0 l1 k1 l2 k2 l3 k3 l4 k4 l5 k5 l6 k6 l7 k7 l8 k8 l9 k9 la ka lb kb
            go_wp2
            go_ret
            exact ⟨rfl, unhide BL⟩
          · have Eb5 := Hb5
            cases q1
            · have Eq1 := Hq1
              have hQ : r = false := by rw [← hR]; simp [unhide Eb1, unhide Eb2, unhide Eb3, unhide Eb4, unhide Eb5, unhide Eq1]
              subst hQ
              clear hR
              have Bb1 := unhide Eb1
              have Bb2 := unhide Eb2
              have Bb3 := unhide Eb3
              have Bb4 := unhide Eb4
              have Bb5 := unhide Eb5
              go_enter Try.func14, Try.ntmps14
              go_upto_region 1 with fail
              rw [← hwA]
              clear hwA
              obtain ⟨c0, c1, c2, c3, c4, c5, c6, c7, c8, c9, ca, cb, -⟩ := msg_cells (unhide EA).k1
              obtain ⟨g0, g1, g2, g3, g4, g5, g6, g7, g8, g9, ga, gb, -⟩ := msg_cells (unhide EA).k2
              have l0 := later_some (w := wA) zA c0
              have l1 := later_some (w := wA) zA c1
              have l2 := later_some (w := wA) zA c2
              have l3 := later_some (w := wA) zA c3
              have l4 := later_some (w := wA) zA c4
              have l5 := later_some (w := wA) zA c5
              have l6 := later_some (w := wA) zA c6
              have l7 := later_some (w := wA) zA c7
              have l8 := later_some (w := wA) zA c8
              have l9 := later_some (w := wA) zA c9
              have la := later_some (w := wA) zA ca
              have lb := later_some (w := wA) zA cb
              have k0 := later_some (w := wA) zB g0
              have k1 := later_some (w := wA) zB g1
              have k2 := later_some (w := wA) zB g2
              have k3 := later_some (w := wA) zB g3
              have k4 := later_some (w := wA) zB g4
              have k5 := later_some (w := wA) zB g5
              have k6 := later_some (w := wA) zB g6
              have k7 := later_some (w := wA) zB g7
              have k8 := later_some (w := wA) zB g8
              have k9 := later_some (w := wA) zB g9
              have ka := later_some (w := wA) zB ga
              have kb := later_some (w := wA) zB gb
              clear c0 c1 c2 c3 c4 c5 c6 c7 c8 c9 ca cb g0 g1 g2 g3 g4 g5 g6 g7 g8 g9 ga gb
              refine wp_region_plain ?_
              simp only [List.append]
              repeat (first | go_big_quiet_step (first
                | (go_at_call_of 36 (Value.slice p.ta p.tn p.tc); exact Calls.later_of (l1same_any p.ta p.tn p.tc q.ta q.tn q.tc m.tl n.tl _ Hq1 _ st ut (((unhide HM).in_later _ _).t) (((unhide HN).in_later _ _).t)))
                | (go_at_call_of 36 (Value.slice p.va p.vn p.vc); exact Calls.later_of (l1same_any p.va p.vn p.vc q.va q.vn q.vc m.ve n.ve _ Hq3 _ sv uv (((unhide HM).in_later _ _).v) (((unhide HN).in_later _ _).v)))
                | (go_at_call_of 36 (Value.slice p.la p.ln p.lc); exact Calls.later_of (l1same_any p.la p.ln p.lc q.la q.ln q.lc m.le n.le _ Hq4 _ sl ul (((unhide HM).in_later _ _).l) (((unhide HN).in_later _ _).l)))
                | (go_at_call 37; exact Calls.later_of (ssame_any p.xa p.xn p.xc m.its p.ya p.yn p.yc m.fls q.xa q.xn q.xc n.its q.ya q.yn q.yc n.fls _ Hq5 _ sx sy ux uy (((unhide HM).in_later _ _).x) (((unhide HM).in_later _ _).y) (((unhide HN).in_later _ _).x) (((unhide HN).in_later _ _).y)))
                | (go_at_call 38; exact Calls.later_of (l10marks_any p.ka p.kn p.kc q.ka q.kn q.kc m.ma n.ma _ Hq6 _ sk uk (((unhide HM).in_later _ _).k) (((unhide HN).in_later _ _).k)))) | quiet_step (fail))
              refine wpQuiet_nil ?_
              intro w9 b9
              have BL := hide ((unhide EA).bel.trans (b9.mono (unhide EA).bel.size))
              clear b9 l0 k0 l1 k1 l2 k2 l3 k3 l4 k4 l5 k5 l6 k6 l7 k7 l8 k8 l9 k9 la ka lb kb
              go_wp2
              go_ret
              exact ⟨rfl, unhide BL⟩
            · have Eq1 := Hq1
              cases b6
              · have Eb6 := Hb6
                have hQ : r = false := by rw [← hR]; simp [unhide Eb1, unhide Eb2, unhide Eb3, unhide Eb4, unhide Eb5, unhide Eq1, unhide Eb6]
                subst hQ
                clear hR
                have Bb1 := unhide Eb1
                have Bb2 := unhide Eb2
                have Bb3 := unhide Eb3
                have Bb4 := unhide Eb4
                have Bb5 := unhide Eb5
                have Bb6 := unhide Eb6
                go_enter Try.func14, Try.ntmps14
                go_upto_region 1 with fail
                rw [← hwA]
                clear hwA
                obtain ⟨c0, c1, c2, c3, c4, c5, c6, c7, c8, c9, ca, cb, -⟩ := msg_cells (unhide EA).k1
                obtain ⟨g0, g1, g2, g3, g4, g5, g6, g7, g8, g9, ga, gb, -⟩ := msg_cells (unhide EA).k2
                have l0 := later_some (w := wA) zA c0
                have l1 := later_some (w := wA) zA c1
                have l2 := later_some (w := wA) zA c2
                have l3 := later_some (w := wA) zA c3
                have l4 := later_some (w := wA) zA c4
                have l5 := later_some (w := wA) zA c5
                have l6 := later_some (w := wA) zA c6
                have l7 := later_some (w := wA) zA c7
                have l8 := later_some (w := wA) zA c8
                have l9 := later_some (w := wA) zA c9
                have la := later_some (w := wA) zA ca
                have lb := later_some (w := wA) zA cb
                have k0 := later_some (w := wA) zB g0
                have k1 := later_some (w := wA) zB g1
                have k2 := later_some (w := wA) zB g2
                have k3 := later_some (w := wA) zB g3
                have k4 := later_some (w := wA) zB g4
                have k5 := later_some (w := wA) zB g5
                have k6 := later_some (w := wA) zB g6
                have k7 := later_some (w := wA) zB g7
                have k8 := later_some (w := wA) zB g8
                have k9 := later_some (w := wA) zB g9
                have ka := later_some (w := wA) zB ga
                have kb := later_some (w := wA) zB gb
                clear c0 c1 c2 c3 c4 c5 c6 c7 c8 c9 ca cb g0 g1 g2 g3 g4 g5 g6 g7 g8 g9 ga gb
                refine wp_region_plain ?_
                simp only [List.append]
                repeat (first | go_big_quiet_step (first
                  | (go_at_call_of 36 (Value.slice p.ta p.tn p.tc); exact Calls.later_of (l1same_any p.ta p.tn p.tc q.ta q.tn q.tc m.tl n.tl _ Hq1 _ st ut (((unhide HM).in_later _ _).t) (((unhide HN).in_later _ _).t)))
                  | (go_at_call_of 36 (Value.slice p.va p.vn p.vc); exact Calls.later_of (l1same_any p.va p.vn p.vc q.va q.vn q.vc m.ve n.ve _ Hq3 _ sv uv (((unhide HM).in_later _ _).v) (((unhide HN).in_later _ _).v)))
                  | (go_at_call_of 36 (Value.slice p.la p.ln p.lc); exact Calls.later_of (l1same_any p.la p.ln p.lc q.la q.ln q.lc m.le n.le _ Hq4 _ sl ul (((unhide HM).in_later _ _).l) (((unhide HN).in_later _ _).l)))
                  | (go_at_call 37; exact Calls.later_of (ssame_any p.xa p.xn p.xc m.its p.ya p.yn p.yc m.fls q.xa q.xn q.xc n.its q.ya q.yn q.yc n.fls _ Hq5 _ sx sy ux uy (((unhide HM).in_later _ _).x) (((unhide HM).in_later _ _).y) (((unhide HN).in_later _ _).x) (((unhide HN).in_later _ _).y)))
                  | (go_at_call 38; exact Calls.later_of (l10marks_any p.ka p.kn p.kc q.ka q.kn q.kc m.ma n.ma _ Hq6 _ sk uk (((unhide HM).in_later _ _).k) (((unhide HN).in_later _ _).k)))) | quiet_step (fail))
                refine wpQuiet_nil ?_
                intro w9 b9
                have BL := hide ((unhide EA).bel.trans (b9.mono (unhide EA).bel.size))
                clear b9 l0 k0 l1 k1 l2 k2 l3 k3 l4 k4 l5 k5 l6 k6 l7 k7 l8 k8 l9 k9 la ka lb kb
                go_wp2
                go_ret
                exact ⟨rfl, unhide BL⟩
              · have Eb6 := Hb6
                cases q3
                · have Eq3 := Hq3
                  have hQ : r = false := by rw [← hR]; simp [unhide Eb1, unhide Eb2, unhide Eb3, unhide Eb4, unhide Eb5, unhide Eq1, unhide Eb6, unhide Eq3]
                  subst hQ
                  clear hR
                  have Bb1 := unhide Eb1
                  have Bb2 := unhide Eb2
                  have Bb3 := unhide Eb3
                  have Bb4 := unhide Eb4
                  have Bb5 := unhide Eb5
                  have Bb6 := unhide Eb6
                  go_enter Try.func14, Try.ntmps14
                  go_upto_region 1 with fail
                  rw [← hwA]
                  clear hwA
                  obtain ⟨c0, c1, c2, c3, c4, c5, c6, c7, c8, c9, ca, cb, -⟩ := msg_cells (unhide EA).k1
                  obtain ⟨g0, g1, g2, g3, g4, g5, g6, g7, g8, g9, ga, gb, -⟩ := msg_cells (unhide EA).k2
                  have l0 := later_some (w := wA) zA c0
                  have l1 := later_some (w := wA) zA c1
                  have l2 := later_some (w := wA) zA c2
                  have l3 := later_some (w := wA) zA c3
                  have l4 := later_some (w := wA) zA c4
                  have l5 := later_some (w := wA) zA c5
                  have l6 := later_some (w := wA) zA c6
                  have l7 := later_some (w := wA) zA c7
                  have l8 := later_some (w := wA) zA c8
                  have l9 := later_some (w := wA) zA c9
                  have la := later_some (w := wA) zA ca
                  have lb := later_some (w := wA) zA cb
                  have k0 := later_some (w := wA) zB g0
                  have k1 := later_some (w := wA) zB g1
                  have k2 := later_some (w := wA) zB g2
                  have k3 := later_some (w := wA) zB g3
                  have k4 := later_some (w := wA) zB g4
                  have k5 := later_some (w := wA) zB g5
                  have k6 := later_some (w := wA) zB g6
                  have k7 := later_some (w := wA) zB g7
                  have k8 := later_some (w := wA) zB g8
                  have k9 := later_some (w := wA) zB g9
                  have ka := later_some (w := wA) zB ga
                  have kb := later_some (w := wA) zB gb
                  clear c0 c1 c2 c3 c4 c5 c6 c7 c8 c9 ca cb g0 g1 g2 g3 g4 g5 g6 g7 g8 g9 ga gb
                  refine wp_region_plain ?_
                  simp only [List.append]
                  repeat (first | go_big_quiet_step (first
                    | (go_at_call_of 36 (Value.slice p.ta p.tn p.tc); exact Calls.later_of (l1same_any p.ta p.tn p.tc q.ta q.tn q.tc m.tl n.tl _ Hq1 _ st ut (((unhide HM).in_later _ _).t) (((unhide HN).in_later _ _).t)))
                    | (go_at_call_of 36 (Value.slice p.va p.vn p.vc); exact Calls.later_of (l1same_any p.va p.vn p.vc q.va q.vn q.vc m.ve n.ve _ Hq3 _ sv uv (((unhide HM).in_later _ _).v) (((unhide HN).in_later _ _).v)))
                    | (go_at_call_of 36 (Value.slice p.la p.ln p.lc); exact Calls.later_of (l1same_any p.la p.ln p.lc q.la q.ln q.lc m.le n.le _ Hq4 _ sl ul (((unhide HM).in_later _ _).l) (((unhide HN).in_later _ _).l)))
                    | (go_at_call 37; exact Calls.later_of (ssame_any p.xa p.xn p.xc m.its p.ya p.yn p.yc m.fls q.xa q.xn q.xc n.its q.ya q.yn q.yc n.fls _ Hq5 _ sx sy ux uy (((unhide HM).in_later _ _).x) (((unhide HM).in_later _ _).y) (((unhide HN).in_later _ _).x) (((unhide HN).in_later _ _).y)))
                    | (go_at_call 38; exact Calls.later_of (l10marks_any p.ka p.kn p.kc q.ka q.kn q.kc m.ma n.ma _ Hq6 _ sk uk (((unhide HM).in_later _ _).k) (((unhide HN).in_later _ _).k)))) | quiet_step (fail))
                  refine wpQuiet_nil ?_
                  intro w9 b9
                  have BL := hide ((unhide EA).bel.trans (b9.mono (unhide EA).bel.size))
                  clear b9 l0 k0 l1 k1 l2 k2 l3 k3 l4 k4 l5 k5 l6 k6 l7 k7 l8 k8 l9 k9 la ka lb kb
                  go_wp2
                  go_ret
                  exact ⟨rfl, unhide BL⟩
                · have Eq3 := Hq3
                  cases q4
                  · have Eq4 := Hq4
                    have hQ : r = false := by rw [← hR]; simp [unhide Eb1, unhide Eb2, unhide Eb3, unhide Eb4, unhide Eb5, unhide Eq1, unhide Eb6, unhide Eq3, unhide Eq4]
                    subst hQ
                    clear hR
                    have Bb1 := unhide Eb1
                    have Bb2 := unhide Eb2
                    have Bb3 := unhide Eb3
                    have Bb4 := unhide Eb4
                    have Bb5 := unhide Eb5
                    have Bb6 := unhide Eb6
                    go_enter Try.func14, Try.ntmps14
                    go_upto_region 1 with fail
                    rw [← hwA]
                    clear hwA
                    obtain ⟨c0, c1, c2, c3, c4, c5, c6, c7, c8, c9, ca, cb, -⟩ := msg_cells (unhide EA).k1
                    obtain ⟨g0, g1, g2, g3, g4, g5, g6, g7, g8, g9, ga, gb, -⟩ := msg_cells (unhide EA).k2
                    have l0 := later_some (w := wA) zA c0
                    have l1 := later_some (w := wA) zA c1
                    have l2 := later_some (w := wA) zA c2
                    have l3 := later_some (w := wA) zA c3
                    have l4 := later_some (w := wA) zA c4
                    have l5 := later_some (w := wA) zA c5
                    have l6 := later_some (w := wA) zA c6
                    have l7 := later_some (w := wA) zA c7
                    have l8 := later_some (w := wA) zA c8
                    have l9 := later_some (w := wA) zA c9
                    have la := later_some (w := wA) zA ca
                    have lb := later_some (w := wA) zA cb
                    have k0 := later_some (w := wA) zB g0
                    have k1 := later_some (w := wA) zB g1
                    have k2 := later_some (w := wA) zB g2
                    have k3 := later_some (w := wA) zB g3
                    have k4 := later_some (w := wA) zB g4
                    have k5 := later_some (w := wA) zB g5
                    have k6 := later_some (w := wA) zB g6
                    have k7 := later_some (w := wA) zB g7
                    have k8 := later_some (w := wA) zB g8
                    have k9 := later_some (w := wA) zB g9
                    have ka := later_some (w := wA) zB ga
                    have kb := later_some (w := wA) zB gb
                    clear c0 c1 c2 c3 c4 c5 c6 c7 c8 c9 ca cb g0 g1 g2 g3 g4 g5 g6 g7 g8 g9 ga gb
                    refine wp_region_plain ?_
                    simp only [List.append]
                    repeat (first | go_big_quiet_step (first
                      | (go_at_call_of 36 (Value.slice p.ta p.tn p.tc); exact Calls.later_of (l1same_any p.ta p.tn p.tc q.ta q.tn q.tc m.tl n.tl _ Hq1 _ st ut (((unhide HM).in_later _ _).t) (((unhide HN).in_later _ _).t)))
                      | (go_at_call_of 36 (Value.slice p.va p.vn p.vc); exact Calls.later_of (l1same_any p.va p.vn p.vc q.va q.vn q.vc m.ve n.ve _ Hq3 _ sv uv (((unhide HM).in_later _ _).v) (((unhide HN).in_later _ _).v)))
                      | (go_at_call_of 36 (Value.slice p.la p.ln p.lc); exact Calls.later_of (l1same_any p.la p.ln p.lc q.la q.ln q.lc m.le n.le _ Hq4 _ sl ul (((unhide HM).in_later _ _).l) (((unhide HN).in_later _ _).l)))
                      | (go_at_call 37; exact Calls.later_of (ssame_any p.xa p.xn p.xc m.its p.ya p.yn p.yc m.fls q.xa q.xn q.xc n.its q.ya q.yn q.yc n.fls _ Hq5 _ sx sy ux uy (((unhide HM).in_later _ _).x) (((unhide HM).in_later _ _).y) (((unhide HN).in_later _ _).x) (((unhide HN).in_later _ _).y)))
                      | (go_at_call 38; exact Calls.later_of (l10marks_any p.ka p.kn p.kc q.ka q.kn q.kc m.ma n.ma _ Hq6 _ sk uk (((unhide HM).in_later _ _).k) (((unhide HN).in_later _ _).k)))) | quiet_step (fail))
                    refine wpQuiet_nil ?_
                    intro w9 b9
                    have BL := hide ((unhide EA).bel.trans (b9.mono (unhide EA).bel.size))
                    clear b9 l0 k0 l1 k1 l2 k2 l3 k3 l4 k4 l5 k5 l6 k6 l7 k7 l8 k8 l9 k9 la ka lb kb
                    go_wp2
                    go_ret
                    exact ⟨rfl, unhide BL⟩
                  · have Eq4 := Hq4
                    cases q5
                    · have Eq5 := Hq5
                      have hQ : r = false := by rw [← hR]; simp [unhide Eb1, unhide Eb2, unhide Eb3, unhide Eb4, unhide Eb5, unhide Eq1, unhide Eb6, unhide Eq3, unhide Eq4, unhide Eq5]
                      subst hQ
                      clear hR
                      have Bb1 := unhide Eb1
                      have Bb2 := unhide Eb2
                      have Bb3 := unhide Eb3
                      have Bb4 := unhide Eb4
                      have Bb5 := unhide Eb5
                      have Bb6 := unhide Eb6
                      go_enter Try.func14, Try.ntmps14
                      go_upto_region 1 with fail
                      rw [← hwA]
                      clear hwA
                      obtain ⟨c0, c1, c2, c3, c4, c5, c6, c7, c8, c9, ca, cb, -⟩ := msg_cells (unhide EA).k1
                      obtain ⟨g0, g1, g2, g3, g4, g5, g6, g7, g8, g9, ga, gb, -⟩ := msg_cells (unhide EA).k2
                      have l0 := later_some (w := wA) zA c0
                      have l1 := later_some (w := wA) zA c1
                      have l2 := later_some (w := wA) zA c2
                      have l3 := later_some (w := wA) zA c3
                      have l4 := later_some (w := wA) zA c4
                      have l5 := later_some (w := wA) zA c5
                      have l6 := later_some (w := wA) zA c6
                      have l7 := later_some (w := wA) zA c7
                      have l8 := later_some (w := wA) zA c8
                      have l9 := later_some (w := wA) zA c9
                      have la := later_some (w := wA) zA ca
                      have lb := later_some (w := wA) zA cb
                      have k0 := later_some (w := wA) zB g0
                      have k1 := later_some (w := wA) zB g1
                      have k2 := later_some (w := wA) zB g2
                      have k3 := later_some (w := wA) zB g3
                      have k4 := later_some (w := wA) zB g4
                      have k5 := later_some (w := wA) zB g5
                      have k6 := later_some (w := wA) zB g6
                      have k7 := later_some (w := wA) zB g7
                      have k8 := later_some (w := wA) zB g8
                      have k9 := later_some (w := wA) zB g9
                      have ka := later_some (w := wA) zB ga
                      have kb := later_some (w := wA) zB gb
                      clear c0 c1 c2 c3 c4 c5 c6 c7 c8 c9 ca cb g0 g1 g2 g3 g4 g5 g6 g7 g8 g9 ga gb
                      refine wp_region_plain ?_
                      simp only [List.append]
                      repeat (first | go_big_quiet_step (first
                        | (go_at_call_of 36 (Value.slice p.ta p.tn p.tc); exact Calls.later_of (l1same_any p.ta p.tn p.tc q.ta q.tn q.tc m.tl n.tl _ Hq1 _ st ut (((unhide HM).in_later _ _).t) (((unhide HN).in_later _ _).t)))
                        | (go_at_call_of 36 (Value.slice p.va p.vn p.vc); exact Calls.later_of (l1same_any p.va p.vn p.vc q.va q.vn q.vc m.ve n.ve _ Hq3 _ sv uv (((unhide HM).in_later _ _).v) (((unhide HN).in_later _ _).v)))
                        | (go_at_call_of 36 (Value.slice p.la p.ln p.lc); exact Calls.later_of (l1same_any p.la p.ln p.lc q.la q.ln q.lc m.le n.le _ Hq4 _ sl ul (((unhide HM).in_later _ _).l) (((unhide HN).in_later _ _).l)))
                        | (go_at_call 37; exact Calls.later_of (ssame_any p.xa p.xn p.xc m.its p.ya p.yn p.yc m.fls q.xa q.xn q.xc n.its q.ya q.yn q.yc n.fls _ Hq5 _ sx sy ux uy (((unhide HM).in_later _ _).x) (((unhide HM).in_later _ _).y) (((unhide HN).in_later _ _).x) (((unhide HN).in_later _ _).y)))
                        | (go_at_call 38; exact Calls.later_of (l10marks_any p.ka p.kn p.kc q.ka q.kn q.kc m.ma n.ma _ Hq6 _ sk uk (((unhide HM).in_later _ _).k) (((unhide HN).in_later _ _).k)))) | quiet_step (fail))
                      refine wpQuiet_nil ?_
                      intro w9 b9
                      have BL := hide ((unhide EA).bel.trans (b9.mono (unhide EA).bel.size))
                      clear b9 l0 k0 l1 k1 l2 k2 l3 k3 l4 k4 l5 k5 l6 k6 l7 k7 l8 k8 l9 k9 la ka lb kb
                      go_wp2
                      go_ret
                      exact ⟨rfl, unhide BL⟩
                    · have Eq5 := Hq5
                      cases q6
                      · have Eq6 := Hq6
                        have hQ : r = false := by rw [← hR]; simp [unhide Eb1, unhide Eb2, unhide Eb3, unhide Eb4, unhide Eb5, unhide Eq1, unhide Eb6, unhide Eq3, unhide Eq4, unhide Eq5, unhide Eq6]
                        subst hQ
                        clear hR
                        have Bb1 := unhide Eb1
                        have Bb2 := unhide Eb2
                        have Bb3 := unhide Eb3
                        have Bb4 := unhide Eb4
                        have Bb5 := unhide Eb5
                        have Bb6 := unhide Eb6
                        go_enter Try.func14, Try.ntmps14
                        go_upto_region 1 with fail
                        rw [← hwA]
                        clear hwA
                        obtain ⟨c0, c1, c2, c3, c4, c5, c6, c7, c8, c9, ca, cb, -⟩ := msg_cells (unhide EA).k1
                        obtain ⟨g0, g1, g2, g3, g4, g5, g6, g7, g8, g9, ga, gb, -⟩ := msg_cells (unhide EA).k2
                        have l0 := later_some (w := wA) zA c0
                        have l1 := later_some (w := wA) zA c1
                        have l2 := later_some (w := wA) zA c2
                        have l3 := later_some (w := wA) zA c3
                        have l4 := later_some (w := wA) zA c4
                        have l5 := later_some (w := wA) zA c5
                        have l6 := later_some (w := wA) zA c6
                        have l7 := later_some (w := wA) zA c7
                        have l8 := later_some (w := wA) zA c8
                        have l9 := later_some (w := wA) zA c9
                        have la := later_some (w := wA) zA ca
                        have lb := later_some (w := wA) zA cb
                        have k0 := later_some (w := wA) zB g0
                        have k1 := later_some (w := wA) zB g1
                        have k2 := later_some (w := wA) zB g2
                        have k3 := later_some (w := wA) zB g3
                        have k4 := later_some (w := wA) zB g4
                        have k5 := later_some (w := wA) zB g5
                        have k6 := later_some (w := wA) zB g6
                        have k7 := later_some (w := wA) zB g7
                        have k8 := later_some (w := wA) zB g8
                        have k9 := later_some (w := wA) zB g9
                        have ka := later_some (w := wA) zB ga
                        have kb := later_some (w := wA) zB gb
                        clear c0 c1 c2 c3 c4 c5 c6 c7 c8 c9 ca cb g0 g1 g2 g3 g4 g5 g6 g7 g8 g9 ga gb
                        refine wp_region_plain ?_
                        simp only [List.append]
                        repeat (first | go_big_quiet_step (first
                          | (go_at_call_of 36 (Value.slice p.ta p.tn p.tc); exact Calls.later_of (l1same_any p.ta p.tn p.tc q.ta q.tn q.tc m.tl n.tl _ Hq1 _ st ut (((unhide HM).in_later _ _).t) (((unhide HN).in_later _ _).t)))
                          | (go_at_call_of 36 (Value.slice p.va p.vn p.vc); exact Calls.later_of (l1same_any p.va p.vn p.vc q.va q.vn q.vc m.ve n.ve _ Hq3 _ sv uv (((unhide HM).in_later _ _).v) (((unhide HN).in_later _ _).v)))
                          | (go_at_call_of 36 (Value.slice p.la p.ln p.lc); exact Calls.later_of (l1same_any p.la p.ln p.lc q.la q.ln q.lc m.le n.le _ Hq4 _ sl ul (((unhide HM).in_later _ _).l) (((unhide HN).in_later _ _).l)))
                          | (go_at_call 37; exact Calls.later_of (ssame_any p.xa p.xn p.xc m.its p.ya p.yn p.yc m.fls q.xa q.xn q.xc n.its q.ya q.yn q.yc n.fls _ Hq5 _ sx sy ux uy (((unhide HM).in_later _ _).x) (((unhide HM).in_later _ _).y) (((unhide HN).in_later _ _).x) (((unhide HN).in_later _ _).y)))
                          | (go_at_call 38; exact Calls.later_of (l10marks_any p.ka p.kn p.kc q.ka q.kn q.kc m.ma n.ma _ Hq6 _ sk uk (((unhide HM).in_later _ _).k) (((unhide HN).in_later _ _).k)))) | quiet_step (fail))
                        refine wpQuiet_nil ?_
                        intro w9 b9
                        have BL := hide ((unhide EA).bel.trans (b9.mono (unhide EA).bel.size))
                        clear b9 l0 k0 l1 k1 l2 k2 l3 k3 l4 k4 l5 k5 l6 k6 l7 k7 l8 k8 l9 k9 la ka lb kb
                        go_wp2
                        go_ret
                        exact ⟨rfl, unhide BL⟩
                      · have Eq6 := Hq6
                        have hQ : r = true := by rw [← hR]; simp [unhide Eb1, unhide Eb2, unhide Eb3, unhide Eb4, unhide Eb5, unhide Eq1, unhide Eb6, unhide Eq3, unhide Eq4, unhide Eq5, unhide Eq6]
                        subst hQ
                        clear hR
                        have Bb1 := unhide Eb1
                        have Bb2 := unhide Eb2
                        have Bb3 := unhide Eb3
                        have Bb4 := unhide Eb4
                        have Bb5 := unhide Eb5
                        have Bb6 := unhide Eb6
                        go_enter Try.func14, Try.ntmps14
                        go_upto_region 1 with fail
                        rw [← hwA]
                        clear hwA
                        obtain ⟨c0, c1, c2, c3, c4, c5, c6, c7, c8, c9, ca, cb, -⟩ := msg_cells (unhide EA).k1
                        obtain ⟨g0, g1, g2, g3, g4, g5, g6, g7, g8, g9, ga, gb, -⟩ := msg_cells (unhide EA).k2
                        have l0 := later_some (w := wA) zA c0
                        have l1 := later_some (w := wA) zA c1
                        have l2 := later_some (w := wA) zA c2
                        have l3 := later_some (w := wA) zA c3
                        have l4 := later_some (w := wA) zA c4
                        have l5 := later_some (w := wA) zA c5
                        have l6 := later_some (w := wA) zA c6
                        have l7 := later_some (w := wA) zA c7
                        have l8 := later_some (w := wA) zA c8
                        have l9 := later_some (w := wA) zA c9
                        have la := later_some (w := wA) zA ca
                        have lb := later_some (w := wA) zA cb
                        have k0 := later_some (w := wA) zB g0
                        have k1 := later_some (w := wA) zB g1
                        have k2 := later_some (w := wA) zB g2
                        have k3 := later_some (w := wA) zB g3
                        have k4 := later_some (w := wA) zB g4
                        have k5 := later_some (w := wA) zB g5
                        have k6 := later_some (w := wA) zB g6
                        have k7 := later_some (w := wA) zB g7
                        have k8 := later_some (w := wA) zB g8
                        have k9 := later_some (w := wA) zB g9
                        have ka := later_some (w := wA) zB ga
                        have kb := later_some (w := wA) zB gb
                        clear c0 c1 c2 c3 c4 c5 c6 c7 c8 c9 ca cb g0 g1 g2 g3 g4 g5 g6 g7 g8 g9 ga gb
                        refine wp_region_plain ?_
                        simp only [List.append]
                        repeat (first | go_big_quiet_step (first
                          | (go_at_call_of 36 (Value.slice p.ta p.tn p.tc); exact Calls.later_of (l1same_any p.ta p.tn p.tc q.ta q.tn q.tc m.tl n.tl _ Hq1 _ st ut (((unhide HM).in_later _ _).t) (((unhide HN).in_later _ _).t)))
                          | (go_at_call_of 36 (Value.slice p.va p.vn p.vc); exact Calls.later_of (l1same_any p.va p.vn p.vc q.va q.vn q.vc m.ve n.ve _ Hq3 _ sv uv (((unhide HM).in_later _ _).v) (((unhide HN).in_later _ _).v)))
                          | (go_at_call_of 36 (Value.slice p.la p.ln p.lc); exact Calls.later_of (l1same_any p.la p.ln p.lc q.la q.ln q.lc m.le n.le _ Hq4 _ sl ul (((unhide HM).in_later _ _).l) (((unhide HN).in_later _ _).l)))
                          | (go_at_call 37; exact Calls.later_of (ssame_any p.xa p.xn p.xc m.its p.ya p.yn p.yc m.fls q.xa q.xn q.xc n.its q.ya q.yn q.yc n.fls _ Hq5 _ sx sy ux uy (((unhide HM).in_later _ _).x) (((unhide HM).in_later _ _).y) (((unhide HN).in_later _ _).x) (((unhide HN).in_later _ _).y)))
                          | (go_at_call 38; exact Calls.later_of (l10marks_any p.ka p.kn p.kc q.ka q.kn q.kc m.ma n.ma _ Hq6 _ sk uk (((unhide HM).in_later _ _).k) (((unhide HN).in_later _ _).k)))) | quiet_step (fail))
                        refine wpQuiet_nil ?_
                        intro w9 b9
                        have BL := hide ((unhide EA).bel.trans (b9.mono (unhide EA).bel.size))
                        clear b9 l0 k0 l1 k1 l2 k2 l3 k3 l4 k4 l5 k5 l6 k6 l7 k7 l8 k8 l9 k9 la ka lb kb
                        go_wp2
                        go_ret
                        exact ⟨rfl, unhide BL⟩
end Go.Proofs.Ytbajnnpihjmjmab
