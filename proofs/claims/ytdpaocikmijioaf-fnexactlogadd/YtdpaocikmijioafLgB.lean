/-
  What the laws do with a log: it is turned into the program's own, two are compared, it is marked, marks are held. No statement is proved here.
-/
import Derived.Test.YtdpaocikmijioafLgA
import Derived.Test.YtdpaocikmijioafStH
import Derived.BigQuiet
namespace Go.Proofs.Ytdpaocikmijioaf
open Go.RowKit

abbrev LgV (c f : Int) (v : Value) : Value := .agg #[.int .i64 c, .int .i64 f, v]
abbrev LgO (c f : Int) (v : Value) : Obj := .cells #[.int .i64 c, .int .i64 f, v] 51

theorem OwV.otherT {base : Nat} {w w' : World} {v : Value} {ps : List Two} {T : TypeId} {b : Option Nat} (h : OwV base w v ps) (hb : ∀ g, b = some g → ∃ cs fz, w.heap[g]? = some (.cells cs T fz)) (hne : 37 ≠ T) (hg : w.grownBy w' b) : OwV base w' v ps := Ow.otherT h hb hne hg
/-- A write into a variable of type Log. -/
theorem OwS.log {lo hi : Nat} {w : World} {v : Value} {ss : List Sta} (h : OwS lo hi w v ss) {g : Nat} {cs : Array Value} {fz : Nat × Nat} (hg : w.heap[g]? = some (.cells cs 51 fz)) (o : Nat) (u : Value) : OwS lo hi (w.setCell ⟨g, o, none⟩ u) v ss := by
  obtain ⟨ps, h1, h2⟩ := h.own
  have hb : ∀ q, some g = some q → ∃ cs fz, w.heap[q]? = some (.cells cs 51 fz) := fun q e => by cases e; exact ⟨_, _, hg⟩
  exact ⟨⟨ps, h1.otherT hb (by decide) (grown_set1 w g o u), h2.len, fun i p s hp hs => ⟨(h2.ins i p s hp hs).1.otherT hb (by decide) (grown_set1 w g o u), (h2.ins i p s hp hs).2.otherT hb (by decide) (grown_set1 w g o u)⟩, h2.top, h2.apt⟩, h.top⟩
theorem log_set {w : World} {g : Nat} {c0 c1 c2 : Value} (h : w.heap[g]? = some (.cells #[c0, c1, c2] 51 (0, 0))) (v0 v1 v2 : Value) {lo hi : Nat} {v : Value} {ss : List Sta} (k : OwS lo hi w v ss) :
    OwS lo hi (((w.setCell ⟨g, 0, none⟩ v0).setCell ⟨g, 1, none⟩ v1).setCell ⟨g, 2, none⟩ v2) v ss :=
  ((k.log h 0 v0).log (heap_setCell_same _ _ _ _ _ _ h) 1 v1).log (heap_setCell_same _ _ _ _ _ _ (heap_setCell_same _ _ _ _ _ _ h)) 2 v2
set_option maxHeartbeats 2000000 in
theorem tolog_any (c f : Int) (a : Option Addr) (n cap : Nat) (ss : List Sta) (w : World) (hn : n ≤ 1048576) (ht : tot ss ≤ 1048576) (hx : RwS w (.slice a n cap) ss) :
    Calls Try.prog 21 #[LgV c f (.slice a n cap)] w fun e w' => ∃ a' c', e = .returned (LgV c f (.slice a' n c')) ∧ OwS w.heap.size w'.heap.size w' (.slice a' n c') ss ∧ Below w.heap.size w w' := by
  have HX := hide hx
  clear hx
  go_enter Try.func21, Try.ntmps21
  go_wp2_with fail
  obtain ⟨V, hV⟩ : ∃ V, V = ((w.alloc (.cells #[.int .i64 c, .int .i64 f, .slice a n cap] 46)).alloc (LgO 0 0 (.slice none 0 0))).alloc (LgO c f (.slice none 0 0)) := ⟨_, rfl⟩
  have HBV : Below w.heap.size w V := by rw [hV]; exact ((((Below.refl w.heap.size w).alloc (Nat.le_refl _) _).alloc (by simp) _).alloc (by simp; omega) _)
  have V1 : V.heap[w.heap.size + 1]? = some (LgO 0 0 (.slice none 0 0)) := by rw [hV]; exact midB3 w _ _ _
  have V2 : V.heap[w.heap.size + 1 + 1]? = some (LgO c f (.slice none 0 0)) := by rw [hV]; exact newB3 w _ _ _
  have zV : w.heap.size + 1 + 1 < V.heap.size := (Array.getElem?_eq_some_iff.1 V2).1
  rw [← hV]
  have HV := hide HBV
  have H1 := hide V1
  have H2 := hide V2
  clear hV HBV V1 V2
  refine (tostates_any a n cap ss _ hn ht ((unhide HX).later (unhide HV))).mono ?_
  rintro e w1 ⟨a1, c1, rfl, o1, b1⟩
  have K1 := (b1.block _ (by omega)).trans (unhide H1)
  have K2 := (b1.block _ zV).trans (unhide H2)
  obtain ⟨p0, p1, p2, pf⟩ := blk_cells3 K1
  obtain ⟨q0, q1, q2, qf⟩ := blk_cells3 K2
  have z1 := b1.size
  have HB := hide ((unhide HV).trans (b1.mono (unhide HV).size))
  have HO := hide o1
  have HK1 := hide K1
  have HK2 := hide K2
  clear o1 b1 HV H1 H2 K1 K2
  go_wp2
  refine bodyPost_ret (v := LgV c f (.slice a1 n c1)) (by simp [results, Try.results21, go_sem, p0, p1, p2]) rfl ⟨a1, c1, rfl, ?_, ?_⟩
  · have k := log_set (blk_at (unhide HK1) (by omega)) (.int .i64 c) (.int .i64 f) (.slice a1 n c1) ((unhide HO).log (unhide HK2) 2 (.slice a1 n c1))
    exact k.mono (unhide (hide (by have := (unhide HB).size; omega))) (by simp)
  · exact below_set3 (by omega) ((unhide HB).setCell (p := ⟨w.heap.size + 1 + 1, 2, none⟩) (by simp; omega) _)

set_option maxHeartbeats 2000000 in
theorem eqstates_same (a : Option Addr) (n cap : Nat) (a2 : Option Addr) (cap2 : Nat) (ss : List Sta) (w : World) (hn : n ≤ 140737488351232) (ht : tot ss ≤ 140737488351232) (hx : RwS w (.slice a n cap) ss) (hy : RwS w (.slice a2 n cap2) ss) :
    Calls Try.prog 63 #[.slice a n cap, .slice a2 n cap2] w fun e w' => e = .returned (.bool true) ∧ Below w.heap.size w w' := by
  have d0 : ((n : Int) != (n : Int)) = false := by simp
  have HX := hide hx
  have HY := hide hy
  clear hx hy
  go_enter Try.func63, Try.ntmps63
  go_wp2
  go_loopw [5] (fun i wr => ∃ k : Nat, k ≤ n ∧ i = .int .i64 k ∧ Below w.heap.size w wr) (fun i _ => n - (intOf i).toNat)
  case atStart => exact ⟨0, Nat.zero_le _, rfl, Below.refl _ _⟩
  case round =>
    obtain ⟨k, hk, rfl, hbel⟩ := hrel
    have HB := hide hbel
    have hsz := hbel.size
    by_cases hlt : k < n
    · obtain ⟨xs, fs, ai, ni, ci, af, nf, cf, b, off, hx, rfl, hb, hcap, c0, c1, rx, rf⟩ := (unhide HX).at hlt
      obtain ⟨ys, gs, bi, mi, di, bf, mf, df, b2, off2, hy, rfl, hb2, hcap2, e0, e1, ry, rg⟩ := (unhide HY).at hlt
      rw [hx] at hy
      simp only [Option.some.injEq, Prod.mk.injEq] at hy
      obtain ⟨rfl, rfl⟩ := hy
      have hT := tot_at hx
      obtain rfl : mi = ni := by rw [ry.len.1, rx.len.1]
      obtain rfl : mf = nf := by rw [rg.len.1, rf.len.1]
      have hn1 : mi ≤ 140737488351232 := by have := rx.len.1; simp only at hT; omega
      have hn2 : mf ≤ 140737488351232 := by have := rf.len.1; simp only at hT; omega
      have l0 := later_some (w := wr) (b := b) (o := off + k * 2) (by omega) ((hbel.cell (p := ⟨b, off + k * 2, none⟩) hb).trans c0)
      have l1 := later_some (w := wr) (b := b) (o := off + k * 2 + 1) (by omega) ((hbel.cell (p := ⟨b, off + k * 2 + 1, none⟩) hb).trans c1)
      have m0 := later_some (w := wr) (b := b2) (o := off2 + k * 2) (by omega) ((hbel.cell (p := ⟨b2, off2 + k * 2, none⟩) hb2).trans e0)
      have m1 := later_some (w := wr) (b := b2) (o := off2 + k * 2 + 1) (by omega) ((hbel.cell (p := ⟨b2, off2 + k * 2 + 1, none⟩) hb2).trans e1)
      have RX := hide (rx.later hbel)
      have RF := hide (rf.later hbel)
      have RY := hide (ry.later hbel)
      have RG := hide (rg.later hbel)
      clear c0 c1 e0 e1 hx hbel rx rf ry rg hT
      go_wp2_with fail
      refine wp_region_later (by kernel_rfl) (by kernel_rfl) ?_
      repeat (go_big_quiet_step (first | (go_at_call 15; exact Calls.later_of (eqstate_same _ _ _ _ _ xs _ _ _ _ _ fs _ hn1 hn2 ((unhide RX).in_later _ _) ((unhide RY).in_later _ _) ((unhide RF).in_later _ _) ((unhide RG).in_later _ _)))))
      refine wpQuiet_nil ?_
      intro w1 hb1
      have HB1 := hide ((unhide HB).trans (hb1.mono hsz))
      clear hb1 HB
      go_wp2
      go_roundw
      case rel => exact ⟨k + 1, by omega, by go_num, unhide HB1⟩
      case measure => simp [intOf]; omega
    · clear hbel
      go_wp2
      go_ret
      exact ⟨rfl, unhide HB⟩

set_option maxHeartbeats 2000000 in
theorem eqlog_same (c f : Int) (a : Option Addr) (n cap : Nat) (a2 : Option Addr) (cap2 : Nat) (ss : List Sta) (w : World) (hn : n ≤ 140737488351232) (ht : tot ss ≤ 140737488351232) (hx : RwS w (.slice a n cap) ss) (hy : RwS w (.slice a2 n cap2) ss) :
    Calls Try.prog 23 #[LgV c f (.slice a n cap), LgV c f (.slice a2 n cap2)] w fun e w' => e = .returned (.bool true) ∧ Below w.heap.size w w' := by
  have d0 : (c != c) = false := by simp
  have d1 : (f != f) = false := by simp
  have HX := hide hx
  have HY := hide hy
  clear hx hy
  go_enter Try.func23, Try.ntmps23
  go_wp2_with fail
  refine (eqstates_same a n cap a2 cap2 ss _ hn ht (((unhide HX).alloc _).alloc _) (((unhide HY).alloc _).alloc _)).mono ?_
  rintro e w1 ⟨rfl, b1⟩
  have HB := hide ((((Below.refl w.heap.size w).alloc (Nat.le_refl _) _).alloc (by simp) _).trans (b1.mono (by simp; omega)))
  clear b1
  go_wp2
  go_ret
  exact ⟨rfl, unhide HB⟩
end Go.Proofs.Ytdpaocikmijioaf
