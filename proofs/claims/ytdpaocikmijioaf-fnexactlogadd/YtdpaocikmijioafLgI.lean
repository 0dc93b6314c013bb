/-
  The log above some number, its copy, a log that was dropped of or added to: the program's. No statement is proved here.
-/
import Derived.Test.YtdpaocikmijioafLgG
namespace Go.Proofs.Ytdpaocikmijioaf
open Go.RowKit

/-- While a log is laid: the argument's variable, the result's. -/
structure Lv (w W : World) (c f : Int) (v : Value) : Prop where
  bel : Below w.heap.size w W
  k1 : W.heap[w.heap.size]? = some (LgO c f v)
  k2 : W.heap[w.heap.size + 1]? = some (LgO 0 0 (.slice none 0 0))
theorem Lv.lt {w W : World} {c f : Int} {v : Value} (h : Lv w W c f v) : w.heap.size + 1 < W.heap.size := (Array.getElem?_eq_some_iff.1 h.k2).1
theorem Lv.later {w W Y : World} {c f : Int} {v : Value} (h : Lv w W c f v) (b : Below W.heap.size W Y) : Lv w Y c f v := by
  have := h.lt
  exact ⟨h.bel.trans (b.mono h.bel.size), (b.block _ (by omega)).trans h.k1, (b.block _ h.lt).trans h.k2⟩
theorem Lv.drewH {w W : World} {c f : Int} {v : Value} (h : Hid (Lv w W c f v)) : Hid (Lv w W.drew c f v) := hide ((unhide h).later ((Below.refl _ _).drew))
theorem kLv {w W : World} {c f : Int} {v : Value} (h : Hid (Lv w W c f v)) : Below w.heap.size w W ∧ W.cell? ⟨w.heap.size, 0, none⟩ = some (.int .i64 c) ∧ W.cell? ⟨w.heap.size, 1, none⟩ = some (.int .i64 f) ∧ W.cell? ⟨w.heap.size, 2, none⟩ = some v := by
  obtain ⟨p0, p1, p2, -⟩ := blk_cells3 (unhide h).k1
  exact ⟨(unhide h).bel, p0, p1, p2⟩
theorem kLvs {w W : World} {c f : Int} {v : Value} (h : Hid (Lv w W c f v)) (u0 u1 u2 : Value) : Below w.heap.size w (((W.setCell ⟨w.heap.size + 1, 0, none⟩ u0).setCell ⟨w.heap.size + 1, 1, none⟩ u1).setCell ⟨w.heap.size + 1, 2, none⟩ u2) ∧ (((W.setCell ⟨w.heap.size + 1, 0, none⟩ u0).setCell ⟨w.heap.size + 1, 1, none⟩ u1).setCell ⟨w.heap.size + 1, 2, none⟩ u2).cell? ⟨w.heap.size, 0, none⟩ = some (.int .i64 c) ∧ (((W.setCell ⟨w.heap.size + 1, 0, none⟩ u0).setCell ⟨w.heap.size + 1, 1, none⟩ u1).setCell ⟨w.heap.size + 1, 2, none⟩ u2).cell? ⟨w.heap.size, 1, none⟩ = some (.int .i64 f) ∧ (((W.setCell ⟨w.heap.size + 1, 0, none⟩ u0).setCell ⟨w.heap.size + 1, 1, none⟩ u1).setCell ⟨w.heap.size + 1, 2, none⟩ u2).cell? ⟨w.heap.size, 2, none⟩ = some v := by
  obtain ⟨p0, p1, p2, -⟩ := blk_cells3 (blk_at (h := w.heap.size + 1) (o := 2) (u := u2) (blk_at (h := w.heap.size + 1) (o := 1) (u := u1) (blk_at (h := w.heap.size + 1) (o := 0) (u := u0) (unhide h).k1 (by omega)) (by omega)) (by omega))
  exact ⟨below_set3 (by omega) (unhide h).bel, p0, p1, p2⟩
theorem Lv.new (w : World) (c f : Int) (v : Value) : Lv w ((w.alloc (LgO c f v)).alloc (LgO 0 0 (.slice none 0 0))) c f v :=
  ⟨((Below.refl w.heap.size w).alloc (Nat.le_refl _) _).alloc (by simp) _, lowB2 w _ _, newB2 w _ _⟩
theorem SmlS.drop {ss : List Sta} (h : SmlS ss) (k : Nat) : SmlS (ss.drop k) := fun i s hs => by rw [List.getElem?_drop] at hs; exact h _ s hs
def SzS (ss : List Sta) : Prop := ∀ (i : Nat) (s : Sta), ss[i]? = some s → s.1.length ≤ 1048576 ∧ s.2.length ≤ 1048576
theorem SzS.drop {ss : List Sta} (h : SzS ss) (k : Nat) : SzS (ss.drop k) := fun i s hs => by rw [List.getElem?_drop] at hs; exact h _ s hs
theorem SzS.tot {ss : List Sta} (h : tot ss ≤ 1048576) : SzS ss := fun i s hs => by have := tot_at hs; omega

set_option maxHeartbeats 8000000 in
set_option maxRecDepth 100000 in
theorem ilogabove_any (c f : Int) (a : Option Addr) (n cap : Nat) (ss : List Sta) (seq : Int) (k m : Nat) (hk : n = k + m) (hs : seq - f = (k : Int)) (hS : SmlS ss) (hz : SzS ss) (w : World) (hn : n ≤ 2000000) (hx : RwS w (.slice a n cap) ss) :
    Calls Try.prog 72 #[LgV c f (.slice a n cap), .int .i64 seq] w fun e w' => ∃ a' c', e = .returned (LgV c seq (.slice a' m c')) ∧ OwS w.heap.size w'.heap.size w' (.slice a' m c') (ss.drop k) ∧ Below w.heap.size w w' := by
  have HX := hide hx
  have HS := hide (hS.drop k)
  have HZ := hide (hz.drop k)
  have hm : m ≤ 2000000 := by omega
  have HK := hide hk
  have HSQ := hide hs
  clear hx hS hz hk hs
  go_enter Try.func72, Try.ntmps72
  go_upto_region 1 with fail
  obtain ⟨V, hV⟩ : ∃ V, V = (w.alloc (LgO c f (.slice a n cap))).alloc (LgO 0 0 (.slice none 0 0)) := ⟨_, rfl⟩
  have CV := hide (show Lv w V c f (.slice a n cap) from by rw [hV]; exact Lv.new _ _ _ _)
  rw [← hV]
  clear hV
  have CD := Lv.drewH CV
  have z1 := (unhide CV).lt
  have z0 : w.heap.size < V.heap.size := by omega
  go_region_held3 (fun W => Below w.heap.size w W ∧ W.cell? ⟨w.heap.size, 0, none⟩ = some (.int .i64 c) ∧ W.cell? ⟨w.heap.size, 1, none⟩ = some (.int .i64 f) ∧ W.cell? ⟨w.heap.size, 2, none⟩ = some (.slice a n cap))
    (first | (with_reducible exact kLv CV) | (with_reducible exact kLv CD) | (with_reducible exact kLv CA) | (with_reducible exact kLv CB) | (with_reducible exact kLvs CB _ _ _))
    (first
      | (go_at_call 68; refine (iabove_any c f a n cap ss seq k m (unhide HK) (unhide HSQ) w _ (by omega) (unhide HX)).mono ?_; rintro e w3 ⟨a3, rfl, r3, b3⟩; (first | (with_reducible have CA := hide ((unhide CD).later b3)) | (with_reducible have CA := hide ((unhide CV).later b3))); have R3 := hide r3; clear b3 r3)
      | (go_at_call 67; refine (ichangescopy_any a3 m m (ss.drop k) (unhide HS) _ (by omega) (unhide HZ) ((unhide R3).later (kb1 (by assumption)))).mono ?_; rintro e w4 ⟨a4, c4, rfl, o4, b4⟩; have CB := hide ((unhide CA).later b4); have O4 := hide (o4.mono (unhide CA).bel.size (Nat.le_refl _)); obtain ⟨p0, p1, p2, pf⟩ := blk_cells3 (unhide CB).k2; have zB := (unhide CB).lt; clear o4 b4))
  all_goals go_wp2
  all_goals exact bodyPost_ret (v := LgV c seq (.slice a4 m c4)) (by simp [results, Try.results72, go_sem, p0, p1, p2]) rfl ⟨a4, c4, rfl, by have h := log_set (unhide CB).k2 (.int .i64 c) (.int .i64 seq) (.slice a4 m c4) (unhide O4); simpa using h, (kLvs CB _ _ _).1⟩
set_option maxHeartbeats 8000000 in
set_option maxRecDepth 100000 in
theorem ilogcopy_any (c f : Int) (a : Option Addr) (n cap : Nat) (ss : List Sta) (hS : SmlS ss) (hz : SzS ss) (w : World) (hn : n ≤ 2000000) (hx : RwS w (.slice a n cap) ss) :
    Calls Try.prog 66 #[LgV c f (.slice a n cap)] w fun e w' => ∃ a' c', e = .returned (LgV c f (.slice a' n c')) ∧ OwS w.heap.size w'.heap.size w' (.slice a' n c') ss ∧ Below w.heap.size w w' := by
  have HX := hide hx
  have HS := hide hS
  have HZ := hide hz
  clear hx hS hz
  have hf0 : f - f = ((0 : Nat) : Int) := by simp
  go_enter Try.func66, Try.ntmps66
  go_wp2_with fail
  refine (ilogabove_any c f a n cap ss f 0 n (by omega) hf0 (unhide HS) (unhide HZ) _ hn ((unhide HX).later (Lv.new w c f (.slice a n cap)).bel)).mono ?_
  rintro e w3 ⟨a3, c3, rfl, o3, b3⟩
  have CA := hide ((Lv.new w c f (.slice a n cap)).later b3)
  have O3 := hide (o3.mono (Lv.new w c f (.slice a n cap)).bel.size (Nat.le_refl _))
  obtain ⟨p0, p1, p2, pf⟩ := blk_cells3 (unhide CA).k2
  have zA := (unhide CA).lt
  clear o3 b3
  go_wp2
  exact bodyPost_ret (v := LgV c f (.slice a3 n c3)) (by simp [results, Try.results66, go_sem, p0, p1, p2]) rfl ⟨a3, c3, rfl, by have h := log_set (unhide CA).k2 (.int .i64 c) (.int .i64 f) (.slice a3 n c3) (unhide O3); simpa using h, (kLvs CA _ _ _).1⟩
end Go.Proofs.Ytdpaocikmijioaf
