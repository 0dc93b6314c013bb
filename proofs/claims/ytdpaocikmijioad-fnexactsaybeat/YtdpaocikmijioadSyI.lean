/-
  What may be said, the program's: the changes (methods of a wish, kept in a table of method expressions), tell, SayJoin, SayBeat, SaySet, SayGone. No statement is proved here.
-/
import Derived.Test.YtdpaocikmijioadSyP
import Derived.Test.YtdpaocikmijioadVwU
import Derived.Test.YtdpaocikmijioadSt3
import Derived.Laws.EntriesVeiled
namespace Go.Proofs.Ytdpaocikmijioad
open Go.RowKit

set_option maxHeartbeats 4000000 in
set_option maxRecDepth 100000 in
theorem lastinc_any (ai : Option Addr) (ni ci : Nat) (xs : List Itm) (af : Option Addr) (nf cf : Nat) (fs : List Flr) (id : Int) (dv : ByteArray) (hs : Hid (Sml xs)) (i : Int) (hi : Hid (lastI xs fs id = i)) (w : World) (hni : ni ≤ 140737488351232) (hnf : nf ≤ 140737488351232) (hx : Rw encI 6 w (.slice ai ni ci) xs) (hf : Rw encF 2 w (.slice af nf cf) fs) :
    Calls Try.prog 100 #[.agg #[.slice ai ni ci, .slice af nf cf, .int .i64 id, .string dv]] w fun e w' => e = .returned (.int .i64 i) ∧ Below w.heap.size w w' := by
  have R_x := hide hx
  have R_f := hide hf
  clear hx hf
  obtain ⟨e, eo, he⟩ : ∃ r t, Hid (entR xs id = (r, t)) := ⟨_, _, hide rfl⟩
  obtain ⟨fl, hfl⟩ : ∃ f, Hid (flo fs id = f) := ⟨_, hide rfl⟩
  have hmx : Hid (max e.1 fl = i) := hide (by rw [← unhide hi, lastI, unhide he, unhide hfl])
  go_enter Try.func100, Try.ntmps100
  go_wp2_with fail
  refine (ientry_any _ ai ni ci xs (unhide hs) id e eo he _ hni ((unhide R_x).alloc _)).mono ?_
  rintro e w1 ⟨rfl, b1⟩
  have cw1 := ((Below.refl w.heap.size w).alloc (Nat.le_refl _) _).trans (b1.mono (by simp <;> omega))
  have zw1 := cw1.size
  have K_w : Hid (w1.heap[w.heap.size]? = some (.cells #[.slice ai ni ci, .slice af nf cf, .int .i64 id, .string dv] 66 (0, 0)) ∧ w.heap.size < w1.heap.size) := hide ⟨(b1.block _ (by simp <;> omega)).trans (newB1 w _), by have := b1.size; simp at this; omega⟩
  have y_w := (unhide K_w).2
  have R_x := hide ((unhide R_x).later cw1)
  have R_f := hide ((unhide R_f).later cw1)
  have BL := hide cw1
  clear b1 cw1
  obtain ⟨w_0, w_1, w_2, w_3, -⟩ := blk_cells4 (unhide K_w).1
  have n_w := (unhide K_w).2
  go_wp2_with fail
  clear w_0 w_1 w_2 w_3 n_w
  obtain ⟨w7, hw7⟩ : ∃ W, W = w1.alloc (.cells #[.int .i64 e.1, .int .i64 e.2.1, .int .i64 e.2.2.1, .int .i64 e.2.2.2.1, .string e.2.2.2.2] 43) := ⟨_, rfl⟩
  rw [← hw7]
  have cw7 : Below w1.heap.size w1 w7 := by rw [hw7]; exact (Below.refl _ _).alloc (Nat.le_refl _) _
  have zw7 := cw7.size
  have K_e9 : Hid (w7.heap[w1.heap.size]? = some (.cells #[.int .i64 e.1, .int .i64 e.2.1, .int .i64 e.2.2.1, .int .i64 e.2.2.2.1, .string e.2.2.2.2] 43 (0, 0)) ∧ w1.heap.size < w7.heap.size) := hide ⟨by rw [hw7]; exact heap_alloc_new _ _, by rw [hw7]; simp⟩
  clear hw7
  have K_w := hide (keptblk cw7 K_w)
  have R_x := hide ((unhide R_x).later cw7)
  have R_f := hide ((unhide R_f).later cw7)
  have BL := hide ((unhide BL).trans (cw7.mono (unhide BL).size))
  clear cw7
  obtain ⟨w_0, w_1, w_2, w_3, -⟩ := blk_cells4 (unhide K_w).1
  have n_w := (unhide K_w).2
  have K_e := K_e9
  clear K_e9
  obtain ⟨e_0, e_1, e_2, e_3, e_4, e_z⟩ := blk_cells5 (unhide K_e).1
  have n_e := (unhide K_e).2
  have l_w0 := later_some (w := w7) n_w w_0
  have l_w1 := later_some (w := w7) n_w w_1
  have l_w2 := later_some (w := w7) n_w w_2
  have l_w3 := later_some (w := w7) n_w w_3
  have l_e0 := later_some (w := w7) n_e e_0
  have l_e1 := later_some (w := w7) n_e e_1
  have l_e2 := later_some (w := w7) n_e e_2
  have l_e3 := later_some (w := w7) n_e e_3
  have l_e4 := later_some (w := w7) n_e e_4
  refine wp_region_later (by kernel_rfl) (by kernel_rfl) ?_
  repeat (go_big_quiet_step (first
    | (go_at_call 32; exact Calls.later_of (ifloor_v _ af nf cf fs id fl hfl _ hnf ((unhide R_f).in_later _ _)))))
  refine wpQuiet_nil ?_
  intro w8 cw8
  have zw8 := cw8.size
  clear l_w0 l_w1 l_w2 l_w3 l_e0 l_e1 l_e2 l_e3 l_e4
  clear e_0 e_1 e_2 e_3 e_4 e_z n_e w_0 w_1 w_2 w_3 n_w
  have K_w := hide (keptblk cw8 K_w)
  have K_e := hide (keptblk cw8 K_e)
  have R_x := hide ((unhide R_x).later cw8)
  have R_f := hide ((unhide R_f).later cw8)
  have BL := hide ((unhide BL).trans (cw8.mono (unhide BL).size))
  clear cw8
  obtain ⟨w_0, w_1, w_2, w_3, -⟩ := blk_cells4 (unhide K_w).1
  have n_w := (unhide K_w).2
  obtain ⟨e_0, e_1, e_2, e_3, e_4, e_z⟩ := blk_cells5 (unhide K_e).1
  have n_e := (unhide K_e).2
  rw [unhide hmx]
  go_wp2
  go_ret
  exact ⟨rfl, unhide BL⟩

set_option maxHeartbeats 4000000 in
set_option maxRecDepth 100000 in
theorem wjoin_any (ai : Option Addr) (ni ci : Nat) (xs : List Itm) (af : Option Addr) (nf cf : Nat) (fs : List Flr) (id : Int) (dv : ByteArray) (dd : ByteArray) (h0 : Hid ((okS xs fs && inB id 0 4) = true)) (e : Key) (c : Int) (hch : Hid (chg 0 dd xs fs id = (e, c))) (w : World) (hni : ni ≤ 140737488351232) (hnf : nf ≤ 140737488351232) (hx : Rw encI 6 w (.slice ai ni ci) xs) (hf : Rw encF 2 w (.slice af nf cf) fs) :
    Calls Try.prog 89 #[.agg #[.slice ai ni ci, .slice af nf cf, .int .i64 id, .string dv]] w fun r w' => r = .returned (.tuple #[.agg #[.int .i64 e.1, .int .i64 e.2.1, .int .i64 e.2.2.1, .int .i64 e.2.2.2.1, .string e.2.2.2.2], .int .i64 c]) ∧ Below w.heap.size w w' := by
  have R_x := hide hx
  have R_f := hide hf
  clear hx hf
  obtain ⟨u, t, hr⟩ : ∃ r t, Hid (entR (vw xs fs) id = (r, t)) := ⟨_, _, hide rfl⟩
  obtain ⟨inc, hinc⟩ : ∃ i, Hid (lastI xs fs id = i) := ⟨_, hide rfl⟩
  have HSM := hide (OkS.sml5 ((okS_iff _ _).1 (ok_parts (unhide h0)).1))
  go_enter Try.func89, Try.ntmps89
  go_wp2_with fail
  refine (ilookup_any ai ni ci xs af nf cf fs id u t hr _ hni hnf (((unhide R_x).alloc _).alloc _) (((unhide R_f).alloc _).alloc _)).mono ?_
  rintro e w1 ⟨rfl, b1⟩
  have cw1 := (((Below.refl w.heap.size w).alloc (Nat.le_refl _) _).alloc (by simp <;> omega) _).trans (b1.mono (by simp <;> omega))
  have zw1 := cw1.size
  have K_w : Hid (w1.heap[w.heap.size]? = some (.cells #[.slice ai ni ci, .slice af nf cf, .int .i64 id, .string dv] 66 (0, 0)) ∧ w.heap.size < w1.heap.size) := hide ⟨(b1.block _ (by simp <;> omega)).trans (lowB2 w _ _), by have := b1.size; simp at this; omega⟩
  have y_w := (unhide K_w).2
  have K_r : Hid (w1.heap[w.heap.size + 1]? = some (.cells #[.int .i64 0, .int .i64 0, .int .i64 0, .int .i64 0, .string ⟨#[]⟩] 43 (0, 0)) ∧ w.heap.size + 1 < w1.heap.size) := hide ⟨(b1.block _ (by simp <;> omega)).trans (newB2 w _ _), by have := b1.size; simp at this; omega⟩
  have y_r := (unhide K_r).2
  have R_x := hide ((unhide R_x).later cw1)
  have R_f := hide ((unhide R_f).later cw1)
  have BL := hide cw1
  clear b1 cw1
  obtain ⟨w_0, w_1, w_2, w_3, -⟩ := blk_cells4 (unhide K_w).1
  have n_w := (unhide K_w).2
  obtain ⟨r_0, r_1, r_2, r_3, r_4, r_z⟩ := blk_cells5 (unhide K_r).1
  have n_r := (unhide K_r).2
  cases t
  rotate_left
  · have hc : chg 0 dd xs fs id = (zeroK, 2) := by simp only [chg, unhide hr, chJ]; rfl
    obtain ⟨rfl, rfl⟩ : e = zeroK ∧ c = 2 := by have h := (unhide hch).symm.trans hc; exact ⟨congrArg Prod.fst h, congrArg Prod.snd h⟩
    clear hc hch
    go_wp2
    obtain ⟨p0, p1, p2, p3, p4, -⟩ := blk_cells5 (blk_al (blk_set5 (unhide K_r).1 (.int .i64 0) (.int .i64 0) (.int .i64 0) (.int .i64 0) (.string ⟨#[]⟩)) (.cells #[.int .i64 u.1, .int .i64 u.2.1, .int .i64 u.2.2.1, .int .i64 u.2.2.2.1, .string u.2.2.2.2] 43))
    exact bodyPost_ret (v := .tuple #[.agg #[.int .i64 0, .int .i64 0, .int .i64 0, .int .i64 0, .string ⟨#[]⟩], .int .i64 2]) (by simp [results, Try.results89, go_sem, p0, p1, p2, p3, p4]) rfl ⟨rfl, below_al (below_set5 (by omega) (unhide BL)) (by simp; omega) _⟩
  go_wp2_with fail
  refine (lastinc_any ai ni ci xs af nf cf fs id dv HSM inc hinc _ hni hnf ((unhide R_x).alloc _) ((unhide R_f).alloc _)).mono ?_
  rintro e w2 ⟨rfl, b2⟩
  clear r_0 r_1 r_2 r_3 r_4 r_z n_r w_0 w_1 w_2 w_3 n_w
  have cw2 := ((Below.refl w1.heap.size w1).alloc (Nat.le_refl _) _).trans (b2.mono (by simp <;> omega))
  have zw2 := cw2.size
  have K_w := hide (keptblk cw2 K_w)
  have K_r := hide (keptblk cw2 K_r)
  have K_b : Hid (w2.heap[w1.heap.size]? = some (.cells #[.int .i64 u.1, .int .i64 u.2.1, .int .i64 u.2.2.1, .int .i64 u.2.2.2.1, .string u.2.2.2.2] 43 (0, 0)) ∧ w1.heap.size < w2.heap.size) := hide ⟨(b2.block _ (by simp <;> omega)).trans (newB1 w1 _), by have := b2.size; simp at this; omega⟩
  have y_b := (unhide K_b).2
  have R_x := hide ((unhide R_x).later cw2)
  have R_f := hide ((unhide R_f).later cw2)
  have BL := hide ((unhide BL).trans (cw2.mono (unhide BL).size))
  clear b2 cw2
  obtain ⟨w_0, w_1, w_2, w_3, -⟩ := blk_cells4 (unhide K_w).1
  have n_w := (unhide K_w).2
  obtain ⟨r_0, r_1, r_2, r_3, r_4, r_z⟩ := blk_cells5 (unhide K_r).1
  have n_r := (unhide K_r).2
  obtain ⟨b_0, b_1, b_2, b_3, b_4, -⟩ := blk_cells5 (unhide K_b).1
  have n_b := (unhide K_b).2
  obtain ⟨i1, i2⟩ : 0 ≤ inc ∧ inc ≤ 1000 := by have h := lastI_nn ((okS_iff _ _).1 (ok_parts (unhide h0)).1) id; rw [unhide hinc] at h; exact ⟨h.1, h.2.1⟩
  rcases Bool.eq_false_or_eq_true (inc == 1000) with hm | hm
  · have hc : chg 0 dd xs fs id = (zeroK, 4) := by simp only [chg, unhide hr, unhide hinc, chJ, hm]; rfl
    obtain ⟨rfl, rfl⟩ : e = zeroK ∧ c = 4 := by have h := (unhide hch).symm.trans hc; exact ⟨congrArg Prod.fst h, congrArg Prod.snd h⟩
    clear hc hch
    go_wp2
    obtain ⟨p0, p1, p2, p3, p4, -⟩ := blk_cells5 (blk_set5 (unhide K_r).1 (.int .i64 0) (.int .i64 0) (.int .i64 0) (.int .i64 0) (.string ⟨#[]⟩))
    exact bodyPost_ret (v := .tuple #[.agg #[.int .i64 0, .int .i64 0, .int .i64 0, .int .i64 0, .string ⟨#[]⟩], .int .i64 4]) (by simp [results, Try.results89, go_sem, p0, p1, p2, p3, p4]) rfl ⟨rfl, below_set5 (by omega) (unhide BL)⟩
  have hc : chg 0 dd xs fs id = ((inc + 1, 0, 0, 0, ⟨#[]⟩), 0) := by simp only [chg, unhide hr, unhide hinc, chJ, hm]; rfl
  obtain ⟨rfl, rfl⟩ : e = (inc + 1, 0, 0, 0, ⟨#[]⟩) ∧ c = 0 := by have h := (unhide hch).symm.trans hc; exact ⟨congrArg Prod.fst h, congrArg Prod.snd h⟩
  clear hc hch
  go_wp2
  obtain ⟨p0, p1, p2, p3, p4, -⟩ := blk_cells5 (blk_set5 (unhide K_r).1 (.int .i64 (inc + 1)) (.int .i64 0) (.int .i64 0) (.int .i64 0) (.string ⟨#[]⟩))
  exact bodyPost_ret (v := .tuple #[.agg #[.int .i64 (inc + 1), .int .i64 0, .int .i64 0, .int .i64 0, .string ⟨#[]⟩], .int .i64 0]) (by simp [results, Try.results89, go_sem, p0, p1, p2, p3, p4]) rfl ⟨rfl, below_set5 (by omega) (unhide BL)⟩

set_option maxHeartbeats 4000000 in
set_option maxRecDepth 100000 in
theorem wbeat_any (ai : Option Addr) (ni ci : Nat) (xs : List Itm) (af : Option Addr) (nf cf : Nat) (fs : List Flr) (id : Int) (dv : ByteArray) (dd : ByteArray) (h0 : Hid ((okS xs fs && inB id 0 4) = true)) (e : Key) (c : Int) (hch : Hid (chg 1 dd xs fs id = (e, c))) (w : World) (hni : ni ≤ 140737488351232) (hnf : nf ≤ 140737488351232) (hx : Rw encI 6 w (.slice ai ni ci) xs) (hf : Rw encF 2 w (.slice af nf cf) fs) :
    Calls Try.prog 90 #[.agg #[.slice ai ni ci, .slice af nf cf, .int .i64 id, .string dv]] w fun r w' => r = .returned (.tuple #[.agg #[.int .i64 e.1, .int .i64 e.2.1, .int .i64 e.2.2.1, .int .i64 e.2.2.2.1, .string e.2.2.2.2], .int .i64 c]) ∧ Below w.heap.size w w' := by
  have R_x := hide hx
  have R_f := hide hf
  clear hx hf
  obtain ⟨u, t, hr⟩ : ∃ r t, Hid (entR (vw xs fs) id = (r, t)) := ⟨_, _, hide rfl⟩
  go_enter Try.func90, Try.ntmps90
  go_wp2_with fail
  refine (ilookup_any ai ni ci xs af nf cf fs id u t hr _ hni hnf (((unhide R_x).alloc _).alloc _) (((unhide R_f).alloc _).alloc _)).mono ?_
  rintro e w1 ⟨rfl, b1⟩
  have cw1 := (((Below.refl w.heap.size w).alloc (Nat.le_refl _) _).alloc (by simp <;> omega) _).trans (b1.mono (by simp <;> omega))
  have zw1 := cw1.size
  have K_w : Hid (w1.heap[w.heap.size]? = some (.cells #[.slice ai ni ci, .slice af nf cf, .int .i64 id, .string dv] 66 (0, 0)) ∧ w.heap.size < w1.heap.size) := hide ⟨(b1.block _ (by simp <;> omega)).trans (lowB2 w _ _), by have := b1.size; simp at this; omega⟩
  have y_w := (unhide K_w).2
  have K_r : Hid (w1.heap[w.heap.size + 1]? = some (.cells #[.int .i64 0, .int .i64 0, .int .i64 0, .int .i64 0, .string ⟨#[]⟩] 43 (0, 0)) ∧ w.heap.size + 1 < w1.heap.size) := hide ⟨(b1.block _ (by simp <;> omega)).trans (newB2 w _ _), by have := b1.size; simp at this; omega⟩
  have y_r := (unhide K_r).2
  have R_x := hide ((unhide R_x).later cw1)
  have R_f := hide ((unhide R_f).later cw1)
  have BL := hide cw1
  clear b1 cw1
  obtain ⟨w_0, w_1, w_2, w_3, -⟩ := blk_cells4 (unhide K_w).1
  have n_w := (unhide K_w).2
  obtain ⟨r_0, r_1, r_2, r_3, r_4, r_z⟩ := blk_cells5 (unhide K_r).1
  have n_r := (unhide K_r).2
  cases t
  · have hc : chg 1 dd xs fs id = (zeroK, 3) := by simp only [chg, unhide hr, chB]; rfl
    obtain ⟨rfl, rfl⟩ : e = zeroK ∧ c = 3 := by have h := (unhide hch).symm.trans hc; exact ⟨congrArg Prod.fst h, congrArg Prod.snd h⟩
    clear hc hch
    go_wp2
    obtain ⟨p0, p1, p2, p3, p4, -⟩ := blk_cells5 (blk_al (blk_set5 (unhide K_r).1 (.int .i64 0) (.int .i64 0) (.int .i64 0) (.int .i64 0) (.string ⟨#[]⟩)) (.cells #[.int .i64 u.1, .int .i64 u.2.1, .int .i64 u.2.2.1, .int .i64 u.2.2.2.1, .string u.2.2.2.2] 43))
    exact bodyPost_ret (v := .tuple #[.agg #[.int .i64 0, .int .i64 0, .int .i64 0, .int .i64 0, .string ⟨#[]⟩], .int .i64 3]) (by simp [results, Try.results90, go_sem, p0, p1, p2, p3, p4]) rfl ⟨rfl, below_al (below_set5 (by omega) (unhide BL)) (by simp; omega) _⟩
  obtain ⟨q1, q2, q3, q4, q5⟩ := okE_all.1 (((okS_iff _ _).1 (ok_parts (unhide h0)).1).ent_in ((there_iff ((okS_iff _ _).1 (ok_parts (unhide h0)).1) (unhide hr)).1 rfl).1).2.2.1
  rcases Bool.eq_false_or_eq_true (u.2.2.1 == 100000) with hm | hm
  · have hc : chg 1 dd xs fs id = (zeroK, 4) := by simp only [chg, unhide hr, chB, hm]; rfl
    obtain ⟨rfl, rfl⟩ : e = zeroK ∧ c = 4 := by have h := (unhide hch).symm.trans hc; exact ⟨congrArg Prod.fst h, congrArg Prod.snd h⟩
    clear hc hch
    go_wp2
    obtain ⟨p0, p1, p2, p3, p4, -⟩ := blk_cells5 (blk_al (blk_set5 (unhide K_r).1 (.int .i64 0) (.int .i64 0) (.int .i64 0) (.int .i64 0) (.string ⟨#[]⟩)) (.cells #[.int .i64 u.1, .int .i64 u.2.1, .int .i64 u.2.2.1, .int .i64 u.2.2.2.1, .string u.2.2.2.2] 43))
    exact bodyPost_ret (v := .tuple #[.agg #[.int .i64 0, .int .i64 0, .int .i64 0, .int .i64 0, .string ⟨#[]⟩], .int .i64 4]) (by simp [results, Try.results90, go_sem, p0, p1, p2, p3, p4]) rfl ⟨rfl, below_al (below_set5 (by omega) (unhide BL)) (by simp; omega) _⟩
  have hc : chg 1 dd xs fs id = ((u.1, u.2.1, u.2.2.1 + 1, u.2.2.2.1, u.2.2.2.2), 0) := by simp only [chg, unhide hr, chB, hm]; rfl
  obtain ⟨rfl, rfl⟩ : e = (u.1, u.2.1, u.2.2.1 + 1, u.2.2.2.1, u.2.2.2.2) ∧ c = 0 := by have h := (unhide hch).symm.trans hc; exact ⟨congrArg Prod.fst h, congrArg Prod.snd h⟩
  clear hc hch
  go_wp2
  obtain ⟨p0, p1, p2, p3, p4, -⟩ := blk_cells5 (blk_al (blk_set5 (unhide K_r).1 (.int .i64 (u.1)) (.int .i64 (u.2.1)) (.int .i64 (u.2.2.1 + 1)) (.int .i64 (u.2.2.2.1)) (.string u.2.2.2.2)) (.cells #[.int .i64 (u.1), .int .i64 (u.2.1), .int .i64 (u.2.2.1 + 1), .int .i64 (u.2.2.2.1), .string u.2.2.2.2] 43))
  exact bodyPost_ret (v := .tuple #[.agg #[.int .i64 (u.1), .int .i64 (u.2.1), .int .i64 (u.2.2.1 + 1), .int .i64 (u.2.2.2.1), .string u.2.2.2.2], .int .i64 0]) (by simp [results, Try.results90, go_sem, p0, p1, p2, p3, p4]) rfl ⟨rfl, below_al (below_set5 (by omega) (unhide BL)) (by simp; omega) _⟩

set_option maxHeartbeats 4000000 in
set_option maxRecDepth 100000 in
theorem wset_any (ai : Option Addr) (ni ci : Nat) (xs : List Itm) (af : Option Addr) (nf cf : Nat) (fs : List Flr) (id : Int) (dv : ByteArray) (h0 : Hid ((okS xs fs && inB id 0 4) = true)) (e : Key) (c : Int) (hch : Hid (chg 2 dv xs fs id = (e, c))) (w : World) (hni : ni ≤ 140737488351232) (hnf : nf ≤ 140737488351232) (hx : Rw encI 6 w (.slice ai ni ci) xs) (hf : Rw encF 2 w (.slice af nf cf) fs) :
    Calls Try.prog 91 #[.agg #[.slice ai ni ci, .slice af nf cf, .int .i64 id, .string dv]] w fun r w' => r = .returned (.tuple #[.agg #[.int .i64 e.1, .int .i64 e.2.1, .int .i64 e.2.2.1, .int .i64 e.2.2.2.1, .string e.2.2.2.2], .int .i64 c]) ∧ Below w.heap.size w w' := by
  have R_x := hide hx
  have R_f := hide hf
  clear hx hf
  obtain ⟨u, t, hr⟩ : ∃ r t, Hid (entR (vw xs fs) id = (r, t)) := ⟨_, _, hide rfl⟩
  go_enter Try.func91, Try.ntmps91
  go_wp2_with fail
  refine (ilookup_any ai ni ci xs af nf cf fs id u t hr _ hni hnf (((unhide R_x).alloc _).alloc _) (((unhide R_f).alloc _).alloc _)).mono ?_
  rintro e w1 ⟨rfl, b1⟩
  have cw1 := (((Below.refl w.heap.size w).alloc (Nat.le_refl _) _).alloc (by simp <;> omega) _).trans (b1.mono (by simp <;> omega))
  have zw1 := cw1.size
  have K_w : Hid (w1.heap[w.heap.size]? = some (.cells #[.slice ai ni ci, .slice af nf cf, .int .i64 id, .string dv] 66 (0, 0)) ∧ w.heap.size < w1.heap.size) := hide ⟨(b1.block _ (by simp <;> omega)).trans (lowB2 w _ _), by have := b1.size; simp at this; omega⟩
  have y_w := (unhide K_w).2
  have K_r : Hid (w1.heap[w.heap.size + 1]? = some (.cells #[.int .i64 0, .int .i64 0, .int .i64 0, .int .i64 0, .string ⟨#[]⟩] 43 (0, 0)) ∧ w.heap.size + 1 < w1.heap.size) := hide ⟨(b1.block _ (by simp <;> omega)).trans (newB2 w _ _), by have := b1.size; simp at this; omega⟩
  have y_r := (unhide K_r).2
  have R_x := hide ((unhide R_x).later cw1)
  have R_f := hide ((unhide R_f).later cw1)
  have BL := hide cw1
  clear b1 cw1
  obtain ⟨w_0, w_1, w_2, w_3, -⟩ := blk_cells4 (unhide K_w).1
  have n_w := (unhide K_w).2
  obtain ⟨r_0, r_1, r_2, r_3, r_4, r_z⟩ := blk_cells5 (unhide K_r).1
  have n_r := (unhide K_r).2
  cases t
  · have hc : chg 2 dv xs fs id = (zeroK, 3) := by simp only [chg, unhide hr, chS]; rfl
    obtain ⟨rfl, rfl⟩ : e = zeroK ∧ c = 3 := by have h := (unhide hch).symm.trans hc; exact ⟨congrArg Prod.fst h, congrArg Prod.snd h⟩
    clear hc hch
    go_wp2
    obtain ⟨p0, p1, p2, p3, p4, -⟩ := blk_cells5 (blk_al (blk_set5 (unhide K_r).1 (.int .i64 0) (.int .i64 0) (.int .i64 0) (.int .i64 0) (.string ⟨#[]⟩)) (.cells #[.int .i64 u.1, .int .i64 u.2.1, .int .i64 u.2.2.1, .int .i64 u.2.2.2.1, .string u.2.2.2.2] 43))
    exact bodyPost_ret (v := .tuple #[.agg #[.int .i64 0, .int .i64 0, .int .i64 0, .int .i64 0, .string ⟨#[]⟩], .int .i64 3]) (by simp [results, Try.results91, go_sem, p0, p1, p2, p3, p4]) rfl ⟨rfl, below_al (below_set5 (by omega) (unhide BL)) (by simp; omega) _⟩
  obtain ⟨q1, q2, q3, q4, q5⟩ := okE_all.1 (((okS_iff _ _).1 (ok_parts (unhide h0)).1).ent_in ((there_iff ((okS_iff _ _).1 (ok_parts (unhide h0)).1) (unhide hr)).1 rfl).1).2.2.1
  rcases Bool.eq_false_or_eq_true (u.2.2.2.1 == 1000) with hm | hm
  · have hc : chg 2 dv xs fs id = (zeroK, 4) := by simp only [chg, unhide hr, chS, hm]; rfl
    obtain ⟨rfl, rfl⟩ : e = zeroK ∧ c = 4 := by have h := (unhide hch).symm.trans hc; exact ⟨congrArg Prod.fst h, congrArg Prod.snd h⟩
    clear hc hch
    go_wp2
    obtain ⟨p0, p1, p2, p3, p4, -⟩ := blk_cells5 (blk_al (blk_set5 (unhide K_r).1 (.int .i64 0) (.int .i64 0) (.int .i64 0) (.int .i64 0) (.string ⟨#[]⟩)) (.cells #[.int .i64 u.1, .int .i64 u.2.1, .int .i64 u.2.2.1, .int .i64 u.2.2.2.1, .string u.2.2.2.2] 43))
    exact bodyPost_ret (v := .tuple #[.agg #[.int .i64 0, .int .i64 0, .int .i64 0, .int .i64 0, .string ⟨#[]⟩], .int .i64 4]) (by simp [results, Try.results91, go_sem, p0, p1, p2, p3, p4]) rfl ⟨rfl, below_al (below_set5 (by omega) (unhide BL)) (by simp; omega) _⟩
  rcases Bool.eq_false_or_eq_true (decide (8 < (dv.size : Int))) with hd | hd
  · have hc : chg 2 dv xs fs id = (zeroK, 4) := by simp only [chg, unhide hr, chS, hm, hd]; rfl
    obtain ⟨rfl, rfl⟩ : e = zeroK ∧ c = 4 := by have h := (unhide hch).symm.trans hc; exact ⟨congrArg Prod.fst h, congrArg Prod.snd h⟩
    clear hc hch
    go_wp2
    obtain ⟨p0, p1, p2, p3, p4, -⟩ := blk_cells5 (blk_al (blk_set5 (unhide K_r).1 (.int .i64 0) (.int .i64 0) (.int .i64 0) (.int .i64 0) (.string ⟨#[]⟩)) (.cells #[.int .i64 u.1, .int .i64 u.2.1, .int .i64 u.2.2.1, .int .i64 u.2.2.2.1, .string u.2.2.2.2] 43))
    exact bodyPost_ret (v := .tuple #[.agg #[.int .i64 0, .int .i64 0, .int .i64 0, .int .i64 0, .string ⟨#[]⟩], .int .i64 4]) (by simp [results, Try.results91, go_sem, p0, p1, p2, p3, p4]) rfl ⟨rfl, below_al (below_set5 (by omega) (unhide BL)) (by simp; omega) _⟩
  have hc : chg 2 dv xs fs id = ((u.1, u.2.1, u.2.2.1, u.2.2.2.1 + 1, dv), 0) := by simp only [chg, unhide hr, chS, hm, hd]; rfl
  obtain ⟨rfl, rfl⟩ : e = (u.1, u.2.1, u.2.2.1, u.2.2.2.1 + 1, dv) ∧ c = 0 := by have h := (unhide hch).symm.trans hc; exact ⟨congrArg Prod.fst h, congrArg Prod.snd h⟩
  clear hc hch
  go_wp2
  obtain ⟨p0, p1, p2, p3, p4, -⟩ := blk_cells5 (blk_al (blk_set5 (unhide K_r).1 (.int .i64 (u.1)) (.int .i64 (u.2.1)) (.int .i64 (u.2.2.1)) (.int .i64 (u.2.2.2.1 + 1)) (.string dv)) (.cells #[.int .i64 (u.1), .int .i64 (u.2.1), .int .i64 (u.2.2.1), .int .i64 (u.2.2.2.1 + 1), .string dv] 43))
  exact bodyPost_ret (v := .tuple #[.agg #[.int .i64 (u.1), .int .i64 (u.2.1), .int .i64 (u.2.2.1), .int .i64 (u.2.2.2.1 + 1), .string dv], .int .i64 0]) (by simp [results, Try.results91, go_sem, p0, p1, p2, p3, p4]) rfl ⟨rfl, below_al (below_set5 (by omega) (unhide BL)) (by simp; omega) _⟩

set_option maxHeartbeats 4000000 in
set_option maxRecDepth 100000 in
theorem wgone_any (ai : Option Addr) (ni ci : Nat) (xs : List Itm) (af : Option Addr) (nf cf : Nat) (fs : List Flr) (id : Int) (dv : ByteArray) (dd : ByteArray) (h0 : Hid ((okS xs fs && inB id 0 4) = true)) (e : Key) (c : Int) (hch : Hid (chg 3 dd xs fs id = (e, c))) (w : World) (hni : ni ≤ 140737488351232) (hnf : nf ≤ 140737488351232) (hx : Rw encI 6 w (.slice ai ni ci) xs) (hf : Rw encF 2 w (.slice af nf cf) fs) :
    Calls Try.prog 92 #[.agg #[.slice ai ni ci, .slice af nf cf, .int .i64 id, .string dv]] w fun r w' => r = .returned (.tuple #[.agg #[.int .i64 e.1, .int .i64 e.2.1, .int .i64 e.2.2.1, .int .i64 e.2.2.2.1, .string e.2.2.2.2], .int .i64 c]) ∧ Below w.heap.size w w' := by
  have R_x := hide hx
  have R_f := hide hf
  clear hx hf
  obtain ⟨u, t, hr⟩ : ∃ r t, Hid (entR (vw xs fs) id = (r, t)) := ⟨_, _, hide rfl⟩
  go_enter Try.func92, Try.ntmps92
  go_wp2_with fail
  refine (ilookup_any ai ni ci xs af nf cf fs id u t hr _ hni hnf (((unhide R_x).alloc _).alloc _) (((unhide R_f).alloc _).alloc _)).mono ?_
  rintro e w1 ⟨rfl, b1⟩
  have cw1 := (((Below.refl w.heap.size w).alloc (Nat.le_refl _) _).alloc (by simp <;> omega) _).trans (b1.mono (by simp <;> omega))
  have zw1 := cw1.size
  have K_w : Hid (w1.heap[w.heap.size]? = some (.cells #[.slice ai ni ci, .slice af nf cf, .int .i64 id, .string dv] 66 (0, 0)) ∧ w.heap.size < w1.heap.size) := hide ⟨(b1.block _ (by simp <;> omega)).trans (lowB2 w _ _), by have := b1.size; simp at this; omega⟩
  have y_w := (unhide K_w).2
  have K_r : Hid (w1.heap[w.heap.size + 1]? = some (.cells #[.int .i64 0, .int .i64 0, .int .i64 0, .int .i64 0, .string ⟨#[]⟩] 43 (0, 0)) ∧ w.heap.size + 1 < w1.heap.size) := hide ⟨(b1.block _ (by simp <;> omega)).trans (newB2 w _ _), by have := b1.size; simp at this; omega⟩
  have y_r := (unhide K_r).2
  have R_x := hide ((unhide R_x).later cw1)
  have R_f := hide ((unhide R_f).later cw1)
  have BL := hide cw1
  clear b1 cw1
  obtain ⟨w_0, w_1, w_2, w_3, -⟩ := blk_cells4 (unhide K_w).1
  have n_w := (unhide K_w).2
  obtain ⟨r_0, r_1, r_2, r_3, r_4, r_z⟩ := blk_cells5 (unhide K_r).1
  have n_r := (unhide K_r).2
  cases t
  · have hc : chg 3 dd xs fs id = (zeroK, 3) := by simp only [chg, unhide hr, chG]; rfl
    obtain ⟨rfl, rfl⟩ : e = zeroK ∧ c = 3 := by have h := (unhide hch).symm.trans hc; exact ⟨congrArg Prod.fst h, congrArg Prod.snd h⟩
    clear hc hch
    go_wp2
    obtain ⟨p0, p1, p2, p3, p4, -⟩ := blk_cells5 (blk_al (blk_set5 (unhide K_r).1 (.int .i64 0) (.int .i64 0) (.int .i64 0) (.int .i64 0) (.string ⟨#[]⟩)) (.cells #[.int .i64 u.1, .int .i64 u.2.1, .int .i64 u.2.2.1, .int .i64 u.2.2.2.1, .string u.2.2.2.2] 43))
    exact bodyPost_ret (v := .tuple #[.agg #[.int .i64 0, .int .i64 0, .int .i64 0, .int .i64 0, .string ⟨#[]⟩], .int .i64 3]) (by simp [results, Try.results92, go_sem, p0, p1, p2, p3, p4]) rfl ⟨rfl, below_al (below_set5 (by omega) (unhide BL)) (by simp; omega) _⟩
  obtain ⟨q1, q2, q3, q4, q5⟩ := okE_all.1 (((okS_iff _ _).1 (ok_parts (unhide h0)).1).ent_in ((there_iff ((okS_iff _ _).1 (ok_parts (unhide h0)).1) (unhide hr)).1 rfl).1).2.2.1
  have hc : chg 3 dd xs fs id = ((u.1, 1, u.2.2.1, u.2.2.2.1, u.2.2.2.2), 0) := by simp only [chg, unhide hr, chG]; rfl
  obtain ⟨rfl, rfl⟩ : e = (u.1, 1, u.2.2.1, u.2.2.2.1, u.2.2.2.2) ∧ c = 0 := by have h := (unhide hch).symm.trans hc; exact ⟨congrArg Prod.fst h, congrArg Prod.snd h⟩
  clear hc hch
  go_wp2
  obtain ⟨p0, p1, p2, p3, p4, -⟩ := blk_cells5 (blk_al (blk_set5 (unhide K_r).1 (.int .i64 (u.1)) (.int .i64 (1)) (.int .i64 (u.2.2.1)) (.int .i64 (u.2.2.2.1)) (.string u.2.2.2.2)) (.cells #[.int .i64 (u.1), .int .i64 (1), .int .i64 (u.2.2.1), .int .i64 (u.2.2.2.1), .string u.2.2.2.2] 43))
  exact bodyPost_ret (v := .tuple #[.agg #[.int .i64 (u.1), .int .i64 (1), .int .i64 (u.2.2.1), .int .i64 (u.2.2.2.1), .string u.2.2.2.2], .int .i64 0]) (by simp [results, Try.results92, go_sem, p0, p1, p2, p3, p4]) rfl ⟨rfl, below_al (below_set5 (by omega) (unhide BL)) (by simp; omega) _⟩

set_option maxHeartbeats 4000000 in
set_option maxRecDepth 100000 in
theorem change0_any (w : World) :
    Calls Try.prog 77 #[.int .i64 0] w fun e w' => e = .returned (.func (.func 89) #[] #[]) ∧ Below w.heap.size w w' := by
  go_enter Try.func77, Try.ntmps77
  go_wp2
  go_ret
  exact ⟨rfl, (Below.refl _ _).alloc (Nat.le_refl _) _⟩

set_option maxHeartbeats 4000000 in
set_option maxRecDepth 100000 in
theorem change1_any (w : World) :
    Calls Try.prog 77 #[.int .i64 1] w fun e w' => e = .returned (.func (.func 90) #[] #[]) ∧ Below w.heap.size w w' := by
  go_enter Try.func77, Try.ntmps77
  go_wp2
  go_ret
  exact ⟨rfl, (Below.refl _ _).alloc (Nat.le_refl _) _⟩

set_option maxHeartbeats 4000000 in
set_option maxRecDepth 100000 in
theorem change2_any (w : World) :
    Calls Try.prog 77 #[.int .i64 2] w fun e w' => e = .returned (.func (.func 91) #[] #[]) ∧ Below w.heap.size w w' := by
  go_enter Try.func77, Try.ntmps77
  go_wp2
  go_ret
  exact ⟨rfl, (Below.refl _ _).alloc (Nat.le_refl _) _⟩

set_option maxHeartbeats 4000000 in
set_option maxRecDepth 100000 in
theorem change3_any (w : World) :
    Calls Try.prog 77 #[.int .i64 3] w fun e w' => e = .returned (.func (.func 92) #[] #[]) ∧ Below w.heap.size w w' := by
  go_enter Try.func77, Try.ntmps77
  go_wp2
  go_ret
  exact ⟨rfl, (Below.refl _ _).alloc (Nat.le_refl _) _⟩
end Go.Proofs.Ytdpaocikmijioad
