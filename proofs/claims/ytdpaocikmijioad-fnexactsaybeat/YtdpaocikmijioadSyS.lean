/-
  What may be said, the specification's: l5One, l5Up, SayJoin, SayBeat, SaySet, SayGone. No statement is proved here.
-/
import Derived.Test.YtdpaocikmijioadMax
import Derived.Test.YtdpaocikmijioadSyP
import Derived.Test.YtdpaocikmijioadVwV
import Derived.Test.YtdpaocikmijioadSt3
namespace Go.Proofs.Ytdpaocikmijioad
open Go.RowKit

set_option maxHeartbeats 4000000 in
set_option maxRecDepth 100000 in
theorem l5one_any (id : Int) (e : Key) (h0 : Hid (okS [(id, e)] [] = true)) (w : World) :
    Calls Try.prog 49 #[.int .i64 id, .agg #[.int .i64 e.1, .int .i64 e.2.1, .int .i64 e.2.2.1, .int .i64 e.2.2.2.1, .string e.2.2.2.2]] w fun r w' => ∃ a c, r = .returned (.tuple #[.agg #[.slice a 1 c, .slice none 0 0], .int .i64 0]) ∧ OwI w.heap.size w' (.slice a 1 c) [(id, e)] ∧ Below w.heap.size w w' := by
  go_enter Try.func49, Try.ntmps49
  go_wp2_with fail
  refine (ssingle_any id e true h0 1 (hide rfl) _).mono ?_
  rintro e w1 ⟨a, c, rfl, o1, b1⟩
  have cw1 := (((Below.refl w.heap.size w).alloc (Nat.le_refl _) _).alloc (by simp <;> omega) _).trans (b1.mono (by simp <;> omega))
  have zw1 := cw1.size
  have K_e : Hid (w1.heap[w.heap.size]? = some (.cells #[.int .i64 e.1, .int .i64 e.2.1, .int .i64 e.2.2.1, .int .i64 e.2.2.2.1, .string e.2.2.2.2] 43 (0, 0)) ∧ w.heap.size < w1.heap.size) := hide ⟨(b1.block _ (by simp <;> omega)).trans (lowB2 w _ _), by have := b1.size; simp at this; omega⟩
  have y_e := (unhide K_e).2
  have K_r : Hid (w1.heap[w.heap.size + 1]? = some (.cells #[.slice none 0 0, .slice none 0 0] 31 (0, 0)) ∧ w.heap.size + 1 < w1.heap.size) := hide ⟨(b1.block _ (by simp <;> omega)).trans (newB2 w _ _), by have := b1.size; simp at this; omega⟩
  have y_r := (unhide K_r).2
  have BL := hide cw1
  have R_oS1 := hide (o1)
  have L_oS1 := hide (World.ownsRow.lt (unhide R_oS1))
  clear b1 cw1
  obtain ⟨e_0, e_1, e_2, e_3, e_4, e_z⟩ := blk_cells5 (unhide K_e).1
  have n_e := (unhide K_e).2
  obtain ⟨r_0, r_1, r_z⟩ := blk_cells2 (unhide K_r).1
  have n_r := (unhide K_r).2
  clear o1
  go_wp2
  obtain ⟨p0, p1, -⟩ := blk_cells2 (blk_al (blk_set2 (unhide K_r).1 (.slice a 1 c) (.slice none 0 0)) (.cells #[.slice a 1 c, .slice none 0 0] 31))
  exact bodyPost_ret (v := .tuple #[.agg #[.slice a 1 c, .slice none 0 0], .int .i64 0]) (by simp [results, Try.results49, go_sem, p0, p1]) rfl ⟨a, c, rfl, ow_al (ow_res (Ow.base (unhide R_oS1) (by simp; omega)) (unhide K_r).1 _ _) _, below_al (below_res (unhide BL) (by omega) _ _) (by simp; omega) _⟩
set_option maxHeartbeats 4000000 in
set_option maxRecDepth 100000 in
theorem l5up_any (ai : Option Addr) (ni ci : Nat) (xs : List Itm) (af : Option Addr) (nf cf : Nat) (fs : List Flr) (id : Int) (ok : Bool) (h0 : Hid ((okS xs fs && inB id 0 4) = ok)) (r : Key) (t : Bool) (hr : Hid (entR (vw xs fs) id = (r, t))) (u : Key) (c : Int) (hu : Hid (upR ok t r = (u, c))) (w : World) (hni : ni ≤ 140737488351232) (hnf : nf ≤ 140737488351232) (hx : Rw encI 6 w (.slice ai ni ci) xs) (hf : Rw encF 2 w (.slice af nf cf) fs) :
    Calls Try.prog 51 #[.agg #[.slice ai ni ci, .slice af nf cf], .int .i64 id] w fun e w' => e = .returned (.tuple #[.agg #[.int .i64 u.1, .int .i64 u.2.1, .int .i64 u.2.2.1, .int .i64 u.2.2.2.1, .string u.2.2.2.2], .int .i64 c]) ∧ Below w.heap.size w w' := by
  have R_x := hide hx
  have R_f := hide hf
  clear hx hf
  obtain ⟨k1, HK1⟩ : ∃ k, Hid (okS xs fs = k) := ⟨_, hide rfl⟩
  obtain ⟨k2, HK2⟩ : ∃ k, Hid (inB id 0 4 = k) := ⟨_, hide rfl⟩
  have HK : Hid ((k1 && k2) = ok) := hide (by rw [← unhide HK1, ← unhide HK2]; exact unhide h0)
  go_enter Try.func51, Try.ntmps51
  go_wp2_with fail
  refine (sstateok_any ai ni ci xs af nf cf fs k1 HK1 _ hni hnf (((unhide R_x).alloc _).alloc _) (((unhide R_f).alloc _).alloc _)).mono ?_
  rintro e w1 ⟨rfl, b1⟩
  have cw1 := (((Below.refl w.heap.size w).alloc (Nat.le_refl _) _).alloc (by simp <;> omega) _).trans (b1.mono (by simp <;> omega))
  have zw1 := cw1.size
  have K_s : Hid (w1.heap[w.heap.size]? = some (.cells #[.slice ai ni ci, .slice af nf cf] 31 (0, 0)) ∧ w.heap.size < w1.heap.size) := hide ⟨(b1.block _ (by simp <;> omega)).trans (lowB2 w _ _), by have := b1.size; simp at this; omega⟩
  have y_s := (unhide K_s).2
  have K_r : Hid (w1.heap[w.heap.size + 1]? = some (.cells #[.int .i64 0, .int .i64 0, .int .i64 0, .int .i64 0, .string ⟨#[]⟩] 43 (0, 0)) ∧ w.heap.size + 1 < w1.heap.size) := hide ⟨(b1.block _ (by simp <;> omega)).trans (newB2 w _ _), by have := b1.size; simp at this; omega⟩
  have y_r := (unhide K_r).2
  have R_x := hide ((unhide R_x).later cw1)
  have R_f := hide ((unhide R_f).later cw1)
  have BL := hide cw1
  clear b1 cw1
  obtain ⟨s_0, s_1, -⟩ := blk_cells2 (unhide K_s).1
  have n_s := (unhide K_s).2
  obtain ⟨r_0, r_1, r_2, r_3, r_4, r_z⟩ := blk_cells5 (unhide K_r).1
  have n_r := (unhide K_r).2
  cases k1
  · obtain ⟨rfl, rfl⟩ : u = zeroK ∧ c = 1 := by have h := unhide hu; rw [← unhide HK] at h; exact ⟨(congrArg Prod.fst h).symm, (congrArg Prod.snd h).symm⟩
    go_wp2
    exact bodyPost_ret (v := .tuple #[.agg #[.int .i64 zeroK.1, .int .i64 zeroK.2.1, .int .i64 zeroK.2.2.1, .int .i64 zeroK.2.2.2.1, .string zeroK.2.2.2.2], .int .i64 1]) (by simp [results, Try.results51, go_sem, zeroK, r_0, r_1, r_2, r_3, r_4]) rfl ⟨rfl, below_set5 (by omega) (unhide BL)⟩
  go_wp2_with fail
  refine (l3node_any id k2 HK2 _).mono ?_
  rintro e _ ⟨rfl, rfl⟩
  cases k2
  · obtain ⟨rfl, rfl⟩ : u = zeroK ∧ c = 1 := by have h := unhide hu; rw [← unhide HK] at h; exact ⟨(congrArg Prod.fst h).symm, (congrArg Prod.snd h).symm⟩
    go_wp2
    exact bodyPost_ret (v := .tuple #[.agg #[.int .i64 zeroK.1, .int .i64 zeroK.2.1, .int .i64 zeroK.2.2.1, .int .i64 zeroK.2.2.2.1, .string zeroK.2.2.2.2], .int .i64 1]) (by simp [results, Try.results51, go_sem, zeroK, r_0, r_1, r_2, r_3, r_4]) rfl ⟨rfl, below_set5 (by omega) (unhide BL)⟩
  obtain rfl : ok = true := (unhide HK).symm
  go_wp2_with fail
  refine (slookup_any ai ni ci xs af nf cf fs id r t hr _ hni hnf (unhide R_x) (unhide R_f)).mono ?_
  rintro e w2 ⟨rfl, b2⟩
  clear r_0 r_1 r_2 r_3 r_4 r_z n_r s_0 s_1 n_s
  have cw2 := b2
  have zw2 := cw2.size
  have K_s := hide (keptblk cw2 K_s)
  have K_r := hide (keptblk cw2 K_r)
  have R_x := hide ((unhide R_x).later cw2)
  have R_f := hide ((unhide R_f).later cw2)
  have BL := hide ((unhide BL).trans (cw2.mono (unhide BL).size))
  clear b2 cw2
  obtain ⟨s_0, s_1, -⟩ := blk_cells2 (unhide K_s).1
  have n_s := (unhide K_s).2
  obtain ⟨r_0, r_1, r_2, r_3, r_4, r_z⟩ := blk_cells5 (unhide K_r).1
  have n_r := (unhide K_r).2
  cases t
  · obtain ⟨rfl, rfl⟩ : u = zeroK ∧ c = 3 := ⟨(congrArg Prod.fst (unhide hu)).symm, (congrArg Prod.snd (unhide hu)).symm⟩
    go_wp2
    obtain ⟨p0, p1, p2, p3, p4, -⟩ := blk_cells5 (blk_al (blk_set5 (unhide K_r).1 (.int .i64 0) (.int .i64 0) (.int .i64 0) (.int .i64 0) (.string ⟨#[]⟩)) (.cells #[.int .i64 r.1, .int .i64 r.2.1, .int .i64 r.2.2.1, .int .i64 r.2.2.2.1, .string r.2.2.2.2] 43))
    exact bodyPost_ret (v := .tuple #[.agg #[.int .i64 zeroK.1, .int .i64 zeroK.2.1, .int .i64 zeroK.2.2.1, .int .i64 zeroK.2.2.2.1, .string zeroK.2.2.2.2], .int .i64 3]) (by simp [results, Try.results51, go_sem, zeroK, p0, p1, p2, p3, p4]) rfl ⟨rfl, below_al (below_set5 (by omega) (unhide BL)) (by simp; omega) _⟩
  obtain ⟨rfl, rfl⟩ : u = r ∧ c = 0 := ⟨(congrArg Prod.fst (unhide hu)).symm, (congrArg Prod.snd (unhide hu)).symm⟩
  go_wp2
  obtain ⟨p0, p1, p2, p3, p4, -⟩ := blk_cells5 (blk_al (blk_set5 (unhide K_r).1 (.int .i64 u.1) (.int .i64 u.2.1) (.int .i64 u.2.2.1) (.int .i64 u.2.2.2.1) (.string u.2.2.2.2)) (.cells #[.int .i64 u.1, .int .i64 u.2.1, .int .i64 u.2.2.1, .int .i64 u.2.2.2.1, .string u.2.2.2.2] 43))
  exact bodyPost_ret (v := .tuple #[.agg #[.int .i64 u.1, .int .i64 u.2.1, .int .i64 u.2.2.1, .int .i64 u.2.2.2.1, .string u.2.2.2.2], .int .i64 0]) (by simp [results, Try.results51, go_sem, p0, p1, p2, p3, p4]) rfl ⟨rfl, below_al (below_set5 (by omega) (unhide BL)) (by simp; omega) _⟩
set_option maxHeartbeats 4000000 in
set_option maxRecDepth 100000 in
theorem ssay1_any (ai : Option Addr) (ni ci : Nat) (xs : List Itm) (af : Option Addr) (nf cf : Nat) (fs : List Flr) (id : Int) (n : Nat) (HN : Hid ((sayL 1 ⟨#[]⟩ xs fs id).length = n)) (c : Int) (HC : Hid (sayC 1 ⟨#[]⟩ xs fs id = c)) (w : World) (hni : ni ≤ 140737488351232) (hnf : nf ≤ 140737488351232) (hx : Rw encI 6 w (.slice ai ni ci) xs) (hf : Rw encF 2 w (.slice af nf cf) fs) :
    Calls Try.prog 21 #[.agg #[.slice ai ni ci, .slice af nf cf], .int .i64 id] w fun e w' => ∃ a q, e = .returned (.tuple #[.agg #[.slice a n q, .slice none 0 0], .int .i64 c]) ∧ OwI w.heap.size w' (.slice a n q) (sayL 1 ⟨#[]⟩ xs fs id) ∧ Below w.heap.size w w' := by
  have R_x := hide hx
  have R_f := hide hf
  clear hx hf
  obtain ⟨ok, h0⟩ : ∃ k, Hid ((okS xs fs && inB id 0 4) = k) := ⟨_, hide rfl⟩
  obtain ⟨r, t, hr⟩ : ∃ r t, Hid (entR (vw xs fs) id = (r, t)) := ⟨_, _, hide rfl⟩
  obtain ⟨u, uc, hu⟩ : ∃ u uc, Hid (upR ok t r = (u, uc)) := ⟨_, _, hide rfl⟩
  go_enter Try.func21, Try.ntmps21
  go_wp2_with fail
  refine (l5up_any ai ni ci xs af nf cf fs id ok h0 r t hr u uc hu _ hni hnf (((unhide R_x).alloc _).alloc _) (((unhide R_f).alloc _).alloc _)).mono ?_
  rintro e w1 ⟨rfl, b1⟩
  have cw1 := (((Below.refl w.heap.size w).alloc (Nat.le_refl _) _).alloc (by simp <;> omega) _).trans (b1.mono (by simp <;> omega))
  have zw1 := cw1.size
  have K_s : Hid (w1.heap[w.heap.size]? = some (.cells #[.slice ai ni ci, .slice af nf cf] 31 (0, 0)) ∧ w.heap.size < w1.heap.size) := hide ⟨(b1.block _ (by simp <;> omega)).trans (lowB2 w _ _), by have := b1.size; simp at this; omega⟩
  have y_s := (unhide K_s).2
  have K_r : Hid (w1.heap[w.heap.size + 1]? = some (.cells #[.slice none 0 0, .slice none 0 0] 31 (0, 0)) ∧ w.heap.size + 1 < w1.heap.size) := hide ⟨(b1.block _ (by simp <;> omega)).trans (newB2 w _ _), by have := b1.size; simp at this; omega⟩
  have y_r := (unhide K_r).2
  have R_x := hide ((unhide R_x).later cw1)
  have R_f := hide ((unhide R_f).later cw1)
  have BL := hide cw1
  clear b1 cw1
  obtain ⟨s_0, s_1, -⟩ := blk_cells2 (unhide K_s).1
  have n_s := (unhide K_s).2
  obtain ⟨r_0, r_1, r_z⟩ := blk_cells2 (unhide K_r).1
  have n_r := (unhide K_r).2
  cases ok
  · obtain ⟨rfl, rfl⟩ : u = zeroK ∧ uc = 1 := ⟨(congrArg Prod.fst (unhide hu)).symm, (congrArg Prod.snd (unhide hu)).symm⟩
    obtain ⟨hL, hC⟩ := say_bad (k := 1) (d := ⟨#[]⟩) (unhide h0)
    obtain rfl : n = 0 := by rw [← unhide HN, hL]; rfl
    obtain rfl : c = 1 := by rw [← unhide HC]; exact hC
    simp only [zeroK]
    go_wp2
    obtain ⟨p0, p1, -⟩ := blk_cells2 (blk_al (blk_set2 (unhide K_r).1 (.slice none 0 0) (.slice none 0 0)) (.cells #[.int .i64 0, .int .i64 0, .int .i64 0, .int .i64 0, .string ⟨#[]⟩] 43))
    exact bodyPost_ret (v := .tuple #[.agg #[.slice none 0 0, .slice none 0 0], .int .i64 1]) (by simp [results, Try.results21, go_sem, p0, p1]) rfl ⟨_, _, rfl, by rw [hL]; exact own_nil _ _, below_al (below_res (unhide BL) (by omega) _ _) (by simp; omega) _⟩
  cases t
  · obtain ⟨rfl, rfl⟩ : u = zeroK ∧ uc = 3 := ⟨(congrArg Prod.fst (unhide hu)).symm, (congrArg Prod.snd (unhide hu)).symm⟩
    have hch : chg 1 ⟨#[]⟩ xs fs id = (zeroK, 3) := by simp only [chg, unhide hr, chB]; rfl
    obtain ⟨hL, hC⟩ := say_no (unhide h0) hch (by omega)
    obtain rfl : n = 0 := by rw [← unhide HN, hL]; rfl
    obtain rfl : c = 3 := by rw [← unhide HC]; exact hC
    clear hch
    simp only [zeroK]
    go_wp2
    obtain ⟨p0, p1, -⟩ := blk_cells2 (blk_al (blk_set2 (unhide K_r).1 (.slice none 0 0) (.slice none 0 0)) (.cells #[.int .i64 0, .int .i64 0, .int .i64 0, .int .i64 0, .string ⟨#[]⟩] 43))
    exact bodyPost_ret (v := .tuple #[.agg #[.slice none 0 0, .slice none 0 0], .int .i64 3]) (by simp [results, Try.results21, go_sem, p0, p1]) rfl ⟨_, _, rfl, by rw [hL]; exact own_nil _ _, below_al (below_res (unhide BL) (by omega) _ _) (by simp; omega) _⟩
  obtain ⟨rfl, rfl⟩ : u = r ∧ uc = 0 := ⟨(congrArg Prod.fst (unhide hu)).symm, (congrArg Prod.snd (unhide hu)).symm⟩
  obtain ⟨q1, q2, q3, q4, q5⟩ := okE_all.1 (((okS_iff _ _).1 (ok_parts (unhide h0)).1).ent_in ((there_iff ((okS_iff _ _).1 (ok_parts (unhide h0)).1) (unhide hr)).1 rfl).1).2.2.1
  rcases Bool.eq_false_or_eq_true (u.2.2.1 == 100000) with hm | hm
  · skip
    have hch : chg 1 ⟨#[]⟩ xs fs id = (zeroK, 4) := by simp only [chg, unhide hr, chB, hm]; rfl
    obtain ⟨hL, hC⟩ := say_no (unhide h0) hch (by omega)
    obtain rfl : n = 0 := by rw [← unhide HN, hL]; rfl
    obtain rfl : c = 4 := by rw [← unhide HC]; exact hC
    clear hch
    go_wp2
    obtain ⟨p0, p1, -⟩ := blk_cells2 (blk_al (blk_set2 (unhide K_r).1 (.slice none 0 0) (.slice none 0 0)) (.cells #[.int .i64 u.1, .int .i64 u.2.1, .int .i64 u.2.2.1, .int .i64 u.2.2.2.1, .string u.2.2.2.2] 43))
    exact bodyPost_ret (v := .tuple #[.agg #[.slice none 0 0, .slice none 0 0], .int .i64 4]) (by simp [results, Try.results21, go_sem, p0, p1]) rfl ⟨_, _, rfl, by rw [hL]; exact own_nil _ _, below_al (below_res (unhide BL) (by omega) _ _) (by simp; omega) _⟩
  · skip
    have hch : chg 1 ⟨#[]⟩ xs fs id = ((u.1, u.2.1, u.2.2.1 + 1, u.2.2.2.1, u.2.2.2.2), 0) := by simp only [chg, unhide hr, chB, hm]; rfl
    have HO := hide (chg_one (by omega) (unhide h0) hch).1
    have HCH := hide hch
    clear hch
    go_wp2_with fail
    refine (l5one_any id (u.1, u.2.1, u.2.2.1 + 1, u.2.2.2.1, u.2.2.2.2) HO _).mono ?_
    rintro e w2 ⟨a1, c1, rfl, o1, b2⟩
    clear r_0 r_1 r_z n_r s_0 s_1 n_s
    have cw2 := ((Below.refl w1.heap.size w1).alloc (Nat.le_refl _) _).trans (b2.mono (by simp <;> omega))
    have zw2 := cw2.size
    have K_s := hide (keptblk cw2 K_s)
    have K_r := hide (keptblk cw2 K_r)
    have K_e : Hid (w2.heap[w1.heap.size]? = some (.cells #[.int .i64 (u.1), .int .i64 (u.2.1), .int .i64 (u.2.2.1 + 1), .int .i64 (u.2.2.2.1), .string u.2.2.2.2] 43 (0, 0)) ∧ w1.heap.size < w2.heap.size) := hide ⟨(b2.block _ (by simp <;> omega)).trans (newB1 w1 _), by have := b2.size; simp at this; omega⟩
    have y_e := (unhide K_e).2
    have R_x := hide ((unhide R_x).later cw2)
    have R_f := hide ((unhide R_f).later cw2)
    have BL := hide ((unhide BL).trans (cw2.mono (unhide BL).size))
    have R_oS1 := hide (o1)
    have L_oS1 := hide (World.ownsRow.lt (unhide R_oS1))
    clear b2 cw2
    obtain ⟨s_0, s_1, -⟩ := blk_cells2 (unhide K_s).1
    have n_s := (unhide K_s).2
    obtain ⟨r_0, r_1, r_z⟩ := blk_cells2 (unhide K_r).1
    have n_r := (unhide K_r).2
    obtain ⟨e_0, e_1, e_2, e_3, e_4, e_z⟩ := blk_cells5 (unhide K_e).1
    have n_e := (unhide K_e).2
    clear o1
    obtain ⟨hL, hC⟩ := say_ok (unhide h0) (unhide HCH)
    obtain rfl : n = 1 := by rw [← unhide HN, hL]; rfl
    obtain rfl : c = 0 := by rw [← unhide HC]; exact hC
    go_wp2
    obtain ⟨p0, p1, -⟩ := blk_cells2 (blk_set2 (unhide K_r).1 (.slice a1 1 c1) (.slice none 0 0))
    exact bodyPost_ret (v := .tuple #[.agg #[.slice a1 1 c1, .slice none 0 0], .int .i64 0]) (by simp [results, Try.results21, go_sem, p0, p1]) rfl ⟨_, _, rfl, by rw [hL]; exact ow_res (Ow.base (unhide R_oS1) (by first | omega | (simp; omega))) (unhide K_r).1 _ _, below_res (unhide BL) (by omega) _ _⟩
set_option maxHeartbeats 4000000 in
set_option maxRecDepth 100000 in
theorem ssay0_any (ai : Option Addr) (ni ci : Nat) (xs : List Itm) (af : Option Addr) (nf cf : Nat) (fs : List Flr) (id : Int) (n : Nat) (HN : Hid ((sayL 0 ⟨#[]⟩ xs fs id).length = n)) (c : Int) (HC : Hid (sayC 0 ⟨#[]⟩ xs fs id = c)) (w : World) (hni : ni ≤ 140737488351232) (hnf : nf ≤ 140737488351232) (hx : Rw encI 6 w (.slice ai ni ci) xs) (hf : Rw encF 2 w (.slice af nf cf) fs) :
    Calls Try.prog 19 #[.agg #[.slice ai ni ci, .slice af nf cf], .int .i64 id] w fun e w' => ∃ a q, e = .returned (.tuple #[.agg #[.slice a n q, .slice none 0 0], .int .i64 c]) ∧ OwI w.heap.size w' (.slice a n q) (sayL 0 ⟨#[]⟩ xs fs id) ∧ Below w.heap.size w w' := by
  have R_x := hide hx
  have R_f := hide hf
  clear hx hf
  obtain ⟨ok, h0⟩ : ∃ k, Hid ((okS xs fs && inB id 0 4) = k) := ⟨_, hide rfl⟩
  obtain ⟨k1, HK1⟩ : ∃ k, Hid (okS xs fs = k) := ⟨_, hide rfl⟩
  obtain ⟨k2, HK2⟩ : ∃ k, Hid (inB id 0 4 = k) := ⟨_, hide rfl⟩
  have HK : Hid ((k1 && k2) = ok) := hide (by rw [← unhide HK1, ← unhide HK2]; exact unhide h0)
  obtain ⟨r, t, hr⟩ : ∃ r t, Hid (entR (vw xs fs) id = (r, t)) := ⟨_, _, hide rfl⟩
  obtain ⟨e, eo, he⟩ : ∃ r t, Hid (entR xs id = (r, t)) := ⟨_, _, hide rfl⟩
  obtain ⟨fl, hfl⟩ : ∃ f, Hid (flo fs id = f) := ⟨_, hide rfl⟩
  obtain ⟨inc, hinc⟩ : ∃ i, Hid (lastI xs fs id = i) := ⟨_, hide rfl⟩
  have hmx : Hid (max e.1 fl = inc) := hide (by rw [← unhide hinc, lastI, unhide he, unhide hfl])
  go_enter Try.func19, Try.ntmps19
  go_wp2_with fail
  refine (sstateok_any ai ni ci xs af nf cf fs k1 HK1 _ hni hnf (((unhide R_x).alloc _).alloc _) (((unhide R_f).alloc _).alloc _)).mono ?_
  rintro e w1 ⟨rfl, b1⟩
  have cw1 := (((Below.refl w.heap.size w).alloc (Nat.le_refl _) _).alloc (by simp <;> omega) _).trans (b1.mono (by simp <;> omega))
  have zw1 := cw1.size
  have K_s : Hid (w1.heap[w.heap.size]? = some (.cells #[.slice ai ni ci, .slice af nf cf] 31 (0, 0)) ∧ w.heap.size < w1.heap.size) := hide ⟨(b1.block _ (by simp <;> omega)).trans (lowB2 w _ _), by have := b1.size; simp at this; omega⟩
  have y_s := (unhide K_s).2
  have K_r : Hid (w1.heap[w.heap.size + 1]? = some (.cells #[.slice none 0 0, .slice none 0 0] 31 (0, 0)) ∧ w.heap.size + 1 < w1.heap.size) := hide ⟨(b1.block _ (by simp <;> omega)).trans (newB2 w _ _), by have := b1.size; simp at this; omega⟩
  have y_r := (unhide K_r).2
  have R_x := hide ((unhide R_x).later cw1)
  have R_f := hide ((unhide R_f).later cw1)
  have BL := hide cw1
  clear b1 cw1
  obtain ⟨s_0, s_1, -⟩ := blk_cells2 (unhide K_s).1
  have n_s := (unhide K_s).2
  obtain ⟨r_0, r_1, r_z⟩ := blk_cells2 (unhide K_r).1
  have n_r := (unhide K_r).2
  cases k1
  · obtain rfl : ok = false := (unhide HK).symm
    obtain ⟨hL, hC⟩ := say_bad (k := 0) (d := ⟨#[]⟩) (unhide h0)
    obtain rfl : n = 0 := by rw [← unhide HN, hL]; rfl
    obtain rfl : c = 1 := by rw [← unhide HC]; exact hC
    go_wp2
    obtain ⟨p0, p1, -⟩ := blk_cells2 (blk_set2 (unhide K_r).1 (.slice none 0 0) (.slice none 0 0))
    exact bodyPost_ret (v := .tuple #[.agg #[.slice none 0 0, .slice none 0 0], .int .i64 1]) (by simp [results, Try.results19, go_sem, p0, p1]) rfl ⟨_, _, rfl, by rw [hL]; exact own_nil _ _, below_res (unhide BL) (by omega) _ _⟩
  go_wp2_with fail
  refine (l3node_any id k2 HK2 _).mono ?_
  rintro e _ ⟨rfl, rfl⟩
  cases k2
  · obtain rfl : ok = false := (unhide HK).symm
    obtain ⟨hL, hC⟩ := say_bad (k := 0) (d := ⟨#[]⟩) (unhide h0)
    obtain rfl : n = 0 := by rw [← unhide HN, hL]; rfl
    obtain rfl : c = 1 := by rw [← unhide HC]; exact hC
    go_wp2
    obtain ⟨p0, p1, -⟩ := blk_cells2 (blk_set2 (unhide K_r).1 (.slice none 0 0) (.slice none 0 0))
    exact bodyPost_ret (v := .tuple #[.agg #[.slice none 0 0, .slice none 0 0], .int .i64 1]) (by simp [results, Try.results19, go_sem, p0, p1]) rfl ⟨_, _, rfl, by rw [hL]; exact own_nil _ _, below_res (unhide BL) (by omega) _ _⟩
  obtain rfl : ok = true := (unhide HK).symm
  go_wp2_with fail
  refine (slookup_any ai ni ci xs af nf cf fs id r t hr _ hni hnf (unhide R_x) (unhide R_f)).mono ?_
  rintro e w2 ⟨rfl, b2⟩
  clear r_0 r_1 r_z n_r s_0 s_1 n_s
  have cw2 := b2
  have zw2 := cw2.size
  have K_s := hide (keptblk cw2 K_s)
  have K_r := hide (keptblk cw2 K_r)
  have R_x := hide ((unhide R_x).later cw2)
  have R_f := hide ((unhide R_f).later cw2)
  have BL := hide ((unhide BL).trans (cw2.mono (unhide BL).size))
  clear b2 cw2
  obtain ⟨s_0, s_1, -⟩ := blk_cells2 (unhide K_s).1
  have n_s := (unhide K_s).2
  obtain ⟨r_0, r_1, r_z⟩ := blk_cells2 (unhide K_r).1
  have n_r := (unhide K_r).2
  cases t
  rotate_left
  · have hch : chg 0 ⟨#[]⟩ xs fs id = (zeroK, 2) := by simp only [chg, unhide hr, chJ]; rfl
    obtain ⟨hL, hC⟩ := say_no (unhide h0) hch (by omega)
    obtain rfl : n = 0 := by rw [← unhide HN, hL]; rfl
    obtain rfl : c = 2 := by rw [← unhide HC]; exact hC
    clear hch
    go_wp2
    obtain ⟨p0, p1, -⟩ := blk_cells2 (blk_al (blk_set2 (unhide K_r).1 (.slice none 0 0) (.slice none 0 0)) (.cells #[.int .i64 r.1, .int .i64 r.2.1, .int .i64 r.2.2.1, .int .i64 r.2.2.2.1, .string r.2.2.2.2] 43))
    exact bodyPost_ret (v := .tuple #[.agg #[.slice none 0 0, .slice none 0 0], .int .i64 2]) (by simp [results, Try.results19, go_sem, p0, p1]) rfl ⟨_, _, rfl, by rw [hL]; exact own_nil _ _, below_al (below_res (unhide BL) (by omega) _ _) (by simp; omega) _⟩
  go_wp2_with fail
  refine (sentry_any _ ai ni ci xs id e eo he _ hni ((unhide R_x).alloc _)).mono ?_
  rintro e w3 ⟨rfl, b3⟩
  clear r_0 r_1 r_z n_r s_0 s_1 n_s
  have cw3 := ((Below.refl w2.heap.size w2).alloc (Nat.le_refl _) _).trans (b3.mono (by simp <;> omega))
  have zw3 := cw3.size
  have K_s := hide (keptblk cw3 K_s)
  have K_r := hide (keptblk cw3 K_r)
  have K_b : Hid (w3.heap[w2.heap.size]? = some (.cells #[.int .i64 r.1, .int .i64 r.2.1, .int .i64 r.2.2.1, .int .i64 r.2.2.2.1, .string r.2.2.2.2] 43 (0, 0)) ∧ w2.heap.size < w3.heap.size) := hide ⟨(b3.block _ (by simp <;> omega)).trans (newB1 w2 _), by have := b3.size; simp at this; omega⟩
  have y_b := (unhide K_b).2
  have R_x := hide ((unhide R_x).later cw3)
  have R_f := hide ((unhide R_f).later cw3)
  have BL := hide ((unhide BL).trans (cw3.mono (unhide BL).size))
  clear b3 cw3
  obtain ⟨s_0, s_1, -⟩ := blk_cells2 (unhide K_s).1
  have n_s := (unhide K_s).2
  obtain ⟨r_0, r_1, r_z⟩ := blk_cells2 (unhide K_r).1
  have n_r := (unhide K_r).2
  obtain ⟨b_0, b_1, b_2, b_3, b_4, -⟩ := blk_cells5 (unhide K_b).1
  have n_b := (unhide K_b).2
  go_wp2_with fail
  clear b_0 b_1 b_2 b_3 b_4 n_b r_0 r_1 r_z n_r s_0 s_1 n_s
  obtain ⟨w7, hw7⟩ : ∃ W, W = w3.alloc (.cells #[.int .i64 e.1, .int .i64 e.2.1, .int .i64 e.2.2.1, .int .i64 e.2.2.2.1, .string e.2.2.2.2] 43) := ⟨_, rfl⟩
  rw [← hw7]
  have cw7 : Below w3.heap.size w3 w7 := by rw [hw7]; exact (Below.refl _ _).alloc (Nat.le_refl _) _
  have zw7 := cw7.size
  have K_e9 : Hid (w7.heap[w3.heap.size]? = some (.cells #[.int .i64 e.1, .int .i64 e.2.1, .int .i64 e.2.2.1, .int .i64 e.2.2.2.1, .string e.2.2.2.2] 43 (0, 0)) ∧ w3.heap.size < w7.heap.size) := hide ⟨by rw [hw7]; exact heap_alloc_new _ _, by rw [hw7]; simp⟩
  clear hw7
  have K_s := hide (keptblk cw7 K_s)
  have K_r := hide (keptblk cw7 K_r)
  have K_b := hide (keptblk cw7 K_b)
  have R_x := hide ((unhide R_x).later cw7)
  have R_f := hide ((unhide R_f).later cw7)
  have BL := hide ((unhide BL).trans (cw7.mono (unhide BL).size))
  clear cw7
  obtain ⟨s_0, s_1, -⟩ := blk_cells2 (unhide K_s).1
  have n_s := (unhide K_s).2
  obtain ⟨r_0, r_1, r_z⟩ := blk_cells2 (unhide K_r).1
  have n_r := (unhide K_r).2
  obtain ⟨b_0, b_1, b_2, b_3, b_4, -⟩ := blk_cells5 (unhide K_b).1
  have n_b := (unhide K_b).2
  have K_e := K_e9
  clear K_e9
  obtain ⟨e_0, e_1, e_2, e_3, e_4, e_z⟩ := blk_cells5 (unhide K_e).1
  have n_e := (unhide K_e).2
  have l_s0 := later_some (w := w7) n_s s_0
  have l_s1 := later_some (w := w7) n_s s_1
  have l_e0 := later_some (w := w7) n_e e_0
  have l_e1 := later_some (w := w7) n_e e_1
  have l_e2 := later_some (w := w7) n_e e_2
  have l_e3 := later_some (w := w7) n_e e_3
  have l_e4 := later_some (w := w7) n_e e_4
  refine wp_region_later (by kernel_rfl) (by kernel_rfl) ?_
  repeat (go_big_quiet_step (first
    | (go_at_call 27; exact Calls.later_of (sfloor_v _ af nf cf fs id fl hfl _ hnf ((unhide R_f).in_later _ _)))
    | (go_at_call 48; exact Calls.later_same (l1max_any _ _ _ hmx _))))
  refine wpQuiet_nil ?_
  intro w8 cw8
  have zw8 := cw8.size
  clear l_s0 l_s1 l_e0 l_e1 l_e2 l_e3 l_e4
  clear b_0 b_1 b_2 b_3 b_4 n_b e_0 e_1 e_2 e_3 e_4 e_z n_e r_0 r_1 r_z n_r s_0 s_1 n_s
  have K_s := hide (keptblk cw8 K_s)
  have K_r := hide (keptblk cw8 K_r)
  have K_b := hide (keptblk cw8 K_b)
  have K_e := hide (keptblk cw8 K_e)
  have R_x := hide ((unhide R_x).later cw8)
  have R_f := hide ((unhide R_f).later cw8)
  have BL := hide ((unhide BL).trans (cw8.mono (unhide BL).size))
  clear cw8
  obtain ⟨s_0, s_1, -⟩ := blk_cells2 (unhide K_s).1
  have n_s := (unhide K_s).2
  obtain ⟨r_0, r_1, r_z⟩ := blk_cells2 (unhide K_r).1
  have n_r := (unhide K_r).2
  obtain ⟨b_0, b_1, b_2, b_3, b_4, -⟩ := blk_cells5 (unhide K_b).1
  have n_b := (unhide K_b).2
  obtain ⟨e_0, e_1, e_2, e_3, e_4, e_z⟩ := blk_cells5 (unhide K_e).1
  have n_e := (unhide K_e).2
  obtain ⟨i1, i2⟩ : 0 ≤ inc ∧ inc ≤ 1000 := by have h := lastI_nn ((okS_iff _ _).1 (ok_parts (unhide h0)).1) id; rw [unhide hinc] at h; exact ⟨h.1, h.2.1⟩
  rcases Bool.eq_false_or_eq_true (inc == 1000) with hm | hm
  · have hch : chg 0 ⟨#[]⟩ xs fs id = (zeroK, 4) := by simp only [chg, unhide hr, unhide hinc, chJ, hm]; rfl
    obtain ⟨hL, hC⟩ := say_no (unhide h0) hch (by omega)
    obtain rfl : n = 0 := by rw [← unhide HN, hL]; rfl
    obtain rfl : c = 4 := by rw [← unhide HC]; exact hC
    clear hch
    go_wp2
    obtain ⟨p0, p1, -⟩ := blk_cells2 (blk_set2 (unhide K_r).1 (.slice none 0 0) (.slice none 0 0))
    exact bodyPost_ret (v := .tuple #[.agg #[.slice none 0 0, .slice none 0 0], .int .i64 4]) (by simp [results, Try.results19, go_sem, p0, p1]) rfl ⟨_, _, rfl, by rw [hL]; exact own_nil _ _, below_res (unhide BL) (by omega) _ _⟩
  · skip
    have hch : chg 0 ⟨#[]⟩ xs fs id = ((inc + 1, 0, 0, 0, ⟨#[]⟩), 0) := by simp only [chg, unhide hr, unhide hinc, chJ, hm]; rfl
    have HO := hide (chg_one (by omega) (unhide h0) hch).1
    have HCH := hide hch
    clear hch
    go_wp2_with fail
    refine (l5one_any id (inc + 1, 0, 0, 0, ⟨#[]⟩) HO _).mono ?_
    rintro e w4 ⟨a1, c1, rfl, o1, b4⟩
    clear b_0 b_1 b_2 b_3 b_4 n_b e_0 e_1 e_2 e_3 e_4 e_z n_e r_0 r_1 r_z n_r s_0 s_1 n_s
    have cw4 := b4
    have zw4 := cw4.size
    have K_s := hide (keptblk cw4 K_s)
    have K_r := hide (keptblk cw4 K_r)
    have K_b := hide (keptblk cw4 K_b)
    have K_e := hide (keptblk cw4 K_e)
    have R_x := hide ((unhide R_x).later cw4)
    have R_f := hide ((unhide R_f).later cw4)
    have BL := hide ((unhide BL).trans (cw4.mono (unhide BL).size))
    have R_oS1 := hide (o1)
    have L_oS1 := hide (World.ownsRow.lt (unhide R_oS1))
    clear b4 cw4
    obtain ⟨s_0, s_1, -⟩ := blk_cells2 (unhide K_s).1
    have n_s := (unhide K_s).2
    obtain ⟨r_0, r_1, r_z⟩ := blk_cells2 (unhide K_r).1
    have n_r := (unhide K_r).2
    obtain ⟨b_0, b_1, b_2, b_3, b_4, -⟩ := blk_cells5 (unhide K_b).1
    have n_b := (unhide K_b).2
    obtain ⟨e_0, e_1, e_2, e_3, e_4, e_z⟩ := blk_cells5 (unhide K_e).1
    have n_e := (unhide K_e).2
    clear o1
    obtain ⟨hL, hC⟩ := say_ok (unhide h0) (unhide HCH)
    obtain rfl : n = 1 := by rw [← unhide HN, hL]; rfl
    obtain rfl : c = 0 := by rw [← unhide HC]; exact hC
    go_wp2
    obtain ⟨p0, p1, -⟩ := blk_cells2 (blk_set2 (unhide K_r).1 (.slice a1 1 c1) (.slice none 0 0))
    exact bodyPost_ret (v := .tuple #[.agg #[.slice a1 1 c1, .slice none 0 0], .int .i64 0]) (by simp [results, Try.results19, go_sem, p0, p1]) rfl ⟨_, _, rfl, by rw [hL]; exact ow_res (Ow.base (unhide R_oS1) (by first | omega | (simp; omega))) (unhide K_r).1 _ _, below_res (unhide BL) (by omega) _ _⟩
end Go.Proofs.Ytdpaocikmijioad
