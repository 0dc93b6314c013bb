/-
  What may be said, the specification's: l5One, l5Up, SayJoin, SayBeat, SaySet, SayGone. No statement is proved here.
-/
import Derived.Test.YtdpaocikmijioaeMax
import Derived.Test.YtdpaocikmijioaeSyP
import Derived.Test.YtdpaocikmijioaeVwV
import Derived.Test.YtdpaocikmijioaeSt3
namespace Go.Proofs.Ytdpaocikmijioae
open Go.RowKit

set_option maxHeartbeats 4000000 in
set_option maxRecDepth 100000 in
theorem l5one_any (id : Int) (e : Key) (h0 : Hid (okS [(id, e)] [] = true)) (w : World) :
    Calls Try.prog 38 #[.int .i64 id, .agg #[.int .i64 e.1, .int .i64 e.2.1, .int .i64 e.2.2.1, .int .i64 e.2.2.2.1, .string e.2.2.2.2]] w fun r w' => ∃ a c, r = .returned (.tuple #[.agg #[.slice a 1 c, .slice none 0 0], .int .i64 0]) ∧ OwI w.heap.size w' (.slice a 1 c) [(id, e)] ∧ Below w.heap.size w w' := by
  go_enter Try.func38, Try.ntmps38
  go_wp2_with fail
  refine (ssingle_any id e true h0 1 (hide rfl) _).mono ?_
  rintro e w1 ⟨a, c, rfl, o1, b1⟩
  have cw1 := (((Below.refl w.heap.size w).alloc (Nat.le_refl _) _).alloc (by simp <;> omega) _).trans (b1.mono (by simp <;> omega))
  have zw1 := cw1.size
  have K_e : Hid (w1.heap[w.heap.size]? = some (.cells #[.int .i64 e.1, .int .i64 e.2.1, .int .i64 e.2.2.1, .int .i64 e.2.2.2.1, .string e.2.2.2.2] 58 (0, 0)) ∧ w.heap.size < w1.heap.size) := hide ⟨(b1.block _ (by simp <;> omega)).trans (lowB2 w _ _), by have := b1.size; simp at this; omega⟩
  have y_e := (unhide K_e).2
  have K_r : Hid (w1.heap[w.heap.size + 1]? = some (.cells #[.slice none 0 0, .slice none 0 0] 30 (0, 0)) ∧ w.heap.size + 1 < w1.heap.size) := hide ⟨(b1.block _ (by simp <;> omega)).trans (newB2 w _ _), by have := b1.size; simp at this; omega⟩
  have y_r := (unhide K_r).2
  have BL := hide cw1
  have R_oS1 := hide (o1)
  have L_oS1 := hide (World.ownsRow.lt (unhide R_oS1))
  clear b1 cw1
  obtain ⟨e_0, e_1, e_2, e_3, e_4, e_z⟩ := blk_cells5 (unhide K_e).1
  have n_e := (unhide K_e).2
  obtain ⟨r_0, r_1, r_z⟩ := blk_cells2 (unhide K_r).1
  have n_r := (unhide K_r).2
  clear o1
  go_wp2
  obtain ⟨p0, p1, -⟩ := blk_cells2 (blk_al (blk_set2 (unhide K_r).1 (.slice a 1 c) (.slice none 0 0)) (.cells #[.slice a 1 c, .slice none 0 0] 30))
  exact bodyPost_ret (v := .tuple #[.agg #[.slice a 1 c, .slice none 0 0], .int .i64 0]) (by simp [results, Try.results38, go_sem, p0, p1]) rfl ⟨a, c, rfl, ow_al (ow_res (Ow.base (unhide R_oS1) (by simp; omega)) (unhide K_r).1 _ _) _, below_al (below_res (unhide BL) (by omega) _ _) (by simp; omega) _⟩
set_option maxHeartbeats 4000000 in
set_option maxRecDepth 100000 in
theorem l5up_any (ai : Option Addr) (ni ci : Nat) (xs : List Itm) (af : Option Addr) (nf cf : Nat) (fs : List Flr) (id : Int) (ok : Bool) (h0 : Hid ((okS xs fs && inB id 0 4) = ok)) (r : Key) (t : Bool) (hr : Hid (entR (vw xs fs) id = (r, t))) (u : Key) (c : Int) (hu : Hid (upR ok t r = (u, c))) (w : World) (hni : ni ≤ 140737488351232) (hnf : nf ≤ 140737488351232) (hx : Rw encI 6 w (.slice ai ni ci) xs) (hf : Rw encF 2 w (.slice af nf cf) fs) :
    Calls Try.prog 37 #[.agg #[.slice ai ni ci, .slice af nf cf], .int .i64 id] w fun e w' => e = .returned (.tuple #[.agg #[.int .i64 u.1, .int .i64 u.2.1, .int .i64 u.2.2.1, .int .i64 u.2.2.2.1, .string u.2.2.2.2], .int .i64 c]) ∧ Below w.heap.size w w' := by
  have R_x := hide hx
  have R_f := hide hf
  clear hx hf
  obtain ⟨k1, HK1⟩ : ∃ k, Hid (okS xs fs = k) := ⟨_, hide rfl⟩
  obtain ⟨k2, HK2⟩ : ∃ k, Hid (inB id 0 4 = k) := ⟨_, hide rfl⟩
  have HK : Hid ((k1 && k2) = ok) := hide (by rw [← unhide HK1, ← unhide HK2]; exact unhide h0)
  go_enter Try.func37, Try.ntmps37
  go_wp2_with fail
  refine (sstateok_any ai ni ci xs af nf cf fs k1 HK1 _ hni hnf (((unhide R_x).alloc _).alloc _) (((unhide R_f).alloc _).alloc _)).mono ?_
  rintro e w1 ⟨rfl, b1⟩
  have cw1 := (((Below.refl w.heap.size w).alloc (Nat.le_refl _) _).alloc (by simp <;> omega) _).trans (b1.mono (by simp <;> omega))
  have zw1 := cw1.size
  have K_s : Hid (w1.heap[w.heap.size]? = some (.cells #[.slice ai ni ci, .slice af nf cf] 30 (0, 0)) ∧ w.heap.size < w1.heap.size) := hide ⟨(b1.block _ (by simp <;> omega)).trans (lowB2 w _ _), by have := b1.size; simp at this; omega⟩
  have y_s := (unhide K_s).2
  have K_r : Hid (w1.heap[w.heap.size + 1]? = some (.cells #[.int .i64 0, .int .i64 0, .int .i64 0, .int .i64 0, .string ⟨#[]⟩] 58 (0, 0)) ∧ w.heap.size + 1 < w1.heap.size) := hide ⟨(b1.block _ (by simp <;> omega)).trans (newB2 w _ _), by have := b1.size; simp at this; omega⟩
  have y_r := (unhide K_r).2
  have R_x := hide ((unhide R_x).later cw1)
  have R_f := hide ((unhide R_f).later cw1)
  have BL := hide cw1
  clear b1 cw1
  obtain ⟨s_0, s_1, -⟩ := blk_cells2 (unhide K_s).1
  have n_s := (unhide K_s).2
  obtain ⟨r_0, r_1, r_2, r_3, r_4, r_z⟩ := blk_cells5 (unhide K_r).1
  have n_r := (unhide K_r).2
  cases k1
  · obtain ⟨rfl, rfl⟩ : u = zeroK ∧ c = 1 := by have h := unhide hu; rw [← unhide HK] at h; exact ⟨(congrArg Prod.fst h).symm, (congrArg Prod.snd h).symm⟩
    go_wp2
    exact bodyPost_ret (v := .tuple #[.agg #[.int .i64 zeroK.1, .int .i64 zeroK.2.1, .int .i64 zeroK.2.2.1, .int .i64 zeroK.2.2.2.1, .string zeroK.2.2.2.2], .int .i64 1]) (by simp [results, Try.results37, go_sem, zeroK, r_0, r_1, r_2, r_3, r_4]) rfl ⟨rfl, below_set5 (by omega) (unhide BL)⟩
  go_wp2_with fail
  refine (l3node_any id k2 HK2 _).mono ?_
  rintro e _ ⟨rfl, rfl⟩
  cases k2
  · obtain ⟨rfl, rfl⟩ : u = zeroK ∧ c = 1 := by have h := unhide hu; rw [← unhide HK] at h; exact ⟨(congrArg Prod.fst h).symm, (congrArg Prod.snd h).symm⟩
    go_wp2
    exact bodyPost_ret (v := .tuple #[.agg #[.int .i64 zeroK.1, .int .i64 zeroK.2.1, .int .i64 zeroK.2.2.1, .int .i64 zeroK.2.2.2.1, .string zeroK.2.2.2.2], .int .i64 1]) (by simp [results, Try.results37, go_sem, zeroK, r_0, r_1, r_2, r_3, r_4]) rfl ⟨rfl, below_set5 (by omega) (unhide BL)⟩
  obtain rfl : ok = true := (unhide HK).symm
  go_wp2_with fail
  refine (slookup_any ai ni ci xs af nf cf fs id r t hr _ hni hnf (unhide R_x) (unhide R_f)).mono ?_
  rintro e w2 ⟨rfl, b2⟩
  clear r_0 r_1 r_2 r_3 r_4 r_z n_r s_0 s_1 n_s
  have cw2 := b2
  have zw2 := cw2.size
  have K_s := hide (keptblk cw2 K_s)
  have K_r := hide (keptblk cw2 K_r)
  have R_x := hide ((unhide R_x).later cw2)
  have R_f := hide ((unhide R_f).later cw2)
  have BL := hide ((unhide BL).trans (cw2.mono (unhide BL).size))
  clear b2 cw2
  obtain ⟨s_0, s_1, -⟩ := blk_cells2 (unhide K_s).1
  have n_s := (unhide K_s).2
  obtain ⟨r_0, r_1, r_2, r_3, r_4, r_z⟩ := blk_cells5 (unhide K_r).1
  have n_r := (unhide K_r).2
  cases t
  · obtain ⟨rfl, rfl⟩ : u = zeroK ∧ c = 3 := ⟨(congrArg Prod.fst (unhide hu)).symm, (congrArg Prod.snd (unhide hu)).symm⟩
    go_wp2
    obtain ⟨p0, p1, p2, p3, p4, -⟩ := blk_cells5 (blk_al (blk_set5 (unhide K_r).1 (.int .i64 0) (.int .i64 0) (.int .i64 0) (.int .i64 0) (.string ⟨#[]⟩)) (.cells #[.int .i64 r.1, .int .i64 r.2.1, .int .i64 r.2.2.1, .int .i64 r.2.2.2.1, .string r.2.2.2.2] 58))
    exact bodyPost_ret (v := .tuple #[.agg #[.int .i64 zeroK.1, .int .i64 zeroK.2.1, .int .i64 zeroK.2.2.1, .int .i64 zeroK.2.2.2.1, .string zeroK.2.2.2.2], .int .i64 3]) (by simp [results, Try.results37, go_sem, zeroK, p0, p1, p2, p3, p4]) rfl ⟨rfl, below_al (below_set5 (by omega) (unhide BL)) (by simp; omega) _⟩
  obtain ⟨rfl, rfl⟩ : u = r ∧ c = 0 := ⟨(congrArg Prod.fst (unhide hu)).symm, (congrArg Prod.snd (unhide hu)).symm⟩
  go_wp2
  obtain ⟨p0, p1, p2, p3, p4, -⟩ := blk_cells5 (blk_al (blk_set5 (unhide K_r).1 (.int .i64 u.1) (.int .i64 u.2.1) (.int .i64 u.2.2.1) (.int .i64 u.2.2.2.1) (.string u.2.2.2.2)) (.cells #[.int .i64 u.1, .int .i64 u.2.1, .int .i64 u.2.2.1, .int .i64 u.2.2.2.1, .string u.2.2.2.2] 58))
  exact bodyPost_ret (v := .tuple #[.agg #[.int .i64 u.1, .int .i64 u.2.1, .int .i64 u.2.2.1, .int .i64 u.2.2.2.1, .string u.2.2.2.2], .int .i64 0]) (by simp [results, Try.results37, go_sem, p0, p1, p2, p3, p4]) rfl ⟨rfl, below_al (below_set5 (by omega) (unhide BL)) (by simp; omega) _⟩
set_option maxHeartbeats 4000000 in
set_option maxRecDepth 100000 in
theorem ssay2_any (ai : Option Addr) (ni ci : Nat) (xs : List Itm) (af : Option Addr) (nf cf : Nat) (fs : List Flr) (id : Int) (dt : ByteArray) (n : Nat) (HN : Hid ((sayL 2 dt xs fs id).length = n)) (c : Int) (HC : Hid (sayC 2 dt xs fs id = c)) (w : World) (hni : ni ≤ 140737488351232) (hnf : nf ≤ 140737488351232) (hx : Rw encI 6 w (.slice ai ni ci) xs) (hf : Rw encF 2 w (.slice af nf cf) fs) :
    Calls Try.prog 10 #[.agg #[.slice ai ni ci, .slice af nf cf], .int .i64 id, .string dt] w fun e w' => ∃ a q, e = .returned (.tuple #[.agg #[.slice a n q, .slice none 0 0], .int .i64 c]) ∧ OwI w.heap.size w' (.slice a n q) (sayL 2 dt xs fs id) ∧ Below w.heap.size w w' := by
  have R_x := hide hx
  have R_f := hide hf
  clear hx hf
  obtain ⟨ok, h0⟩ : ∃ k, Hid ((okS xs fs && inB id 0 4) = k) := ⟨_, hide rfl⟩
  obtain ⟨r, t, hr⟩ : ∃ r t, Hid (entR (vw xs fs) id = (r, t)) := ⟨_, _, hide rfl⟩
  obtain ⟨u, uc, hu⟩ : ∃ u uc, Hid (upR ok t r = (u, uc)) := ⟨_, _, hide rfl⟩
  go_enter Try.func10, Try.ntmps10
  go_wp2_with fail
  refine (l5up_any ai ni ci xs af nf cf fs id ok h0 r t hr u uc hu _ hni hnf (((unhide R_x).alloc _).alloc _) (((unhide R_f).alloc _).alloc _)).mono ?_
  rintro e w1 ⟨rfl, b1⟩
  have cw1 := (((Below.refl w.heap.size w).alloc (Nat.le_refl _) _).alloc (by simp <;> omega) _).trans (b1.mono (by simp <;> omega))
  have zw1 := cw1.size
  have K_s : Hid (w1.heap[w.heap.size]? = some (.cells #[.slice ai ni ci, .slice af nf cf] 30 (0, 0)) ∧ w.heap.size < w1.heap.size) := hide ⟨(b1.block _ (by simp <;> omega)).trans (lowB2 w _ _), by have := b1.size; simp at this; omega⟩
  have y_s := (unhide K_s).2
  have K_r : Hid (w1.heap[w.heap.size + 1]? = some (.cells #[.slice none 0 0, .slice none 0 0] 30 (0, 0)) ∧ w.heap.size + 1 < w1.heap.size) := hide ⟨(b1.block _ (by simp <;> omega)).trans (newB2 w _ _), by have := b1.size; simp at this; omega⟩
  have y_r := (unhide K_r).2
  have R_x := hide ((unhide R_x).later cw1)
  have R_f := hide ((unhide R_f).later cw1)
  have BL := hide cw1
  clear b1 cw1
  obtain ⟨s_0, s_1, -⟩ := blk_cells2 (unhide K_s).1
  have n_s := (unhide K_s).2
  obtain ⟨r_0, r_1, r_z⟩ := blk_cells2 (unhide K_r).1
  have n_r := (unhide K_r).2
  cases ok
  · obtain ⟨rfl, rfl⟩ : u = zeroK ∧ uc = 1 := ⟨(congrArg Prod.fst (unhide hu)).symm, (congrArg Prod.snd (unhide hu)).symm⟩
    obtain ⟨hL, hC⟩ := say_bad (k := 2) (d := dt) (unhide h0)
    obtain rfl : n = 0 := by rw [← unhide HN, hL]; rfl
    obtain rfl : c = 1 := by rw [← unhide HC]; exact hC
    simp only [zeroK]
    go_wp2
    obtain ⟨p0, p1, -⟩ := blk_cells2 (blk_al (blk_set2 (unhide K_r).1 (.slice none 0 0) (.slice none 0 0)) (.cells #[.int .i64 0, .int .i64 0, .int .i64 0, .int .i64 0, .string ⟨#[]⟩] 58))
    exact bodyPost_ret (v := .tuple #[.agg #[.slice none 0 0, .slice none 0 0], .int .i64 1]) (by simp [results, Try.results10, go_sem, p0, p1]) rfl ⟨_, _, rfl, by rw [hL]; exact own_nil _ _, below_al (below_res (unhide BL) (by omega) _ _) (by simp; omega) _⟩
  cases t
  · obtain ⟨rfl, rfl⟩ : u = zeroK ∧ uc = 3 := ⟨(congrArg Prod.fst (unhide hu)).symm, (congrArg Prod.snd (unhide hu)).symm⟩
    have hch : chg 2 dt xs fs id = (zeroK, 3) := by simp only [chg, unhide hr, chS]; rfl
    obtain ⟨hL, hC⟩ := say_no (unhide h0) hch (by omega)
    obtain rfl : n = 0 := by rw [← unhide HN, hL]; rfl
    obtain rfl : c = 3 := by rw [← unhide HC]; exact hC
    clear hch
    simp only [zeroK]
    go_wp2
    obtain ⟨p0, p1, -⟩ := blk_cells2 (blk_al (blk_set2 (unhide K_r).1 (.slice none 0 0) (.slice none 0 0)) (.cells #[.int .i64 0, .int .i64 0, .int .i64 0, .int .i64 0, .string ⟨#[]⟩] 58))
    exact bodyPost_ret (v := .tuple #[.agg #[.slice none 0 0, .slice none 0 0], .int .i64 3]) (by simp [results, Try.results10, go_sem, p0, p1]) rfl ⟨_, _, rfl, by rw [hL]; exact own_nil _ _, below_al (below_res (unhide BL) (by omega) _ _) (by simp; omega) _⟩
  obtain ⟨rfl, rfl⟩ : u = r ∧ uc = 0 := ⟨(congrArg Prod.fst (unhide hu)).symm, (congrArg Prod.snd (unhide hu)).symm⟩
  obtain ⟨q1, q2, q3, q4, q5⟩ := okE_all.1 (((okS_iff _ _).1 (ok_parts (unhide h0)).1).ent_in ((there_iff ((okS_iff _ _).1 (ok_parts (unhide h0)).1) (unhide hr)).1 rfl).1).2.2.1
  rcases Bool.eq_false_or_eq_true (u.2.2.2.1 == 1000) with hm | hm
  · skip
    have hch : chg 2 dt xs fs id = (zeroK, 4) := by simp only [chg, unhide hr, chS, hm]; rfl
    obtain ⟨hL, hC⟩ := say_no (unhide h0) hch (by omega)
    obtain rfl : n = 0 := by rw [← unhide HN, hL]; rfl
    obtain rfl : c = 4 := by rw [← unhide HC]; exact hC
    clear hch
    go_wp2
    obtain ⟨p0, p1, -⟩ := blk_cells2 (blk_al (blk_set2 (unhide K_r).1 (.slice none 0 0) (.slice none 0 0)) (.cells #[.int .i64 u.1, .int .i64 u.2.1, .int .i64 u.2.2.1, .int .i64 u.2.2.2.1, .string u.2.2.2.2] 58))
    exact bodyPost_ret (v := .tuple #[.agg #[.slice none 0 0, .slice none 0 0], .int .i64 4]) (by simp [results, Try.results10, go_sem, p0, p1]) rfl ⟨_, _, rfl, by rw [hL]; exact own_nil _ _, below_al (below_res (unhide BL) (by omega) _ _) (by simp; omega) _⟩
  · skip
    rcases Bool.eq_false_or_eq_true (decide (8 < (dt.size : Int))) with hd | hd
    · skip
      have hch : chg 2 dt xs fs id = (zeroK, 4) := by simp only [chg, unhide hr, chS, hm, hd]; rfl
      obtain ⟨hL, hC⟩ := say_no (unhide h0) hch (by omega)
      obtain rfl : n = 0 := by rw [← unhide HN, hL]; rfl
      obtain rfl : c = 4 := by rw [← unhide HC]; exact hC
      clear hch
      go_wp2
      obtain ⟨p0, p1, -⟩ := blk_cells2 (blk_al (blk_set2 (unhide K_r).1 (.slice none 0 0) (.slice none 0 0)) (.cells #[.int .i64 u.1, .int .i64 u.2.1, .int .i64 u.2.2.1, .int .i64 u.2.2.2.1, .string u.2.2.2.2] 58))
      exact bodyPost_ret (v := .tuple #[.agg #[.slice none 0 0, .slice none 0 0], .int .i64 4]) (by simp [results, Try.results10, go_sem, p0, p1]) rfl ⟨_, _, rfl, by rw [hL]; exact own_nil _ _, below_al (below_res (unhide BL) (by omega) _ _) (by simp; omega) _⟩
    · skip
      have hch : chg 2 dt xs fs id = ((u.1, u.2.1, u.2.2.1, u.2.2.2.1 + 1, dt), 0) := by simp only [chg, unhide hr, chS, hm, hd]; rfl
      have HO := hide (chg_one (by omega) (unhide h0) hch).1
      have HCH := hide hch
      clear hch
      go_wp2_with fail
      refine (l5one_any id (u.1, u.2.1, u.2.2.1, u.2.2.2.1 + 1, dt) HO _).mono ?_
      rintro e w2 ⟨a1, c1, rfl, o1, b2⟩
      clear r_0 r_1 r_z n_r s_0 s_1 n_s
      have cw2 := ((Below.refl w1.heap.size w1).alloc (Nat.le_refl _) _).trans (b2.mono (by simp <;> omega))
      have zw2 := cw2.size
      have K_s := hide (keptblk cw2 K_s)
      have K_r := hide (keptblk cw2 K_r)
      have K_e : Hid (w2.heap[w1.heap.size]? = some (.cells #[.int .i64 (u.1), .int .i64 (u.2.1), .int .i64 (u.2.2.1), .int .i64 (u.2.2.2.1 + 1), .string dt] 58 (0, 0)) ∧ w1.heap.size < w2.heap.size) := hide ⟨(b2.block _ (by simp <;> omega)).trans (newB1 w1 _), by have := b2.size; simp at this; omega⟩
      have y_e := (unhide K_e).2
      have R_x := hide ((unhide R_x).later cw2)
      have R_f := hide ((unhide R_f).later cw2)
      have BL := hide ((unhide BL).trans (cw2.mono (unhide BL).size))
      have R_oS1 := hide (o1)
      have L_oS1 := hide (World.ownsRow.lt (unhide R_oS1))
      clear b2 cw2
      obtain ⟨s_0, s_1, -⟩ := blk_cells2 (unhide K_s).1
      have n_s := (unhide K_s).2
      obtain ⟨r_0, r_1, r_z⟩ := blk_cells2 (unhide K_r).1
      have n_r := (unhide K_r).2
      obtain ⟨e_0, e_1, e_2, e_3, e_4, e_z⟩ := blk_cells5 (unhide K_e).1
      have n_e := (unhide K_e).2
      clear o1
      obtain ⟨hL, hC⟩ := say_ok (unhide h0) (unhide HCH)
      obtain rfl : n = 1 := by rw [← unhide HN, hL]; rfl
      obtain rfl : c = 0 := by rw [← unhide HC]; exact hC
      go_wp2
      obtain ⟨p0, p1, -⟩ := blk_cells2 (blk_set2 (unhide K_r).1 (.slice a1 1 c1) (.slice none 0 0))
      exact bodyPost_ret (v := .tuple #[.agg #[.slice a1 1 c1, .slice none 0 0], .int .i64 0]) (by simp [results, Try.results10, go_sem, p0, p1]) rfl ⟨_, _, rfl, by rw [hL]; exact ow_res (Ow.base (unhide R_oS1) (by first | omega | (simp; omega))) (unhide K_r).1 _ _, below_res (unhide BL) (by omega) _ _⟩
set_option maxHeartbeats 4000000 in
set_option maxRecDepth 100000 in
theorem ssay3_any (ai : Option Addr) (ni ci : Nat) (xs : List Itm) (af : Option Addr) (nf cf : Nat) (fs : List Flr) (id : Int) (n : Nat) (HN : Hid ((sayL 3 ⟨#[]⟩ xs fs id).length = n)) (c : Int) (HC : Hid (sayC 3 ⟨#[]⟩ xs fs id = c)) (w : World) (hni : ni ≤ 140737488351232) (hnf : nf ≤ 140737488351232) (hx : Rw encI 6 w (.slice ai ni ci) xs) (hf : Rw encF 2 w (.slice af nf cf) fs) :
    Calls Try.prog 16 #[.agg #[.slice ai ni ci, .slice af nf cf], .int .i64 id] w fun e w' => ∃ a q, e = .returned (.tuple #[.agg #[.slice a n q, .slice none 0 0], .int .i64 c]) ∧ OwI w.heap.size w' (.slice a n q) (sayL 3 ⟨#[]⟩ xs fs id) ∧ Below w.heap.size w w' := by
  have R_x := hide hx
  have R_f := hide hf
  clear hx hf
  obtain ⟨ok, h0⟩ : ∃ k, Hid ((okS xs fs && inB id 0 4) = k) := ⟨_, hide rfl⟩
  obtain ⟨r, t, hr⟩ : ∃ r t, Hid (entR (vw xs fs) id = (r, t)) := ⟨_, _, hide rfl⟩
  obtain ⟨u, uc, hu⟩ : ∃ u uc, Hid (upR ok t r = (u, uc)) := ⟨_, _, hide rfl⟩
  go_enter Try.func16, Try.ntmps16
  go_wp2_with fail
  refine (l5up_any ai ni ci xs af nf cf fs id ok h0 r t hr u uc hu _ hni hnf (((unhide R_x).alloc _).alloc _) (((unhide R_f).alloc _).alloc _)).mono ?_
  rintro e w1 ⟨rfl, b1⟩
  have cw1 := (((Below.refl w.heap.size w).alloc (Nat.le_refl _) _).alloc (by simp <;> omega) _).trans (b1.mono (by simp <;> omega))
  have zw1 := cw1.size
  have K_s : Hid (w1.heap[w.heap.size]? = some (.cells #[.slice ai ni ci, .slice af nf cf] 30 (0, 0)) ∧ w.heap.size < w1.heap.size) := hide ⟨(b1.block _ (by simp <;> omega)).trans (lowB2 w _ _), by have := b1.size; simp at this; omega⟩
  have y_s := (unhide K_s).2
  have K_r : Hid (w1.heap[w.heap.size + 1]? = some (.cells #[.slice none 0 0, .slice none 0 0] 30 (0, 0)) ∧ w.heap.size + 1 < w1.heap.size) := hide ⟨(b1.block _ (by simp <;> omega)).trans (newB2 w _ _), by have := b1.size; simp at this; omega⟩
  have y_r := (unhide K_r).2
  have R_x := hide ((unhide R_x).later cw1)
  have R_f := hide ((unhide R_f).later cw1)
  have BL := hide cw1
  clear b1 cw1
  obtain ⟨s_0, s_1, -⟩ := blk_cells2 (unhide K_s).1
  have n_s := (unhide K_s).2
  obtain ⟨r_0, r_1, r_z⟩ := blk_cells2 (unhide K_r).1
  have n_r := (unhide K_r).2
  cases ok
  · obtain ⟨rfl, rfl⟩ : u = zeroK ∧ uc = 1 := ⟨(congrArg Prod.fst (unhide hu)).symm, (congrArg Prod.snd (unhide hu)).symm⟩
    obtain ⟨hL, hC⟩ := say_bad (k := 3) (d := ⟨#[]⟩) (unhide h0)
    obtain rfl : n = 0 := by rw [← unhide HN, hL]; rfl
    obtain rfl : c = 1 := by rw [← unhide HC]; exact hC
    simp only [zeroK]
    go_wp2
    obtain ⟨p0, p1, -⟩ := blk_cells2 (blk_al (blk_set2 (unhide K_r).1 (.slice none 0 0) (.slice none 0 0)) (.cells #[.int .i64 0, .int .i64 0, .int .i64 0, .int .i64 0, .string ⟨#[]⟩] 58))
    exact bodyPost_ret (v := .tuple #[.agg #[.slice none 0 0, .slice none 0 0], .int .i64 1]) (by simp [results, Try.results16, go_sem, p0, p1]) rfl ⟨_, _, rfl, by rw [hL]; exact own_nil _ _, below_al (below_res (unhide BL) (by omega) _ _) (by simp; omega) _⟩
  cases t
  · obtain ⟨rfl, rfl⟩ : u = zeroK ∧ uc = 3 := ⟨(congrArg Prod.fst (unhide hu)).symm, (congrArg Prod.snd (unhide hu)).symm⟩
    have hch : chg 3 ⟨#[]⟩ xs fs id = (zeroK, 3) := by simp only [chg, unhide hr, chG]; rfl
    obtain ⟨hL, hC⟩ := say_no (unhide h0) hch (by omega)
    obtain rfl : n = 0 := by rw [← unhide HN, hL]; rfl
    obtain rfl : c = 3 := by rw [← unhide HC]; exact hC
    clear hch
    simp only [zeroK]
    go_wp2
    obtain ⟨p0, p1, -⟩ := blk_cells2 (blk_al (blk_set2 (unhide K_r).1 (.slice none 0 0) (.slice none 0 0)) (.cells #[.int .i64 0, .int .i64 0, .int .i64 0, .int .i64 0, .string ⟨#[]⟩] 58))
    exact bodyPost_ret (v := .tuple #[.agg #[.slice none 0 0, .slice none 0 0], .int .i64 3]) (by simp [results, Try.results16, go_sem, p0, p1]) rfl ⟨_, _, rfl, by rw [hL]; exact own_nil _ _, below_al (below_res (unhide BL) (by omega) _ _) (by simp; omega) _⟩
  obtain ⟨rfl, rfl⟩ : u = r ∧ uc = 0 := ⟨(congrArg Prod.fst (unhide hu)).symm, (congrArg Prod.snd (unhide hu)).symm⟩
  obtain ⟨q1, q2, q3, q4, q5⟩ := okE_all.1 (((okS_iff _ _).1 (ok_parts (unhide h0)).1).ent_in ((there_iff ((okS_iff _ _).1 (ok_parts (unhide h0)).1) (unhide hr)).1 rfl).1).2.2.1
  have hch : chg 3 ⟨#[]⟩ xs fs id = ((u.1, 1, u.2.2.1, u.2.2.2.1, u.2.2.2.2), 0) := by simp only [chg, unhide hr, chG]; rfl
  have HO := hide (chg_one (by omega) (unhide h0) hch).1
  have HCH := hide hch
  clear hch
  go_wp2_with fail
  refine (l5one_any id (u.1, 1, u.2.2.1, u.2.2.2.1, u.2.2.2.2) HO _).mono ?_
  rintro e w2 ⟨a1, c1, rfl, o1, b2⟩
  clear r_0 r_1 r_z n_r s_0 s_1 n_s
  have cw2 := ((Below.refl w1.heap.size w1).alloc (Nat.le_refl _) _).trans (b2.mono (by simp <;> omega))
  have zw2 := cw2.size
  have K_s := hide (keptblk cw2 K_s)
  have K_r := hide (keptblk cw2 K_r)
  have K_e : Hid (w2.heap[w1.heap.size]? = some (.cells #[.int .i64 (u.1), .int .i64 (1), .int .i64 (u.2.2.1), .int .i64 (u.2.2.2.1), .string u.2.2.2.2] 58 (0, 0)) ∧ w1.heap.size < w2.heap.size) := hide ⟨(b2.block _ (by simp <;> omega)).trans (newB1 w1 _), by have := b2.size; simp at this; omega⟩
  have y_e := (unhide K_e).2
  have R_x := hide ((unhide R_x).later cw2)
  have R_f := hide ((unhide R_f).later cw2)
  have BL := hide ((unhide BL).trans (cw2.mono (unhide BL).size))
  have R_oS1 := hide (o1)
  have L_oS1 := hide (World.ownsRow.lt (unhide R_oS1))
  clear b2 cw2
  obtain ⟨s_0, s_1, -⟩ := blk_cells2 (unhide K_s).1
  have n_s := (unhide K_s).2
  obtain ⟨r_0, r_1, r_z⟩ := blk_cells2 (unhide K_r).1
  have n_r := (unhide K_r).2
  obtain ⟨e_0, e_1, e_2, e_3, e_4, e_z⟩ := blk_cells5 (unhide K_e).1
  have n_e := (unhide K_e).2
  clear o1
  obtain ⟨hL, hC⟩ := say_ok (unhide h0) (unhide HCH)
  obtain rfl : n = 1 := by rw [← unhide HN, hL]; rfl
  obtain rfl : c = 0 := by rw [← unhide HC]; exact hC
  go_wp2
  obtain ⟨p0, p1, -⟩ := blk_cells2 (blk_set2 (unhide K_r).1 (.slice a1 1 c1) (.slice none 0 0))
  exact bodyPost_ret (v := .tuple #[.agg #[.slice a1 1 c1, .slice none 0 0], .int .i64 0]) (by simp [results, Try.results16, go_sem, p0, p1]) rfl ⟨_, _, rfl, by rw [hL]; exact ow_res (Ow.base (unhide R_oS1) (by first | omega | (simp; omega))) (unhide K_r).1 _ _, below_res (unhide BL) (by omega) _ _⟩
end Go.Proofs.Ytdpaocikmijioae
