/-
  At every log and state LogAdd answers as the specification, field by field; it writes into no argument and keeps nothing of one; its answer owns its memory, behind another call too. No conditions but the statement’s own.
-/
import Derived.Test.YtdpaocikmijioafRows
import Derived.Test.YtdpaocikmijioafLgZ
import Derived.Test.YtdpaocikmijioafLgM
import Derived.WalkKit
import Derived.ProofKit
import Derived.OpenShut
import Derived.ShutString
import Derived.ChangeOld
import Derived.Below
import Derived.Carry
namespace Go.Proofs.Ytdpaocikmijioaf.fnExactLogAdd
open Go.ChangeShapes Go.WideShapes Go.ChangeAt Go.RowKit
open Go.ChangeMaps (open_string shut_string)

theorem own : ownKnob Try.prog.godebug = none := by kernel_rfl
theorem laidOut : laidOutB Try.prog = true := by kernel_rfl

theorem lad_tot {r : Bool} {c f : Int} {ss : List Sta} {d : Sta} {f1 : Int} {ss1 : List Sta} (h : lad r c f ss d = (f1, ss1)) : ss1.length ≤ ss.length + 1 ∧ tot ss1 ≤ tot ss + (d.1.length + d.2.length) ∧ (SzS ss → (d.1.length ≤ 1048576 ∧ d.2.length ≤ 1048576) → SzS ss1) := by
  have ht : tot (ss ++ [d]) = tot ss + (d.1.length + d.2.length) := by rw [tot_app]; simp [tot]
  have hd : ∀ l : List Sta, tot (l.drop 1) ≤ tot l := fun l => by cases l <;> simp [tot]
  unfold lad at h
  split at h
  · split at h
    · simp only [Prod.mk.injEq] at h
      obtain ⟨-, rfl⟩ := h
      exact ⟨by simp, by have := hd (ss ++ [d]); omega, fun h1 h2 => (SzS.snoc h1 h2).drop 1⟩
    · simp only [Prod.mk.injEq] at h
      obtain ⟨-, rfl⟩ := h
      exact ⟨by simp, by omega, fun h1 h2 => SzS.snoc h1 h2⟩
  · simp only [Prod.mk.injEq] at h
    obtain ⟨-, rfl⟩ := h
    exact ⟨by omega, by omega, fun h1 _ => h1⟩

set_option maxHeartbeats 8000000 in
set_option maxRecDepth 100000 in
theorem walk (w : World) (c f : Int) (a : Option Addr) (n cap : Nat) (ss : List Sta) (hn : n ≤ 9223372036854775807) (hx : RwS w (.slice a n cap) ss) (hbig : BigS ss) (_ : FitN c) (_ : FitN f) (ai : Option Addr) (ni ci : Nat) (xs : List Itm) (af : Option Addr) (nf cf : Nat) (fs : List Flr) (hni : ni ≤ 9223372036854775807) (hnf : nf ≤ 9223372036854775807) (hdx : Rw encI 6 w (.slice ai ni ci) xs) (hdf : Rw encF 2 w (.slice af nf cf) fs) (hbd : Big xs) (_ : FitI xs) (_ : FitF fs) :
    Calls Try.prog 6 #[LgV c f (.slice a n cap), .agg #[.slice ai ni ci, .slice af nf cf]] w fun e w' => e = .returned (.bool true) ∧ Below w.heap.size w w' := by
  have R_x := hide hx
  have O_x := R_x
  clear hx
  have R_dx := hide hdx
  have R_df := hide hdf
  have O_dx := R_dx
  have O_df := R_df
  have HDL := hide (And.intro hdx.len.1 hdf.len.1)
  clear hdx hdf
  obtain ⟨ok, hok⟩ : ∃ ok, lar c f ss (xs, fs) = ok := ⟨_, rfl⟩
  obtain ⟨⟨f1, ss1⟩, hla⟩ : ∃ p, lad ok c f ss (xs, fs) = p := ⟨_, rfl⟩
  obtain ⟨m, hmm⟩ : ∃ m, m = ss1.length := ⟨_, rfl⟩
  have HOK := hide hok
  have HLA := hide hla
  have HM := hide hmm
  have HT1 := hide (lad_tot hla)
  have hne : (ok != ok) = false := by cases ok <;> rfl
  clear hok hla hmm
  go_enter Try.func6, Try.ntmps6
  go_wp2_with fail
  refine (szlog_any c f a n cap ss hbig 1048576 (by omega) (by omega) _ hn (((unhide R_x).alloc _).alloc _)).mono ?_
  rintro e w1 ⟨h, b1⟩
  have cw1 := (((Below.refl w.heap.size w).alloc (Nat.le_refl _) _).alloc (by simp <;> omega) _).trans (b1.mono (by simp <;> omega))
  have zw1 := cw1.size
  have K_a : Hid (w1.heap[w.heap.size]? = some (.cells #[.int .i64 c, .int .i64 f, .slice a n cap] 46 (0, 0)) ∧ w.heap.size < w1.heap.size) := hide ⟨(b1.block _ (by simp <;> omega)).trans (lowB2 w _ _), by have := b1.size; simp at this; omega⟩
  have y_a := (unhide K_a).2
  have K_b : Hid (w1.heap[w.heap.size + 1]? = some (.cells #[.slice ai ni ci, .slice af nf cf] 28 (0, 0)) ∧ w.heap.size + 1 < w1.heap.size) := hide ⟨(b1.block _ (by simp <;> omega)).trans (newB2 w _ _), by have := b1.size; simp at this; omega⟩
  have y_b := (unhide K_b).2
  have R_x := hide ((unhide R_x).later cw1)
  have R_dx := hide ((unhide R_dx).later cw1)
  have R_df := hide ((unhide R_df).later cw1)
  have BL := hide cw1
  clear b1 cw1
  obtain ⟨a_0, a_1, a_2, -⟩ := blk_cells3 (unhide K_a).1
  have n_a := (unhide K_a).2
  obtain ⟨b_0, b_1, -⟩ := blk_cells2 (unhide K_b).1
  have n_b := (unhide K_b).2
  rcases h with rfl | ⟨r, rfl, hr1, hr2, hS⟩
  · go_wp2
    go_ret
    exact ⟨rfl, unhide BL⟩
  have hd : decide (r < 0) = false := by simp; omega
  have hn1 : n ≤ 1048576 := by omega
  have ht1 : tot ss ≤ 1048576 := by omega
  have HS := hide hS
  clear hS hn
  go_wp2_with fail
  refine (szstate_any ai ni ci xs hbd af nf cf r hr1 (by omega) _ hni hnf (unhide R_dx)).mono ?_
  rintro e w2 ⟨h, b2⟩
  clear a_0 a_1 a_2 n_a b_0 b_1 n_b
  have cw2 := b2
  have zw2 := cw2.size
  have K_a := hide (keptblk cw2 K_a)
  have K_b := hide (keptblk cw2 K_b)
  have R_x := hide ((unhide R_x).later cw2)
  have R_dx := hide ((unhide R_dx).later cw2)
  have R_df := hide ((unhide R_df).later cw2)
  have BL := hide ((unhide BL).trans (cw2.mono (unhide BL).size))
  clear b2 cw2
  obtain ⟨a_0, a_1, a_2, -⟩ := blk_cells3 (unhide K_a).1
  have n_a := (unhide K_a).2
  obtain ⟨b_0, b_1, -⟩ := blk_cells2 (unhide K_b).1
  have n_b := (unhide K_b).2
  rcases h with rfl | ⟨r2, rfl, hr3, hr4, hm1, hm2, hSd⟩
  · go_wp2
    go_ret
    exact ⟨rfl, unhide BL⟩
  have hd2 : decide (r2 < 0) = false := by simp; omega
  have HSD := hide hSd
  have hm3 : m ≤ 1048577 ∧ tot ss1 ≤ 2097152 ∧ SzS ss1 := by
    have h := unhide HT1
    rw [← unhide HM] at h
    have := (unhide R_x).len.1
    have h2 := unhide HDL
    exact ⟨by omega, by omega, h.2.2 (SzS.tot ht1) ⟨by rw [← h2.1]; exact hm1, by rw [← h2.2]; exact hm2⟩⟩
  obtain ⟨hmm1, htt1, hzz1⟩ := hm3
  have HZZ := hide hzz1
  have hq1 : decide (ndS 1 ss1 < 0) = false := by have := ndS_le ss1 1; simp; omega
  have hq2 : (ndS 1 ss1 != ndS 1 ss1) = false := by simp
  have hk1 := ndS_le ss 1
  have hk2 : decide (ndS 1 ss + 6 * (ni : Int) + 2 * (nf : Int) < 0) = false := by simp; omega
  clear hSd hzz1
  clear a_0 a_1 a_2 n_a b_0 b_1 n_b
  obtain ⟨x0, x1, x2, -⟩ := blk_cells3 (unhide K_a).1
  obtain ⟨y0, y1, -⟩ := blk_cells2 (unhide K_b).1
  go_wp2_with fail
  clear x0 x1 x2 y0 y1
  go_cut [6, 7] from 27 to 34 (fun p q wx => ∃ (g : Nat) (a1 : Option Addr) (c1 : Nat), p = .pointer (some ⟨g, 0, none⟩) ∧ q = .bool ok ∧ FinL w2 wx g c f1 (.slice a1 m c1) ss1)
  case first =>
    go_region_held3 (fun W => Below w2.heap.size w2 W ∧ W.cell? ⟨w.heap.size, 0, none⟩ = some (.int .i64 c) ∧ W.cell? ⟨w.heap.size, 1, none⟩ = some (.int .i64 f) ∧ W.cell? ⟨w.heap.size, 2, none⟩ = some (.slice a n cap) ∧ W.cell? ⟨w.heap.size + 1, 0, none⟩ = some (.slice ai ni ci) ∧ W.cell? ⟨w.heap.size + 1, 1, none⟩ = some (.slice af nf cf))
      (first | (with_reducible exact keepLS K_a K_b (Below.refl _ _)) | (with_reducible exact keepLS K_a K_b ((Below.refl _ _).drew)) | (with_reducible exact keepLS K_a K_b (by assumption)) | (with_reducible exact keepLS K_a K_b (kalL (Below.refl _ _))) | (with_reducible exact keepLS K_a K_b (kalL ((Below.refl _ _).drew))) | (with_reducible exact keepLS K_a K_b ((kalL (Below.refl _ _)).drew)) | (with_reducible exact keepLS K_a K_b (kalL (by assumption))) | (with_reducible exact keepLS K_a K_b (ksetL (by assumption) (by assumption))))
      (first
        | (go_at_call 21; refine (tolog_any c f a n cap ss _ hn1 ht1 ?_).mono ?_; exact (unhide R_x).later (kb1 (by assumption)); rintro e w3 ⟨ta1, tc1, rfl, o1, b6⟩; have R_t1 := hide o1.rw; clear o1; have bw3 := kb2 (by assumption) b6; have zw3 := bw3.size; (first | (with_reducible have M := hide (BxL.newD (P := w2) b6 (by omega))) | (with_reducible have M := hide (BxL.new (P := w2) b6 (by omega))) | (with_reducible have M := hide (BxL.kept M b6)) | skip); clear b6)
        | (go_at_call 12; refine (tostate_any ai ni ci xs af nf cf fs _ hm1 hm2 ?_ ?_).mono ?_; exact (unhide R_dx).later (kb1 (by assumption)); exact (unhide R_df).later (kb1 (by assumption)); rintro e w4 ⟨ta2, tc2, tb2, td2, rfl, o1, o2, b6⟩; have R_tI := hide (o1.rw encI_len); have R_tF := hide (o2.rw encF_len); clear o1 o2; (first | (with_reducible have R_t1 := hide ((unhide R_t1).later b6)) | (with_reducible have R_t1 := hide ((unhide R_t1).later2 b6))); have bw4 := kb2 (by assumption) b6; have zw4 := bw4.size; (first | (with_reducible have M := hide (BxL.newD (P := w2) b6 (by omega))) | (with_reducible have M := hide (BxL.new (P := w2) b6 (by omega))) | (with_reducible have M := hide (BxL.kept M b6)) | skip); clear b6)
        | (go_at_call 26; refine (slogadd_any c f _ n _ ss _ ni _ xs _ nf _ fs ok HOK f1 ss1 HLA m HM _ hn1 ht1 hm1 hm2 ?_ ?_ ?_).mono ?_; (first | exact unhide R_t1 | exact (unhide R_t1).alloc _); (first | exact unhide R_tI | exact (unhide R_tI).alloc _); (first | exact unhide R_tF | exact (unhide R_tF).alloc _); rintro e w5 ⟨ra1, rc1, rfl, o1, b8⟩; have O1 : Hid (OwW w2.heap.size w5 _ ss1) := hide (OwW.mono o1 (by first | omega | (simp; omega))); clear o1; have bw5 := kb2 (by assumption) b8; (first | (with_reducible have M2 := hide (BxL.new (P := w2) b8 (by omega)); clear b8; obtain ⟨q0, q1x, q2x, qf⟩ := blk_cells3 (unhide M2).blk; have zM := (unhide M2).lt) | (with_reducible have M2 := hide (BxL.kept M b8); clear b8; obtain ⟨q0, q1x, q2x, qf⟩ := blk_cells3 (unhide M2).blk; have zM := (unhide M2).lt) | clear b8)))
    all_goals
      go_wp2_with fail
      go_meet
      first
        | with_reducible exact ⟨_, _, _, rfl, rfl, FinL.set bw5 M2 O1⟩
        | with_reducible exact ⟨_, _, _, rfl, rfl, FinL.new bw5 O1⟩
  case rest =>
    obtain ⟨gs, wa1, wc1, rfl, rfl, hfin⟩ := hcut
    have cwc := hfin.bel
    have zwc := cwc.size
    have ge_gs := hfin.ge
    have lt_gs := hfin.lt
    have K_s := hide (And.intro hfin.blk hfin.lt)
    have R_s := hide hfin.row.rw
    clear hfin
    have K_a := hide (keptblk cwc K_a)
    have K_b := hide (keptblk cwc K_b)
    have R_x := hide ((unhide R_x).later cwc)
    have R_dx := hide ((unhide R_dx).later cwc)
    have R_df := hide ((unhide R_df).later cwc)
    have BL := hide ((unhide BL).trans (cwc.mono (unhide BL).size))
    clear cwc
    obtain ⟨a_0, a_1, a_2, -⟩ := blk_cells3 (unhide K_a).1
    have n_a := (unhide K_a).2
    obtain ⟨b_0, b_1, -⟩ := blk_cells2 (unhide K_b).1
    have n_b := (unhide K_b).2
    obtain ⟨s_0, s_1, s_2, -⟩ := blk_cells3 (unhide K_s).1
    have n_s := (unhide K_s).2
    have O_s := R_s
    have BA := hide (Below.refl wc.heap.size wc)
    go_wp2_with fail
    refine (tolog_any c f a n cap ss _ hn1 ht1 (unhide R_x)).mono ?_
    rintro e w6 ⟨a2, c2, rfl, o1, b6⟩
    clear a_0 a_1 a_2 n_a b_0 b_1 n_b s_0 s_1 s_2 n_s
    have cw6 := b6
    have zw6 := cw6.size
    have K_a := hide (keptblk cw6 K_a)
    have K_b := hide (keptblk cw6 K_b)
    have K_s := hide (keptblk cw6 K_s)
    have R_x := hide ((unhide R_x).later cw6)
    have R_dx := hide ((unhide R_dx).later cw6)
    have R_df := hide ((unhide R_df).later cw6)
    have R_s := hide ((unhide R_s).later cw6)
    have BL := hide ((unhide BL).trans (cw6.mono (unhide BL).size))
    have R_sX := hide (o1)
    have BA := hide ((unhide BA).trans (cw6.mono (unhide BA).size))
    clear b6 cw6
    obtain ⟨a_0, a_1, a_2, -⟩ := blk_cells3 (unhide K_a).1
    have n_a := (unhide K_a).2
    obtain ⟨b_0, b_1, -⟩ := blk_cells2 (unhide K_b).1
    have n_b := (unhide K_b).2
    obtain ⟨s_0, s_1, s_2, -⟩ := blk_cells3 (unhide K_s).1
    have n_s := (unhide K_s).2
    clear o1
    go_wp2_with fail
    refine (tostate_any ai ni ci xs af nf cf fs _ hm1 hm2 ((unhide R_dx).alloc _) ((unhide R_df).alloc _)).mono ?_
    rintro e w7 ⟨a3, c3, b3, d3, rfl, o1, o2, b7⟩
    clear a_0 a_1 a_2 n_a b_0 b_1 n_b s_0 s_1 s_2 n_s
    have cw7 := ((Below.refl w6.heap.size w6).alloc (Nat.le_refl _) _).trans (b7.mono (by simp <;> omega))
    have zw7 := cw7.size
    have K_a := hide (keptblk cw7 K_a)
    have K_b := hide (keptblk cw7 K_b)
    have K_s := hide (keptblk cw7 K_s)
    have K_x : Hid (w7.heap[w6.heap.size]? = some (.cells #[.int .i64 c, .int .i64 f, .slice a2 n c2] 51 (0, 0)) ∧ w6.heap.size < w7.heap.size) := hide ⟨(b7.block _ (by simp <;> omega)).trans (newB1 w6 _), by have := b7.size; simp at this; omega⟩
    have y_x := (unhide K_x).2
    have R_x := hide ((unhide R_x).later cw7)
    have R_dx := hide ((unhide R_dx).later cw7)
    have R_df := hide ((unhide R_df).later cw7)
    have R_s := hide ((unhide R_s).later cw7)
    have R_sX := hide ((unhide R_sX).later cw7)
    have BL := hide ((unhide BL).trans (cw7.mono (unhide BL).size))
    have R_oX1 := hide (Ow.base (base' := (w6.heap.size + 1)) o1 (by simp))
    have L_oX1 := hide (World.ownsRow.lt (unhide R_oX1))
    have R_oX2 := hide (Ow.base (base' := (w6.heap.size + 1)) o2 (by simp))
    have L_oX2 := hide (World.ownsRow.lt (unhide R_oX2))
    have BA := hide ((unhide BA).trans (cw7.mono (unhide BA).size))
    clear b7 cw7
    obtain ⟨a_0, a_1, a_2, -⟩ := blk_cells3 (unhide K_a).1
    have n_a := (unhide K_a).2
    obtain ⟨b_0, b_1, -⟩ := blk_cells2 (unhide K_b).1
    have n_b := (unhide K_b).2
    obtain ⟨s_0, s_1, s_2, -⟩ := blk_cells3 (unhide K_s).1
    have n_s := (unhide K_s).2
    obtain ⟨x_0, x_1, x_2, -⟩ := blk_cells3 (unhide K_x).1
    have n_x := (unhide K_x).2
    clear o1 o2
    go_wp2_with fail
    refine (ilogadd_any c f _ n _ ss _ ni _ xs _ nf _ fs ok HOK f1 ss1 HLA m HM (unhide HS) (unhide HSD) _ hn1 ht1 hm1 hm2 ((unhide R_sX).rw.alloc _) (((unhide R_oX1).rw encI_len).alloc _) (((unhide R_oX2).rw encF_len).alloc _)).mono ?_
    rintro e w8 ⟨g1, e1, rfl, o1, b8⟩
    clear a_0 a_1 a_2 n_a b_0 b_1 n_b s_0 s_1 s_2 n_s x_0 x_1 x_2 n_x
    have cw8 := ((Below.refl w7.heap.size w7).alloc (Nat.le_refl _) _).trans (b8.mono (by simp <;> omega))
    have zw8 := cw8.size
    have K_a := hide (keptblk cw8 K_a)
    have K_b := hide (keptblk cw8 K_b)
    have K_s := hide (keptblk cw8 K_s)
    have K_x := hide (keptblk cw8 K_x)
    have K_y : Hid (w8.heap[w7.heap.size]? = some (.cells #[.slice a3 ni c3, .slice b3 nf d3] 37 (0, 0)) ∧ w7.heap.size < w8.heap.size) := hide ⟨(b8.block _ (by simp <;> omega)).trans (newB1 w7 _), by have := b8.size; simp at this; omega⟩
    have y_y := (unhide K_y).2
    have R_x := hide ((unhide R_x).later cw8)
    have R_dx := hide ((unhide R_dx).later cw8)
    have R_df := hide ((unhide R_df).later cw8)
    have R_s := hide ((unhide R_s).later cw8)
    have R_sX := hide ((unhide R_sX).later cw8)
    have R_oX1 := hide ((unhide R_oX1).later cw8)
    have R_oX2 := hide ((unhide R_oX2).later cw8)
    have BL := hide ((unhide BL).trans (cw8.mono (unhide BL).size))
    have R_sG := hide (OwS.mono (lo' := (w7.heap.size + 1)) o1 (by simp) (Nat.le_refl _))
    have BA := hide ((unhide BA).trans (cw8.mono (unhide BA).size))
    clear b8 cw8
    obtain ⟨a_0, a_1, a_2, -⟩ := blk_cells3 (unhide K_a).1
    have n_a := (unhide K_a).2
    obtain ⟨b_0, b_1, -⟩ := blk_cells2 (unhide K_b).1
    have n_b := (unhide K_b).2
    obtain ⟨s_0, s_1, s_2, -⟩ := blk_cells3 (unhide K_s).1
    have n_s := (unhide K_s).2
    obtain ⟨x_0, x_1, x_2, -⟩ := blk_cells3 (unhide K_x).1
    have n_x := (unhide K_x).2
    obtain ⟨y_0, y_1, -⟩ := blk_cells2 (unhide K_y).1
    have n_y := (unhide K_y).2
    clear o1
    go_wp2_with fail
    refine (eqlog_same c f1 _ m _ _ _ ss1 _ (by omega) (by omega) ((unhide R_sG).rw.alloc _) ((unhide R_s).alloc _)).mono ?_
    rintro e w9 ⟨rfl, b9⟩
    clear a_0 a_1 a_2 n_a b_0 b_1 n_b s_0 s_1 s_2 n_s x_0 x_1 x_2 n_x y_0 y_1 n_y
    have cw9 := ((Below.refl w8.heap.size w8).alloc (Nat.le_refl _) _).trans (b9.mono (by simp <;> omega))
    have zw9 := cw9.size
    have K_a := hide (keptblk cw9 K_a)
    have K_b := hide (keptblk cw9 K_b)
    have K_s := hide (keptblk cw9 K_s)
    have K_x := hide (keptblk cw9 K_x)
    have K_y := hide (keptblk cw9 K_y)
    have K_g : Hid (w9.heap[w8.heap.size]? = some (.cells #[.int .i64 c, .int .i64 f1, .slice g1 m e1] 51 (0, 0)) ∧ w8.heap.size < w9.heap.size) := hide ⟨(b9.block _ (by simp <;> omega)).trans (newB1 w8 _), by have := b9.size; simp at this; omega⟩
    have y_g := (unhide K_g).2
    have R_x := hide ((unhide R_x).later cw9)
    have R_dx := hide ((unhide R_dx).later cw9)
    have R_df := hide ((unhide R_df).later cw9)
    have R_s := hide ((unhide R_s).later cw9)
    have R_sX := hide ((unhide R_sX).later cw9)
    have R_oX1 := hide ((unhide R_oX1).later cw9)
    have R_oX2 := hide ((unhide R_oX2).later cw9)
    have R_sG := hide ((unhide R_sG).later cw9)
    have BL := hide ((unhide BL).trans (cw9.mono (unhide BL).size))
    have BA := hide ((unhide BA).trans (cw9.mono (unhide BA).size))
    clear b9 cw9
    obtain ⟨a_0, a_1, a_2, -⟩ := blk_cells3 (unhide K_a).1
    have n_a := (unhide K_a).2
    obtain ⟨b_0, b_1, -⟩ := blk_cells2 (unhide K_b).1
    have n_b := (unhide K_b).2
    obtain ⟨s_0, s_1, s_2, -⟩ := blk_cells3 (unhide K_s).1
    have n_s := (unhide K_s).2
    obtain ⟨x_0, x_1, x_2, -⟩ := blk_cells3 (unhide K_x).1
    have n_x := (unhide K_x).2
    obtain ⟨y_0, y_1, -⟩ := blk_cells2 (unhide K_y).1
    have n_y := (unhide K_y).2
    obtain ⟨g_0, g_1, g_2, -⟩ := blk_cells3 (unhide K_g).1
    have n_g := (unhide K_g).2
    clear a_0 a_1 a_2 n_a b_0 b_1 n_b g_0 g_1 g_2 n_g s_0 s_1 s_2 n_s x_0 x_1 x_2 n_x y_0 y_1 n_y
    obtain ⟨x0, x1, x2, -⟩ := blk_cells3 (unhide K_x).1
    obtain ⟨y0, y1, y2, -⟩ := blk_cells3 (unhide K_a).1
    go_wp2_with fail
    clear x0 x1 x2 y0 y1 y2
    go_region_held3 (fun W => Below w9.heap.size w9 W ∧ W.cell? ⟨w6.heap.size, 0, none⟩ = some (.int .i64 c) ∧ W.cell? ⟨w6.heap.size, 1, none⟩ = some (.int .i64 f) ∧ W.cell? ⟨w6.heap.size, 2, none⟩ = some (.slice a2 n c2) ∧ W.cell? ⟨w.heap.size, 0, none⟩ = some (.int .i64 c) ∧ W.cell? ⟨w.heap.size, 1, none⟩ = some (.int .i64 f) ∧ W.cell? ⟨w.heap.size, 2, none⟩ = some (.slice a n cap))
      (first | (with_reducible exact keepL K_x K_a (Below.refl _ _)) | (with_reducible exact keepL K_x K_a ((Below.refl _ _).drew)) | (with_reducible exact keepL K_x K_a (by assumption)))
      (first
        | (go_at_call 21; refine (tolog_any _ _ _ _ _ ss _ hn1 ht1 ?_).mono ?_; exact (unhide R_x).later (kb1 (by assumption)); rintro e w10 ⟨ta, tc, rfl, o1, b6⟩; have O5 := hide o1.rw; clear o1; have b6k := kb2 (by assumption) b6; clear b6)
        | (go_at_call 23; refine (eqlog_same _ _ _ _ _ _ _ ss _ (by omega) (by omega) ?_ (unhide O5)).mono ?_; exact (unhide R_sX).rw.later (kb1 (by assumption)); rintro e w11 ⟨rfl, b7⟩; have b7k := kb2 (by assumption) b7; clear b7))
    have cw11 : Below w9.heap.size w9 w11 := b7k
    clear b6k b7k O5
    have K_a := hide (keptblk cw11 K_a)
    have K_b := hide (keptblk cw11 K_b)
    have K_s := hide (keptblk cw11 K_s)
    have K_x := hide (keptblk cw11 K_x)
    have K_y := hide (keptblk cw11 K_y)
    have K_g := hide (keptblk cw11 K_g)
    have R_x := hide ((unhide R_x).later cw11)
    have R_dx := hide ((unhide R_dx).later cw11)
    have R_df := hide ((unhide R_df).later cw11)
    have R_s := hide ((unhide R_s).later cw11)
    have R_sX := hide ((unhide R_sX).later cw11)
    have R_oX1 := hide ((unhide R_oX1).later cw11)
    have R_oX2 := hide ((unhide R_oX2).later cw11)
    have R_sG := hide ((unhide R_sG).later cw11)
    have BL := hide ((unhide BL).trans (cw11.mono (unhide BL).size))
    have BA := hide ((unhide BA).trans (cw11.mono (unhide BA).size))
    clear cw11
    obtain ⟨a_0, a_1, a_2, -⟩ := blk_cells3 (unhide K_a).1
    have n_a := (unhide K_a).2
    obtain ⟨b_0, b_1, -⟩ := blk_cells2 (unhide K_b).1
    have n_b := (unhide K_b).2
    obtain ⟨s_0, s_1, s_2, -⟩ := blk_cells3 (unhide K_s).1
    have n_s := (unhide K_s).2
    obtain ⟨x_0, x_1, x_2, -⟩ := blk_cells3 (unhide K_x).1
    have n_x := (unhide K_x).2
    obtain ⟨y_0, y_1, -⟩ := blk_cells2 (unhide K_y).1
    have n_y := (unhide K_y).2
    obtain ⟨g_0, g_1, g_2, -⟩ := blk_cells3 (unhide K_g).1
    have n_g := (unhide K_g).2
    clear a_0 a_1 a_2 n_a b_0 b_1 n_b g_0 g_1 g_2 n_g s_0 s_1 s_2 n_s x_0 x_1 x_2 n_x y_0 y_1 n_y
    obtain ⟨x0, x1, -⟩ := blk_cells2 (unhide K_y).1
    obtain ⟨y0, y1, -⟩ := blk_cells2 (unhide K_b).1
    have X0 := hide x0; have X1 := hide x1; have Y0 := hide y0; have Y1 := hide y1
    go_wp2_with fail
    clear x0 x1 y0 y1
    go_region_held3 (fun W => Below w11.heap.size w11 W ∧ W.cell? ⟨w7.heap.size, 0, none⟩ = some (.slice a3 ni c3) ∧ W.cell? ⟨w7.heap.size, 1, none⟩ = some (.slice b3 nf d3) ∧ W.cell? ⟨w.heap.size + 1, 0, none⟩ = some (.slice ai ni ci) ∧ W.cell? ⟨w.heap.size + 1, 1, none⟩ = some (.slice af nf cf))
      (first | (with_reducible exact keep4 (unhide K_y).2 (unhide K_y).2 (unhide K_b).2 (unhide K_b).2 (unhide X0) (unhide X1) (unhide Y0) (unhide Y1) (Below.refl _ _)) | (with_reducible exact keep4 (unhide K_y).2 (unhide K_y).2 (unhide K_b).2 (unhide K_b).2 (unhide X0) (unhide X1) (unhide Y0) (unhide Y1) ((Below.refl _ _).drew)) | (with_reducible exact keep4 (unhide K_y).2 (unhide K_y).2 (unhide K_b).2 (unhide K_b).2 (unhide X0) (unhide X1) (unhide Y0) (unhide Y1) (by assumption)))
      (first
        | (go_at_call 12; refine (tostate_any _ _ _ xs _ _ _ fs _ hm1 hm2 ?_ ?_).mono ?_; exact (unhide R_dx).later (kb1 (by assumption)); exact (unhide R_df).later (kb1 (by assumption)); rintro e w12 ⟨ta, tb, tc, td, rfl, o1, o2, b6⟩; have O5 := hide (o1.rw encI_len); have O6 := hide (o2.rw encF_len); clear o1 o2; have b6k := kb2 (by assumption) b6; clear b6)
        | (go_at_call 15; refine (eqstate_same _ _ _ _ _ xs _ _ _ _ _ fs _ (by omega) (by omega) ?_ (unhide O5) ?_ (unhide O6)).mono ?_; exact ((unhide R_oX1).rw encI_len).later (kb1 (by assumption)); exact ((unhide R_oX2).rw encF_len).later (kb1 (by assumption)); rintro e w13 ⟨rfl, b7⟩; have b7k := kb2 (by assumption) b7; clear b7))
    have cw13 : Below w11.heap.size w11 w13 := b7k
    clear X0 X1 Y0 Y1 b6k b7k O5 O6
    have K_a := hide (keptblk cw13 K_a)
    have K_b := hide (keptblk cw13 K_b)
    have K_s := hide (keptblk cw13 K_s)
    have K_x := hide (keptblk cw13 K_x)
    have K_y := hide (keptblk cw13 K_y)
    have K_g := hide (keptblk cw13 K_g)
    have R_x := hide ((unhide R_x).later cw13)
    have R_dx := hide ((unhide R_dx).later cw13)
    have R_df := hide ((unhide R_df).later cw13)
    have R_s := hide ((unhide R_s).later cw13)
    have R_sX := hide ((unhide R_sX).later cw13)
    have R_oX1 := hide ((unhide R_oX1).later cw13)
    have R_oX2 := hide ((unhide R_oX2).later cw13)
    have R_sG := hide ((unhide R_sG).later cw13)
    have BL := hide ((unhide BL).trans (cw13.mono (unhide BL).size))
    have BA := hide ((unhide BA).trans (cw13.mono (unhide BA).size))
    clear cw13
    obtain ⟨a_0, a_1, a_2, -⟩ := blk_cells3 (unhide K_a).1
    have n_a := (unhide K_a).2
    obtain ⟨b_0, b_1, -⟩ := blk_cells2 (unhide K_b).1
    have n_b := (unhide K_b).2
    obtain ⟨s_0, s_1, s_2, -⟩ := blk_cells3 (unhide K_s).1
    have n_s := (unhide K_s).2
    obtain ⟨x_0, x_1, x_2, -⟩ := blk_cells3 (unhide K_x).1
    have n_x := (unhide K_x).2
    obtain ⟨y_0, y_1, -⟩ := blk_cells2 (unhide K_y).1
    have n_y := (unhide K_y).2
    obtain ⟨g_0, g_1, g_2, -⟩ := blk_cells3 (unhide K_g).1
    have n_g := (unhide K_g).2
    go_wp2_with fail
    refine (marklog_any _ _ c f a2 n c2 ss 1 (by omega) (by omega) _ (by omega) (by omega) (SzS.tot ht1) (unhide R_sX)).mono ?_
    rintro e w14 ⟨rfl, o1, t1⟩
    clear a_0 a_1 a_2 n_a b_0 b_1 n_b g_0 g_1 g_2 n_g s_0 s_1 s_2 n_s x_0 x_1 x_2 n_x y_0 y_1 n_y
    have zw14 := t1.size
    have K_a := hide (t1.kept K_a (fun q => by have q2 : _ ∧ _ := q; omega))
    have K_b := hide (t1.kept K_b (fun q => by have q2 : _ ∧ _ := q; omega))
    have K_s := hide (t1.kept K_s (fun q => by have q2 : _ ∧ _ := q; omega))
    have K_x := hide (t1.kept K_x (fun q => by have q2 : _ ∧ _ := q; omega))
    have K_y := hide (t1.kept K_y (fun q => by have q2 : _ ∧ _ := q; omega))
    have K_g := hide (t1.kept K_g (fun q => by have q2 : _ ∧ _ := q; omega))
    have R_oX1 := hide (t1.own (unhide R_oX1) (fun i hi => fun q => by have q2 : _ ∧ _ := q; have := unhide L_oX1 _ hi; omega))
    have R_oX2 := hide (t1.own (unhide R_oX2) (fun i hi => fun q => by have q2 : _ ∧ _ := q; have := unhide L_oX2 _ hi; omega))
    have R_sG := hide ((unhide R_sG).trn t1 (fun i q => by have q2 : _ ∧ _ := q; omega))
    have BA := hide (Trn.below (unhide BA) t1 (unhide BA).size (fun i q => by have q2 : _ ∧ _ := q; omega))
    have BL := hide (Trn.below (unhide BL) t1 (unhide BL).size (fun i q => by have q2 : _ ∧ _ := q; omega))
    have R_x := hide ((unhide O_x).later (unhide BL))
    have R_dx := hide ((unhide O_dx).later (unhide BL))
    have R_df := hide ((unhide O_df).later (unhide BL))
    have R_s := hide ((unhide O_s).later (unhide BA))
    have R_sX := hide o1
    clear o1 t1
    obtain ⟨a_0, a_1, a_2, -⟩ := blk_cells3 (unhide K_a).1
    have n_a := (unhide K_a).2
    obtain ⟨b_0, b_1, -⟩ := blk_cells2 (unhide K_b).1
    have n_b := (unhide K_b).2
    obtain ⟨s_0, s_1, s_2, -⟩ := blk_cells3 (unhide K_s).1
    have n_s := (unhide K_s).2
    obtain ⟨x_0, x_1, x_2, -⟩ := blk_cells3 (unhide K_x).1
    have n_x := (unhide K_x).2
    obtain ⟨y_0, y_1, -⟩ := blk_cells2 (unhide K_y).1
    have n_y := (unhide K_y).2
    obtain ⟨g_0, g_1, g_2, -⟩ := blk_cells3 (unhide K_g).1
    have n_g := (unhide K_g).2
    clear R_sX
    go_wp2_with fail
    refine (markS_any _ a3 ni c3 _ b3 nf d3 _ (ndS 1 ss) (by omega) (by omega) _ (by omega) (by omega) (unhide R_oX1) (unhide R_oX2)).mono ?_
    rintro e w15 ⟨rfl, o1, o2, t1⟩
    clear a_0 a_1 a_2 n_a b_0 b_1 n_b g_0 g_1 g_2 n_g s_0 s_1 s_2 n_s x_0 x_1 x_2 n_x y_0 y_1 n_y
    have zw15 := t1.size
    have K_a := hide (t1.kept K_a (fun q => by rcases q with q | q; (first | (have := unhide L_oX1 _ q; omega) | (exact absurd q (by simp [Value.ownBlock]))); (first | (have := unhide L_oX2 _ q; omega) | (exact absurd q (by simp [Value.ownBlock])))))
    have K_b := hide (t1.kept K_b (fun q => by rcases q with q | q; (first | (have := unhide L_oX1 _ q; omega) | (exact absurd q (by simp [Value.ownBlock]))); (first | (have := unhide L_oX2 _ q; omega) | (exact absurd q (by simp [Value.ownBlock])))))
    have K_s := hide (t1.kept K_s (fun q => by rcases q with q | q; (first | (have := unhide L_oX1 _ q; omega) | (exact absurd q (by simp [Value.ownBlock]))); (first | (have := unhide L_oX2 _ q; omega) | (exact absurd q (by simp [Value.ownBlock])))))
    have K_x := hide (t1.kept K_x (fun q => by rcases q with q | q; (first | (have := unhide L_oX1 _ q; omega) | (exact absurd q (by simp [Value.ownBlock]))); (first | (have := unhide L_oX2 _ q; omega) | (exact absurd q (by simp [Value.ownBlock])))))
    have K_y := hide (t1.kept K_y (fun q => by rcases q with q | q; (first | (have := unhide L_oX1 _ q; omega) | (exact absurd q (by simp [Value.ownBlock]))); (first | (have := unhide L_oX2 _ q; omega) | (exact absurd q (by simp [Value.ownBlock])))))
    have K_g := hide (t1.kept K_g (fun q => by rcases q with q | q; (first | (have := unhide L_oX1 _ q; omega) | (exact absurd q (by simp [Value.ownBlock]))); (first | (have := unhide L_oX2 _ q; omega) | (exact absurd q (by simp [Value.ownBlock])))))
    have R_sG := hide ((unhide R_sG).trn t1 (fun i q => by rcases q with q | q; (first | (have := unhide L_oX1 _ q; omega) | (exact absurd q (by simp [Value.ownBlock]))); (first | (have := unhide L_oX2 _ q; omega) | (exact absurd q (by simp [Value.ownBlock])))))
    have BA := hide (Trn.below (unhide BA) t1 (unhide BA).size (fun i q => by rcases q with q | q; (first | (have := unhide L_oX1 _ q; omega) | (exact absurd q (by simp [Value.ownBlock]))); (first | (have := unhide L_oX2 _ q; omega) | (exact absurd q (by simp [Value.ownBlock])))))
    have BL := hide (Trn.below (unhide BL) t1 (unhide BL).size (fun i q => by rcases q with q | q; (first | (have := unhide L_oX1 _ q; omega) | (exact absurd q (by simp [Value.ownBlock]))); (first | (have := unhide L_oX2 _ q; omega) | (exact absurd q (by simp [Value.ownBlock])))))
    have R_x := hide ((unhide O_x).later (unhide BL))
    have R_dx := hide ((unhide O_dx).later (unhide BL))
    have R_df := hide ((unhide O_df).later (unhide BL))
    have R_s := hide ((unhide O_s).later (unhide BA))
    clear o1 o2 t1 R_oX1 R_oX2
    obtain ⟨a_0, a_1, a_2, -⟩ := blk_cells3 (unhide K_a).1
    have n_a := (unhide K_a).2
    obtain ⟨b_0, b_1, -⟩ := blk_cells2 (unhide K_b).1
    have n_b := (unhide K_b).2
    obtain ⟨s_0, s_1, s_2, -⟩ := blk_cells3 (unhide K_s).1
    have n_s := (unhide K_s).2
    obtain ⟨x_0, x_1, x_2, -⟩ := blk_cells3 (unhide K_x).1
    have n_x := (unhide K_x).2
    obtain ⟨y_0, y_1, -⟩ := blk_cells2 (unhide K_y).1
    have n_y := (unhide K_y).2
    obtain ⟨g_0, g_1, g_2, -⟩ := blk_cells3 (unhide K_g).1
    have n_g := (unhide K_g).2
    go_wp2_with fail
    refine (eqlog_same c f1 _ m _ _ _ ss1 _ (by omega) (by omega) ((unhide R_sG).rw) ((unhide R_s))).mono ?_
    rintro e w16 ⟨rfl, b16⟩
    clear a_0 a_1 a_2 n_a b_0 b_1 n_b g_0 g_1 g_2 n_g s_0 s_1 s_2 n_s x_0 x_1 x_2 n_x y_0 y_1 n_y
    have cw16 := b16
    have zw16 := cw16.size
    have K_a := hide (keptblk cw16 K_a)
    have K_b := hide (keptblk cw16 K_b)
    have K_s := hide (keptblk cw16 K_s)
    have K_x := hide (keptblk cw16 K_x)
    have K_y := hide (keptblk cw16 K_y)
    have K_g := hide (keptblk cw16 K_g)
    have R_x := hide ((unhide R_x).later cw16)
    have R_dx := hide ((unhide R_dx).later cw16)
    have R_df := hide ((unhide R_df).later cw16)
    have R_s := hide ((unhide R_s).later cw16)
    have R_sG := hide ((unhide R_sG).later cw16)
    have BL := hide ((unhide BL).trans (cw16.mono (unhide BL).size))
    have BA := hide ((unhide BA).trans (cw16.mono (unhide BA).size))
    clear b16 cw16
    obtain ⟨a_0, a_1, a_2, -⟩ := blk_cells3 (unhide K_a).1
    have n_a := (unhide K_a).2
    obtain ⟨b_0, b_1, -⟩ := blk_cells2 (unhide K_b).1
    have n_b := (unhide K_b).2
    obtain ⟨s_0, s_1, s_2, -⟩ := blk_cells3 (unhide K_s).1
    have n_s := (unhide K_s).2
    obtain ⟨x_0, x_1, x_2, -⟩ := blk_cells3 (unhide K_x).1
    have n_x := (unhide K_x).2
    obtain ⟨y_0, y_1, -⟩ := blk_cells2 (unhide K_y).1
    have n_y := (unhide K_y).2
    obtain ⟨g_0, g_1, g_2, -⟩ := blk_cells3 (unhide K_g).1
    have n_g := (unhide K_g).2
    go_wp2_with fail
    refine (marklog_any _ _ c f1 g1 m e1 ss1 1 (by omega) (by omega) _ (by omega) (by omega) (unhide HZZ) (unhide R_sG)).mono ?_
    rintro e w17 ⟨rfl, o1, t1⟩
    clear a_0 a_1 a_2 n_a b_0 b_1 n_b g_0 g_1 g_2 n_g s_0 s_1 s_2 n_s x_0 x_1 x_2 n_x y_0 y_1 n_y
    have zw17 := t1.size
    have K_a := hide (t1.kept K_a (fun q => by have q2 : _ ∧ _ := q; omega))
    have K_b := hide (t1.kept K_b (fun q => by have q2 : _ ∧ _ := q; omega))
    have K_s := hide (t1.kept K_s (fun q => by have q2 : _ ∧ _ := q; omega))
    have K_x := hide (t1.kept K_x (fun q => by have q2 : _ ∧ _ := q; omega))
    have K_y := hide (t1.kept K_y (fun q => by have q2 : _ ∧ _ := q; omega))
    have K_g := hide (t1.kept K_g (fun q => by have q2 : _ ∧ _ := q; omega))
    have BA := hide (Trn.below (unhide BA) t1 (unhide BA).size (fun i q => by have q2 : _ ∧ _ := q; omega))
    have BL := hide (Trn.below (unhide BL) t1 (unhide BL).size (fun i q => by have q2 : _ ∧ _ := q; omega))
    have R_x := hide ((unhide O_x).later (unhide BL))
    have R_dx := hide ((unhide O_dx).later (unhide BL))
    have R_df := hide ((unhide O_df).later (unhide BL))
    have R_s := hide ((unhide O_s).later (unhide BA))
    have R_sG := hide o1
    clear o1 t1
    obtain ⟨a_0, a_1, a_2, -⟩ := blk_cells3 (unhide K_a).1
    have n_a := (unhide K_a).2
    obtain ⟨b_0, b_1, -⟩ := blk_cells2 (unhide K_b).1
    have n_b := (unhide K_b).2
    obtain ⟨s_0, s_1, s_2, -⟩ := blk_cells3 (unhide K_s).1
    have n_s := (unhide K_s).2
    obtain ⟨x_0, x_1, x_2, -⟩ := blk_cells3 (unhide K_x).1
    have n_x := (unhide K_x).2
    obtain ⟨y_0, y_1, -⟩ := blk_cells2 (unhide K_y).1
    have n_y := (unhide K_y).2
    obtain ⟨g_0, g_1, g_2, -⟩ := blk_cells3 (unhide K_g).1
    have n_g := (unhide K_g).2
    go_wp2_with fail
    refine (heldlog_any c f1 g1 m e1 ss1 1 (by omega) (by omega) _ (by omega) (by omega) (unhide HZZ) (unhide R_sG).rw).mono ?_
    rintro e w18 ⟨rfl, b18⟩
    clear a_0 a_1 a_2 n_a b_0 b_1 n_b g_0 g_1 g_2 n_g s_0 s_1 s_2 n_s x_0 x_1 x_2 n_x y_0 y_1 n_y
    have cw18 := b18
    have zw18 := cw18.size
    have K_a := hide (keptblk cw18 K_a)
    have K_b := hide (keptblk cw18 K_b)
    have K_s := hide (keptblk cw18 K_s)
    have K_x := hide (keptblk cw18 K_x)
    have K_y := hide (keptblk cw18 K_y)
    have K_g := hide (keptblk cw18 K_g)
    have R_x := hide ((unhide R_x).later cw18)
    have R_dx := hide ((unhide R_dx).later cw18)
    have R_df := hide ((unhide R_df).later cw18)
    have R_s := hide ((unhide R_s).later cw18)
    have R_sG := hide ((unhide R_sG).later cw18)
    have BL := hide ((unhide BL).trans (cw18.mono (unhide BL).size))
    have BA := hide ((unhide BA).trans (cw18.mono (unhide BA).size))
    clear b18 cw18
    obtain ⟨a_0, a_1, a_2, -⟩ := blk_cells3 (unhide K_a).1
    have n_a := (unhide K_a).2
    obtain ⟨b_0, b_1, -⟩ := blk_cells2 (unhide K_b).1
    have n_b := (unhide K_b).2
    obtain ⟨s_0, s_1, s_2, -⟩ := blk_cells3 (unhide K_s).1
    have n_s := (unhide K_s).2
    obtain ⟨x_0, x_1, x_2, -⟩ := blk_cells3 (unhide K_x).1
    have n_x := (unhide K_x).2
    obtain ⟨y_0, y_1, -⟩ := blk_cells2 (unhide K_y).1
    have n_y := (unhide K_y).2
    obtain ⟨g_0, g_1, g_2, -⟩ := blk_cells3 (unhide K_g).1
    have n_g := (unhide K_g).2
    clear a_0 a_1 a_2 n_a b_0 b_1 n_b g_0 g_1 g_2 n_g s_0 s_1 s_2 n_s x_0 x_1 x_2 n_x y_0 y_1 n_y
    obtain ⟨x0, x1, x2, -⟩ := blk_cells3 (unhide K_a).1
    obtain ⟨y0, y1, -⟩ := blk_cells2 (unhide K_b).1
    go_wp2_with fail
    clear x0 x1 x2 y0 y1
    go_cut [15, 16] from 94 to 101 (fun p q wx => ∃ (g : Nat) (a1 : Option Addr) (c1 : Nat), p = .pointer (some ⟨g, 0, none⟩) ∧ q = .bool ok ∧ FinL w18 wx g c f1 (.slice a1 m c1) ss1)
    case first =>
      go_region_held3 (fun W => Below w18.heap.size w18 W ∧ W.cell? ⟨w.heap.size, 0, none⟩ = some (.int .i64 c) ∧ W.cell? ⟨w.heap.size, 1, none⟩ = some (.int .i64 f) ∧ W.cell? ⟨w.heap.size, 2, none⟩ = some (.slice a n cap) ∧ W.cell? ⟨w.heap.size + 1, 0, none⟩ = some (.slice ai ni ci) ∧ W.cell? ⟨w.heap.size + 1, 1, none⟩ = some (.slice af nf cf))
        (first | (with_reducible exact keepLS K_a K_b (Below.refl _ _)) | (with_reducible exact keepLS K_a K_b ((Below.refl _ _).drew)) | (with_reducible exact keepLS K_a K_b (by assumption)) | (with_reducible exact keepLS K_a K_b (kalL (Below.refl _ _))) | (with_reducible exact keepLS K_a K_b (kalL ((Below.refl _ _).drew))) | (with_reducible exact keepLS K_a K_b ((kalL (Below.refl _ _)).drew)) | (with_reducible exact keepLS K_a K_b (kalL (by assumption))) | (with_reducible exact keepLS K_a K_b (ksetL (by assumption) (by assumption))))
        (first
          | (go_at_call 21; refine (tolog_any c f a n cap ss _ hn1 ht1 ?_).mono ?_; exact (unhide R_x).later (kb1 (by assumption)); rintro e w19 ⟨ua1, uc1, rfl, o1, b6⟩; have R_u1 := hide o1.rw; clear o1; have bw19 := kb2 (by assumption) b6; have zw19 := bw19.size; (first | (with_reducible have M := hide (BxL.newD (P := w18) b6 (by omega))) | (with_reducible have M := hide (BxL.new (P := w18) b6 (by omega))) | (with_reducible have M := hide (BxL.kept M b6)) | skip); clear b6)
          | (go_at_call 12; refine (tostate_any ai ni ci xs af nf cf fs _ hm1 hm2 ?_ ?_).mono ?_; exact (unhide R_dx).later (kb1 (by assumption)); exact (unhide R_df).later (kb1 (by assumption)); rintro e w20 ⟨ua2, uc2, ub2, ud2, rfl, o1, o2, b6⟩; have R_uI := hide (o1.rw encI_len); have R_uF := hide (o2.rw encF_len); clear o1 o2; (first | (with_reducible have R_u1 := hide ((unhide R_u1).later b6)) | (with_reducible have R_u1 := hide ((unhide R_u1).later2 b6))); have bw20 := kb2 (by assumption) b6; have zw20 := bw20.size; (first | (with_reducible have M := hide (BxL.newD (P := w18) b6 (by omega))) | (with_reducible have M := hide (BxL.new (P := w18) b6 (by omega))) | (with_reducible have M := hide (BxL.kept M b6)) | skip); clear b6)
          | (go_at_call 27; refine (ilogadd_any c f _ n _ ss _ ni _ xs _ nf _ fs ok HOK f1 ss1 HLA m HM (unhide HS) (unhide HSD) _ hn1 ht1 hm1 hm2 ?_ ?_ ?_).mono ?_; (first | exact unhide R_u1 | exact (unhide R_u1).alloc _); (first | exact unhide R_uI | exact (unhide R_uI).alloc _); (first | exact unhide R_uF | exact (unhide R_uF).alloc _); rintro e w21 ⟨ra1, rc1, rfl, o1, b8⟩; have O1 : Hid (OwW w18.heap.size w21 _ ss1) := hide (OwW.mono o1.ow (by first | omega | (simp; omega))); clear o1; have bw21 := kb2 (by assumption) b8; (first | (with_reducible have M2 := hide (BxL.new (P := w18) b8 (by omega)); clear b8; obtain ⟨q0, q1x, q2x, qf⟩ := blk_cells3 (unhide M2).blk; have zM := (unhide M2).lt) | (with_reducible have M2 := hide (BxL.kept M b8); clear b8; obtain ⟨q0, q1x, q2x, qf⟩ := blk_cells3 (unhide M2).blk; have zM := (unhide M2).lt) | clear b8)))
      all_goals
        go_wp2_with fail
        go_meet
        first
          | with_reducible exact ⟨_, _, _, rfl, rfl, FinL.set bw21 M2 O1⟩
          | with_reducible exact ⟨_, _, _, rfl, rfl, FinL.new bw21 O1⟩
    case rest =>
      obtain ⟨gh, ha1, hc1, rfl, rfl, hfin⟩ := hcut
      have cwc := hfin.bel
      have zwc := cwc.size
      have ge_gh := hfin.ge
      have lt_gh := hfin.lt
      have K_h := hide (And.intro hfin.blk hfin.lt)
      have R_h := hide hfin.row.rw
      clear hfin
      have K_a := hide (keptblk cwc K_a)
      have K_b := hide (keptblk cwc K_b)
      have K_s := hide (keptblk cwc K_s)
      have K_x := hide (keptblk cwc K_x)
      have K_y := hide (keptblk cwc K_y)
      have K_g := hide (keptblk cwc K_g)
      have R_x := hide ((unhide R_x).later cwc)
      have R_dx := hide ((unhide R_dx).later cwc)
      have R_df := hide ((unhide R_df).later cwc)
      have R_s := hide ((unhide R_s).later cwc)
      have R_sG := hide ((unhide R_sG).later cwc)
      have BL := hide ((unhide BL).trans (cwc.mono (unhide BL).size))
      have BA := hide ((unhide BA).trans (cwc.mono (unhide BA).size))
      clear cwc
      obtain ⟨a_0, a_1, a_2, -⟩ := blk_cells3 (unhide K_a).1
      have n_a := (unhide K_a).2
      obtain ⟨b_0, b_1, -⟩ := blk_cells2 (unhide K_b).1
      have n_b := (unhide K_b).2
      obtain ⟨s_0, s_1, s_2, -⟩ := blk_cells3 (unhide K_s).1
      have n_s := (unhide K_s).2
      obtain ⟨x_0, x_1, x_2, -⟩ := blk_cells3 (unhide K_x).1
      have n_x := (unhide K_x).2
      obtain ⟨y_0, y_1, -⟩ := blk_cells2 (unhide K_y).1
      have n_y := (unhide K_y).2
      obtain ⟨g_0, g_1, g_2, -⟩ := blk_cells3 (unhide K_g).1
      have n_g := (unhide K_g).2
      obtain ⟨h_0, h_1, h_2, -⟩ := blk_cells3 (unhide K_h).1
      have n_h := (unhide K_h).2
      go_wp2_with fail
      refine (eqlog_same c f1 _ m _ _ _ ss1 _ (by omega) (by omega) ((unhide R_h)) ((unhide R_s))).mono ?_
      rintro e w22 ⟨rfl, b22⟩
      clear a_0 a_1 a_2 n_a b_0 b_1 n_b g_0 g_1 g_2 n_g h_0 h_1 h_2 n_h s_0 s_1 s_2 n_s x_0 x_1 x_2 n_x y_0 y_1 n_y
      have cw22 := b22
      have zw22 := cw22.size
      have K_a := hide (keptblk cw22 K_a)
      have K_b := hide (keptblk cw22 K_b)
      have K_s := hide (keptblk cw22 K_s)
      have K_x := hide (keptblk cw22 K_x)
      have K_y := hide (keptblk cw22 K_y)
      have K_g := hide (keptblk cw22 K_g)
      have K_h := hide (keptblk cw22 K_h)
      have R_x := hide ((unhide R_x).later cw22)
      have R_dx := hide ((unhide R_dx).later cw22)
      have R_df := hide ((unhide R_df).later cw22)
      have R_s := hide ((unhide R_s).later cw22)
      have R_sG := hide ((unhide R_sG).later cw22)
      have R_h := hide ((unhide R_h).later cw22)
      have BL := hide ((unhide BL).trans (cw22.mono (unhide BL).size))
      have BA := hide ((unhide BA).trans (cw22.mono (unhide BA).size))
      clear b22 cw22
      obtain ⟨a_0, a_1, a_2, -⟩ := blk_cells3 (unhide K_a).1
      have n_a := (unhide K_a).2
      obtain ⟨b_0, b_1, -⟩ := blk_cells2 (unhide K_b).1
      have n_b := (unhide K_b).2
      obtain ⟨s_0, s_1, s_2, -⟩ := blk_cells3 (unhide K_s).1
      have n_s := (unhide K_s).2
      obtain ⟨x_0, x_1, x_2, -⟩ := blk_cells3 (unhide K_x).1
      have n_x := (unhide K_x).2
      obtain ⟨y_0, y_1, -⟩ := blk_cells2 (unhide K_y).1
      have n_y := (unhide K_y).2
      obtain ⟨g_0, g_1, g_2, -⟩ := blk_cells3 (unhide K_g).1
      have n_g := (unhide K_g).2
      obtain ⟨h_0, h_1, h_2, -⟩ := blk_cells3 (unhide K_h).1
      have n_h := (unhide K_h).2
      go_wp2_with fail
      refine (heldlog_any c f1 g1 m e1 ss1 1 (by omega) (by omega) _ (by omega) (by omega) (unhide HZZ) (unhide R_sG).rw).mono ?_
      rintro e w23 ⟨rfl, b23⟩
      clear a_0 a_1 a_2 n_a b_0 b_1 n_b g_0 g_1 g_2 n_g h_0 h_1 h_2 n_h s_0 s_1 s_2 n_s x_0 x_1 x_2 n_x y_0 y_1 n_y
      have cw23 := b23
      have zw23 := cw23.size
      have K_a := hide (keptblk cw23 K_a)
      have K_b := hide (keptblk cw23 K_b)
      have K_s := hide (keptblk cw23 K_s)
      have K_x := hide (keptblk cw23 K_x)
      have K_y := hide (keptblk cw23 K_y)
      have K_g := hide (keptblk cw23 K_g)
      have K_h := hide (keptblk cw23 K_h)
      have R_x := hide ((unhide R_x).later cw23)
      have R_dx := hide ((unhide R_dx).later cw23)
      have R_df := hide ((unhide R_df).later cw23)
      have R_s := hide ((unhide R_s).later cw23)
      have R_sG := hide ((unhide R_sG).later cw23)
      have R_h := hide ((unhide R_h).later cw23)
      have BL := hide ((unhide BL).trans (cw23.mono (unhide BL).size))
      have BA := hide ((unhide BA).trans (cw23.mono (unhide BA).size))
      clear b23 cw23
      obtain ⟨a_0, a_1, a_2, -⟩ := blk_cells3 (unhide K_a).1
      have n_a := (unhide K_a).2
      obtain ⟨b_0, b_1, -⟩ := blk_cells2 (unhide K_b).1
      have n_b := (unhide K_b).2
      obtain ⟨s_0, s_1, s_2, -⟩ := blk_cells3 (unhide K_s).1
      have n_s := (unhide K_s).2
      obtain ⟨x_0, x_1, x_2, -⟩ := blk_cells3 (unhide K_x).1
      have n_x := (unhide K_x).2
      obtain ⟨y_0, y_1, -⟩ := blk_cells2 (unhide K_y).1
      have n_y := (unhide K_y).2
      obtain ⟨g_0, g_1, g_2, -⟩ := blk_cells3 (unhide K_g).1
      have n_g := (unhide K_g).2
      obtain ⟨h_0, h_1, h_2, -⟩ := blk_cells3 (unhide K_h).1
      have n_h := (unhide K_h).2
      go_wp2
      go_ret
      exact ⟨rfl, unhide BL⟩

set_option maxHeartbeats 4000000 in
set_option maxRecDepth 100000 in
theorem lifted (os : Os) (started : os.Started) (H : Type) (enc : TypeId × Value → H) :
    ReturnsInHanded {} Try.checked os 6 .any (Rows.fnExactLogAddSpec.pre6 enc Try.prog Try.f6 Rows.fnExactLogAddRow.domain false) (Rows.fnExactLogAddSpec.post enc Try.prog Try.f6 false true false false) := by
  refine returnsInHanded_of_change (C := Try.checked) own started (by kernel_rfl) Try.func6
    (ChangeSpec.witness6 (enc := enc) (C := Try.checked) false ⟨#[], #[.agg #[.int .i64 0, .int .i64 0, .slice none 0 0], .agg #[.slice none 0 0, .slice none 0 0]], []⟩ 8 (by kernel_rfl) (by kernel_rfl) (by kernel_rfl) (by kernel_rfl)) ?_
  intro W base args ds gs before hval0 hW hcnd _
  have hval : ∀ (j : Nat) t v, Try.f6.params[j]? = some t → args[j]? = some v → Value.okWide Try.prog W .any base t v := hval0
  have hW' := hW
  obtain ⟨p, q, hA0, hV, rfl, hfz, hnd⟩ := hW
  have hA : DataW.TrodAll enc Try.prog W 0 (fun _ => true) true Try.f6.params.toList args.toList ds p := hA0
  rw [Try.params6] at hA hval
  obtain ⟨v0, vs0, d0, ds0, p0, q0, hargs0, rfl, rfl, h0, r0⟩ := trodAll_cons hA
  obtain ⟨v1, vs1, d1, ds1, p1, q1, hargs1, rfl, rfl, h1, r1⟩ := trodAll_cons r0
  obtain ⟨rfl, rfl, rfl⟩ := trodAll_nil r1
  obtain rfl : args = #[v0, v1] := by cases args; simp_all
  obtain ⟨rfl, rfl⟩ := trodVars_none hV
  have k0 := h0
  have lt0 : ∀ x ∈ p0, x.block < W.heap.size := by obtain ⟨m, hm⟩ := k0; exact DataW.trod_lt m _ _ _ hm
  have k1 := h1
  have lt1 : ∀ x ∈ p1, x.block < W.heap.size := by obtain ⟨m, hm⟩ := k1; exact DataW.trod_lt m _ _ _ hm
  obtain ⟨lc, lf, la, ln, lcap, lss, rfl, lh1, lh2, lh3, lh4, lh5⟩ := open_log (hval 0 46 v0 rfl rfl) h0
  obtain ⟨dai, dni, dci, dxs, daf, dnf, dcf, dfs, rfl, dh1, dh2, dh3, dh4, dh5, dh6, dh7⟩ := open_state (hval 1 28 v1 rfl rfl) h1
  clear hA0 hval0
  refine (walk W lc lf la ln lcap lss lh1 lh2 lh3 lh4 lh5 dai dni dci dxs daf dnf dcf dfs dh1 dh2 dh3 dh4 dh5 dh6 dh7).mono fun e W' ⟨he, bel⟩ => ?_
  subst he
  exact ⟨_, rfl, _, _, _, [], _, [], hW', trodAll_mk1 (shut_bool Try.underlying4 _), (trodAll_cons_mk (Below.trod laidOut (by kernel_rfl) (of_decide_eq_true (by kernel_rfl)) k0 bel lt0) (trodAll_cons_mk (Below.trod laidOut (by kernel_rfl) (of_decide_eq_true (by kernel_rfl)) k1 bel lt1) trodAll_mk0)), rfl, bel.frame _, fun h => by cases h⟩

theorem over : Rows.fnExactLogAddRow.holds Try.pinned (OpenSpec.ofChange Rows.fnExactLogAddSpec) :=
  OpenClaim.holds_of_wide 6 Try.f6 rfl rfl rfl rfl rfl rfl rfl ⟨rfl, rfl, rfl, rfl, rfl⟩ rfl rfl rfl rfl rfl (by kernel_rfl) Try.func6 (by kernel_rfl)
    (of_decide_eq_true (by kernel_rfl)) (by unfold Func.isWrapper; first | (rw [if_pos (by decide +kernel)]; kernel_rfl) | (rw [if_neg (by decide +kernel)]; exact ⟨rfl, rfl⟩))
    (fun os started H enc _ => lifted os started H enc)

theorem proved : Rows.FnExactLogAddSaid := over
#print axioms proved
end Go.Proofs.Ytdpaocikmijioaf.fnExactLogAdd
namespace Go.Proofs.Ytdpaocikmijioaf
theorem fnExactLogAdd_holds : Rows.FnExactLogAddSaid := fnExactLogAdd.proved
end Go.Proofs.Ytdpaocikmijioaf
