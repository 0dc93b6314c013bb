/-
  At every state and every list of leaves the program’s Slice answers as the specification’s does, writes into no argument, and its answer owns its memory.
-/
import Derived.Test.YtdpaocikmijioaeRows
import Derived.Test.YtdpaocikmijioaeStA
import Derived.Test.YtdpaocikmijioaeStT
import Derived.Test.YtdpaocikmijioaeStE
import Derived.Test.YtdpaocikmijioaeStO
import Derived.Test.YtdpaocikmijioaeSt3
import Derived.Test.YtdpaocikmijioaeStM
import Derived.Test.YtdpaocikmijioaeStH
import Derived.Test.YtdpaocikmijioaeIntO
import Derived.Test.YtdpaocikmijioaeTrI
import Derived.WalkKit
import Derived.ProofKit
import Derived.OpenShut
import Derived.ShutString
import Derived.ChangeOld
import Derived.Below
import Derived.Carry
namespace Go.Proofs.Ytdpaocikmijioae.fnExactSlice
open Go.ChangeShapes Go.WideShapes Go.ChangeAt Go.RowKit
open Go.ChangeMaps (open_string shut_string)

theorem own : ownKnob Try.prog.godebug = none := by kernel_rfl
theorem laidOut : laidOutB Try.prog = true := by kernel_rfl

theorem sc5 {xs : List Itm} {fs : List Flr} {ls : List Int} {ok : Bool} (h : okS xs fs = ok) : (scI ok ls xs).length ≤ 5 ∧ (scF ok ls fs).length ≤ 5 := by
  cases ok
  · simp [scI, scF]
  · have hB := (okS_iff _ _).1 h
    exact ⟨Nat.le_trans (slI_len _ _) hB.len5.1, Nat.le_trans (slF_len _ _) hB.len5.2⟩

set_option maxHeartbeats 4000000 in
set_option maxRecDepth 100000 in
theorem walk (w : World) (ai : Option Addr) (ni ci : Nat) (xs : List Itm) (af : Option Addr) (nf cf : Nat) (fs : List Flr) (hni : ni ≤ 9223372036854775807) (hnf : nf ≤ 9223372036854775807) (hx : Rw encI 6 w (.slice ai ni ci) xs) (hf : Rw encF 2 w (.slice af nf cf) fs) (hbig : Big xs) (_ : FitI xs) (_ : FitF fs) (la : Option Addr) (ln lc : Nat) (ls : List Int) (hln : ln ≤ 9223372036854775807) (hls : RwN w (.slice la ln lc) ls) (_ : FitNs ls) :
    Calls Try.prog 5 #[.agg #[.slice ai ni ci, .slice af nf cf], .slice la ln lc] w fun e w' => e = .returned (.bool true) ∧ Below w.heap.size w w' := by
  have R_x := hide hx
  have R_f := hide hf
  clear hx hf
  have R_l := hide hls
  have O_x := R_x
  have O_f := R_f
  have O_l := R_l
  clear hls
  by_cases hbig0 : 1048576 < (ln : Int)
  · go_enter Try.func5, Try.ntmps5
    go_wp2
    go_ret
    exact ⟨rfl, (Below.refl _ _).alloc (Nat.le_refl _) _⟩
  have hlm : ln ≤ 1048576 := by omega
  clear hln hbig0
  obtain ⟨ok, hok⟩ : ∃ ok, okS xs fs = ok := ⟨_, rfl⟩
  have HOK := hide hok
  obtain ⟨hl1, hl2⟩ : (scI ok ls xs).length ≤ 5 ∧ (scF ok ls fs).length ≤ 5 := sc5 hok
  obtain ⟨n1, hn1⟩ : ∃ n, (scI ok ls xs).length = n := ⟨_, rfl⟩
  obtain ⟨n2, hn2⟩ : ∃ n, (scF ok ls fs).length = n := ⟨_, rfl⟩
  rw [hn1] at hl1
  rw [hn2] at hl2
  have HN1 := hide hn1
  have HN2 := hide hn2
  clear hok hn1 hn2
  go_enter Try.func5, Try.ntmps5
  go_wp2_with fail
  refine (szstate_any ai ni ci xs hbig af nf cf 1048576 (by omega) (by omega) _ hni hnf ((unhide R_x).alloc _)).mono ?_
  rintro e w1 ⟨h, b1⟩
  have cw1 := ((Below.refl w.heap.size w).alloc (Nat.le_refl _) _).trans (b1.mono (by simp <;> omega))
  have zw1 := cw1.size
  have K_a : Hid (w1.heap[w.heap.size]? = some (.cells #[.slice ai ni ci, .slice af nf cf] 25 (0, 0)) ∧ w.heap.size < w1.heap.size) := hide ⟨(b1.block _ (by simp <;> omega)).trans (newB1 w _), by have := b1.size; simp at this; omega⟩
  have y_a := (unhide K_a).2
  have R_x := hide ((unhide R_x).later cw1)
  have R_f := hide ((unhide R_f).later cw1)
  have R_l := hide ((unhide R_l).later cw1)
  have BL := hide cw1
  clear b1 cw1
  obtain ⟨a_0, a_1, -⟩ := blk_cells2 (unhide K_a).1
  have n_a := (unhide K_a).2
  rcases h with rfl | ⟨r, rfl, hr1, hr2, hm1, hm2, hS⟩
  · go_wp2
    go_ret
    exact ⟨rfl, unhide BL⟩
  have hd : decide (r < 0) = false := by simp; omega
  have HS := hide hS
  clear hS
  go_wp2_with fail
  refine (tostate_any ai ni ci xs af nf cf fs _ hm1 hm2 (unhide R_x) (unhide R_f)).mono ?_
  rintro e w2 ⟨a1, c1, b1, d1, rfl, o1, o2, b2⟩
  clear a_0 a_1 n_a
  have cw2 := b2
  have zw2 := cw2.size
  have K_a := hide (keptblk cw2 K_a)
  have R_x := hide ((unhide R_x).later cw2)
  have R_f := hide ((unhide R_f).later cw2)
  have R_l := hide ((unhide R_l).later cw2)
  have BL := hide ((unhide BL).trans (cw2.mono (unhide BL).size))
  have R_I1 := hide (o1.rw encI_len)
  have R_F1 := hide (o2.rw encF_len)
  clear b2 cw2
  obtain ⟨a_0, a_1, -⟩ := blk_cells2 (unhide K_a).1
  have n_a := (unhide K_a).2
  clear o1 o2
  go_wp2_with fail
  refine (toints_v la ln lc ls _ (by omega) ((unhide R_l))).mono ?_
  rintro e w3 ⟨l1, m1, rfl, o1, b3⟩
  clear a_0 a_1 n_a
  have cw3 := b3
  have zw3 := cw3.size
  have K_a := hide (keptblk cw3 K_a)
  have R_x := hide ((unhide R_x).later cw3)
  have R_f := hide ((unhide R_f).later cw3)
  have R_l := hide ((unhide R_l).later cw3)
  have R_I1 := hide ((unhide R_I1).later cw3)
  have R_F1 := hide ((unhide R_F1).later cw3)
  have BL := hide ((unhide BL).trans (cw3.mono (unhide BL).size))
  have R_oN1 := hide (o1)
  have L_oN1 := hide (World.ownsRow.lt (unhide R_oN1))
  clear b3 cw3
  obtain ⟨a_0, a_1, -⟩ := blk_cells2 (unhide K_a).1
  have n_a := (unhide K_a).2
  clear o1
  go_wp2_with fail
  refine (sslice_any a1 ni c1 xs b1 nf d1 fs l1 ln m1 ls ok HOK n1 n2 HN1 HN2 _ (by omega) (by omega) (by omega) (unhide R_I1) (unhide R_F1) ((unhide R_oN1).rw encN_len)).mono ?_
  rintro e w4 ⟨wa1, wc1, wa2, wc2, rfl, o1, o2, b4⟩
  clear a_0 a_1 n_a
  have cw4 := b4
  have zw4 := cw4.size
  have K_a := hide (keptblk cw4 K_a)
  have R_x := hide ((unhide R_x).later cw4)
  have R_f := hide ((unhide R_f).later cw4)
  have R_l := hide ((unhide R_l).later cw4)
  clear R_I1
  clear R_F1
  clear R_oN1
  have BL := hide ((unhide BL).trans (cw4.mono (unhide BL).size))
  have R_oW1 := hide (o1)
  have L_oW1 := hide (World.ownsRow.lt (unhide R_oW1))
  have R_oW2 := hide (o2)
  have L_oW2 := hide (World.ownsRow.lt (unhide R_oW2))
  clear b4 cw4
  obtain ⟨a_0, a_1, -⟩ := blk_cells2 (unhide K_a).1
  have n_a := (unhide K_a).2
  clear o1 o2
  go_wp2_with fail
  refine (tostate_any ai ni ci xs af nf cf fs _ hm1 hm2 ((unhide R_x).alloc _) ((unhide R_f).alloc _)).mono ?_
  rintro e w5 ⟨a2, c2, b2, d2, rfl, o1, o2, b5⟩
  clear a_0 a_1 n_a
  have cw5 := ((Below.refl w4.heap.size w4).alloc (Nat.le_refl _) _).trans (b5.mono (by simp <;> omega))
  have zw5 := cw5.size
  have K_a := hide (keptblk cw5 K_a)
  have K_s : Hid (w5.heap[w4.heap.size]? = some (.cells #[.slice wa1 n1 wc1, .slice wa2 n2 wc2] 30 (0, 0)) ∧ w4.heap.size < w5.heap.size) := hide ⟨(b5.block _ (by simp <;> omega)).trans (newB1 w4 _), by have := b5.size; simp at this; omega⟩
  have y_s := (unhide K_s).2
  have R_x := hide ((unhide R_x).later cw5)
  have R_f := hide ((unhide R_f).later cw5)
  have R_l := hide ((unhide R_l).later cw5)
  have R_oW1 := hide ((unhide R_oW1).later cw5)
  have R_oW2 := hide ((unhide R_oW2).later cw5)
  have BL := hide ((unhide BL).trans (cw5.mono (unhide BL).size))
  have R_oX1 := hide (Ow.base (base' := (w4.heap.size + 1)) o1 (by simp))
  have L_oX1 := hide (World.ownsRow.lt (unhide R_oX1))
  have R_oX2 := hide (Ow.base (base' := (w4.heap.size + 1)) o2 (by simp))
  have L_oX2 := hide (World.ownsRow.lt (unhide R_oX2))
  clear b5 cw5
  obtain ⟨a_0, a_1, -⟩ := blk_cells2 (unhide K_a).1
  have n_a := (unhide K_a).2
  obtain ⟨s_0, s_1, -⟩ := blk_cells2 (unhide K_s).1
  have n_s := (unhide K_s).2
  clear o1 o2
  go_wp2_with fail
  refine (toints_v la ln lc ls _ (by omega) ((unhide R_l).alloc _)).mono ?_
  rintro e w6 ⟨l2, m2, rfl, o1, b6⟩
  clear a_0 a_1 n_a s_0 s_1 n_s
  have cw6 := ((Below.refl w5.heap.size w5).alloc (Nat.le_refl _) _).trans (b6.mono (by simp <;> omega))
  have zw6 := cw6.size
  have K_a := hide (keptblk cw6 K_a)
  have K_s := hide (keptblk cw6 K_s)
  have K_x : Hid (w6.heap[w5.heap.size]? = some (.cells #[.slice a2 ni c2, .slice b2 nf d2] 30 (0, 0)) ∧ w5.heap.size < w6.heap.size) := hide ⟨(b6.block _ (by simp <;> omega)).trans (newB1 w5 _), by have := b6.size; simp at this; omega⟩
  have y_x := (unhide K_x).2
  have R_x := hide ((unhide R_x).later cw6)
  have R_f := hide ((unhide R_f).later cw6)
  have R_l := hide ((unhide R_l).later cw6)
  have R_oW1 := hide ((unhide R_oW1).later cw6)
  have R_oW2 := hide ((unhide R_oW2).later cw6)
  have R_oX1 := hide ((unhide R_oX1).later cw6)
  have R_oX2 := hide ((unhide R_oX2).later cw6)
  have BL := hide ((unhide BL).trans (cw6.mono (unhide BL).size))
  have R_oN2 := hide (Ow.base (base' := (w5.heap.size + 1)) o1 (by simp))
  have L_oN2 := hide (World.ownsRow.lt (unhide R_oN2))
  clear b6 cw6
  obtain ⟨a_0, a_1, -⟩ := blk_cells2 (unhide K_a).1
  have n_a := (unhide K_a).2
  obtain ⟨s_0, s_1, -⟩ := blk_cells2 (unhide K_s).1
  have n_s := (unhide K_s).2
  obtain ⟨x_0, x_1, -⟩ := blk_cells2 (unhide K_x).1
  have n_x := (unhide K_x).2
  clear o1
  go_wp2_with fail
  refine (islice_any a2 ni c2 xs b2 nf d2 fs l2 ln m2 ls ok HOK n1 n2 HN1 HN2 _ (by omega) (by omega) (by omega) ((unhide R_oX1).rw encI_len) ((unhide R_oX2).rw encF_len) ((unhide R_oN2).rw encN_len)).mono ?_
  rintro e w7 ⟨g1, e1, g2, e2, rfl, o1, o2, b7⟩
  clear a_0 a_1 n_a s_0 s_1 n_s x_0 x_1 n_x
  have cw7 := b7
  have zw7 := cw7.size
  have K_a := hide (keptblk cw7 K_a)
  have K_s := hide (keptblk cw7 K_s)
  have K_x := hide (keptblk cw7 K_x)
  have R_x := hide ((unhide R_x).later cw7)
  have R_f := hide ((unhide R_f).later cw7)
  have R_l := hide ((unhide R_l).later cw7)
  have R_oW1 := hide ((unhide R_oW1).later cw7)
  have R_oW2 := hide ((unhide R_oW2).later cw7)
  have R_oX1 := hide ((unhide R_oX1).later cw7)
  have R_oX2 := hide ((unhide R_oX2).later cw7)
  have R_oN2 := hide ((unhide R_oN2).later cw7)
  have BL := hide ((unhide BL).trans (cw7.mono (unhide BL).size))
  have R_oG1 := hide (o1)
  have L_oG1 := hide (World.ownsRow.lt (unhide R_oG1))
  have R_oG2 := hide (o2)
  have L_oG2 := hide (World.ownsRow.lt (unhide R_oG2))
  clear b7 cw7
  obtain ⟨a_0, a_1, -⟩ := blk_cells2 (unhide K_a).1
  have n_a := (unhide K_a).2
  obtain ⟨s_0, s_1, -⟩ := blk_cells2 (unhide K_s).1
  have n_s := (unhide K_s).2
  obtain ⟨x_0, x_1, -⟩ := blk_cells2 (unhide K_x).1
  have n_x := (unhide K_x).2
  clear o1 o2
  go_wp2_with fail
  refine (eqstate_same _ _ _ _ _ (scI ok ls xs) _ _ _ _ _ (scF ok ls fs) _ (by omega) (by omega) (((unhide R_oG1).rw encI_len).alloc _) (((unhide R_oW1).rw encI_len).alloc _) (((unhide R_oG2).rw encF_len).alloc _) (((unhide R_oW2).rw encF_len).alloc _)).mono ?_
  rintro e w8 ⟨rfl, b8⟩
  clear a_0 a_1 n_a s_0 s_1 n_s x_0 x_1 n_x
  have cw8 := ((Below.refl w7.heap.size w7).alloc (Nat.le_refl _) _).trans (b8.mono (by simp <;> omega))
  have zw8 := cw8.size
  have K_a := hide (keptblk cw8 K_a)
  have K_s := hide (keptblk cw8 K_s)
  have K_x := hide (keptblk cw8 K_x)
  have K_g : Hid (w8.heap[w7.heap.size]? = some (.cells #[.slice g1 n1 e1, .slice g2 n2 e2] 30 (0, 0)) ∧ w7.heap.size < w8.heap.size) := hide ⟨(b8.block _ (by simp <;> omega)).trans (newB1 w7 _), by have := b8.size; simp at this; omega⟩
  have y_g := (unhide K_g).2
  have R_x := hide ((unhide R_x).later cw8)
  have R_f := hide ((unhide R_f).later cw8)
  have R_l := hide ((unhide R_l).later cw8)
  have R_oW1 := hide ((unhide R_oW1).later cw8)
  have R_oW2 := hide ((unhide R_oW2).later cw8)
  have R_oX1 := hide ((unhide R_oX1).later cw8)
  have R_oX2 := hide ((unhide R_oX2).later cw8)
  have R_oN2 := hide ((unhide R_oN2).later cw8)
  have R_oG1 := hide ((unhide R_oG1).later cw8)
  have R_oG2 := hide ((unhide R_oG2).later cw8)
  have BL := hide ((unhide BL).trans (cw8.mono (unhide BL).size))
  clear b8 cw8
  obtain ⟨a_0, a_1, -⟩ := blk_cells2 (unhide K_a).1
  have n_a := (unhide K_a).2
  obtain ⟨s_0, s_1, -⟩ := blk_cells2 (unhide K_s).1
  have n_s := (unhide K_s).2
  obtain ⟨x_0, x_1, -⟩ := blk_cells2 (unhide K_x).1
  have n_x := (unhide K_x).2
  obtain ⟨g_0, g_1, -⟩ := blk_cells2 (unhide K_g).1
  have n_g := (unhide K_g).2
  clear a_0 a_1 n_a g_0 g_1 n_g s_0 s_1 n_s x_0 x_1 n_x
  obtain ⟨x0, x1, -⟩ := blk_cells2 (unhide K_x).1
  obtain ⟨y0, y1, -⟩ := blk_cells2 (unhide K_a).1
  have X0 := hide x0; have X1 := hide x1; have Y0 := hide y0; have Y1 := hide y1
  go_wp2_with fail
  clear x0 x1 y0 y1
  go_region_held3 (fun W => Below w8.heap.size w8 W ∧ W.cell? ⟨w5.heap.size, 0, none⟩ = some (.slice a2 ni c2) ∧ W.cell? ⟨w5.heap.size, 1, none⟩ = some (.slice b2 nf d2) ∧ W.cell? ⟨w.heap.size, 0, none⟩ = some (.slice ai ni ci) ∧ W.cell? ⟨w.heap.size, 1, none⟩ = some (.slice af nf cf))
    (first | (with_reducible exact keep4 (unhide K_x).2 (unhide K_x).2 (unhide K_a).2 (unhide K_a).2 (unhide X0) (unhide X1) (unhide Y0) (unhide Y1) (Below.refl _ _)) | (with_reducible exact keep4 (unhide K_x).2 (unhide K_x).2 (unhide K_a).2 (unhide K_a).2 (unhide X0) (unhide X1) (unhide Y0) (unhide Y1) ((Below.refl _ _).drew)) | (with_reducible exact keep4 (unhide K_x).2 (unhide K_x).2 (unhide K_a).2 (unhide K_a).2 (unhide X0) (unhide X1) (unhide Y0) (unhide Y1) (by assumption)))
    (first
      | (go_at_call 11; refine (tostate_any _ _ _ xs _ _ _ fs _ hm1 hm2 ?_ ?_).mono ?_; exact (unhide R_x).later (kb1 (by assumption)); exact (unhide R_f).later (kb1 (by assumption)); rintro e w9 ⟨ta, tb, tc, td, rfl, o1, o2, b6⟩; have O5 := hide (o1.rw encI_len); have O6 := hide (o2.rw encF_len); clear o1 o2; have b6k := kb2 (by assumption) b6; clear b6)
      | (go_at_call 13; refine (eqstate_same _ _ _ _ _ xs _ _ _ _ _ fs _ (by omega) (by omega) ?_ (unhide O5) ?_ (unhide O6)).mono ?_; exact ((unhide R_oX1).rw encI_len).later (kb1 (by assumption)); exact ((unhide R_oX2).rw encF_len).later (kb1 (by assumption)); rintro e w10 ⟨rfl, b7⟩; have b7k := kb2 (by assumption) b7; clear b7))
  have cw10 : Below w8.heap.size w8 w10 := b7k
  clear X0 X1 Y0 Y1 b6k b7k O5 O6
  have K_a := hide (keptblk cw10 K_a)
  have K_s := hide (keptblk cw10 K_s)
  have K_x := hide (keptblk cw10 K_x)
  have K_g := hide (keptblk cw10 K_g)
  have R_x := hide ((unhide R_x).later cw10)
  have R_f := hide ((unhide R_f).later cw10)
  have R_l := hide ((unhide R_l).later cw10)
  have R_oW1 := hide ((unhide R_oW1).later cw10)
  have R_oW2 := hide ((unhide R_oW2).later cw10)
  have R_oX1 := hide ((unhide R_oX1).later cw10)
  have R_oX2 := hide ((unhide R_oX2).later cw10)
  have R_oN2 := hide ((unhide R_oN2).later cw10)
  have R_oG1 := hide ((unhide R_oG1).later cw10)
  have R_oG2 := hide ((unhide R_oG2).later cw10)
  have BL := hide ((unhide BL).trans (cw10.mono (unhide BL).size))
  clear cw10
  obtain ⟨a_0, a_1, -⟩ := blk_cells2 (unhide K_a).1
  have n_a := (unhide K_a).2
  obtain ⟨s_0, s_1, -⟩ := blk_cells2 (unhide K_s).1
  have n_s := (unhide K_s).2
  obtain ⟨x_0, x_1, -⟩ := blk_cells2 (unhide K_x).1
  have n_x := (unhide K_x).2
  obtain ⟨g_0, g_1, -⟩ := blk_cells2 (unhide K_g).1
  have n_g := (unhide K_g).2
  go_wp2_with fail
  refine (toints_v la ln lc ls _ (by omega) ((unhide R_l))).mono ?_
  rintro e w11 ⟨l3, m3, rfl, o1, b11⟩
  clear a_0 a_1 n_a g_0 g_1 n_g s_0 s_1 n_s x_0 x_1 n_x
  have cw11 := b11
  have zw11 := cw11.size
  have K_a := hide (keptblk cw11 K_a)
  have K_s := hide (keptblk cw11 K_s)
  have K_x := hide (keptblk cw11 K_x)
  have K_g := hide (keptblk cw11 K_g)
  have R_x := hide ((unhide R_x).later cw11)
  have R_f := hide ((unhide R_f).later cw11)
  have R_l := hide ((unhide R_l).later cw11)
  have R_oW1 := hide ((unhide R_oW1).later cw11)
  have R_oW2 := hide ((unhide R_oW2).later cw11)
  have R_oX1 := hide ((unhide R_oX1).later cw11)
  have R_oX2 := hide ((unhide R_oX2).later cw11)
  have R_oN2 := hide ((unhide R_oN2).later cw11)
  have R_oG1 := hide ((unhide R_oG1).later cw11)
  have R_oG2 := hide ((unhide R_oG2).later cw11)
  have BL := hide ((unhide BL).trans (cw11.mono (unhide BL).size))
  have R_oN3 := hide (o1)
  have L_oN3 := hide (World.ownsRow.lt (unhide R_oN3))
  clear b11 cw11
  obtain ⟨a_0, a_1, -⟩ := blk_cells2 (unhide K_a).1
  have n_a := (unhide K_a).2
  obtain ⟨s_0, s_1, -⟩ := blk_cells2 (unhide K_s).1
  have n_s := (unhide K_s).2
  obtain ⟨x_0, x_1, -⟩ := blk_cells2 (unhide K_x).1
  have n_x := (unhide K_x).2
  obtain ⟨g_0, g_1, -⟩ := blk_cells2 (unhide K_g).1
  have n_g := (unhide K_g).2
  clear o1
  go_wp2_with fail
  refine (eqints_v l2 l3 ln m2 m3 ls _ (by omega) ((unhide R_oN2).rw encN_len) ((unhide R_oN3).rw encN_len)).mono ?_
  rintro e w12 ⟨rfl, b12⟩
  clear a_0 a_1 n_a g_0 g_1 n_g s_0 s_1 n_s x_0 x_1 n_x
  have cw12 := b12
  have zw12 := cw12.size
  have K_a := hide (keptblk cw12 K_a)
  have K_s := hide (keptblk cw12 K_s)
  have K_x := hide (keptblk cw12 K_x)
  have K_g := hide (keptblk cw12 K_g)
  have R_x := hide ((unhide R_x).later cw12)
  have R_f := hide ((unhide R_f).later cw12)
  have R_l := hide ((unhide R_l).later cw12)
  have R_oW1 := hide ((unhide R_oW1).later cw12)
  have R_oW2 := hide ((unhide R_oW2).later cw12)
  have R_oX1 := hide ((unhide R_oX1).later cw12)
  have R_oX2 := hide ((unhide R_oX2).later cw12)
  have R_oN2 := hide ((unhide R_oN2).later cw12)
  have R_oG1 := hide ((unhide R_oG1).later cw12)
  have R_oG2 := hide ((unhide R_oG2).later cw12)
  clear R_oN3
  have BL := hide ((unhide BL).trans (cw12.mono (unhide BL).size))
  clear b12 cw12
  obtain ⟨a_0, a_1, -⟩ := blk_cells2 (unhide K_a).1
  have n_a := (unhide K_a).2
  obtain ⟨s_0, s_1, -⟩ := blk_cells2 (unhide K_s).1
  have n_s := (unhide K_s).2
  obtain ⟨x_0, x_1, -⟩ := blk_cells2 (unhide K_x).1
  have n_x := (unhide K_x).2
  obtain ⟨g_0, g_1, -⟩ := blk_cells2 (unhide K_g).1
  have n_g := (unhide K_g).2
  go_wp2_with fail
  refine (markS_any _ a2 ni c2 _ b2 nf d2 _ 1 (by omega) (by omega) _ (by omega) (by omega) (unhide R_oX1) (unhide R_oX2)).mono ?_
  rintro e w13 ⟨rfl, o1, o2, t1⟩
  clear a_0 a_1 n_a g_0 g_1 n_g s_0 s_1 n_s x_0 x_1 n_x
  have zw13 := t1.size
  have K_a := hide (t1.kept K_a (fun q => by rcases q with q | q; (first | (have := unhide L_oX1 _ q; omega) | (exact absurd q (by simp [Value.ownBlock]))); (first | (have := unhide L_oX2 _ q; omega) | (exact absurd q (by simp [Value.ownBlock])))))
  have K_s := hide (t1.kept K_s (fun q => by rcases q with q | q; (first | (have := unhide L_oX1 _ q; omega) | (exact absurd q (by simp [Value.ownBlock]))); (first | (have := unhide L_oX2 _ q; omega) | (exact absurd q (by simp [Value.ownBlock])))))
  have K_x := hide (t1.kept K_x (fun q => by rcases q with q | q; (first | (have := unhide L_oX1 _ q; omega) | (exact absurd q (by simp [Value.ownBlock]))); (first | (have := unhide L_oX2 _ q; omega) | (exact absurd q (by simp [Value.ownBlock])))))
  have K_g := hide (t1.kept K_g (fun q => by rcases q with q | q; (first | (have := unhide L_oX1 _ q; omega) | (exact absurd q (by simp [Value.ownBlock]))); (first | (have := unhide L_oX2 _ q; omega) | (exact absurd q (by simp [Value.ownBlock])))))
  have R_oW1 := hide (t1.own (unhide R_oW1) (fun i hi => fun q => by have := unhide L_oW1 _ hi; rcases q with q | q; (first | (have := unhide L_oX1 _ q; omega) | (exact absurd q (by simp [Value.ownBlock]))); (first | (have := unhide L_oX2 _ q; omega) | (exact absurd q (by simp [Value.ownBlock])))))
  have R_oW2 := hide (t1.own (unhide R_oW2) (fun i hi => fun q => by have := unhide L_oW2 _ hi; rcases q with q | q; (first | (have := unhide L_oX1 _ q; omega) | (exact absurd q (by simp [Value.ownBlock]))); (first | (have := unhide L_oX2 _ q; omega) | (exact absurd q (by simp [Value.ownBlock])))))
  have R_oN2 := hide (t1.own (unhide R_oN2) (fun i hi => fun q => by have := unhide L_oN2 _ hi; rcases q with q | q; (first | (have := unhide L_oX1 _ q; omega) | (exact absurd q (by simp [Value.ownBlock]))); (first | (have := unhide L_oX2 _ q; omega) | (exact absurd q (by simp [Value.ownBlock])))))
  have R_oG1 := hide (t1.own (unhide R_oG1) (fun i hi => fun q => by have := unhide L_oG1 _ hi; rcases q with q | q; (first | (have := unhide L_oX1 _ q; omega) | (exact absurd q (by simp [Value.ownBlock]))); (first | (have := unhide L_oX2 _ q; omega) | (exact absurd q (by simp [Value.ownBlock])))))
  have R_oG2 := hide (t1.own (unhide R_oG2) (fun i hi => fun q => by have := unhide L_oG2 _ hi; rcases q with q | q; (first | (have := unhide L_oX1 _ q; omega) | (exact absurd q (by simp [Value.ownBlock]))); (first | (have := unhide L_oX2 _ q; omega) | (exact absurd q (by simp [Value.ownBlock])))))
  have BL := hide (Trn.below (unhide BL) t1 (unhide BL).size (fun i q => by rcases q with q | q; (first | (have := unhide L_oX1 _ q; omega) | (exact absurd q (by simp [Value.ownBlock]))); (first | (have := unhide L_oX2 _ q; omega) | (exact absurd q (by simp [Value.ownBlock])))))
  have R_x := hide ((unhide O_x).later (unhide BL))
  have R_f := hide ((unhide O_f).later (unhide BL))
  have R_l := hide ((unhide O_l).later (unhide BL))
  have R_oX1 := hide o1; have R_oX2 := hide o2
  clear o1 o2 t1
  obtain ⟨a_0, a_1, -⟩ := blk_cells2 (unhide K_a).1
  have n_a := (unhide K_a).2
  obtain ⟨s_0, s_1, -⟩ := blk_cells2 (unhide K_s).1
  have n_s := (unhide K_s).2
  obtain ⟨x_0, x_1, -⟩ := blk_cells2 (unhide K_x).1
  have n_x := (unhide K_x).2
  obtain ⟨g_0, g_1, -⟩ := blk_cells2 (unhide K_g).1
  have n_g := (unhide K_g).2
  go_wp2_with fail
  refine (markints_v _ l2 ln m2 _ (1 + 6 * (ni : Int) + 2 * (nf : Int)) _ (by omega) (by omega) (by omega) (unhide R_oN2)).mono ?_
  rintro e w14 ⟨rfl, o1, g1w⟩
  have t1 := Trn.of_grown g1w
  clear a_0 a_1 n_a g_0 g_1 n_g s_0 s_1 n_s x_0 x_1 n_x
  have zw14 := t1.size
  have K_a := hide (t1.kept K_a (fun q => by (first | (have := unhide L_oN2 _ q; omega) | (exact absurd q (by simp [Value.ownBlock])))))
  have K_s := hide (t1.kept K_s (fun q => by (first | (have := unhide L_oN2 _ q; omega) | (exact absurd q (by simp [Value.ownBlock])))))
  have K_x := hide (t1.kept K_x (fun q => by (first | (have := unhide L_oN2 _ q; omega) | (exact absurd q (by simp [Value.ownBlock])))))
  have K_g := hide (t1.kept K_g (fun q => by (first | (have := unhide L_oN2 _ q; omega) | (exact absurd q (by simp [Value.ownBlock])))))
  have R_oW1 := hide (t1.own (unhide R_oW1) (fun i hi => fun q => by have := unhide L_oW1 _ hi; (first | (have := unhide L_oN2 _ q; omega) | (exact absurd q (by simp [Value.ownBlock])))))
  have R_oW2 := hide (t1.own (unhide R_oW2) (fun i hi => fun q => by have := unhide L_oW2 _ hi; (first | (have := unhide L_oN2 _ q; omega) | (exact absurd q (by simp [Value.ownBlock])))))
  have R_oX1 := hide (t1.own (unhide R_oX1) (fun i hi => fun q => by have := unhide L_oX1 _ hi; (first | (have := unhide L_oN2 _ q; omega) | (exact absurd q (by simp [Value.ownBlock])))))
  have R_oX2 := hide (t1.own (unhide R_oX2) (fun i hi => fun q => by have := unhide L_oX2 _ hi; (first | (have := unhide L_oN2 _ q; omega) | (exact absurd q (by simp [Value.ownBlock])))))
  have R_oG1 := hide (t1.own (unhide R_oG1) (fun i hi => fun q => by have := unhide L_oG1 _ hi; (first | (have := unhide L_oN2 _ q; omega) | (exact absurd q (by simp [Value.ownBlock])))))
  have R_oG2 := hide (t1.own (unhide R_oG2) (fun i hi => fun q => by have := unhide L_oG2 _ hi; (first | (have := unhide L_oN2 _ q; omega) | (exact absurd q (by simp [Value.ownBlock])))))
  have BL := hide (Trn.below (unhide BL) t1 (unhide BL).size (fun i q => by (first | (have := unhide L_oN2 _ q; omega) | (exact absurd q (by simp [Value.ownBlock])))))
  have R_x := hide ((unhide O_x).later (unhide BL))
  have R_f := hide ((unhide O_f).later (unhide BL))
  have R_l := hide ((unhide O_l).later (unhide BL))
  have R_oN2 := hide o1
  clear o1 t1 g1w
  obtain ⟨a_0, a_1, -⟩ := blk_cells2 (unhide K_a).1
  have n_a := (unhide K_a).2
  obtain ⟨s_0, s_1, -⟩ := blk_cells2 (unhide K_s).1
  have n_s := (unhide K_s).2
  obtain ⟨x_0, x_1, -⟩ := blk_cells2 (unhide K_x).1
  have n_x := (unhide K_x).2
  obtain ⟨g_0, g_1, -⟩ := blk_cells2 (unhide K_g).1
  have n_g := (unhide K_g).2
  have hq0 : decide ((1 : Int) + 6 * (ni : Int) + 2 * (nf : Int) + (ln : Int) < 0) = false := by simp; omega
  go_wp2_with fail
  refine (eqstate_same _ _ _ _ _ (scI ok ls xs) _ _ _ _ _ (scF ok ls fs) _ (by omega) (by omega) (((unhide R_oG1).rw encI_len)) (((unhide R_oW1).rw encI_len)) (((unhide R_oG2).rw encF_len)) (((unhide R_oW2).rw encF_len))).mono ?_
  rintro e w15 ⟨rfl, b15⟩
  clear a_0 a_1 n_a g_0 g_1 n_g s_0 s_1 n_s x_0 x_1 n_x
  have cw15 := b15
  have zw15 := cw15.size
  have K_a := hide (keptblk cw15 K_a)
  have K_s := hide (keptblk cw15 K_s)
  have K_x := hide (keptblk cw15 K_x)
  have K_g := hide (keptblk cw15 K_g)
  have R_x := hide ((unhide R_x).later cw15)
  have R_f := hide ((unhide R_f).later cw15)
  have R_l := hide ((unhide R_l).later cw15)
  have R_oW1 := hide ((unhide R_oW1).later cw15)
  have R_oW2 := hide ((unhide R_oW2).later cw15)
  have R_oX1 := hide ((unhide R_oX1).later cw15)
  have R_oX2 := hide ((unhide R_oX2).later cw15)
  have R_oN2 := hide ((unhide R_oN2).later cw15)
  have R_oG1 := hide ((unhide R_oG1).later cw15)
  have R_oG2 := hide ((unhide R_oG2).later cw15)
  have BL := hide ((unhide BL).trans (cw15.mono (unhide BL).size))
  clear b15 cw15
  obtain ⟨a_0, a_1, -⟩ := blk_cells2 (unhide K_a).1
  have n_a := (unhide K_a).2
  obtain ⟨s_0, s_1, -⟩ := blk_cells2 (unhide K_s).1
  have n_s := (unhide K_s).2
  obtain ⟨x_0, x_1, -⟩ := blk_cells2 (unhide K_x).1
  have n_x := (unhide K_x).2
  obtain ⟨g_0, g_1, -⟩ := blk_cells2 (unhide K_g).1
  have n_g := (unhide K_g).2
  go_wp2_with fail
  refine (markS_any _ g1 n1 e1 _ g2 n2 e2 _ 1 (by omega) (by omega) _ (by omega) (by omega) (unhide R_oG1) (unhide R_oG2)).mono ?_
  rintro e w16 ⟨rfl, o1, o2, t1⟩
  clear a_0 a_1 n_a g_0 g_1 n_g s_0 s_1 n_s x_0 x_1 n_x
  have zw16 := t1.size
  have K_a := hide (t1.kept K_a (fun q => by rcases q with q | q; (first | (have := unhide L_oG1 _ q; omega) | (exact absurd q (by simp [Value.ownBlock]))); (first | (have := unhide L_oG2 _ q; omega) | (exact absurd q (by simp [Value.ownBlock])))))
  have K_s := hide (t1.kept K_s (fun q => by rcases q with q | q; (first | (have := unhide L_oG1 _ q; omega) | (exact absurd q (by simp [Value.ownBlock]))); (first | (have := unhide L_oG2 _ q; omega) | (exact absurd q (by simp [Value.ownBlock])))))
  have K_x := hide (t1.kept K_x (fun q => by rcases q with q | q; (first | (have := unhide L_oG1 _ q; omega) | (exact absurd q (by simp [Value.ownBlock]))); (first | (have := unhide L_oG2 _ q; omega) | (exact absurd q (by simp [Value.ownBlock])))))
  have K_g := hide (t1.kept K_g (fun q => by rcases q with q | q; (first | (have := unhide L_oG1 _ q; omega) | (exact absurd q (by simp [Value.ownBlock]))); (first | (have := unhide L_oG2 _ q; omega) | (exact absurd q (by simp [Value.ownBlock])))))
  have R_oW1 := hide (t1.own (unhide R_oW1) (fun i hi => fun q => by have := unhide L_oW1 _ hi; rcases q with q | q; (first | (have := unhide L_oG1 _ q; omega) | (exact absurd q (by simp [Value.ownBlock]))); (first | (have := unhide L_oG2 _ q; omega) | (exact absurd q (by simp [Value.ownBlock])))))
  have R_oW2 := hide (t1.own (unhide R_oW2) (fun i hi => fun q => by have := unhide L_oW2 _ hi; rcases q with q | q; (first | (have := unhide L_oG1 _ q; omega) | (exact absurd q (by simp [Value.ownBlock]))); (first | (have := unhide L_oG2 _ q; omega) | (exact absurd q (by simp [Value.ownBlock])))))
  have R_oX1 := hide (t1.own (unhide R_oX1) (fun i hi => fun q => by have := unhide L_oX1 _ hi; rcases q with q | q; (first | (have := unhide L_oG1 _ q; omega) | (exact absurd q (by simp [Value.ownBlock]))); (first | (have := unhide L_oG2 _ q; omega) | (exact absurd q (by simp [Value.ownBlock])))))
  have R_oX2 := hide (t1.own (unhide R_oX2) (fun i hi => fun q => by have := unhide L_oX2 _ hi; rcases q with q | q; (first | (have := unhide L_oG1 _ q; omega) | (exact absurd q (by simp [Value.ownBlock]))); (first | (have := unhide L_oG2 _ q; omega) | (exact absurd q (by simp [Value.ownBlock])))))
  have R_oN2 := hide (t1.own (unhide R_oN2) (fun i hi => fun q => by have := unhide L_oN2 _ hi; rcases q with q | q; (first | (have := unhide L_oG1 _ q; omega) | (exact absurd q (by simp [Value.ownBlock]))); (first | (have := unhide L_oG2 _ q; omega) | (exact absurd q (by simp [Value.ownBlock])))))
  have BL := hide (Trn.below (unhide BL) t1 (unhide BL).size (fun i q => by rcases q with q | q; (first | (have := unhide L_oG1 _ q; omega) | (exact absurd q (by simp [Value.ownBlock]))); (first | (have := unhide L_oG2 _ q; omega) | (exact absurd q (by simp [Value.ownBlock])))))
  have R_x := hide ((unhide O_x).later (unhide BL))
  have R_f := hide ((unhide O_f).later (unhide BL))
  have R_l := hide ((unhide O_l).later (unhide BL))
  have R_oG1 := hide o1; have R_oG2 := hide o2
  clear o1 o2 t1
  obtain ⟨a_0, a_1, -⟩ := blk_cells2 (unhide K_a).1
  have n_a := (unhide K_a).2
  obtain ⟨s_0, s_1, -⟩ := blk_cells2 (unhide K_s).1
  have n_s := (unhide K_s).2
  obtain ⟨x_0, x_1, -⟩ := blk_cells2 (unhide K_x).1
  have n_x := (unhide K_x).2
  obtain ⟨g_0, g_1, -⟩ := blk_cells2 (unhide K_g).1
  have n_g := (unhide K_g).2
  go_wp2_with fail
  refine (heldS_any g1 n1 e1 g2 n2 e2 1 (by omega) (by omega) _ (by omega) (by omega) ((unhide R_oG1).rw encI_len) ((unhide R_oG2).rw encF_len)).mono ?_
  rintro e w17 ⟨rfl, b17⟩
  clear a_0 a_1 n_a g_0 g_1 n_g s_0 s_1 n_s x_0 x_1 n_x
  have cw17 := b17
  have zw17 := cw17.size
  have K_a := hide (keptblk cw17 K_a)
  have K_s := hide (keptblk cw17 K_s)
  have K_x := hide (keptblk cw17 K_x)
  have K_g := hide (keptblk cw17 K_g)
  have R_x := hide ((unhide R_x).later cw17)
  have R_f := hide ((unhide R_f).later cw17)
  have R_l := hide ((unhide R_l).later cw17)
  have R_oW1 := hide ((unhide R_oW1).later cw17)
  have R_oW2 := hide ((unhide R_oW2).later cw17)
  have R_oX1 := hide ((unhide R_oX1).later cw17)
  have R_oX2 := hide ((unhide R_oX2).later cw17)
  have R_oN2 := hide ((unhide R_oN2).later cw17)
  have R_oG1 := hide ((unhide R_oG1).later cw17)
  have R_oG2 := hide ((unhide R_oG2).later cw17)
  have BL := hide ((unhide BL).trans (cw17.mono (unhide BL).size))
  clear b17 cw17
  obtain ⟨a_0, a_1, -⟩ := blk_cells2 (unhide K_a).1
  have n_a := (unhide K_a).2
  obtain ⟨s_0, s_1, -⟩ := blk_cells2 (unhide K_s).1
  have n_s := (unhide K_s).2
  obtain ⟨x_0, x_1, -⟩ := blk_cells2 (unhide K_x).1
  have n_x := (unhide K_x).2
  obtain ⟨g_0, g_1, -⟩ := blk_cells2 (unhide K_g).1
  have n_g := (unhide K_g).2
  have hq1 : decide ((1 : Int) + 6 * (n1 : Int) + 2 * (n2 : Int) < 0) = false := by simp; omega
  have hq2 : ((1 : Int) + 6 * (n1 : Int) + 2 * (n2 : Int) != 1 + 6 * (n1 : Int) + 2 * (n2 : Int)) = false := by simp
  go_wp2_with fail
  refine (tostate_any ai ni ci xs af nf cf fs _ hm1 hm2 (unhide R_x) (unhide R_f)).mono ?_
  rintro e w18 ⟨a3, c3, b3, d3, rfl, o1, o2, b18⟩
  clear a_0 a_1 n_a g_0 g_1 n_g s_0 s_1 n_s x_0 x_1 n_x
  have cw18 := b18
  have zw18 := cw18.size
  have K_a := hide (keptblk cw18 K_a)
  have K_s := hide (keptblk cw18 K_s)
  have K_x := hide (keptblk cw18 K_x)
  have K_g := hide (keptblk cw18 K_g)
  have R_x := hide ((unhide R_x).later cw18)
  have R_f := hide ((unhide R_f).later cw18)
  have R_l := hide ((unhide R_l).later cw18)
  have R_oW1 := hide ((unhide R_oW1).later cw18)
  have R_oW2 := hide ((unhide R_oW2).later cw18)
  have R_oX1 := hide ((unhide R_oX1).later cw18)
  have R_oX2 := hide ((unhide R_oX2).later cw18)
  have R_oN2 := hide ((unhide R_oN2).later cw18)
  have R_oG1 := hide ((unhide R_oG1).later cw18)
  have R_oG2 := hide ((unhide R_oG2).later cw18)
  have BL := hide ((unhide BL).trans (cw18.mono (unhide BL).size))
  have R_I3 := hide (o1.rw encI_len)
  have R_F3 := hide (o2.rw encF_len)
  clear b18 cw18
  obtain ⟨a_0, a_1, -⟩ := blk_cells2 (unhide K_a).1
  have n_a := (unhide K_a).2
  obtain ⟨s_0, s_1, -⟩ := blk_cells2 (unhide K_s).1
  have n_s := (unhide K_s).2
  obtain ⟨x_0, x_1, -⟩ := blk_cells2 (unhide K_x).1
  have n_x := (unhide K_x).2
  obtain ⟨g_0, g_1, -⟩ := blk_cells2 (unhide K_g).1
  have n_g := (unhide K_g).2
  clear o1 o2
  go_wp2_with fail
  refine (toints_v la ln lc ls _ (by omega) ((unhide R_l))).mono ?_
  rintro e w19 ⟨l4, m4, rfl, o1, b19⟩
  clear a_0 a_1 n_a g_0 g_1 n_g s_0 s_1 n_s x_0 x_1 n_x
  have cw19 := b19
  have zw19 := cw19.size
  have K_a := hide (keptblk cw19 K_a)
  have K_s := hide (keptblk cw19 K_s)
  have K_x := hide (keptblk cw19 K_x)
  have K_g := hide (keptblk cw19 K_g)
  have R_x := hide ((unhide R_x).later cw19)
  have R_f := hide ((unhide R_f).later cw19)
  have R_l := hide ((unhide R_l).later cw19)
  have R_oW1 := hide ((unhide R_oW1).later cw19)
  have R_oW2 := hide ((unhide R_oW2).later cw19)
  have R_oX1 := hide ((unhide R_oX1).later cw19)
  have R_oX2 := hide ((unhide R_oX2).later cw19)
  have R_oN2 := hide ((unhide R_oN2).later cw19)
  have R_oG1 := hide ((unhide R_oG1).later cw19)
  have R_oG2 := hide ((unhide R_oG2).later cw19)
  have R_I3 := hide ((unhide R_I3).later cw19)
  have R_F3 := hide ((unhide R_F3).later cw19)
  have BL := hide ((unhide BL).trans (cw19.mono (unhide BL).size))
  have R_oN4 := hide (o1)
  have L_oN4 := hide (World.ownsRow.lt (unhide R_oN4))
  clear b19 cw19
  obtain ⟨a_0, a_1, -⟩ := blk_cells2 (unhide K_a).1
  have n_a := (unhide K_a).2
  obtain ⟨s_0, s_1, -⟩ := blk_cells2 (unhide K_s).1
  have n_s := (unhide K_s).2
  obtain ⟨x_0, x_1, -⟩ := blk_cells2 (unhide K_x).1
  have n_x := (unhide K_x).2
  obtain ⟨g_0, g_1, -⟩ := blk_cells2 (unhide K_g).1
  have n_g := (unhide K_g).2
  clear o1
  go_wp2_with fail
  refine (islice_any a3 ni c3 xs b3 nf d3 fs l4 ln m4 ls ok HOK n1 n2 HN1 HN2 _ (by omega) (by omega) (by omega) (unhide R_I3) (unhide R_F3) ((unhide R_oN4).rw encN_len)).mono ?_
  rintro e w20 ⟨h1, k1, h2, k2, rfl, o1, o2, b20⟩
  clear a_0 a_1 n_a g_0 g_1 n_g s_0 s_1 n_s x_0 x_1 n_x
  have cw20 := b20
  have zw20 := cw20.size
  have K_a := hide (keptblk cw20 K_a)
  have K_s := hide (keptblk cw20 K_s)
  have K_x := hide (keptblk cw20 K_x)
  have K_g := hide (keptblk cw20 K_g)
  have R_x := hide ((unhide R_x).later cw20)
  have R_f := hide ((unhide R_f).later cw20)
  have R_l := hide ((unhide R_l).later cw20)
  have R_oW1 := hide ((unhide R_oW1).later cw20)
  have R_oW2 := hide ((unhide R_oW2).later cw20)
  have R_oX1 := hide ((unhide R_oX1).later cw20)
  have R_oX2 := hide ((unhide R_oX2).later cw20)
  have R_oN2 := hide ((unhide R_oN2).later cw20)
  have R_oG1 := hide ((unhide R_oG1).later cw20)
  have R_oG2 := hide ((unhide R_oG2).later cw20)
  clear R_I3
  clear R_F3
  clear R_oN4
  have BL := hide ((unhide BL).trans (cw20.mono (unhide BL).size))
  have R_oH1 := hide (o1)
  have L_oH1 := hide (World.ownsRow.lt (unhide R_oH1))
  have R_oH2 := hide (o2)
  have L_oH2 := hide (World.ownsRow.lt (unhide R_oH2))
  clear b20 cw20
  obtain ⟨a_0, a_1, -⟩ := blk_cells2 (unhide K_a).1
  have n_a := (unhide K_a).2
  obtain ⟨s_0, s_1, -⟩ := blk_cells2 (unhide K_s).1
  have n_s := (unhide K_s).2
  obtain ⟨x_0, x_1, -⟩ := blk_cells2 (unhide K_x).1
  have n_x := (unhide K_x).2
  obtain ⟨g_0, g_1, -⟩ := blk_cells2 (unhide K_g).1
  have n_g := (unhide K_g).2
  clear o1 o2
  go_wp2_with fail
  refine (eqstate_same _ _ _ _ _ (scI ok ls xs) _ _ _ _ _ (scF ok ls fs) _ (by omega) (by omega) (((unhide R_oH1).rw encI_len).alloc _) (((unhide R_oW1).rw encI_len).alloc _) (((unhide R_oH2).rw encF_len).alloc _) (((unhide R_oW2).rw encF_len).alloc _)).mono ?_
  rintro e w21 ⟨rfl, b21⟩
  clear a_0 a_1 n_a g_0 g_1 n_g s_0 s_1 n_s x_0 x_1 n_x
  have cw21 := ((Below.refl w20.heap.size w20).alloc (Nat.le_refl _) _).trans (b21.mono (by simp <;> omega))
  have zw21 := cw21.size
  have K_a := hide (keptblk cw21 K_a)
  have K_s := hide (keptblk cw21 K_s)
  have K_x := hide (keptblk cw21 K_x)
  have K_g := hide (keptblk cw21 K_g)
  have K_h : Hid (w21.heap[w20.heap.size]? = some (.cells #[.slice h1 n1 k1, .slice h2 n2 k2] 30 (0, 0)) ∧ w20.heap.size < w21.heap.size) := hide ⟨(b21.block _ (by simp <;> omega)).trans (newB1 w20 _), by have := b21.size; simp at this; omega⟩
  have y_h := (unhide K_h).2
  have R_x := hide ((unhide R_x).later cw21)
  have R_f := hide ((unhide R_f).later cw21)
  have R_l := hide ((unhide R_l).later cw21)
  have R_oW1 := hide ((unhide R_oW1).later cw21)
  have R_oW2 := hide ((unhide R_oW2).later cw21)
  have R_oX1 := hide ((unhide R_oX1).later cw21)
  have R_oX2 := hide ((unhide R_oX2).later cw21)
  have R_oN2 := hide ((unhide R_oN2).later cw21)
  have R_oG1 := hide ((unhide R_oG1).later cw21)
  have R_oG2 := hide ((unhide R_oG2).later cw21)
  have R_oH1 := hide ((unhide R_oH1).later cw21)
  have R_oH2 := hide ((unhide R_oH2).later cw21)
  have BL := hide ((unhide BL).trans (cw21.mono (unhide BL).size))
  clear b21 cw21
  obtain ⟨a_0, a_1, -⟩ := blk_cells2 (unhide K_a).1
  have n_a := (unhide K_a).2
  obtain ⟨s_0, s_1, -⟩ := blk_cells2 (unhide K_s).1
  have n_s := (unhide K_s).2
  obtain ⟨x_0, x_1, -⟩ := blk_cells2 (unhide K_x).1
  have n_x := (unhide K_x).2
  obtain ⟨g_0, g_1, -⟩ := blk_cells2 (unhide K_g).1
  have n_g := (unhide K_g).2
  obtain ⟨h_0, h_1, -⟩ := blk_cells2 (unhide K_h).1
  have n_h := (unhide K_h).2
  go_wp2_with fail
  refine (heldS_any g1 n1 e1 g2 n2 e2 1 (by omega) (by omega) _ (by omega) (by omega) ((unhide R_oG1).rw encI_len) ((unhide R_oG2).rw encF_len)).mono ?_
  rintro e w22 ⟨rfl, b22⟩
  clear a_0 a_1 n_a g_0 g_1 n_g h_0 h_1 n_h s_0 s_1 n_s x_0 x_1 n_x
  have cw22 := b22
  have zw22 := cw22.size
  have K_a := hide (keptblk cw22 K_a)
  have K_s := hide (keptblk cw22 K_s)
  have K_x := hide (keptblk cw22 K_x)
  have K_g := hide (keptblk cw22 K_g)
  have K_h := hide (keptblk cw22 K_h)
  have R_x := hide ((unhide R_x).later cw22)
  have R_f := hide ((unhide R_f).later cw22)
  have R_l := hide ((unhide R_l).later cw22)
  have R_oW1 := hide ((unhide R_oW1).later cw22)
  have R_oW2 := hide ((unhide R_oW2).later cw22)
  have R_oX1 := hide ((unhide R_oX1).later cw22)
  have R_oX2 := hide ((unhide R_oX2).later cw22)
  have R_oN2 := hide ((unhide R_oN2).later cw22)
  have R_oG1 := hide ((unhide R_oG1).later cw22)
  have R_oG2 := hide ((unhide R_oG2).later cw22)
  have R_oH1 := hide ((unhide R_oH1).later cw22)
  have R_oH2 := hide ((unhide R_oH2).later cw22)
  have BL := hide ((unhide BL).trans (cw22.mono (unhide BL).size))
  clear b22 cw22
  obtain ⟨a_0, a_1, -⟩ := blk_cells2 (unhide K_a).1
  have n_a := (unhide K_a).2
  obtain ⟨s_0, s_1, -⟩ := blk_cells2 (unhide K_s).1
  have n_s := (unhide K_s).2
  obtain ⟨x_0, x_1, -⟩ := blk_cells2 (unhide K_x).1
  have n_x := (unhide K_x).2
  obtain ⟨g_0, g_1, -⟩ := blk_cells2 (unhide K_g).1
  have n_g := (unhide K_g).2
  obtain ⟨h_0, h_1, -⟩ := blk_cells2 (unhide K_h).1
  have n_h := (unhide K_h).2
  go_wp2
  go_ret
  exact ⟨rfl, unhide BL⟩

set_option maxHeartbeats 4000000 in
set_option maxRecDepth 100000 in
theorem lifted (os : Os) (started : os.Started) (H : Type) (enc : TypeId × Value → H) :
    ReturnsInHanded {} Try.checked os 5 .any (Rows.fnExactSliceSpec.pre6 enc Try.prog Try.f5 Rows.fnExactSliceRow.domain false) (Rows.fnExactSliceSpec.post enc Try.prog Try.f5 false true false false) := by
  refine returnsInHanded_of_change (C := Try.checked) own started (by kernel_rfl) Try.func5
    (ChangeSpec.witness6 (enc := enc) (C := Try.checked) false ⟨#[], #[.agg #[.slice none 0 0, .slice none 0 0], .slice none 0 0], []⟩ 8 (by kernel_rfl) (by kernel_rfl) (by kernel_rfl) (by kernel_rfl)) ?_
  intro W base args ds gs before hval0 hW hcnd _
  have hval : ∀ (j : Nat) t v, Try.f5.params[j]? = some t → args[j]? = some v → Value.okWide Try.prog W .any base t v := hval0
  have hW' := hW
  obtain ⟨p, q, hA0, hV, rfl, hfz, hnd⟩ := hW
  have hA : DataW.TrodAll enc Try.prog W 0 (fun _ => true) true Try.f5.params.toList args.toList ds p := hA0
  rw [Try.params5] at hA hval
  obtain ⟨v0, vs0, d0, ds0, p0, q0, hargs0, rfl, rfl, h0, r0⟩ := trodAll_cons hA
  obtain ⟨v1, vs1, d1, ds1, p1, q1, hargs1, rfl, rfl, h1, r1⟩ := trodAll_cons r0
  obtain ⟨rfl, rfl, rfl⟩ := trodAll_nil r1
  obtain rfl : args = #[v0, v1] := by cases args; simp_all
  obtain ⟨rfl, rfl⟩ := trodVars_none hV
  have k0 := h0
  have lt0 : ∀ x ∈ p0, x.block < W.heap.size := by obtain ⟨m, hm⟩ := k0; exact DataW.trod_lt m _ _ _ hm
  have k1 := h1
  have lt1 : ∀ x ∈ p1, x.block < W.heap.size := by obtain ⟨m, hm⟩ := k1; exact DataW.trod_lt m _ _ _ hm
  obtain ⟨aai, ani, aci, axs, aaf, anf, acf, afs, rfl, ah1, ah2, ah3, ah4, ah5, ah6, ah7⟩ := open_state (hval 0 25 v0 rfl rfl) h0
  obtain ⟨la, ln, lc, ls, rfl, lh1, lh2, lh3⟩ := open_numrow (hval 1 39 v1 rfl rfl) h1
  clear hA0 hval0
  refine (walk W aai ani aci axs aaf anf acf afs ah1 ah2 ah3 ah4 ah5 ah6 ah7 la ln lc ls lh1 lh2 lh3).mono fun e W' ⟨he, bel⟩ => ?_
  subst he
  exact ⟨_, rfl, _, _, _, [], _, [], hW', trodAll_mk1 (shut_bool Try.underlying4 _), (trodAll_cons_mk (Below.trod laidOut (by kernel_rfl) (of_decide_eq_true (by kernel_rfl)) k0 bel lt0) (trodAll_cons_mk (Below.trod laidOut (by kernel_rfl) (of_decide_eq_true (by kernel_rfl)) k1 bel lt1) trodAll_mk0)), rfl, bel.frame _, fun h => by cases h⟩

theorem over : Rows.fnExactSliceRow.holds Try.pinned (OpenSpec.ofChange Rows.fnExactSliceSpec) :=
  OpenClaim.holds_of_wide 5 Try.f5 rfl rfl rfl rfl rfl rfl rfl ⟨rfl, rfl, rfl, rfl, rfl⟩ rfl rfl rfl rfl rfl (by kernel_rfl) Try.func5 (by kernel_rfl)
    (of_decide_eq_true (by kernel_rfl)) (by unfold Func.isWrapper; first | (rw [if_pos (by decide +kernel)]; kernel_rfl) | (rw [if_neg (by decide +kernel)]; exact ⟨rfl, rfl⟩))
    (fun os started H enc _ => lifted os started H enc)

theorem proved : Rows.FnExactSliceSaid := over
#print axioms proved
end Go.Proofs.Ytdpaocikmijioae.fnExactSlice
namespace Go.Proofs.Ytdpaocikmijioae
theorem fnExactSlice_holds : Rows.FnExactSliceSaid := fnExactSlice.proved
end Go.Proofs.Ytdpaocikmijioae
