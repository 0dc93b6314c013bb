/-
  At every argument Prune answers as its model says, every field; it writes into no argument; its answer owns its memory. No conditions but the statement's own.
-/
import Derived.Test.YtighiahppjekeabGreatRows
import Derived.Test.YtighiahppjekeabGreatStA
import Derived.Test.YtighiahppjekeabGreatStT
import Derived.Test.YtighiahppjekeabGreatStE
import Derived.Test.YtighiahppjekeabGreatStO
import Derived.Test.YtighiahppjekeabGreatSt3
import Derived.Test.YtighiahppjekeabGreatStM
import Derived.Test.YtighiahppjekeabGreatStH
import Derived.Test.YtighiahppjekeabGreatGrZ
import Derived.Test.YtighiahppjekeabGreatPru
import Derived.WalkKit
import Derived.ProofKit
import Derived.OpenShut
import Derived.ShutString
import Derived.ChangeOld
import Derived.Below
import Derived.Carry
namespace Go.Proofs.YtighiahppjekeabGreat.fnExactPrune
open Go.ChangeShapes Go.WideShapes Go.ChangeAt Go.RowKit
open Go.ChangeMaps (open_string shut_string)

theorem own : ownKnob Tryz.prog.godebug = none := by kernel_rfl
theorem laidOut : laidOutB Tryz.prog = true := by kernel_rfl

theorem pr_len {xs : List Itm} {fs : List Flr} {t : Tb} {W1 : List Itm} {W2 : List Flr} {n1 n2 ni nf : Nat} (h1 : prI xs fs t = W1) (h2 : prF xs fs t = W2) (e1 : n1 = W1.length) (e2 : n2 = W2.length) (f1 : ni = xs.length) (f2 : nf = fs.length) : n1 ≤ max 5 ni ∧ n2 ≤ max 5 nf := by
  unfold prI at h1
  unfold prF at h2
  split at h1
  · rename_i q
    rw [if_pos q] at h2
    subst h1 h2
    have := jI_len xs fs [] (pf xs fs t) 5
    have := jF_len fs (pf xs fs t) 5
    unfold joinI at e1
    unfold joinF at e2
    omega
  · rename_i q
    rw [if_neg q] at h2
    subst h1 h2
    omega

theorem len_tot {t : Tb} {B : Nat} (h : totG t ≤ B) : ∀ (i : Nat) (q : List Int), t[i]? = some q → q.length ≤ B := fun i q hq => by
  have := totG_at hq
  omega
set_option maxHeartbeats 8000000 in
set_option maxRecDepth 100000 in
theorem walk (w : World) (ai : Option Addr) (ni ci : Nat) (xs : List Itm) (af : Option Addr) (nf cf : Nat) (fs : List Flr) (hni : ni ≤ 9223372036854775807) (hnf : nf ≤ 9223372036854775807) (hx : Rw encI 6 w (.slice ai ni ci) xs) (hf : Rw encF 2 w (.slice af nf cf) fs) (hbig : Big xs) (_ : FitI xs) (_ : FitF fs) (za : Option Addr) (zn zc : Nat) (zs : Tb) (zh1 : zn ≤ 9223372036854775807) (zh2 : RwG w (.slice za zn zc) zs) (zh3 : BigG zs) (_ : ∀ (i : Nat) (q : List Int), zs[i]? = some q → FitNs q) :
    Calls Tryz.prog 3 #[.agg #[.slice ai ni ci, .slice af nf cf], .slice za zn zc] w fun e w' => e = .returned (.bool true) ∧ Below w.heap.size w w' := by
  have R_x := hide hx
  have R_f := hide hf
  have R_t := hide zh2
  have O_x := R_x
  have O_f := R_f
  have O_t := R_t
  obtain ⟨W1, hW1⟩ : ∃ l, Hid (prI xs fs zs = l) := ⟨_, hide rfl⟩
  obtain ⟨W2, hW2⟩ : ∃ l, Hid (prF xs fs zs = l) := ⟨_, hide rfl⟩
  obtain ⟨n1, hn1⟩ : ∃ n, n = W1.length := ⟨_, rfl⟩
  obtain ⟨n2, hn2⟩ : ∃ n, n = W2.length := ⟨_, rfl⟩
  have HL1 := hide (pr_len (xs := xs) (fs := fs) (t := zs) (unhide hW1) (unhide hW2) hn1 hn2 hx.len.1 hf.len.1)
  have HN1 : Hid ((prI xs fs zs).length = n1) := hide (by rw [unhide hW1, hn1])
  have HN2 : Hid ((prF xs fs zs).length = n2) := hide (by rw [unhide hW2, hn2])
  clear hx hf zh2 hn1 hn2
  go_enter Tryz.func3, Tryz.ntmps3
  go_wp2_with fail
  refine (szstate_any ai ni ci xs hbig af nf cf 1048576 (by omega) (by omega) _ hni hnf ((unhide R_x).alloc _)).mono ?_
  rintro e w1 ⟨h, b1⟩
  have cw1 := ((Below.refl w.heap.size w).alloc (Nat.le_refl _) _).trans (b1.mono (by simp <;> omega))
  have zw1 := cw1.size
  have K_a : Hid (w1.heap[w.heap.size]? = some (.cells #[.slice ai ni ci, .slice af nf cf] 25 (0, 0)) ∧ w.heap.size < w1.heap.size) := hide ⟨(b1.block _ (by simp <;> omega)).trans (newB1 w _), by have := b1.size; simp at this; omega⟩
  have y_a := (unhide K_a).2
  have R_x := hide ((unhide R_x).later cw1)
  have R_f := hide ((unhide R_f).later cw1)
  have R_t := hide ((unhide R_t).later cw1)
  have BL := hide cw1
  clear b1 cw1
  obtain ⟨a_0, a_1, -⟩ := blk_cells2 (unhide K_a).1
  have n_a := (unhide K_a).2
  rcases h with rfl | ⟨r, rfl, hr1, hr2, hm1, hm2, hS⟩
  · go_wp2
    go_ret
    exact ⟨rfl, unhide BL⟩
  have hd : decide (r < 0) = false := by simp; omega
  have HS := hide hS
  clear hS
  go_wp2_with fail
  refine (szgrid_any za zn zc zs zh3 r hr1 (by omega) _ zh1 (unhide R_t)).mono ?_
  rintro e w2 ⟨h, b2⟩
  clear a_0 a_1 n_a
  have cw2 := b2
  have zw2 := cw2.size
  have K_a := hide (keptblk cw2 K_a)
  have R_x := hide ((unhide R_x).later cw2)
  have R_f := hide ((unhide R_f).later cw2)
  have R_t := hide ((unhide R_t).later cw2)
  have BL := hide ((unhide BL).trans (cw2.mono (unhide BL).size))
  clear b2 cw2
  obtain ⟨a_0, a_1, -⟩ := blk_cells2 (unhide K_a).1
  have n_a := (unhide K_a).2
  rcases h with rfl | ⟨r2, rfl, hr3, hr4⟩
  · go_wp2
    go_ret
    exact ⟨rfl, unhide BL⟩
  have hd2 : decide (r2 < 0) = false := by simp; omega
  have zn1 : zn ≤ 1048576 := by omega
  have zt1 : totG zs ≤ 1048576 := by omega
  have HLT := hide (len_tot (B := 140737488351232) (t := zs) (by omega))
  obtain ⟨s, hs⟩ : ∃ s, totG zs = s := ⟨_, rfl⟩
  have hs5 : s ≤ 1048576 := by rw [← hs]; exact zt1
  have hsum := hr4
  rw [hs] at hsum
  have HST := hide hs
  have hl9 := unhide HL1
  have hm11 : n1 ≤ 1048576 := by omega
  have hm12 : n2 ≤ 1048576 := by omega
  clear hs hl9
  go_wp2_with fail
  refine (tostate_any ai ni ci xs af nf cf fs _ hm1 hm2 ((unhide R_x)) ((unhide R_f))).mono ?_
  rintro e w3 ⟨Pa, Pc, Pb, Pd, rfl, o1, o2, b3⟩
  clear a_0 a_1 n_a
  have cw3 := b3
  have zw3 := cw3.size
  have K_a := hide (keptblk cw3 K_a)
  have R_x := hide ((unhide R_x).later cw3)
  have R_f := hide ((unhide R_f).later cw3)
  have R_t := hide ((unhide R_t).later cw3)
  have BL := hide ((unhide BL).trans (cw3.mono (unhide BL).size))
  have R_oP1 := hide (o1)
  have L_oP1 := hide (World.ownsRow.lt (unhide R_oP1))
  have R_oP2 := hide (o2)
  have L_oP2 := hide (World.ownsRow.lt (unhide R_oP2))
  clear b3 cw3
  obtain ⟨a_0, a_1, -⟩ := blk_cells2 (unhide K_a).1
  have n_a := (unhide K_a).2
  clear o1 o2
  go_wp2_with fail
  refine (togrid_any za zn zc zs _ zn1 zt1 ((unhide R_t))).mono ?_
  rintro e w4 ⟨Qa, Qc, rfl, o1, b4⟩
  clear a_0 a_1 n_a
  have cw4 := b4
  have zw4 := cw4.size
  have K_a := hide (keptblk cw4 K_a)
  have R_x := hide ((unhide R_x).later cw4)
  have R_f := hide ((unhide R_f).later cw4)
  have R_t := hide ((unhide R_t).later cw4)
  have R_oP1 := hide ((unhide R_oP1).later cw4)
  have R_oP2 := hide ((unhide R_oP2).later cw4)
  have BL := hide ((unhide BL).trans (cw4.mono (unhide BL).size))
  have R_sQ := hide (o1)
  clear b4 cw4
  obtain ⟨a_0, a_1, -⟩ := blk_cells2 (unhide K_a).1
  have n_a := (unhide K_a).2
  clear o1
  go_wp2_with fail
  refine (sprune_any Pa ni Pc xs Pb nf Pd fs Qa zn Qc zs n1 n2 HN1 HN2 _ (by omega) (by omega) zn1 (unhide HLT) ((unhide R_oP1).rw encI_len) ((unhide R_oP2).rw encF_len) (unhide R_sQ).rw).mono ?_
  rintro e w5 ⟨wa, wc, wb, wd, rfl, o1, o2, b5⟩
  clear a_0 a_1 n_a
  have cw5 := b5
  have zw5 := cw5.size
  have K_a := hide (keptblk cw5 K_a)
  have R_x := hide ((unhide R_x).later cw5)
  have R_f := hide ((unhide R_f).later cw5)
  have R_t := hide ((unhide R_t).later cw5)
  have R_oP1 := hide ((unhide R_oP1).later cw5)
  have R_oP2 := hide ((unhide R_oP2).later cw5)
  have R_sQ := hide ((unhide R_sQ).later cw5)
  have BL := hide ((unhide BL).trans (cw5.mono (unhide BL).size))
  have R_w1r := hide (show Rw encI 6 _ _ W1 from by rw [← unhide hW1]; exact o1)
  have R_w2r := hide (show Rw encF 2 _ _ W2 from by rw [← unhide hW2]; exact o2)
  clear b5 cw5
  obtain ⟨a_0, a_1, -⟩ := blk_cells2 (unhide K_a).1
  have n_a := (unhide K_a).2
  clear o1 o2
  clear R_oP1 L_oP1
  clear R_oP2 L_oP2
  clear R_sQ
  have O_w1r := R_w1r
  have O_w2r := R_w2r
  have BA := hide (Below.refl w5.heap.size w5)
  go_wp2_with fail
  refine (tostate_any ai ni ci xs af nf cf fs _ hm1 hm2 ((unhide R_x).alloc _) ((unhide R_f).alloc _)).mono ?_
  rintro e w6 ⟨Xa, Xc, Xb, Xd, rfl, o1, o2, b6⟩
  clear a_0 a_1 n_a
  have cw6 := ((Below.refl w5.heap.size w5).alloc (Nat.le_refl _) _).trans (b6.mono (by simp <;> omega))
  have zw6 := cw6.size
  have K_a := hide (keptblk cw6 K_a)
  have K_s : Hid (w6.heap[w5.heap.size]? = some (.cells #[.slice wa n1 wc, .slice wb n2 wd] 32 (0, 0)) ∧ w5.heap.size < w6.heap.size) := hide ⟨(b6.block _ (by simp <;> omega)).trans (newB1 w5 _), by have := b6.size; simp at this; omega⟩
  have y_s := (unhide K_s).2
  have R_x := hide ((unhide R_x).later cw6)
  have R_f := hide ((unhide R_f).later cw6)
  have R_t := hide ((unhide R_t).later cw6)
  have R_w1r := hide ((unhide R_w1r).later cw6)
  have R_w2r := hide ((unhide R_w2r).later cw6)
  have BL := hide ((unhide BL).trans (cw6.mono (unhide BL).size))
  have R_oX1 := hide (Ow.base (base' := w5.heap.size + 1) o1 (by simp))
  have L_oX1 := hide (World.ownsRow.lt (unhide R_oX1))
  have R_oX2 := hide (Ow.base (base' := w5.heap.size + 1) o2 (by simp))
  have L_oX2 := hide (World.ownsRow.lt (unhide R_oX2))
  have BA := hide ((unhide BA).trans (cw6.mono (unhide BA).size))
  clear b6 cw6
  obtain ⟨a_0, a_1, -⟩ := blk_cells2 (unhide K_a).1
  have n_a := (unhide K_a).2
  obtain ⟨s_0, s_1, -⟩ := blk_cells2 (unhide K_s).1
  have n_s := (unhide K_s).2
  clear o1 o2
  go_wp2_with fail
  refine (togrid_any za zn zc zs _ zn1 zt1 ((unhide R_t).alloc _)).mono ?_
  rintro e w7 ⟨Ya, Yc, rfl, o1, b7⟩
  clear a_0 a_1 n_a s_0 s_1 n_s
  have cw7 := ((Below.refl w6.heap.size w6).alloc (Nat.le_refl _) _).trans (b7.mono (by simp <;> omega))
  have zw7 := cw7.size
  have K_a := hide (keptblk cw7 K_a)
  have K_s := hide (keptblk cw7 K_s)
  have K_x : Hid (w7.heap[w6.heap.size]? = some (.cells #[.slice Xa ni Xc, .slice Xb nf Xd] 32 (0, 0)) ∧ w6.heap.size < w7.heap.size) := hide ⟨(b7.block _ (by simp <;> omega)).trans (newB1 w6 _), by have := b7.size; simp at this; omega⟩
  have y_x := (unhide K_x).2
  have R_x := hide ((unhide R_x).later cw7)
  have R_f := hide ((unhide R_f).later cw7)
  have R_t := hide ((unhide R_t).later cw7)
  have R_w1r := hide ((unhide R_w1r).later cw7)
  have R_w2r := hide ((unhide R_w2r).later cw7)
  have R_oX1 := hide ((unhide R_oX1).later cw7)
  have R_oX2 := hide ((unhide R_oX2).later cw7)
  have BL := hide ((unhide BL).trans (cw7.mono (unhide BL).size))
  have R_sY := hide (OwG.mono (lo' := w6.heap.size + 1) o1 (by simp) (Nat.le_refl _))
  have BA := hide ((unhide BA).trans (cw7.mono (unhide BA).size))
  clear b7 cw7
  obtain ⟨a_0, a_1, -⟩ := blk_cells2 (unhide K_a).1
  have n_a := (unhide K_a).2
  obtain ⟨s_0, s_1, -⟩ := blk_cells2 (unhide K_s).1
  have n_s := (unhide K_s).2
  obtain ⟨x_0, x_1, -⟩ := blk_cells2 (unhide K_x).1
  have n_x := (unhide K_x).2
  clear o1
  go_wp2_with fail
  refine (iprune_any Xa ni Xc xs Xb nf Xd fs (unhide HS) Ya zn Yc zs n1 n2 HN1 HN2 _ (by omega) (by omega) zn1 (unhide HLT) ((unhide R_oX1).rw encI_len) ((unhide R_oX2).rw encF_len) (unhide R_sY).rw).mono ?_
  rintro e w8 ⟨Ga, Gc, Gb, Gd, rfl, o1, o2, b8⟩
  clear a_0 a_1 n_a s_0 s_1 n_s x_0 x_1 n_x
  have cw8 := b8
  have zw8 := cw8.size
  have K_a := hide (keptblk cw8 K_a)
  have K_s := hide (keptblk cw8 K_s)
  have K_x := hide (keptblk cw8 K_x)
  have R_x := hide ((unhide R_x).later cw8)
  have R_f := hide ((unhide R_f).later cw8)
  have R_t := hide ((unhide R_t).later cw8)
  have R_w1r := hide ((unhide R_w1r).later cw8)
  have R_w2r := hide ((unhide R_w2r).later cw8)
  have R_oX1 := hide ((unhide R_oX1).later cw8)
  have R_oX2 := hide ((unhide R_oX2).later cw8)
  have R_sY := hide ((unhide R_sY).later cw8)
  have BL := hide ((unhide BL).trans (cw8.mono (unhide BL).size))
  have R_oG1 := hide (show OwI _ _ _ W1 from by rw [← unhide hW1]; exact o1)
  have L_oG1 := hide (World.ownsRow.lt (unhide R_oG1))
  have R_oG2 := hide (show OwF _ _ _ W2 from by rw [← unhide hW2]; exact o2)
  have L_oG2 := hide (World.ownsRow.lt (unhide R_oG2))
  have BA := hide ((unhide BA).trans (cw8.mono (unhide BA).size))
  clear b8 cw8
  obtain ⟨a_0, a_1, -⟩ := blk_cells2 (unhide K_a).1
  have n_a := (unhide K_a).2
  obtain ⟨s_0, s_1, -⟩ := blk_cells2 (unhide K_s).1
  have n_s := (unhide K_s).2
  obtain ⟨x_0, x_1, -⟩ := blk_cells2 (unhide K_x).1
  have n_x := (unhide K_x).2
  clear o1 o2
  go_wp2_with fail
  refine (eqstate_same _ n1 _ _ _ W1 _ n2 _ _ _ W2 _ (by omega) (by omega) (((unhide R_oG1).rw encI_len).alloc _) ((unhide R_w1r).alloc _) (((unhide R_oG2).rw encF_len).alloc _) ((unhide R_w2r).alloc _)).mono ?_
  rintro e w9 ⟨rfl, b9⟩
  clear a_0 a_1 n_a s_0 s_1 n_s x_0 x_1 n_x
  have cw9 := ((Below.refl w8.heap.size w8).alloc (Nat.le_refl _) _).trans (b9.mono (by simp <;> omega))
  have zw9 := cw9.size
  have K_a := hide (keptblk cw9 K_a)
  have K_s := hide (keptblk cw9 K_s)
  have K_x := hide (keptblk cw9 K_x)
  have K_g : Hid (w9.heap[w8.heap.size]? = some (.cells #[.slice Ga n1 Gc, .slice Gb n2 Gd] 32 (0, 0)) ∧ w8.heap.size < w9.heap.size) := hide ⟨(b9.block _ (by simp <;> omega)).trans (newB1 w8 _), by have := b9.size; simp at this; omega⟩
  have y_g := (unhide K_g).2
  have R_x := hide ((unhide R_x).later cw9)
  have R_f := hide ((unhide R_f).later cw9)
  have R_t := hide ((unhide R_t).later cw9)
  have R_w1r := hide ((unhide R_w1r).later cw9)
  have R_w2r := hide ((unhide R_w2r).later cw9)
  have R_oX1 := hide ((unhide R_oX1).later cw9)
  have R_oX2 := hide ((unhide R_oX2).later cw9)
  have R_sY := hide ((unhide R_sY).later cw9)
  have R_oG1 := hide ((unhide R_oG1).later cw9)
  have R_oG2 := hide ((unhide R_oG2).later cw9)
  have BL := hide ((unhide BL).trans (cw9.mono (unhide BL).size))
  have BA := hide ((unhide BA).trans (cw9.mono (unhide BA).size))
  clear b9 cw9
  obtain ⟨a_0, a_1, -⟩ := blk_cells2 (unhide K_a).1
  have n_a := (unhide K_a).2
  obtain ⟨s_0, s_1, -⟩ := blk_cells2 (unhide K_s).1
  have n_s := (unhide K_s).2
  obtain ⟨x_0, x_1, -⟩ := blk_cells2 (unhide K_x).1
  have n_x := (unhide K_x).2
  obtain ⟨g_0, g_1, -⟩ := blk_cells2 (unhide K_g).1
  have n_g := (unhide K_g).2
  clear a_0 a_1 n_a g_0 g_1 n_g s_0 s_1 n_s x_0 x_1 n_x
  obtain ⟨x0, x1, -⟩ := blk_cells2 (unhide K_x).1
  obtain ⟨y0, y1, -⟩ := blk_cells2 (unhide K_a).1
  have X0 := hide x0; have X1 := hide x1; have Y0 := hide y0; have Y1 := hide y1
  go_wp2_with fail
  clear x0 x1 y0 y1
  go_region_held3 (fun W => Below w9.heap.size w9 W ∧ W.cell? ⟨w6.heap.size, 0, none⟩ = some (.slice Xa ni Xc) ∧ W.cell? ⟨w6.heap.size, 1, none⟩ = some (.slice Xb nf Xd) ∧ W.cell? ⟨w.heap.size, 0, none⟩ = some (.slice ai ni ci) ∧ W.cell? ⟨w.heap.size, 1, none⟩ = some (.slice af nf cf))
    (first | (with_reducible exact keep4 (unhide K_x).2 (unhide K_x).2 (unhide K_a).2 (unhide K_a).2 (unhide X0) (unhide X1) (unhide Y0) (unhide Y1) (Below.refl _ _)) | (with_reducible exact keep4 (unhide K_x).2 (unhide K_x).2 (unhide K_a).2 (unhide K_a).2 (unhide X0) (unhide X1) (unhide Y0) (unhide Y1) ((Below.refl _ _).drew)) | (with_reducible exact keep4 (unhide K_x).2 (unhide K_x).2 (unhide K_a).2 (unhide K_a).2 (unhide X0) (unhide X1) (unhide Y0) (unhide Y1) (by assumption)))
    (first
      | (go_at_call 7; refine (tostate_any _ _ _ xs _ _ _ fs _ hm1 hm2 ?_ ?_).mono ?_; exact (unhide R_x).later (kb1 (by assumption)); exact (unhide R_f).later (kb1 (by assumption)); rintro e w10 ⟨ta, tb, tc, td, rfl, o1, o2, b6⟩; have O5 := hide (o1.rw encI_len); have O6 := hide (o2.rw encF_len); clear o1 o2; have b6k := kb2 (by assumption) b6; clear b6)
      | (go_at_call 10; refine (eqstate_same _ _ _ _ _ xs _ _ _ _ _ fs _ (by omega) (by omega) ?_ (unhide O5) ?_ (unhide O6)).mono ?_; exact ((unhide R_oX1).rw encI_len).later (kb1 (by assumption)); exact ((unhide R_oX2).rw encF_len).later (kb1 (by assumption)); rintro e w11 ⟨rfl, b7⟩; have b7k := kb2 (by assumption) b7; clear b7))
  have cw11 : Below w9.heap.size w9 w11 := b7k
  clear X0 X1 Y0 Y1 b6k b7k O5 O6
  have K_a := hide (keptblk cw11 K_a)
  have K_s := hide (keptblk cw11 K_s)
  have K_x := hide (keptblk cw11 K_x)
  have K_g := hide (keptblk cw11 K_g)
  have R_x := hide ((unhide R_x).later cw11)
  have R_f := hide ((unhide R_f).later cw11)
  have R_t := hide ((unhide R_t).later cw11)
  have R_w1r := hide ((unhide R_w1r).later cw11)
  have R_w2r := hide ((unhide R_w2r).later cw11)
  have R_oX1 := hide ((unhide R_oX1).later cw11)
  have R_oX2 := hide ((unhide R_oX2).later cw11)
  have R_sY := hide ((unhide R_sY).later cw11)
  have R_oG1 := hide ((unhide R_oG1).later cw11)
  have R_oG2 := hide ((unhide R_oG2).later cw11)
  have BL := hide ((unhide BL).trans (cw11.mono (unhide BL).size))
  have BA := hide ((unhide BA).trans (cw11.mono (unhide BA).size))
  clear cw11
  obtain ⟨a_0, a_1, -⟩ := blk_cells2 (unhide K_a).1
  have n_a := (unhide K_a).2
  obtain ⟨s_0, s_1, -⟩ := blk_cells2 (unhide K_s).1
  have n_s := (unhide K_s).2
  obtain ⟨x_0, x_1, -⟩ := blk_cells2 (unhide K_x).1
  have n_x := (unhide K_x).2
  obtain ⟨g_0, g_1, -⟩ := blk_cells2 (unhide K_g).1
  have n_g := (unhide K_g).2
  go_wp2_with fail
  refine (togrid_any za zn zc zs _ zn1 zt1 ((unhide R_t))).mono ?_
  rintro e w12 ⟨Va, Vc, rfl, o1, b12⟩
  clear a_0 a_1 n_a g_0 g_1 n_g s_0 s_1 n_s x_0 x_1 n_x
  have cw12 := b12
  have zw12 := cw12.size
  have K_a := hide (keptblk cw12 K_a)
  have K_s := hide (keptblk cw12 K_s)
  have K_x := hide (keptblk cw12 K_x)
  have K_g := hide (keptblk cw12 K_g)
  have R_x := hide ((unhide R_x).later cw12)
  have R_f := hide ((unhide R_f).later cw12)
  have R_t := hide ((unhide R_t).later cw12)
  have R_w1r := hide ((unhide R_w1r).later cw12)
  have R_w2r := hide ((unhide R_w2r).later cw12)
  have R_oX1 := hide ((unhide R_oX1).later cw12)
  have R_oX2 := hide ((unhide R_oX2).later cw12)
  have R_sY := hide ((unhide R_sY).later cw12)
  have R_oG1 := hide ((unhide R_oG1).later cw12)
  have R_oG2 := hide ((unhide R_oG2).later cw12)
  have BL := hide ((unhide BL).trans (cw12.mono (unhide BL).size))
  have R_sV := hide (o1)
  have BA := hide ((unhide BA).trans (cw12.mono (unhide BA).size))
  clear b12 cw12
  obtain ⟨a_0, a_1, -⟩ := blk_cells2 (unhide K_a).1
  have n_a := (unhide K_a).2
  obtain ⟨s_0, s_1, -⟩ := blk_cells2 (unhide K_s).1
  have n_s := (unhide K_s).2
  obtain ⟨x_0, x_1, -⟩ := blk_cells2 (unhide K_x).1
  have n_x := (unhide K_x).2
  obtain ⟨g_0, g_1, -⟩ := blk_cells2 (unhide K_g).1
  have n_g := (unhide K_g).2
  clear o1
  go_wp2_with fail
  refine (eqgrid_same Ya zn Yc Va Vc zs _ (by omega) (by omega) (unhide R_sY).rw (unhide R_sV).rw).mono ?_
  rintro e w13 ⟨rfl, b13⟩
  clear a_0 a_1 n_a g_0 g_1 n_g s_0 s_1 n_s x_0 x_1 n_x
  have cw13 := b13
  have zw13 := cw13.size
  have K_a := hide (keptblk cw13 K_a)
  have K_s := hide (keptblk cw13 K_s)
  have K_x := hide (keptblk cw13 K_x)
  have K_g := hide (keptblk cw13 K_g)
  have R_x := hide ((unhide R_x).later cw13)
  have R_f := hide ((unhide R_f).later cw13)
  have R_t := hide ((unhide R_t).later cw13)
  have R_w1r := hide ((unhide R_w1r).later cw13)
  have R_w2r := hide ((unhide R_w2r).later cw13)
  have R_oX1 := hide ((unhide R_oX1).later cw13)
  have R_oX2 := hide ((unhide R_oX2).later cw13)
  have R_sY := hide ((unhide R_sY).later cw13)
  have R_oG1 := hide ((unhide R_oG1).later cw13)
  have R_oG2 := hide ((unhide R_oG2).later cw13)
  have R_sV := hide ((unhide R_sV).later cw13)
  have BL := hide ((unhide BL).trans (cw13.mono (unhide BL).size))
  have BA := hide ((unhide BA).trans (cw13.mono (unhide BA).size))
  clear b13 cw13
  obtain ⟨a_0, a_1, -⟩ := blk_cells2 (unhide K_a).1
  have n_a := (unhide K_a).2
  obtain ⟨s_0, s_1, -⟩ := blk_cells2 (unhide K_s).1
  have n_s := (unhide K_s).2
  obtain ⟨x_0, x_1, -⟩ := blk_cells2 (unhide K_x).1
  have n_x := (unhide K_x).2
  obtain ⟨g_0, g_1, -⟩ := blk_cells2 (unhide K_g).1
  have n_g := (unhide K_g).2
  clear R_sV
  go_wp2_with fail
  refine (markS_any _ Xa ni Xc _ Xb nf Xd _ 1 (by omega) (by omega) _ (by omega) (by omega) (unhide R_oX1) (unhide R_oX2)).mono ?_
  rintro e w14 ⟨rfl, o1, o2, t1⟩
  clear a_0 a_1 n_a g_0 g_1 n_g s_0 s_1 n_s x_0 x_1 n_x
  have zw14 := t1.size
  have K_a := hide (t1.kept K_a (fun q => by rcases q with q | q; (first | (have := unhide L_oX1 _ q; omega) | (exact absurd q (by simp [Value.ownBlock]))); (first | (have := unhide L_oX2 _ q; omega) | (exact absurd q (by simp [Value.ownBlock])))))
  have K_s := hide (t1.kept K_s (fun q => by rcases q with q | q; (first | (have := unhide L_oX1 _ q; omega) | (exact absurd q (by simp [Value.ownBlock]))); (first | (have := unhide L_oX2 _ q; omega) | (exact absurd q (by simp [Value.ownBlock])))))
  have K_x := hide (t1.kept K_x (fun q => by rcases q with q | q; (first | (have := unhide L_oX1 _ q; omega) | (exact absurd q (by simp [Value.ownBlock]))); (first | (have := unhide L_oX2 _ q; omega) | (exact absurd q (by simp [Value.ownBlock])))))
  have K_g := hide (t1.kept K_g (fun q => by rcases q with q | q; (first | (have := unhide L_oX1 _ q; omega) | (exact absurd q (by simp [Value.ownBlock]))); (first | (have := unhide L_oX2 _ q; omega) | (exact absurd q (by simp [Value.ownBlock])))))
  have R_sY := hide ((unhide R_sY).trn t1 (fun i q => by rcases q with q | q; (first | (have := unhide L_oX1 _ q; omega) | (exact absurd q (by simp [Value.ownBlock]))); (first | (have := unhide L_oX2 _ q; omega) | (exact absurd q (by simp [Value.ownBlock])))))
  have R_oG1 := hide (t1.own (unhide R_oG1) (fun i hi => fun q => by have := unhide L_oG1 _ hi; rcases q with q | q; (first | (have := unhide L_oX1 _ q; omega) | (exact absurd q (by simp [Value.ownBlock]))); (first | (have := unhide L_oX2 _ q; omega) | (exact absurd q (by simp [Value.ownBlock])))))
  have R_oG2 := hide (t1.own (unhide R_oG2) (fun i hi => fun q => by have := unhide L_oG2 _ hi; rcases q with q | q; (first | (have := unhide L_oX1 _ q; omega) | (exact absurd q (by simp [Value.ownBlock]))); (first | (have := unhide L_oX2 _ q; omega) | (exact absurd q (by simp [Value.ownBlock])))))
  have BA := hide (Trn.below (unhide BA) t1 (unhide BA).size (fun i q => by rcases q with q | q; (first | (have := unhide L_oX1 _ q; omega) | (exact absurd q (by simp [Value.ownBlock]))); (first | (have := unhide L_oX2 _ q; omega) | (exact absurd q (by simp [Value.ownBlock])))))
  have BL := hide (Trn.below (unhide BL) t1 (unhide BL).size (fun i q => by rcases q with q | q; (first | (have := unhide L_oX1 _ q; omega) | (exact absurd q (by simp [Value.ownBlock]))); (first | (have := unhide L_oX2 _ q; omega) | (exact absurd q (by simp [Value.ownBlock])))))
  have R_x := hide ((unhide O_x).later (unhide BL))
  have R_f := hide ((unhide O_f).later (unhide BL))
  have R_t := hide ((unhide O_t).later (unhide BL))
  have R_w1r := hide ((unhide O_w1r).later (unhide BA))
  have R_w2r := hide ((unhide O_w2r).later (unhide BA))
  have R_oX1 := hide o1
  have R_oX2 := hide o2
  clear o1 o2 t1
  obtain ⟨a_0, a_1, -⟩ := blk_cells2 (unhide K_a).1
  have n_a := (unhide K_a).2
  obtain ⟨s_0, s_1, -⟩ := blk_cells2 (unhide K_s).1
  have n_s := (unhide K_s).2
  obtain ⟨x_0, x_1, -⟩ := blk_cells2 (unhide K_x).1
  have n_x := (unhide K_x).2
  obtain ⟨g_0, g_1, -⟩ := blk_cells2 (unhide K_g).1
  have n_g := (unhide K_g).2
  clear R_oX1 L_oX1
  clear R_oX2 L_oX2
  go_wp2_with fail
  refine (markgrid_any _ _ Ya zn Yc zs (1 + 6 * (ni : Int) + 2 * (nf : Int)) (by omega) (by omega) _ (by omega) (by omega) (unhide R_sY)).mono ?_
  rintro e w15 ⟨rfl, o1, t1⟩
  clear a_0 a_1 n_a g_0 g_1 n_g s_0 s_1 n_s x_0 x_1 n_x
  have zw15 := t1.size
  have K_a := hide (t1.kept K_a (fun q => by have q2 : _ ∧ _ := q; omega))
  have K_s := hide (t1.kept K_s (fun q => by have q2 : _ ∧ _ := q; omega))
  have K_x := hide (t1.kept K_x (fun q => by have q2 : _ ∧ _ := q; omega))
  have K_g := hide (t1.kept K_g (fun q => by have q2 : _ ∧ _ := q; omega))
  have R_oG1 := hide (t1.own (unhide R_oG1) (fun i hi => fun q => by have q2 : _ ∧ _ := q; have := unhide L_oG1 _ hi; omega))
  have R_oG2 := hide (t1.own (unhide R_oG2) (fun i hi => fun q => by have q2 : _ ∧ _ := q; have := unhide L_oG2 _ hi; omega))
  have BA := hide (Trn.below (unhide BA) t1 (unhide BA).size (fun i q => by have q2 : _ ∧ _ := q; omega))
  have BL := hide (Trn.below (unhide BL) t1 (unhide BL).size (fun i q => by have q2 : _ ∧ _ := q; omega))
  have R_x := hide ((unhide O_x).later (unhide BL))
  have R_f := hide ((unhide O_f).later (unhide BL))
  have R_t := hide ((unhide O_t).later (unhide BL))
  have R_w1r := hide ((unhide O_w1r).later (unhide BA))
  have R_w2r := hide ((unhide O_w2r).later (unhide BA))
  have R_sY := hide o1
  clear o1 t1
  obtain ⟨a_0, a_1, -⟩ := blk_cells2 (unhide K_a).1
  have n_a := (unhide K_a).2
  obtain ⟨s_0, s_1, -⟩ := blk_cells2 (unhide K_s).1
  have n_s := (unhide K_s).2
  obtain ⟨x_0, x_1, -⟩ := blk_cells2 (unhide K_x).1
  have n_x := (unhide K_x).2
  obtain ⟨g_0, g_1, -⟩ := blk_cells2 (unhide K_g).1
  have n_g := (unhide K_g).2
  rw [unhide HST]
  clear R_sY
  have hq0 : decide ((1 : Int) + 6 * (ni : Int) + 2 * (nf : Int) + (s : Int) < 0) = false := by simp; omega
  go_wp2_with fail
  refine (eqstate_same _ n1 _ _ _ W1 _ n2 _ _ _ W2 _ (by omega) (by omega) (((unhide R_oG1).rw encI_len)) ((unhide R_w1r)) (((unhide R_oG2).rw encF_len)) ((unhide R_w2r))).mono ?_
  rintro e w16 ⟨rfl, b16⟩
  clear a_0 a_1 n_a g_0 g_1 n_g s_0 s_1 n_s x_0 x_1 n_x
  have cw16 := b16
  have zw16 := cw16.size
  have K_a := hide (keptblk cw16 K_a)
  have K_s := hide (keptblk cw16 K_s)
  have K_x := hide (keptblk cw16 K_x)
  have K_g := hide (keptblk cw16 K_g)
  have R_x := hide ((unhide R_x).later cw16)
  have R_f := hide ((unhide R_f).later cw16)
  have R_t := hide ((unhide R_t).later cw16)
  have R_w1r := hide ((unhide R_w1r).later cw16)
  have R_w2r := hide ((unhide R_w2r).later cw16)
  have R_oG1 := hide ((unhide R_oG1).later cw16)
  have R_oG2 := hide ((unhide R_oG2).later cw16)
  have BL := hide ((unhide BL).trans (cw16.mono (unhide BL).size))
  have BA := hide ((unhide BA).trans (cw16.mono (unhide BA).size))
  clear b16 cw16
  obtain ⟨a_0, a_1, -⟩ := blk_cells2 (unhide K_a).1
  have n_a := (unhide K_a).2
  obtain ⟨s_0, s_1, -⟩ := blk_cells2 (unhide K_s).1
  have n_s := (unhide K_s).2
  obtain ⟨x_0, x_1, -⟩ := blk_cells2 (unhide K_x).1
  have n_x := (unhide K_x).2
  obtain ⟨g_0, g_1, -⟩ := blk_cells2 (unhide K_g).1
  have n_g := (unhide K_g).2
  go_wp2_with fail
  refine (markS_any _ Ga n1 Gc _ Gb n2 Gd _ 1 (by omega) (by omega) _ (by omega) (by omega) (unhide R_oG1) (unhide R_oG2)).mono ?_
  rintro e w17 ⟨rfl, o1, o2, t1⟩
  clear a_0 a_1 n_a g_0 g_1 n_g s_0 s_1 n_s x_0 x_1 n_x
  have zw17 := t1.size
  have K_a := hide (t1.kept K_a (fun q => by rcases q with q | q; (first | (have := unhide L_oG1 _ q; omega) | (exact absurd q (by simp [Value.ownBlock]))); (first | (have := unhide L_oG2 _ q; omega) | (exact absurd q (by simp [Value.ownBlock])))))
  have K_s := hide (t1.kept K_s (fun q => by rcases q with q | q; (first | (have := unhide L_oG1 _ q; omega) | (exact absurd q (by simp [Value.ownBlock]))); (first | (have := unhide L_oG2 _ q; omega) | (exact absurd q (by simp [Value.ownBlock])))))
  have K_x := hide (t1.kept K_x (fun q => by rcases q with q | q; (first | (have := unhide L_oG1 _ q; omega) | (exact absurd q (by simp [Value.ownBlock]))); (first | (have := unhide L_oG2 _ q; omega) | (exact absurd q (by simp [Value.ownBlock])))))
  have K_g := hide (t1.kept K_g (fun q => by rcases q with q | q; (first | (have := unhide L_oG1 _ q; omega) | (exact absurd q (by simp [Value.ownBlock]))); (first | (have := unhide L_oG2 _ q; omega) | (exact absurd q (by simp [Value.ownBlock])))))
  have BA := hide (Trn.below (unhide BA) t1 (unhide BA).size (fun i q => by rcases q with q | q; (first | (have := unhide L_oG1 _ q; omega) | (exact absurd q (by simp [Value.ownBlock]))); (first | (have := unhide L_oG2 _ q; omega) | (exact absurd q (by simp [Value.ownBlock])))))
  have BL := hide (Trn.below (unhide BL) t1 (unhide BL).size (fun i q => by rcases q with q | q; (first | (have := unhide L_oG1 _ q; omega) | (exact absurd q (by simp [Value.ownBlock]))); (first | (have := unhide L_oG2 _ q; omega) | (exact absurd q (by simp [Value.ownBlock])))))
  have R_x := hide ((unhide O_x).later (unhide BL))
  have R_f := hide ((unhide O_f).later (unhide BL))
  have R_t := hide ((unhide O_t).later (unhide BL))
  have R_w1r := hide ((unhide O_w1r).later (unhide BA))
  have R_w2r := hide ((unhide O_w2r).later (unhide BA))
  have R_oG1 := hide o1
  have R_oG2 := hide o2
  clear o1 o2 t1
  obtain ⟨a_0, a_1, -⟩ := blk_cells2 (unhide K_a).1
  have n_a := (unhide K_a).2
  obtain ⟨s_0, s_1, -⟩ := blk_cells2 (unhide K_s).1
  have n_s := (unhide K_s).2
  obtain ⟨x_0, x_1, -⟩ := blk_cells2 (unhide K_x).1
  have n_x := (unhide K_x).2
  obtain ⟨g_0, g_1, -⟩ := blk_cells2 (unhide K_g).1
  have n_g := (unhide K_g).2
  go_wp2_with fail
  refine (heldS_any Ga n1 Gc Gb n2 Gd 1 (by omega) (by omega) _ (by omega) (by omega) ((unhide R_oG1).rw encI_len) ((unhide R_oG2).rw encF_len)).mono ?_
  rintro e w18 ⟨rfl, b18⟩
  clear a_0 a_1 n_a g_0 g_1 n_g s_0 s_1 n_s x_0 x_1 n_x
  have cw18 := b18
  have zw18 := cw18.size
  have K_a := hide (keptblk cw18 K_a)
  have K_s := hide (keptblk cw18 K_s)
  have K_x := hide (keptblk cw18 K_x)
  have K_g := hide (keptblk cw18 K_g)
  have R_x := hide ((unhide R_x).later cw18)
  have R_f := hide ((unhide R_f).later cw18)
  have R_t := hide ((unhide R_t).later cw18)
  have R_w1r := hide ((unhide R_w1r).later cw18)
  have R_w2r := hide ((unhide R_w2r).later cw18)
  have R_oG1 := hide ((unhide R_oG1).later cw18)
  have R_oG2 := hide ((unhide R_oG2).later cw18)
  have BL := hide ((unhide BL).trans (cw18.mono (unhide BL).size))
  have BA := hide ((unhide BA).trans (cw18.mono (unhide BA).size))
  clear b18 cw18
  obtain ⟨a_0, a_1, -⟩ := blk_cells2 (unhide K_a).1
  have n_a := (unhide K_a).2
  obtain ⟨s_0, s_1, -⟩ := blk_cells2 (unhide K_s).1
  have n_s := (unhide K_s).2
  obtain ⟨x_0, x_1, -⟩ := blk_cells2 (unhide K_x).1
  have n_x := (unhide K_x).2
  obtain ⟨g_0, g_1, -⟩ := blk_cells2 (unhide K_g).1
  have n_g := (unhide K_g).2
  have hq1 : decide ((1 : Int) + 6 * (n1 : Int) + 2 * (n2 : Int) < 0) = false := by simp; omega
  have hq2 : ((1 : Int) + 6 * (n1 : Int) + 2 * (n2 : Int) != 1 + 6 * (n1 : Int) + 2 * (n2 : Int)) = false := by simp
  go_wp2_with fail
  refine (tostate_any ai ni ci xs af nf cf fs _ hm1 hm2 ((unhide R_x)) ((unhide R_f))).mono ?_
  rintro e w19 ⟨Ja, Jc, Jb, Jd, rfl, o1, o2, b19⟩
  clear a_0 a_1 n_a g_0 g_1 n_g s_0 s_1 n_s x_0 x_1 n_x
  have cw19 := b19
  have zw19 := cw19.size
  have K_a := hide (keptblk cw19 K_a)
  have K_s := hide (keptblk cw19 K_s)
  have K_x := hide (keptblk cw19 K_x)
  have K_g := hide (keptblk cw19 K_g)
  have R_x := hide ((unhide R_x).later cw19)
  have R_f := hide ((unhide R_f).later cw19)
  have R_t := hide ((unhide R_t).later cw19)
  have R_w1r := hide ((unhide R_w1r).later cw19)
  have R_w2r := hide ((unhide R_w2r).later cw19)
  have R_oG1 := hide ((unhide R_oG1).later cw19)
  have R_oG2 := hide ((unhide R_oG2).later cw19)
  have BL := hide ((unhide BL).trans (cw19.mono (unhide BL).size))
  have R_oJ1 := hide (o1)
  have L_oJ1 := hide (World.ownsRow.lt (unhide R_oJ1))
  have R_oJ2 := hide (o2)
  have L_oJ2 := hide (World.ownsRow.lt (unhide R_oJ2))
  have BA := hide ((unhide BA).trans (cw19.mono (unhide BA).size))
  clear b19 cw19
  obtain ⟨a_0, a_1, -⟩ := blk_cells2 (unhide K_a).1
  have n_a := (unhide K_a).2
  obtain ⟨s_0, s_1, -⟩ := blk_cells2 (unhide K_s).1
  have n_s := (unhide K_s).2
  obtain ⟨x_0, x_1, -⟩ := blk_cells2 (unhide K_x).1
  have n_x := (unhide K_x).2
  obtain ⟨g_0, g_1, -⟩ := blk_cells2 (unhide K_g).1
  have n_g := (unhide K_g).2
  clear o1 o2
  go_wp2_with fail
  refine (togrid_any za zn zc zs _ zn1 zt1 ((unhide R_t))).mono ?_
  rintro e w20 ⟨Ka, Kc, rfl, o1, b20⟩
  clear a_0 a_1 n_a g_0 g_1 n_g s_0 s_1 n_s x_0 x_1 n_x
  have cw20 := b20
  have zw20 := cw20.size
  have K_a := hide (keptblk cw20 K_a)
  have K_s := hide (keptblk cw20 K_s)
  have K_x := hide (keptblk cw20 K_x)
  have K_g := hide (keptblk cw20 K_g)
  have R_x := hide ((unhide R_x).later cw20)
  have R_f := hide ((unhide R_f).later cw20)
  have R_t := hide ((unhide R_t).later cw20)
  have R_w1r := hide ((unhide R_w1r).later cw20)
  have R_w2r := hide ((unhide R_w2r).later cw20)
  have R_oG1 := hide ((unhide R_oG1).later cw20)
  have R_oG2 := hide ((unhide R_oG2).later cw20)
  have R_oJ1 := hide ((unhide R_oJ1).later cw20)
  have R_oJ2 := hide ((unhide R_oJ2).later cw20)
  have BL := hide ((unhide BL).trans (cw20.mono (unhide BL).size))
  have R_sK := hide (o1)
  have BA := hide ((unhide BA).trans (cw20.mono (unhide BA).size))
  clear b20 cw20
  obtain ⟨a_0, a_1, -⟩ := blk_cells2 (unhide K_a).1
  have n_a := (unhide K_a).2
  obtain ⟨s_0, s_1, -⟩ := blk_cells2 (unhide K_s).1
  have n_s := (unhide K_s).2
  obtain ⟨x_0, x_1, -⟩ := blk_cells2 (unhide K_x).1
  have n_x := (unhide K_x).2
  obtain ⟨g_0, g_1, -⟩ := blk_cells2 (unhide K_g).1
  have n_g := (unhide K_g).2
  clear o1
  go_wp2_with fail
  refine (iprune_any Ja ni Jc xs Jb nf Jd fs (unhide HS) Ka zn Kc zs n1 n2 HN1 HN2 _ (by omega) (by omega) zn1 (unhide HLT) ((unhide R_oJ1).rw encI_len) ((unhide R_oJ2).rw encF_len) (unhide R_sK).rw).mono ?_
  rintro e w21 ⟨Ha, Hc, Hb, Hd, rfl, o1, o2, b21⟩
  clear a_0 a_1 n_a g_0 g_1 n_g s_0 s_1 n_s x_0 x_1 n_x
  have cw21 := b21
  have zw21 := cw21.size
  have K_a := hide (keptblk cw21 K_a)
  have K_s := hide (keptblk cw21 K_s)
  have K_x := hide (keptblk cw21 K_x)
  have K_g := hide (keptblk cw21 K_g)
  have R_x := hide ((unhide R_x).later cw21)
  have R_f := hide ((unhide R_f).later cw21)
  have R_t := hide ((unhide R_t).later cw21)
  have R_w1r := hide ((unhide R_w1r).later cw21)
  have R_w2r := hide ((unhide R_w2r).later cw21)
  have R_oG1 := hide ((unhide R_oG1).later cw21)
  have R_oG2 := hide ((unhide R_oG2).later cw21)
  have R_oJ1 := hide ((unhide R_oJ1).later cw21)
  have R_oJ2 := hide ((unhide R_oJ2).later cw21)
  have R_sK := hide ((unhide R_sK).later cw21)
  have BL := hide ((unhide BL).trans (cw21.mono (unhide BL).size))
  have R_oH1 := hide (show OwI _ _ _ W1 from by rw [← unhide hW1]; exact o1)
  have L_oH1 := hide (World.ownsRow.lt (unhide R_oH1))
  have R_oH2 := hide (show OwF _ _ _ W2 from by rw [← unhide hW2]; exact o2)
  have L_oH2 := hide (World.ownsRow.lt (unhide R_oH2))
  have BA := hide ((unhide BA).trans (cw21.mono (unhide BA).size))
  clear b21 cw21
  obtain ⟨a_0, a_1, -⟩ := blk_cells2 (unhide K_a).1
  have n_a := (unhide K_a).2
  obtain ⟨s_0, s_1, -⟩ := blk_cells2 (unhide K_s).1
  have n_s := (unhide K_s).2
  obtain ⟨x_0, x_1, -⟩ := blk_cells2 (unhide K_x).1
  have n_x := (unhide K_x).2
  obtain ⟨g_0, g_1, -⟩ := blk_cells2 (unhide K_g).1
  have n_g := (unhide K_g).2
  clear o1 o2
  go_wp2_with fail
  refine (eqstate_same _ n1 _ _ _ W1 _ n2 _ _ _ W2 _ (by omega) (by omega) (((unhide R_oH1).rw encI_len).alloc _) ((unhide R_w1r).alloc _) (((unhide R_oH2).rw encF_len).alloc _) ((unhide R_w2r).alloc _)).mono ?_
  rintro e w22 ⟨rfl, b22⟩
  clear a_0 a_1 n_a g_0 g_1 n_g s_0 s_1 n_s x_0 x_1 n_x
  have cw22 := ((Below.refl w21.heap.size w21).alloc (Nat.le_refl _) _).trans (b22.mono (by simp <;> omega))
  have zw22 := cw22.size
  have K_a := hide (keptblk cw22 K_a)
  have K_s := hide (keptblk cw22 K_s)
  have K_x := hide (keptblk cw22 K_x)
  have K_g := hide (keptblk cw22 K_g)
  have K_h : Hid (w22.heap[w21.heap.size]? = some (.cells #[.slice Ha n1 Hc, .slice Hb n2 Hd] 32 (0, 0)) ∧ w21.heap.size < w22.heap.size) := hide ⟨(b22.block _ (by simp <;> omega)).trans (newB1 w21 _), by have := b22.size; simp at this; omega⟩
  have y_h := (unhide K_h).2
  have R_x := hide ((unhide R_x).later cw22)
  have R_f := hide ((unhide R_f).later cw22)
  have R_t := hide ((unhide R_t).later cw22)
  have R_w1r := hide ((unhide R_w1r).later cw22)
  have R_w2r := hide ((unhide R_w2r).later cw22)
  have R_oG1 := hide ((unhide R_oG1).later cw22)
  have R_oG2 := hide ((unhide R_oG2).later cw22)
  have R_oJ1 := hide ((unhide R_oJ1).later cw22)
  have R_oJ2 := hide ((unhide R_oJ2).later cw22)
  have R_sK := hide ((unhide R_sK).later cw22)
  have R_oH1 := hide ((unhide R_oH1).later cw22)
  have R_oH2 := hide ((unhide R_oH2).later cw22)
  have BL := hide ((unhide BL).trans (cw22.mono (unhide BL).size))
  have BA := hide ((unhide BA).trans (cw22.mono (unhide BA).size))
  clear b22 cw22
  obtain ⟨a_0, a_1, -⟩ := blk_cells2 (unhide K_a).1
  have n_a := (unhide K_a).2
  obtain ⟨s_0, s_1, -⟩ := blk_cells2 (unhide K_s).1
  have n_s := (unhide K_s).2
  obtain ⟨x_0, x_1, -⟩ := blk_cells2 (unhide K_x).1
  have n_x := (unhide K_x).2
  obtain ⟨g_0, g_1, -⟩ := blk_cells2 (unhide K_g).1
  have n_g := (unhide K_g).2
  obtain ⟨h_0, h_1, -⟩ := blk_cells2 (unhide K_h).1
  have n_h := (unhide K_h).2
  go_wp2_with fail
  refine (heldS_any Ga n1 Gc Gb n2 Gd 1 (by omega) (by omega) _ (by omega) (by omega) ((unhide R_oG1).rw encI_len) ((unhide R_oG2).rw encF_len)).mono ?_
  rintro e w23 ⟨rfl, b23⟩
  clear a_0 a_1 n_a g_0 g_1 n_g h_0 h_1 n_h s_0 s_1 n_s x_0 x_1 n_x
  have cw23 := b23
  have zw23 := cw23.size
  have K_a := hide (keptblk cw23 K_a)
  have K_s := hide (keptblk cw23 K_s)
  have K_x := hide (keptblk cw23 K_x)
  have K_g := hide (keptblk cw23 K_g)
  have K_h := hide (keptblk cw23 K_h)
  have R_x := hide ((unhide R_x).later cw23)
  have R_f := hide ((unhide R_f).later cw23)
  have R_t := hide ((unhide R_t).later cw23)
  have R_w1r := hide ((unhide R_w1r).later cw23)
  have R_w2r := hide ((unhide R_w2r).later cw23)
  have R_oG1 := hide ((unhide R_oG1).later cw23)
  have R_oG2 := hide ((unhide R_oG2).later cw23)
  have R_oJ1 := hide ((unhide R_oJ1).later cw23)
  have R_oJ2 := hide ((unhide R_oJ2).later cw23)
  have R_sK := hide ((unhide R_sK).later cw23)
  have R_oH1 := hide ((unhide R_oH1).later cw23)
  have R_oH2 := hide ((unhide R_oH2).later cw23)
  have BL := hide ((unhide BL).trans (cw23.mono (unhide BL).size))
  have BA := hide ((unhide BA).trans (cw23.mono (unhide BA).size))
  clear b23 cw23
  obtain ⟨a_0, a_1, -⟩ := blk_cells2 (unhide K_a).1
  have n_a := (unhide K_a).2
  obtain ⟨s_0, s_1, -⟩ := blk_cells2 (unhide K_s).1
  have n_s := (unhide K_s).2
  obtain ⟨x_0, x_1, -⟩ := blk_cells2 (unhide K_x).1
  have n_x := (unhide K_x).2
  obtain ⟨g_0, g_1, -⟩ := blk_cells2 (unhide K_g).1
  have n_g := (unhide K_g).2
  obtain ⟨h_0, h_1, -⟩ := blk_cells2 (unhide K_h).1
  have n_h := (unhide K_h).2
  go_wp2
  go_ret
  exact ⟨rfl, unhide BL⟩

set_option maxHeartbeats 4000000 in
set_option maxRecDepth 100000 in
theorem lifted (os : Os) (started : os.Started) (H : Type) (enc : TypeId × Value → H) :
    ReturnsInHanded {} Tryz.checked os 3 .any (Rows.fnExactPruneSpec.pre6 enc Tryz.prog Tryz.f3 Rows.fnExactPruneRow.domain false) (Rows.fnExactPruneSpec.post enc Tryz.prog Tryz.f3 false true false false) := by
  refine returnsInHanded_of_change (C := Tryz.checked) own started (by kernel_rfl) Tryz.func3
    (ChangeSpec.witness6 (enc := enc) (C := Tryz.checked) false ⟨#[], #[.agg #[.slice none 0 0, .slice none 0 0], .slice none 0 0], []⟩ 8 (by kernel_rfl) (by kernel_rfl) (by kernel_rfl) (by kernel_rfl)) ?_
  intro W base args ds gs before hval0 hW hcnd _
  have hval : ∀ (j : Nat) t v, Tryz.f3.params[j]? = some t → args[j]? = some v → Value.okWide Tryz.prog W .any base t v := hval0
  have hW' := hW
  obtain ⟨p, q, hA0, hV, rfl, hfz, hnd⟩ := hW
  have hA : DataW.TrodAll enc Tryz.prog W 0 (fun _ => true) true Tryz.f3.params.toList args.toList ds p := hA0
  rw [Tryz.params3] at hA hval
  obtain ⟨v0, vs0, d0, ds0, p0, q0, hargs0, rfl, rfl, h0, r0⟩ := trodAll_cons hA
  obtain ⟨v1, vs1, d1, ds1, p1, q1, hargs1, rfl, rfl, h1, r1⟩ := trodAll_cons r0
  obtain ⟨rfl, rfl, rfl⟩ := trodAll_nil r1
  obtain rfl : args = #[v0, v1] := by cases args; simp_all
  obtain ⟨rfl, rfl⟩ := trodVars_none hV
  have k0 := h0
  have lt0 : ∀ x ∈ p0, x.block < W.heap.size := by obtain ⟨m, hm⟩ := k0; exact DataW.trod_lt m _ _ _ hm
  have k1 := h1
  have lt1 : ∀ x ∈ p1, x.block < W.heap.size := by obtain ⟨m, hm⟩ := k1; exact DataW.trod_lt m _ _ _ hm
  obtain ⟨sai, sni, sci, sxs, saf, snf, scf, sfs, rfl, sh1, sh2, sh3, sh4, sh5, sh6, sh7⟩ := open_state (hval 0 25 v0 rfl rfl) h0
  obtain ⟨ta, tn, tc, ts, rfl, th1, th2, th3, th4⟩ := open_grid (hval 1 26 v1 rfl rfl) h1
  clear hA0 hval0
  refine (walk W sai sni sci sxs saf snf scf sfs sh1 sh2 sh3 sh4 sh5 sh6 sh7 ta tn tc ts th1 th2 th3 th4).mono fun e W' ⟨he, bel⟩ => ?_
  subst he
  exact ⟨_, rfl, _, _, _, [], _, [], hW', trodAll_mk1 (shut_bool Tryz.underlying4 _), (trodAll_cons_mk (Below.trod laidOut (by kernel_rfl) (of_decide_eq_true (by kernel_rfl)) k0 bel lt0) (trodAll_cons_mk (Below.trod laidOut (by kernel_rfl) (of_decide_eq_true (by kernel_rfl)) k1 bel lt1) trodAll_mk0)), rfl, bel.frame _, fun h => by cases h⟩

theorem over : Rows.fnExactPruneRow.holds Tryz.pinned (OpenSpec.ofChange Rows.fnExactPruneSpec) :=
  OpenClaim.holds_of_wide 3 Tryz.f3 rfl rfl rfl rfl rfl rfl rfl ⟨rfl, rfl, rfl, rfl, rfl⟩ rfl rfl rfl rfl rfl (by kernel_rfl) Tryz.func3 (by kernel_rfl)
    (of_decide_eq_true (by kernel_rfl)) (by unfold Func.isWrapper; first | (rw [if_pos (by decide +kernel)]; kernel_rfl) | (rw [if_neg (by decide +kernel)]; exact ⟨rfl, rfl⟩))
    (fun os started H enc _ => lifted os started H enc)

theorem proved : Rows.FnExactPruneSaid := over
#print axioms proved
end Go.Proofs.YtighiahppjekeabGreat.fnExactPrune
namespace Go.Proofs.YtighiahppjekeabGreat
theorem fnExactPrune_holds : Rows.FnExactPruneSaid := fnExactPrune.proved
end Go.Proofs.YtighiahppjekeabGreat
