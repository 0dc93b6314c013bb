/-
  At every argument MsgOf answers as the specification, writes into no argument, and its answer owns its memory: the law answers true. No condition but the law’s own: of more than 1048576 bytes it says nothing.
-/
import Derived.Test.YtjlocbimkfocnaaGreatRows
import Derived.Test.YtjlocbimkfocnaaGreatMofX
import Derived.Test.YtjlocbimkfocnaaGreatMsL
import Derived.Test.YtjlocbimkfocnaaGreatByO
import Derived.WalkKit
import Derived.ProofKit
import Derived.OpenShut
import Derived.ShutString
import Derived.ChangeOld
import Derived.Below
namespace Go.Proofs.YtjlocbimkfocnaaGreat.fnExactMsgOf
open Go.ChangeShapes Go.WideShapes Go.ChangeAt Go.RowKit
open Go.ChangeMaps (open_string shut_string)
set_option linter.unusedVariables false

theorem own : ownKnob Tryz.prog.godebug = none := by kernel_rfl
theorem laidOut : laidOutB Tryz.prog = true := by kernel_rfl

/-- WHAT THE WALK IS TOLD OF A SLICE OF INTEGERS THAT CAME IN: it is nil; or it leads to a row of 'cap' cells, the numbers 'zs' (the first 'len' are its elements, the rest its spare room), each fitting its kind. -/
def IsRow (k : IntKind) (w : World) (a : Option Addr) (len cap : Nat) (zs : List Int) : Prop :=
  (a = none ∧ len = 0 ∧ cap = 0 ∧ zs = []) ∨
  ∃ x, a = some x ∧ len ≤ cap ∧ cap ≤ maxLen ∧ zs.length = cap ∧ (∀ i, i < zs.length → w.cell? (x.add i) = some (.int k (zs.getD i 0))) ∧ ∀ n ∈ zs, (Lit.int k n).wf = true

/-! ### STEP 1: THE WALK: the Go text returns true, AND WRITES NOTHING THAT WAS THERE: 'Below w.heap.size w w'' (Derived/Below.lean: '.refl', '.alloc', '.drew', '.setCell' at a new block, '.trans'). Open each 'IsRow' by 'rcases' AHEAD of 'go_enter'; part every test ahead of the walk. -/
set_option maxRecDepth 100000 in
set_option maxHeartbeats 4000000 in
theorem walk (a0 : Option Addr) (len0 cap0 : Nat) (z0 : List Int) (w : World) (w0 : IsRow .u8 w a0 len0 cap0 z0) :
    Calls Tryz.prog 5 #[.slice a0 len0 cap0] w fun e w' => e = .returned (.bool true) ∧ Below w.heap.size w w' := by
  obtain ⟨xs, hl, hs, hbd⟩ := seg_of_row w0
  subst hl
  by_cases hbig : 1048576 < xs.length
  · clear w0 hs hbd
    go_enter Tryz.func5, Tryz.ntmps5
    go_wp2
    go_ret
    exact ⟨rfl, Below.refl _ _⟩
  have R_x := hide hs
  have O_x := R_x
  have HD := hide hbd
  clear w0 hs hbd
  obtain ⟨n, hn⟩ : ∃ n, Hid (xs.length = n) := ⟨_, hide rfl⟩
  have hn0 : n ≤ 1048576 := by have := unhide hn; omega
  obtain ⟨mm, hmm⟩ : ∃ mm, Hid (mofM xs = mm) := ⟨_, hide rfl⟩
  obtain ⟨ok, hok⟩ : ∃ ok, Hid ((mof xs).isSome = ok) := ⟨_, hide rfl⟩
  have hne : (ok != ok) = false := by cases ok <;> rfl
  go_enter Tryz.func5, Tryz.ntmps5
  go_wp2_with fail
  refine (tobytes_v _ n xs hn _ (by omega) (unhide R_x)).mono ?_
  rintro e w1 ⟨u1, rfl, o1, b1⟩
  have cw1 := b1
  have zw1 := cw1.size
  have R_x := hide ((unhide R_x).later cw1)
  have BL := hide cw1
  have R_oB1 := hide (o1)
  have L_oB1 := hide (World.ownsRow.lt (unhide R_oB1))
  clear b1 cw1
  clear o1
  go_wp2_with fail
  refine (smsgof_v u1 xs n ok mm hn hok hmm _ hn0 (unhide HD) (owY_seg (unhide R_oB1))).mono ?_
  rintro e w2 ⟨qw, rfl, s1, o1, b2⟩
  have cw2 := b2
  have zw2 := cw2.size
  have R_x := hide ((unhide R_x).later cw2)
  clear R_oB1
  have BL := hide ((unhide BL).trans (cw2.mono (unhide BL).size))
  have R_gW := hide (o1)
  clear b2 cw2
  have L_gW := hide (OwMg.blocks o1)
  have S_gW : SzM qw 140737488351232 := ⟨by have := s1.t; omega, by have := s1.v; omega, by have := s1.l; omega, by have := s1.x; omega, by have := s1.y; omega, by have := s1.k; omega⟩
  have T_gW : SzM qw 1048576 := ⟨by have := s1.t; omega, by have := s1.v; omega, by have := s1.l; omega, by have := s1.x; omega, by have := s1.y; omega, by have := s1.k; omega⟩
  clear o1 s1
  go_wp2_with fail
  refine (tobytes_v _ n xs hn _ (by omega) ((unhide R_x).later ((Below.refl _ _).alloc (Nat.le_refl _) _))).mono ?_
  rintro e w3 ⟨u2, rfl, o1, b3⟩
  have cw3 := ((Below.refl w2.heap.size w2).alloc (Nat.le_refl _) _).trans (b3.mono (by simp <;> omega))
  have zw3 := cw3.size
  have K_s : Hid (w3.heap[w2.heap.size]? = some (.cells #[.int .i64 mm.k, .int .i64 mm.f, .int .i64 mm.t, .int .i64 mm.n, .int .i64 mm.h, .slice qw.ta qw.tn qw.tc, .int .i64 mm.tr, .slice qw.va qw.vn qw.vc, .slice qw.la qw.ln qw.lc, .slice qw.xa qw.xn qw.xc, .slice qw.ya qw.yn qw.yc, .slice qw.ka qw.kn qw.kc] 33 (0, 0)) ∧ w2.heap.size < w3.heap.size) := hide ⟨(b3.block _ (by simp <;> omega)).trans (newB1 w2 _), by have := b3.size; simp at this; omega⟩
  have y_s := (unhide K_s).2
  have R_x := hide ((unhide R_x).later cw3)
  have R_gW := hide ((unhide R_gW).later cw3)
  have BL := hide ((unhide BL).trans (cw3.mono (unhide BL).size))
  have R_oB2 := hide (Ow.base (base' := (w2.heap.size + 1)) o1 (by simp))
  have L_oB2 := hide (World.ownsRow.lt (unhide R_oB2))
  clear b3 cw3
  obtain ⟨s_0, s_1, s_2, s_3, s_4, s_5, s_6, s_7, s_8, s_9, s_10, s_11, -⟩ := msg_cells (unhide K_s).1
  have n_s := (unhide K_s).2
  clear o1
  go_wp2_with fail
  refine (imsgof_v u2 xs n ok mm hn hok hmm _ hn0 (unhide HD) (owY_seg (unhide R_oB2))).mono ?_
  rintro e w4 ⟨qg, rfl, s1, o1, b4⟩
  clear s_0 s_1 s_2 s_3 s_4 s_5 s_6 s_7 s_8 s_9 s_10 s_11 n_s
  have cw4 := b4
  have zw4 := cw4.size
  have K_s := hide (keptblk cw4 K_s)
  have R_x := hide ((unhide R_x).later cw4)
  have R_gW := hide ((unhide R_gW).later cw4)
  have R_oB2 := hide ((unhide R_oB2).later cw4)
  have BL := hide ((unhide BL).trans (cw4.mono (unhide BL).size))
  have R_gG := hide (o1)
  clear b4 cw4
  obtain ⟨s_0, s_1, s_2, s_3, s_4, s_5, s_6, s_7, s_8, s_9, s_10, s_11, -⟩ := msg_cells (unhide K_s).1
  have n_s := (unhide K_s).2
  have L_gG := hide (OwMg.blocks o1)
  have S_gG : SzM qg 140737488351232 := ⟨by have := s1.t; omega, by have := s1.v; omega, by have := s1.l; omega, by have := s1.x; omega, by have := s1.y; omega, by have := s1.k; omega⟩
  have T_gG : SzM qg 1048576 := ⟨by have := s1.t; omega, by have := s1.v; omega, by have := s1.l; omega, by have := s1.x; omega, by have := s1.y; omega, by have := s1.k; omega⟩
  clear o1 s1
  go_wp2_with fail
  refine (eqmsg_same mm qg qw _ S_gG ((unhide R_gG).rw.alloc _) ((unhide R_gW).rw.alloc _)).mono ?_
  rintro e w5 ⟨rfl, b5⟩
  clear s_0 s_1 s_2 s_3 s_4 s_5 s_6 s_7 s_8 s_9 s_10 s_11 n_s
  have cw5 := ((Below.refl w4.heap.size w4).alloc (Nat.le_refl _) _).trans (b5.mono (by simp <;> omega))
  have zw5 := cw5.size
  have K_s := hide (keptblk cw5 K_s)
  have K_g : Hid (w5.heap[w4.heap.size]? = some (.cells #[.int .i64 mm.k, .int .i64 mm.f, .int .i64 mm.t, .int .i64 mm.n, .int .i64 mm.h, .slice qg.ta qg.tn qg.tc, .int .i64 mm.tr, .slice qg.va qg.vn qg.vc, .slice qg.la qg.ln qg.lc, .slice qg.xa qg.xn qg.xc, .slice qg.ya qg.yn qg.yc, .slice qg.ka qg.kn qg.kc] 33 (0, 0)) ∧ w4.heap.size < w5.heap.size) := hide ⟨(b5.block _ (by simp <;> omega)).trans (newB1 w4 _), by have := b5.size; simp at this; omega⟩
  have y_g := (unhide K_g).2
  have R_x := hide ((unhide R_x).later cw5)
  have R_gW := hide ((unhide R_gW).later cw5)
  have R_oB2 := hide ((unhide R_oB2).later cw5)
  have R_gG := hide ((unhide R_gG).later cw5)
  have BL := hide ((unhide BL).trans (cw5.mono (unhide BL).size))
  clear b5 cw5
  obtain ⟨s_0, s_1, s_2, s_3, s_4, s_5, s_6, s_7, s_8, s_9, s_10, s_11, -⟩ := msg_cells (unhide K_s).1
  have n_s := (unhide K_s).2
  obtain ⟨g_0, g_1, g_2, g_3, g_4, g_5, g_6, g_7, g_8, g_9, g_10, g_11, -⟩ := msg_cells (unhide K_g).1
  have n_g := (unhide K_g).2
  go_wp2_with fail
  refine (tobytes_v _ n xs hn _ (by omega) (unhide R_x)).mono ?_
  rintro e w6 ⟨u3, rfl, o1, b6⟩
  clear g_0 g_1 g_2 g_3 g_4 g_5 g_6 g_7 g_8 g_9 g_10 g_11 n_g s_0 s_1 s_2 s_3 s_4 s_5 s_6 s_7 s_8 s_9 s_10 s_11 n_s
  have cw6 := b6
  have zw6 := cw6.size
  have K_s := hide (keptblk cw6 K_s)
  have K_g := hide (keptblk cw6 K_g)
  have R_x := hide ((unhide R_x).later cw6)
  have R_gW := hide ((unhide R_gW).later cw6)
  have R_oB2 := hide ((unhide R_oB2).later cw6)
  have R_gG := hide ((unhide R_gG).later cw6)
  have BL := hide ((unhide BL).trans (cw6.mono (unhide BL).size))
  have R_oB3 := hide (o1)
  have L_oB3 := hide (World.ownsRow.lt (unhide R_oB3))
  clear b6 cw6
  obtain ⟨s_0, s_1, s_2, s_3, s_4, s_5, s_6, s_7, s_8, s_9, s_10, s_11, -⟩ := msg_cells (unhide K_s).1
  have n_s := (unhide K_s).2
  obtain ⟨g_0, g_1, g_2, g_3, g_4, g_5, g_6, g_7, g_8, g_9, g_10, g_11, -⟩ := msg_cells (unhide K_g).1
  have n_g := (unhide K_g).2
  clear o1
  go_wp2_with fail
  refine (eqbytes_v u2 u3 xs _ (by have := unhide hn; omega) (owY_seg (unhide R_oB2)) (owY_seg (unhide R_oB3))).mono ?_
  rintro e w7 ⟨rfl, b7⟩
  clear g_0 g_1 g_2 g_3 g_4 g_5 g_6 g_7 g_8 g_9 g_10 g_11 n_g s_0 s_1 s_2 s_3 s_4 s_5 s_6 s_7 s_8 s_9 s_10 s_11 n_s
  have cw7 := b7
  have zw7 := cw7.size
  have K_s := hide (keptblk cw7 K_s)
  have K_g := hide (keptblk cw7 K_g)
  have R_x := hide ((unhide R_x).later cw7)
  have R_gW := hide ((unhide R_gW).later cw7)
  have R_oB2 := hide ((unhide R_oB2).later cw7)
  have R_gG := hide ((unhide R_gG).later cw7)
  clear R_oB3
  have BL := hide ((unhide BL).trans (cw7.mono (unhide BL).size))
  clear b7 cw7
  obtain ⟨s_0, s_1, s_2, s_3, s_4, s_5, s_6, s_7, s_8, s_9, s_10, s_11, -⟩ := msg_cells (unhide K_s).1
  have n_s := (unhide K_s).2
  obtain ⟨g_0, g_1, g_2, g_3, g_4, g_5, g_6, g_7, g_8, g_9, g_10, g_11, -⟩ := msg_cells (unhide K_g).1
  have n_g := (unhide K_g).2
  go_wp2_with fail
  refine (markbytes_v _ u2 n xs hn _ (by omega) (unhide R_oB2)).mono ?_
  rintro e w8 ⟨rfl, o1, g1w⟩
  have t1 := Trn.of_grown g1w
  clear g_0 g_1 g_2 g_3 g_4 g_5 g_6 g_7 g_8 g_9 g_10 g_11 n_g s_0 s_1 s_2 s_3 s_4 s_5 s_6 s_7 s_8 s_9 s_10 s_11 n_s
  have zw8 := t1.size
  have K_s := hide (t1.kept K_s (fun q => by have := unhide L_oB2 _ q; omega))
  have K_g := hide (t1.kept K_g (fun q => by have := unhide L_oB2 _ q; omega))
  have R_gW := hide ((unhide R_gW).trn2 t1 (fun i hi => fun q => by have := unhide L_oB2 _ q; have := unhide L_gW _ hi; omega))
  have R_gG := hide ((unhide R_gG).trn2 t1 (fun i hi => fun q => by have := unhide L_oB2 _ q; have := unhide L_gG _ hi; omega))
  have BL := hide (Trn.below (unhide BL) t1 (unhide BL).size (fun i q => by have := unhide L_oB2 _ q; omega))
  have R_x := hide ((unhide O_x).later (unhide BL))
  have R_oB2 := hide o1
  clear o1 g1w t1
  obtain ⟨s_0, s_1, s_2, s_3, s_4, s_5, s_6, s_7, s_8, s_9, s_10, s_11, -⟩ := msg_cells (unhide K_s).1
  have n_s := (unhide K_s).2
  obtain ⟨g_0, g_1, g_2, g_3, g_4, g_5, g_6, g_7, g_8, g_9, g_10, g_11, -⟩ := msg_cells (unhide K_g).1
  have n_g := (unhide K_g).2
  have hq0 : decide ((1 : Int) + (n : Int) < 0) = false := by simp; omega
  go_wp2_with fail
  refine (eqmsg_same mm qg qw _ S_gG ((unhide R_gG).rw) ((unhide R_gW).rw)).mono ?_
  rintro e w9 ⟨rfl, b9⟩
  clear g_0 g_1 g_2 g_3 g_4 g_5 g_6 g_7 g_8 g_9 g_10 g_11 n_g s_0 s_1 s_2 s_3 s_4 s_5 s_6 s_7 s_8 s_9 s_10 s_11 n_s
  have cw9 := b9
  have zw9 := cw9.size
  have K_s := hide (keptblk cw9 K_s)
  have K_g := hide (keptblk cw9 K_g)
  have R_x := hide ((unhide R_x).later cw9)
  have R_gW := hide ((unhide R_gW).later cw9)
  have R_oB2 := hide ((unhide R_oB2).later cw9)
  have R_gG := hide ((unhide R_gG).later cw9)
  have BL := hide ((unhide BL).trans (cw9.mono (unhide BL).size))
  clear b9 cw9
  obtain ⟨s_0, s_1, s_2, s_3, s_4, s_5, s_6, s_7, s_8, s_9, s_10, s_11, -⟩ := msg_cells (unhide K_s).1
  have n_s := (unhide K_s).2
  obtain ⟨g_0, g_1, g_2, g_3, g_4, g_5, g_6, g_7, g_8, g_9, g_10, g_11, -⟩ := msg_cells (unhide K_g).1
  have n_g := (unhide K_g).2
  clear R_oB2
  go_wp2_with fail
  refine (markmsg_any _ mm qg 1 (by omega) (by omega) _ T_gG (unhide R_gG)).mono ?_
  rintro e w10 ⟨rfl, o1, t1⟩
  clear g_0 g_1 g_2 g_3 g_4 g_5 g_6 g_7 g_8 g_9 g_10 g_11 n_g s_0 s_1 s_2 s_3 s_4 s_5 s_6 s_7 s_8 s_9 s_10 s_11 n_s
  have zw10 := t1.size
  have K_s := hide (t1.kept K_s (fun q => by have := unhide L_gG _ q; omega))
  have K_g := hide (t1.kept K_g (fun q => by have := unhide L_gG _ q; omega))
  have R_gW := hide ((unhide R_gW).trn2 t1 (fun i hi => fun q => by have := unhide L_gG _ q; have := unhide L_gW _ hi; omega))
  have BL := hide (Trn.below (unhide BL) t1 (unhide BL).size (fun i q => by have := unhide L_gG _ q; omega))
  have R_x := hide ((unhide O_x).later (unhide BL))
  have R_gG := hide o1
  clear o1 t1
  obtain ⟨s_0, s_1, s_2, s_3, s_4, s_5, s_6, s_7, s_8, s_9, s_10, s_11, -⟩ := msg_cells (unhide K_s).1
  have n_s := (unhide K_s).2
  obtain ⟨g_0, g_1, g_2, g_3, g_4, g_5, g_6, g_7, g_8, g_9, g_10, g_11, -⟩ := msg_cells (unhide K_g).1
  have n_g := (unhide K_g).2
  go_wp2_with fail
  refine (heldmsg_any mm qg 1 (by omega) (by omega) _ T_gG (unhide R_gG).rw).mono ?_
  rintro e w11 ⟨rfl, b11⟩
  clear g_0 g_1 g_2 g_3 g_4 g_5 g_6 g_7 g_8 g_9 g_10 g_11 n_g s_0 s_1 s_2 s_3 s_4 s_5 s_6 s_7 s_8 s_9 s_10 s_11 n_s
  have cw11 := b11
  have zw11 := cw11.size
  have K_s := hide (keptblk cw11 K_s)
  have K_g := hide (keptblk cw11 K_g)
  have R_x := hide ((unhide R_x).later cw11)
  have R_gW := hide ((unhide R_gW).later cw11)
  have R_gG := hide ((unhide R_gG).later cw11)
  have BL := hide ((unhide BL).trans (cw11.mono (unhide BL).size))
  clear b11 cw11
  obtain ⟨s_0, s_1, s_2, s_3, s_4, s_5, s_6, s_7, s_8, s_9, s_10, s_11, -⟩ := msg_cells (unhide K_s).1
  have n_s := (unhide K_s).2
  obtain ⟨g_0, g_1, g_2, g_3, g_4, g_5, g_6, g_7, g_8, g_9, g_10, g_11, -⟩ := msg_cells (unhide K_g).1
  have n_g := (unhide K_g).2
  have hq1 : decide ((1 : Int) + qg.tn + qg.vn + qg.ln + 6 * qg.xn + 2 * qg.yn + 2 * qg.kn < 0) = false := by simp; omega
  have hq2 : ((1 : Int) + qg.tn + qg.vn + qg.ln + 6 * qg.xn + 2 * qg.yn + 2 * qg.kn != 1 + qg.tn + qg.vn + qg.ln + 6 * qg.xn + 2 * qg.yn + 2 * qg.kn) = false := by simp
  go_wp2_with fail
  refine (tobytes_v _ n xs hn _ (by omega) (unhide R_x)).mono ?_
  rintro e w12 ⟨u4, rfl, o1, b12⟩
  clear g_0 g_1 g_2 g_3 g_4 g_5 g_6 g_7 g_8 g_9 g_10 g_11 n_g s_0 s_1 s_2 s_3 s_4 s_5 s_6 s_7 s_8 s_9 s_10 s_11 n_s
  have cw12 := b12
  have zw12 := cw12.size
  have K_s := hide (keptblk cw12 K_s)
  have K_g := hide (keptblk cw12 K_g)
  have R_x := hide ((unhide R_x).later cw12)
  have R_gW := hide ((unhide R_gW).later cw12)
  have R_gG := hide ((unhide R_gG).later cw12)
  have BL := hide ((unhide BL).trans (cw12.mono (unhide BL).size))
  have R_oB4 := hide (o1)
  have L_oB4 := hide (World.ownsRow.lt (unhide R_oB4))
  clear b12 cw12
  obtain ⟨s_0, s_1, s_2, s_3, s_4, s_5, s_6, s_7, s_8, s_9, s_10, s_11, -⟩ := msg_cells (unhide K_s).1
  have n_s := (unhide K_s).2
  obtain ⟨g_0, g_1, g_2, g_3, g_4, g_5, g_6, g_7, g_8, g_9, g_10, g_11, -⟩ := msg_cells (unhide K_g).1
  have n_g := (unhide K_g).2
  clear o1
  go_wp2_with fail
  refine (imsgof_v u4 xs n ok mm hn hok hmm _ hn0 (unhide HD) (owY_seg (unhide R_oB4))).mono ?_
  rintro e w13 ⟨qh, rfl, s1, o1, b13⟩
  clear g_0 g_1 g_2 g_3 g_4 g_5 g_6 g_7 g_8 g_9 g_10 g_11 n_g s_0 s_1 s_2 s_3 s_4 s_5 s_6 s_7 s_8 s_9 s_10 s_11 n_s
  have cw13 := b13
  have zw13 := cw13.size
  have K_s := hide (keptblk cw13 K_s)
  have K_g := hide (keptblk cw13 K_g)
  have R_x := hide ((unhide R_x).later cw13)
  have R_gW := hide ((unhide R_gW).later cw13)
  have R_gG := hide ((unhide R_gG).later cw13)
  clear R_oB4
  have BL := hide ((unhide BL).trans (cw13.mono (unhide BL).size))
  have R_gH := hide (o1)
  clear b13 cw13
  obtain ⟨s_0, s_1, s_2, s_3, s_4, s_5, s_6, s_7, s_8, s_9, s_10, s_11, -⟩ := msg_cells (unhide K_s).1
  have n_s := (unhide K_s).2
  obtain ⟨g_0, g_1, g_2, g_3, g_4, g_5, g_6, g_7, g_8, g_9, g_10, g_11, -⟩ := msg_cells (unhide K_g).1
  have n_g := (unhide K_g).2
  have L_gH := hide (OwMg.blocks o1)
  have S_gH : SzM qh 140737488351232 := ⟨by have := s1.t; omega, by have := s1.v; omega, by have := s1.l; omega, by have := s1.x; omega, by have := s1.y; omega, by have := s1.k; omega⟩
  have T_gH : SzM qh 1048576 := ⟨by have := s1.t; omega, by have := s1.v; omega, by have := s1.l; omega, by have := s1.x; omega, by have := s1.y; omega, by have := s1.k; omega⟩
  clear o1 s1
  go_wp2_with fail
  refine (eqmsg_same mm qh qw _ S_gH ((unhide R_gH).rw.alloc _) ((unhide R_gW).rw.alloc _)).mono ?_
  rintro e w14 ⟨rfl, b14⟩
  clear g_0 g_1 g_2 g_3 g_4 g_5 g_6 g_7 g_8 g_9 g_10 g_11 n_g s_0 s_1 s_2 s_3 s_4 s_5 s_6 s_7 s_8 s_9 s_10 s_11 n_s
  have cw14 := ((Below.refl w13.heap.size w13).alloc (Nat.le_refl _) _).trans (b14.mono (by simp <;> omega))
  have zw14 := cw14.size
  have K_s := hide (keptblk cw14 K_s)
  have K_g := hide (keptblk cw14 K_g)
  have K_h : Hid (w14.heap[w13.heap.size]? = some (.cells #[.int .i64 mm.k, .int .i64 mm.f, .int .i64 mm.t, .int .i64 mm.n, .int .i64 mm.h, .slice qh.ta qh.tn qh.tc, .int .i64 mm.tr, .slice qh.va qh.vn qh.vc, .slice qh.la qh.ln qh.lc, .slice qh.xa qh.xn qh.xc, .slice qh.ya qh.yn qh.yc, .slice qh.ka qh.kn qh.kc] 33 (0, 0)) ∧ w13.heap.size < w14.heap.size) := hide ⟨(b14.block _ (by simp <;> omega)).trans (newB1 w13 _), by have := b14.size; simp at this; omega⟩
  have y_h := (unhide K_h).2
  have R_x := hide ((unhide R_x).later cw14)
  have R_gW := hide ((unhide R_gW).later cw14)
  have R_gG := hide ((unhide R_gG).later cw14)
  have R_gH := hide ((unhide R_gH).later cw14)
  have BL := hide ((unhide BL).trans (cw14.mono (unhide BL).size))
  clear b14 cw14
  obtain ⟨s_0, s_1, s_2, s_3, s_4, s_5, s_6, s_7, s_8, s_9, s_10, s_11, -⟩ := msg_cells (unhide K_s).1
  have n_s := (unhide K_s).2
  obtain ⟨g_0, g_1, g_2, g_3, g_4, g_5, g_6, g_7, g_8, g_9, g_10, g_11, -⟩ := msg_cells (unhide K_g).1
  have n_g := (unhide K_g).2
  obtain ⟨h_0, h_1, h_2, h_3, h_4, h_5, h_6, h_7, h_8, h_9, h_10, h_11, -⟩ := msg_cells (unhide K_h).1
  have n_h := (unhide K_h).2
  go_wp2_with fail
  refine (heldmsg_any mm qg 1 (by omega) (by omega) _ T_gG (unhide R_gG).rw).mono ?_
  rintro e w15 ⟨rfl, b15⟩
  clear g_0 g_1 g_2 g_3 g_4 g_5 g_6 g_7 g_8 g_9 g_10 g_11 n_g h_0 h_1 h_2 h_3 h_4 h_5 h_6 h_7 h_8 h_9 h_10 h_11 n_h s_0 s_1 s_2 s_3 s_4 s_5 s_6 s_7 s_8 s_9 s_10 s_11 n_s
  have cw15 := b15
  have zw15 := cw15.size
  have K_s := hide (keptblk cw15 K_s)
  have K_g := hide (keptblk cw15 K_g)
  have K_h := hide (keptblk cw15 K_h)
  have R_x := hide ((unhide R_x).later cw15)
  have R_gW := hide ((unhide R_gW).later cw15)
  have R_gG := hide ((unhide R_gG).later cw15)
  have R_gH := hide ((unhide R_gH).later cw15)
  have BL := hide ((unhide BL).trans (cw15.mono (unhide BL).size))
  clear b15 cw15
  obtain ⟨s_0, s_1, s_2, s_3, s_4, s_5, s_6, s_7, s_8, s_9, s_10, s_11, -⟩ := msg_cells (unhide K_s).1
  have n_s := (unhide K_s).2
  obtain ⟨g_0, g_1, g_2, g_3, g_4, g_5, g_6, g_7, g_8, g_9, g_10, g_11, -⟩ := msg_cells (unhide K_g).1
  have n_g := (unhide K_g).2
  obtain ⟨h_0, h_1, h_2, h_3, h_4, h_5, h_6, h_7, h_8, h_9, h_10, h_11, -⟩ := msg_cells (unhide K_h).1
  have n_h := (unhide K_h).2
  go_wp2
  go_ret
  exact ⟨rfl, unhide BL⟩

/-! ### THE ROW's STEP: WRITTEN OUT: LEAVE IT -/
set_option maxRecDepth 100000 in
theorem lifted (os : Os) (started : os.Started) (H : Type) (enc : TypeId × Value → H) :
    ReturnsInHanded {} Tryz.checked os 5 .any (Rows.fnExactMsgOfSpec.pre6 enc Tryz.prog Tryz.f5 Rows.fnExactMsgOfRow.domain false) (Rows.fnExactMsgOfSpec.post enc Tryz.prog Tryz.f5 false true false false) := by
  refine returnsInHanded_of_change (C := Tryz.checked) own started (by kernel_rfl) Tryz.func5
    (ChangeSpec.witness6 (enc := enc) (C := Tryz.checked) false ⟨#[], #[.slice none 0 0], []⟩ 8 (by kernel_rfl) (by kernel_rfl) (by kernel_rfl) (by kernel_rfl)) ?_
  intro W base args ds gs before hval0 hW hcnd _
  have hval : ∀ (j : Nat) t v, Tryz.f5.params[j]? = some t → args[j]? = some v → Value.okWide Tryz.prog W .any base t v := hval0
  have hW' := hW
  obtain ⟨p, q, hA0, hV, rfl, hfz, hnd⟩ := hW
  have hA : DataW.TrodAll enc Tryz.prog W 0 (fun _ => true) true Tryz.f5.params.toList args.toList ds p := hA0
  rw [Tryz.params5] at hA hval
  obtain ⟨v0, vs0, d0, ds0, p0, q0, hargs, rfl, rfl, h0, r0⟩ := trodAll_cons hA
  obtain ⟨rfl, rfl, rfl⟩ := trodAll_nil r0
  obtain rfl : args = #[v0] := by cases args; simp_all
  obtain ⟨rfl, rfl⟩ := trodVars_none hV
  obtain ⟨a0, len0, cap0, rfl⟩ := okWide_slice Tryz.underlying22 (hval 0 22 v0 rfl rfl)
  have k0 := h0
  have lt0 : ∀ x ∈ p0, x.block < W.heap.size := by obtain ⟨m, hm⟩ := k0; exact DataW.trod_lt m _ _ _ hm
  obtain ⟨z0, w0⟩ : ∃ zs, IsRow .u8 W a0 len0 cap0 zs := by
    obtain ⟨fuel, hf⟩ := h0
    rcases open_ints Tryz.underlying22 Tryz.underlying5 (by kernel_rfl) hf with ⟨hcs, _⟩ | ⟨x, l, c, zs, hcs, _, hl, hm, hz, _, hcell, hwz⟩
    · simp [Value.cells] at hcs
      obtain ⟨rfl, rfl, rfl⟩ := hcs
      exact ⟨[], .inl ⟨rfl, rfl, rfl, rfl⟩⟩
    · simp [Value.cells] at hcs
      obtain ⟨rfl, rfl, rfl⟩ := hcs
      exact ⟨zs, .inr ⟨_, rfl, hl, hm, by simpa using hz, hcell, hwz⟩⟩
  clear hA0 hval0
  refine (walk a0 len0 cap0 z0 W w0).mono fun e W' ⟨he, bel⟩ => ?_
  subst he
  exact ⟨_, rfl, _, _, _, [], _, [], hW', trodAll_mk1 (shut_bool Tryz.underlying4 _), (trodAll_cons_mk (Below.trod laidOut (by kernel_rfl) (of_decide_eq_true (by kernel_rfl)) k0 bel lt0) trodAll_mk0), rfl, bel.frame _, fun h => by cases h⟩

theorem over : Rows.fnExactMsgOfRow.holds Tryz.pinned (OpenSpec.ofChange Rows.fnExactMsgOfSpec) :=
  OpenClaim.holds_of_wide 5 Tryz.f5 rfl rfl rfl rfl rfl rfl rfl ⟨rfl, rfl, rfl, rfl, rfl⟩ rfl rfl rfl rfl rfl (by kernel_rfl) Tryz.func5 (by kernel_rfl)
    (of_decide_eq_true (by kernel_rfl)) (by unfold Func.isWrapper; first | (rw [if_pos (by decide +kernel)]; kernel_rfl) | (rw [if_neg (by decide +kernel)]; exact ⟨rfl, rfl⟩))
    (fun os started H enc _ => lifted os started H enc)

theorem proved : Rows.FnExactMsgOfSaid := over
#print axioms proved
end Go.Proofs.YtjlocbimkfocnaaGreat.fnExactMsgOf
namespace Go.Proofs.YtjlocbimkfocnaaGreat
theorem fnExactMsgOf_holds : Rows.FnExactMsgOfSaid := fnExactMsgOf.proved
end Go.Proofs.YtjlocbimkfocnaaGreat
