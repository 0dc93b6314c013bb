/-
  At every slice of bytes StateOf answers as the specification, its answer owns its memory, behind another call too, and it writes into no argument: the law answers true. No condition but the law’s own: of more than 1048576 bytes it says nothing.
-/
import Derived.Test.YtbajnnpihjmjmabRows
import Derived.Test.YtbajnnpihjmjmabStOfX
import Derived.Test.YtbajnnpihjmjmabStE
import Derived.Test.YtbajnnpihjmjmabStH
import Derived.Test.YtbajnnpihjmjmabStM
import Derived.Test.YtbajnnpihjmjmabByO
import Derived.WalkKit
import Derived.ProofKit
import Derived.OpenShut
import Derived.ShutString
import Derived.ChangeOld
import Derived.Below
namespace Go.Proofs.Ytbajnnpihjmjmab.fnExactStateOf
open Go.ChangeShapes Go.WideShapes Go.ChangeAt Go.RowKit
open Go.ChangeMaps (open_string shut_string)
set_option linter.unusedVariables false

theorem own : ownKnob Try.prog.godebug = none := by kernel_rfl
theorem laidOut : laidOutB Try.prog = true := by kernel_rfl

/-- WHAT THE WALK IS TOLD OF A SLICE OF INTEGERS THAT CAME IN: it is nil; or it leads to a row of 'cap' cells, the numbers 'zs' (the first 'len' are its elements, the rest its spare room), each fitting its kind. -/
def IsRow (k : IntKind) (w : World) (a : Option Addr) (len cap : Nat) (zs : List Int) : Prop :=
  (a = none ∧ len = 0 ∧ cap = 0 ∧ zs = []) ∨
  ∃ x, a = some x ∧ len ≤ cap ∧ cap ≤ maxLen ∧ zs.length = cap ∧ (∀ i, i < zs.length → w.cell? (x.add i) = some (.int k (zs.getD i 0))) ∧ ∀ n ∈ zs, (Lit.int k n).wf = true

/-! ### STEP 1: THE WALK: the Go text returns true, AND WRITES NOTHING THAT WAS THERE: 'Below w.heap.size w w'' (Derived/Below.lean: '.refl', '.alloc', '.drew', '.setCell' at a new block, '.trans'). Open each 'IsRow' by 'rcases' AHEAD of 'go_enter'; part every test ahead of the walk. -/
set_option maxRecDepth 100000 in
set_option maxHeartbeats 4000000 in
theorem walk (a0 : Option Addr) (len0 cap0 : Nat) (z0 : List Int) (w : World) (w0 : IsRow .u8 w a0 len0 cap0 z0) :
    Calls Try.prog 3 #[.slice a0 len0 cap0] w fun e w' => e = .returned (.bool true) ∧ Below w.heap.size w w' := by
  obtain ⟨xs, hl, hs, hbd⟩ := seg_of_row w0
  subst hl
  by_cases hbig : 1048576 < xs.length
  · clear w0 hs hbd
    go_enter Try.func3, Try.ntmps3
    go_wp2
    go_ret
    exact ⟨rfl, Below.refl _ _⟩
  have R_x := hide hs
  have O_x := R_x
  have HD := hide hbd
  clear w0 hs hbd
  obtain ⟨n, hn⟩ : ∃ n, Hid (xs.length = n) := ⟨_, hide rfl⟩
  have hn0 : n ≤ 1048576 := by have := unhide hn; omega
  obtain ⟨hl1, hl2⟩ := sof5 xs
  obtain ⟨n1, hm1⟩ : ∃ n, (sofI xs).length = n := ⟨_, rfl⟩
  obtain ⟨n2, hm2⟩ : ∃ n, (sofF xs).length = n := ⟨_, rfl⟩
  rw [hm1] at hl1
  rw [hm2] at hl2
  have HN1 := hide hm1
  have HN2 := hide hm2
  obtain ⟨ok, hok⟩ : ∃ ok, Hid ((sof xs).isSome = ok) := ⟨_, hide rfl⟩
  have hne : (ok != ok) = false := by cases ok <;> rfl
  clear hm1 hm2
  go_enter Try.func3, Try.ntmps3
  go_wp2_with fail
  refine (tobytes_v _ n xs hn _ (by omega) (unhide R_x)).mono ?_
  rintro e w1 ⟨u1, rfl, o1, b1⟩
  have cw1 := b1
  have zw1 := cw1.size
  have R_x := hide ((unhide R_x).later cw1)
  have BL := hide cw1
  have R_oB1 := hide (o1)
  have L_oB1 := hide (World.ownsRow.lt (unhide R_oB1))
  clear b1 cw1
  clear o1
  go_wp2_with fail
  refine (sstateof_v u1 xs n n1 n2 ok hn HN1 HN2 hok _ hn0 (unhide HD) (owY_seg (unhide R_oB1))).mono ?_
  rintro e w2 ⟨wa1, ewa1, wa2, ewa2, rfl, o1, o2, b2⟩
  have cw2 := b2
  have zw2 := cw2.size
  have R_x := hide ((unhide R_x).later cw2)
  clear R_oB1
  have BL := hide ((unhide BL).trans (cw2.mono (unhide BL).size))
  have R_oW1 := hide (o1)
  have L_oW1 := hide (World.ownsRow.lt (unhide R_oW1))
  have R_oW2 := hide (o2)
  have L_oW2 := hide (World.ownsRow.lt (unhide R_oW2))
  clear b2 cw2
  clear o1 o2
  go_wp2_with fail
  refine (tobytes_v _ n xs hn _ (by omega) ((unhide R_x).later ((Below.refl _ _).alloc (Nat.le_refl _) _))).mono ?_
  rintro e w3 ⟨u2, rfl, o1, b3⟩
  have cw3 := ((Below.refl w2.heap.size w2).alloc (Nat.le_refl _) _).trans (b3.mono (by simp <;> omega))
  have zw3 := cw3.size
  have K_s : Hid (w3.heap[w2.heap.size]? = some (.cells #[.slice wa1 n1 ewa1, .slice wa2 n2 ewa2] 26 (0, 0)) ∧ w2.heap.size < w3.heap.size) := hide ⟨(b3.block _ (by simp <;> omega)).trans (newB1 w2 _), by have := b3.size; simp at this; omega⟩
  have y_s := (unhide K_s).2
  have R_x := hide ((unhide R_x).later cw3)
  have R_oW1 := hide ((unhide R_oW1).later cw3)
  have R_oW2 := hide ((unhide R_oW2).later cw3)
  have BL := hide ((unhide BL).trans (cw3.mono (unhide BL).size))
  have R_oB2 := hide (Ow.base (base' := (w2.heap.size + 1)) o1 (by simp))
  have L_oB2 := hide (World.ownsRow.lt (unhide R_oB2))
  clear b3 cw3
  obtain ⟨s_0, s_1, -⟩ := blk_cells2 (unhide K_s).1
  have n_s := (unhide K_s).2
  clear o1
  go_wp2_with fail
  refine (istateof_v u2 xs n n1 n2 ok hn HN1 HN2 hok _ hn0 (unhide HD) (owY_seg (unhide R_oB2))).mono ?_
  rintro e w4 ⟨ga1, ega1, ga2, ega2, rfl, o1, o2, b4⟩
  clear s_0 s_1 n_s
  have cw4 := b4
  have zw4 := cw4.size
  have K_s := hide (keptblk cw4 K_s)
  have R_x := hide ((unhide R_x).later cw4)
  have R_oW1 := hide ((unhide R_oW1).later cw4)
  have R_oW2 := hide ((unhide R_oW2).later cw4)
  have R_oB2 := hide ((unhide R_oB2).later cw4)
  have BL := hide ((unhide BL).trans (cw4.mono (unhide BL).size))
  have R_oG1 := hide (o1)
  have L_oG1 := hide (World.ownsRow.lt (unhide R_oG1))
  have R_oG2 := hide (o2)
  have L_oG2 := hide (World.ownsRow.lt (unhide R_oG2))
  clear b4 cw4
  obtain ⟨s_0, s_1, -⟩ := blk_cells2 (unhide K_s).1
  have n_s := (unhide K_s).2
  clear o1 o2
  go_wp2_with fail
  refine (eqstate_same _ _ _ _ _ (sofI xs) _ _ _ _ _ (sofF xs) _ (by omega) (by omega) (((unhide R_oG1).rw encI_len).alloc _) (((unhide R_oW1).rw encI_len).alloc _) (((unhide R_oG2).rw encF_len).alloc _) (((unhide R_oW2).rw encF_len).alloc _)).mono ?_
  rintro e w5 ⟨rfl, b5⟩
  clear s_0 s_1 n_s
  have cw5 := ((Below.refl w4.heap.size w4).alloc (Nat.le_refl _) _).trans (b5.mono (by simp <;> omega))
  have zw5 := cw5.size
  have K_s := hide (keptblk cw5 K_s)
  have K_g : Hid (w5.heap[w4.heap.size]? = some (.cells #[.slice ga1 n1 ega1, .slice ga2 n2 ega2] 26 (0, 0)) ∧ w4.heap.size < w5.heap.size) := hide ⟨(b5.block _ (by simp <;> omega)).trans (newB1 w4 _), by have := b5.size; simp at this; omega⟩
  have y_g := (unhide K_g).2
  have R_x := hide ((unhide R_x).later cw5)
  have R_oW1 := hide ((unhide R_oW1).later cw5)
  have R_oW2 := hide ((unhide R_oW2).later cw5)
  have R_oB2 := hide ((unhide R_oB2).later cw5)
  have R_oG1 := hide ((unhide R_oG1).later cw5)
  have R_oG2 := hide ((unhide R_oG2).later cw5)
  have BL := hide ((unhide BL).trans (cw5.mono (unhide BL).size))
  clear b5 cw5
  obtain ⟨s_0, s_1, -⟩ := blk_cells2 (unhide K_s).1
  have n_s := (unhide K_s).2
  obtain ⟨g_0, g_1, -⟩ := blk_cells2 (unhide K_g).1
  have n_g := (unhide K_g).2
  go_wp2_with fail
  refine (tobytes_v _ n xs hn _ (by omega) (unhide R_x)).mono ?_
  rintro e w6 ⟨u3, rfl, o1, b6⟩
  clear g_0 g_1 n_g s_0 s_1 n_s
  have cw6 := b6
  have zw6 := cw6.size
  have K_s := hide (keptblk cw6 K_s)
  have K_g := hide (keptblk cw6 K_g)
  have R_x := hide ((unhide R_x).later cw6)
  have R_oW1 := hide ((unhide R_oW1).later cw6)
  have R_oW2 := hide ((unhide R_oW2).later cw6)
  have R_oB2 := hide ((unhide R_oB2).later cw6)
  have R_oG1 := hide ((unhide R_oG1).later cw6)
  have R_oG2 := hide ((unhide R_oG2).later cw6)
  have BL := hide ((unhide BL).trans (cw6.mono (unhide BL).size))
  have R_oB3 := hide (o1)
  have L_oB3 := hide (World.ownsRow.lt (unhide R_oB3))
  clear b6 cw6
  obtain ⟨s_0, s_1, -⟩ := blk_cells2 (unhide K_s).1
  have n_s := (unhide K_s).2
  obtain ⟨g_0, g_1, -⟩ := blk_cells2 (unhide K_g).1
  have n_g := (unhide K_g).2
  clear o1
  go_wp2_with fail
  refine (eqbytes_v u2 u3 xs _ (by have := unhide hn; omega) (owY_seg (unhide R_oB2)) (owY_seg (unhide R_oB3))).mono ?_
  rintro e w7 ⟨rfl, b7⟩
  clear g_0 g_1 n_g s_0 s_1 n_s
  have cw7 := b7
  have zw7 := cw7.size
  have K_s := hide (keptblk cw7 K_s)
  have K_g := hide (keptblk cw7 K_g)
  have R_x := hide ((unhide R_x).later cw7)
  have R_oW1 := hide ((unhide R_oW1).later cw7)
  have R_oW2 := hide ((unhide R_oW2).later cw7)
  have R_oB2 := hide ((unhide R_oB2).later cw7)
  have R_oG1 := hide ((unhide R_oG1).later cw7)
  have R_oG2 := hide ((unhide R_oG2).later cw7)
  clear R_oB3
  have BL := hide ((unhide BL).trans (cw7.mono (unhide BL).size))
  clear b7 cw7
  obtain ⟨s_0, s_1, -⟩ := blk_cells2 (unhide K_s).1
  have n_s := (unhide K_s).2
  obtain ⟨g_0, g_1, -⟩ := blk_cells2 (unhide K_g).1
  have n_g := (unhide K_g).2
  go_wp2_with fail
  refine (markbytes_v _ u2 n xs hn _ (by omega) (unhide R_oB2)).mono ?_
  rintro e w8 ⟨rfl, o1, g1w⟩
  have t1 := Trn.of_grown g1w
  clear g_0 g_1 n_g s_0 s_1 n_s
  have zw8 := t1.size
  have K_s := hide (t1.kept K_s (fun q => by (first | (have := unhide L_oB2 _ q; omega) | (exact absurd q (by simp [Value.ownBlock])))))
  have K_g := hide (t1.kept K_g (fun q => by (first | (have := unhide L_oB2 _ q; omega) | (exact absurd q (by simp [Value.ownBlock])))))
  have R_oW1 := hide (t1.own (unhide R_oW1) (fun i hi => fun q => by have := unhide L_oW1 _ hi; (first | (have := unhide L_oB2 _ q; omega) | (exact absurd q (by simp [Value.ownBlock])))))
  have R_oW2 := hide (t1.own (unhide R_oW2) (fun i hi => fun q => by have := unhide L_oW2 _ hi; (first | (have := unhide L_oB2 _ q; omega) | (exact absurd q (by simp [Value.ownBlock])))))
  have R_oG1 := hide (t1.own (unhide R_oG1) (fun i hi => fun q => by have := unhide L_oG1 _ hi; (first | (have := unhide L_oB2 _ q; omega) | (exact absurd q (by simp [Value.ownBlock])))))
  have R_oG2 := hide (t1.own (unhide R_oG2) (fun i hi => fun q => by have := unhide L_oG2 _ hi; (first | (have := unhide L_oB2 _ q; omega) | (exact absurd q (by simp [Value.ownBlock])))))
  have BL := hide (Trn.below (unhide BL) t1 (unhide BL).size (fun i q => by (first | (have := unhide L_oB2 _ q; omega) | (exact absurd q (by simp [Value.ownBlock])))))
  have R_x := hide ((unhide O_x).later (unhide BL))
  have R_oB2 := hide o1
  clear o1 t1 g1w
  obtain ⟨s_0, s_1, -⟩ := blk_cells2 (unhide K_s).1
  have n_s := (unhide K_s).2
  obtain ⟨g_0, g_1, -⟩ := blk_cells2 (unhide K_g).1
  have n_g := (unhide K_g).2
  have hq0 : decide ((1 : Int) + (n : Int) < 0) = false := by simp; omega
  go_wp2_with fail
  refine (eqstate_same _ _ _ _ _ (sofI xs) _ _ _ _ _ (sofF xs) _ (by omega) (by omega) (((unhide R_oG1).rw encI_len)) (((unhide R_oW1).rw encI_len)) (((unhide R_oG2).rw encF_len)) (((unhide R_oW2).rw encF_len))).mono ?_
  rintro e w9 ⟨rfl, b9⟩
  clear g_0 g_1 n_g s_0 s_1 n_s
  have cw9 := b9
  have zw9 := cw9.size
  have K_s := hide (keptblk cw9 K_s)
  have K_g := hide (keptblk cw9 K_g)
  have R_x := hide ((unhide R_x).later cw9)
  have R_oW1 := hide ((unhide R_oW1).later cw9)
  have R_oW2 := hide ((unhide R_oW2).later cw9)
  have R_oB2 := hide ((unhide R_oB2).later cw9)
  have R_oG1 := hide ((unhide R_oG1).later cw9)
  have R_oG2 := hide ((unhide R_oG2).later cw9)
  have BL := hide ((unhide BL).trans (cw9.mono (unhide BL).size))
  clear b9 cw9
  obtain ⟨s_0, s_1, -⟩ := blk_cells2 (unhide K_s).1
  have n_s := (unhide K_s).2
  obtain ⟨g_0, g_1, -⟩ := blk_cells2 (unhide K_g).1
  have n_g := (unhide K_g).2
  clear R_oB2
  go_wp2_with fail
  refine (markS_any _ ga1 n1 ega1 _ ga2 n2 ega2 _ 1 (by omega) (by omega) _ (by omega) (by omega) (unhide R_oG1) (unhide R_oG2)).mono ?_
  rintro e w10 ⟨rfl, o1, o2, t1⟩
  clear g_0 g_1 n_g s_0 s_1 n_s
  have zw10 := t1.size
  have K_s := hide (t1.kept K_s (fun q => by rcases q with q | q; (first | (have := unhide L_oG1 _ q; omega) | (exact absurd q (by simp [Value.ownBlock]))); (first | (have := unhide L_oG2 _ q; omega) | (exact absurd q (by simp [Value.ownBlock])))))
  have K_g := hide (t1.kept K_g (fun q => by rcases q with q | q; (first | (have := unhide L_oG1 _ q; omega) | (exact absurd q (by simp [Value.ownBlock]))); (first | (have := unhide L_oG2 _ q; omega) | (exact absurd q (by simp [Value.ownBlock])))))
  have R_oW1 := hide (t1.own (unhide R_oW1) (fun i hi => fun q => by have := unhide L_oW1 _ hi; rcases q with q | q; (first | (have := unhide L_oG1 _ q; omega) | (exact absurd q (by simp [Value.ownBlock]))); (first | (have := unhide L_oG2 _ q; omega) | (exact absurd q (by simp [Value.ownBlock])))))
  have R_oW2 := hide (t1.own (unhide R_oW2) (fun i hi => fun q => by have := unhide L_oW2 _ hi; rcases q with q | q; (first | (have := unhide L_oG1 _ q; omega) | (exact absurd q (by simp [Value.ownBlock]))); (first | (have := unhide L_oG2 _ q; omega) | (exact absurd q (by simp [Value.ownBlock])))))
  have BL := hide (Trn.below (unhide BL) t1 (unhide BL).size (fun i q => by rcases q with q | q; (first | (have := unhide L_oG1 _ q; omega) | (exact absurd q (by simp [Value.ownBlock]))); (first | (have := unhide L_oG2 _ q; omega) | (exact absurd q (by simp [Value.ownBlock])))))
  have R_x := hide ((unhide O_x).later (unhide BL))
  have R_oG1 := hide o1; have R_oG2 := hide o2
  clear o1 o2 t1
  obtain ⟨s_0, s_1, -⟩ := blk_cells2 (unhide K_s).1
  have n_s := (unhide K_s).2
  obtain ⟨g_0, g_1, -⟩ := blk_cells2 (unhide K_g).1
  have n_g := (unhide K_g).2
  go_wp2_with fail
  refine (heldS_any ga1 n1 ega1 ga2 n2 ega2 1 (by omega) (by omega) _ (by omega) (by omega) ((unhide R_oG1).rw encI_len) ((unhide R_oG2).rw encF_len)).mono ?_
  rintro e w11 ⟨rfl, b11⟩
  clear g_0 g_1 n_g s_0 s_1 n_s
  have cw11 := b11
  have zw11 := cw11.size
  have K_s := hide (keptblk cw11 K_s)
  have K_g := hide (keptblk cw11 K_g)
  have R_x := hide ((unhide R_x).later cw11)
  have R_oW1 := hide ((unhide R_oW1).later cw11)
  have R_oW2 := hide ((unhide R_oW2).later cw11)
  have R_oG1 := hide ((unhide R_oG1).later cw11)
  have R_oG2 := hide ((unhide R_oG2).later cw11)
  have BL := hide ((unhide BL).trans (cw11.mono (unhide BL).size))
  clear b11 cw11
  obtain ⟨s_0, s_1, -⟩ := blk_cells2 (unhide K_s).1
  have n_s := (unhide K_s).2
  obtain ⟨g_0, g_1, -⟩ := blk_cells2 (unhide K_g).1
  have n_g := (unhide K_g).2
  have hq1 : decide ((1 : Int) + 6 * (n1 : Int) + 2 * (n2 : Int) < 0) = false := by simp; omega
  have hq2 : ((1 : Int) + 6 * (n1 : Int) + 2 * (n2 : Int) != 1 + 6 * (n1 : Int) + 2 * (n2 : Int)) = false := by simp
  go_wp2_with fail
  refine (tobytes_v _ n xs hn _ (by omega) (unhide R_x)).mono ?_
  rintro e w12 ⟨u4, rfl, o1, b12⟩
  clear g_0 g_1 n_g s_0 s_1 n_s
  have cw12 := b12
  have zw12 := cw12.size
  have K_s := hide (keptblk cw12 K_s)
  have K_g := hide (keptblk cw12 K_g)
  have R_x := hide ((unhide R_x).later cw12)
  have R_oW1 := hide ((unhide R_oW1).later cw12)
  have R_oW2 := hide ((unhide R_oW2).later cw12)
  have R_oG1 := hide ((unhide R_oG1).later cw12)
  have R_oG2 := hide ((unhide R_oG2).later cw12)
  have BL := hide ((unhide BL).trans (cw12.mono (unhide BL).size))
  have R_oB4 := hide (o1)
  have L_oB4 := hide (World.ownsRow.lt (unhide R_oB4))
  clear b12 cw12
  obtain ⟨s_0, s_1, -⟩ := blk_cells2 (unhide K_s).1
  have n_s := (unhide K_s).2
  obtain ⟨g_0, g_1, -⟩ := blk_cells2 (unhide K_g).1
  have n_g := (unhide K_g).2
  clear o1
  go_wp2_with fail
  refine (istateof_v u4 xs n n1 n2 ok hn HN1 HN2 hok _ hn0 (unhide HD) (owY_seg (unhide R_oB4))).mono ?_
  rintro e w13 ⟨ha1, eha1, ha2, eha2, rfl, o1, o2, b13⟩
  clear g_0 g_1 n_g s_0 s_1 n_s
  have cw13 := b13
  have zw13 := cw13.size
  have K_s := hide (keptblk cw13 K_s)
  have K_g := hide (keptblk cw13 K_g)
  have R_x := hide ((unhide R_x).later cw13)
  have R_oW1 := hide ((unhide R_oW1).later cw13)
  have R_oW2 := hide ((unhide R_oW2).later cw13)
  have R_oG1 := hide ((unhide R_oG1).later cw13)
  have R_oG2 := hide ((unhide R_oG2).later cw13)
  clear R_oB4
  have BL := hide ((unhide BL).trans (cw13.mono (unhide BL).size))
  have R_oH1 := hide (o1)
  have L_oH1 := hide (World.ownsRow.lt (unhide R_oH1))
  have R_oH2 := hide (o2)
  have L_oH2 := hide (World.ownsRow.lt (unhide R_oH2))
  clear b13 cw13
  obtain ⟨s_0, s_1, -⟩ := blk_cells2 (unhide K_s).1
  have n_s := (unhide K_s).2
  obtain ⟨g_0, g_1, -⟩ := blk_cells2 (unhide K_g).1
  have n_g := (unhide K_g).2
  clear o1 o2
  go_wp2_with fail
  refine (eqstate_same _ _ _ _ _ (sofI xs) _ _ _ _ _ (sofF xs) _ (by omega) (by omega) (((unhide R_oH1).rw encI_len).alloc _) (((unhide R_oW1).rw encI_len).alloc _) (((unhide R_oH2).rw encF_len).alloc _) (((unhide R_oW2).rw encF_len).alloc _)).mono ?_
  rintro e w14 ⟨rfl, b14⟩
  clear g_0 g_1 n_g s_0 s_1 n_s
  have cw14 := ((Below.refl w13.heap.size w13).alloc (Nat.le_refl _) _).trans (b14.mono (by simp <;> omega))
  have zw14 := cw14.size
  have K_s := hide (keptblk cw14 K_s)
  have K_g := hide (keptblk cw14 K_g)
  have K_h : Hid (w14.heap[w13.heap.size]? = some (.cells #[.slice ha1 n1 eha1, .slice ha2 n2 eha2] 26 (0, 0)) ∧ w13.heap.size < w14.heap.size) := hide ⟨(b14.block _ (by simp <;> omega)).trans (newB1 w13 _), by have := b14.size; simp at this; omega⟩
  have y_h := (unhide K_h).2
  have R_x := hide ((unhide R_x).later cw14)
  have R_oW1 := hide ((unhide R_oW1).later cw14)
  have R_oW2 := hide ((unhide R_oW2).later cw14)
  have R_oG1 := hide ((unhide R_oG1).later cw14)
  have R_oG2 := hide ((unhide R_oG2).later cw14)
  have R_oH1 := hide ((unhide R_oH1).later cw14)
  have R_oH2 := hide ((unhide R_oH2).later cw14)
  have BL := hide ((unhide BL).trans (cw14.mono (unhide BL).size))
  clear b14 cw14
  obtain ⟨s_0, s_1, -⟩ := blk_cells2 (unhide K_s).1
  have n_s := (unhide K_s).2
  obtain ⟨g_0, g_1, -⟩ := blk_cells2 (unhide K_g).1
  have n_g := (unhide K_g).2
  obtain ⟨h_0, h_1, -⟩ := blk_cells2 (unhide K_h).1
  have n_h := (unhide K_h).2
  go_wp2_with fail
  refine (heldS_any ga1 n1 ega1 ga2 n2 ega2 1 (by omega) (by omega) _ (by omega) (by omega) ((unhide R_oG1).rw encI_len) ((unhide R_oG2).rw encF_len)).mono ?_
  rintro e w15 ⟨rfl, b15⟩
  clear g_0 g_1 n_g h_0 h_1 n_h s_0 s_1 n_s
  have cw15 := b15
  have zw15 := cw15.size
  have K_s := hide (keptblk cw15 K_s)
  have K_g := hide (keptblk cw15 K_g)
  have K_h := hide (keptblk cw15 K_h)
  have R_x := hide ((unhide R_x).later cw15)
  have R_oW1 := hide ((unhide R_oW1).later cw15)
  have R_oW2 := hide ((unhide R_oW2).later cw15)
  have R_oG1 := hide ((unhide R_oG1).later cw15)
  have R_oG2 := hide ((unhide R_oG2).later cw15)
  have R_oH1 := hide ((unhide R_oH1).later cw15)
  have R_oH2 := hide ((unhide R_oH2).later cw15)
  have BL := hide ((unhide BL).trans (cw15.mono (unhide BL).size))
  clear b15 cw15
  obtain ⟨s_0, s_1, -⟩ := blk_cells2 (unhide K_s).1
  have n_s := (unhide K_s).2
  obtain ⟨g_0, g_1, -⟩ := blk_cells2 (unhide K_g).1
  have n_g := (unhide K_g).2
  obtain ⟨h_0, h_1, -⟩ := blk_cells2 (unhide K_h).1
  have n_h := (unhide K_h).2
  go_wp2
  go_ret
  exact ⟨rfl, unhide BL⟩

/-! ### THE ROW's STEP: WRITTEN OUT: LEAVE IT -/
set_option maxRecDepth 100000 in
theorem lifted (os : Os) (started : os.Started) (H : Type) (enc : TypeId × Value → H) :
    ReturnsInHanded {} Try.checked os 3 .any (Rows.fnExactStateOfSpec.pre6 enc Try.prog Try.f3 Rows.fnExactStateOfRow.domain false) (Rows.fnExactStateOfSpec.post enc Try.prog Try.f3 false true false false) := by
  refine returnsInHanded_of_change (C := Try.checked) own started (by kernel_rfl) Try.func3
    (ChangeSpec.witness6 (enc := enc) (C := Try.checked) false ⟨#[], #[.slice none 0 0], []⟩ 8 (by kernel_rfl) (by kernel_rfl) (by kernel_rfl) (by kernel_rfl)) ?_
  intro W base args ds gs before hval0 hW hcnd _
  have hval : ∀ (j : Nat) t v, Try.f3.params[j]? = some t → args[j]? = some v → Value.okWide Try.prog W .any base t v := hval0
  have hW' := hW
  obtain ⟨p, q, hA0, hV, rfl, hfz, hnd⟩ := hW
  have hA : DataW.TrodAll enc Try.prog W 0 (fun _ => true) true Try.f3.params.toList args.toList ds p := hA0
  rw [Try.params3] at hA hval
  obtain ⟨v0, vs0, d0, ds0, p0, q0, hargs, rfl, rfl, h0, r0⟩ := trodAll_cons hA
  obtain ⟨rfl, rfl, rfl⟩ := trodAll_nil r0
  obtain rfl : args = #[v0] := by cases args; simp_all
  obtain ⟨rfl, rfl⟩ := trodVars_none hV
  obtain ⟨a0, len0, cap0, rfl⟩ := okWide_slice Try.underlying22 (hval 0 22 v0 rfl rfl)
  have k0 := h0
  have lt0 : ∀ x ∈ p0, x.block < W.heap.size := by obtain ⟨m, hm⟩ := k0; exact DataW.trod_lt m _ _ _ hm
  obtain ⟨z0, w0⟩ : ∃ zs, IsRow .u8 W a0 len0 cap0 zs := by
    obtain ⟨fuel, hf⟩ := h0
    rcases open_ints Try.underlying22 Try.underlying5 (by kernel_rfl) hf with ⟨hcs, _⟩ | ⟨x, l, c, zs, hcs, _, hl, hm, hz, _, hcell, hwz⟩
    · simp [Value.cells] at hcs
      obtain ⟨rfl, rfl, rfl⟩ := hcs
      exact ⟨[], .inl ⟨rfl, rfl, rfl, rfl⟩⟩
    · simp [Value.cells] at hcs
      obtain ⟨rfl, rfl, rfl⟩ := hcs
      exact ⟨zs, .inr ⟨_, rfl, hl, hm, by simpa using hz, hcell, hwz⟩⟩
  clear hA0 hval0
  refine (walk a0 len0 cap0 z0 W w0).mono fun e W' ⟨he, bel⟩ => ?_
  subst he
  exact ⟨_, rfl, _, _, _, [], _, [], hW', trodAll_mk1 (shut_bool Try.underlying4 _), (trodAll_cons_mk (Below.trod laidOut (by kernel_rfl) (of_decide_eq_true (by kernel_rfl)) k0 bel lt0) trodAll_mk0), rfl, bel.frame _, fun h => by cases h⟩

theorem over : Rows.fnExactStateOfRow.holds Try.pinned (OpenSpec.ofChange Rows.fnExactStateOfSpec) :=
  OpenClaim.holds_of_wide 3 Try.f3 rfl rfl rfl rfl rfl rfl rfl ⟨rfl, rfl, rfl, rfl, rfl⟩ rfl rfl rfl rfl rfl (by kernel_rfl) Try.func3 (by kernel_rfl)
    (of_decide_eq_true (by kernel_rfl)) (by unfold Func.isWrapper; first | (rw [if_pos (by decide +kernel)]; kernel_rfl) | (rw [if_neg (by decide +kernel)]; exact ⟨rfl, rfl⟩))
    (fun os started H enc _ => lifted os started H enc)

theorem proved : Rows.FnExactStateOfSaid := over
#print axioms proved
end Go.Proofs.Ytbajnnpihjmjmab.fnExactStateOf
namespace Go.Proofs.Ytbajnnpihjmjmab
theorem fnExactStateOf_holds : Rows.FnExactStateOfSaid := fnExactStateOf.proved
end Go.Proofs.Ytbajnnpihjmjmab
