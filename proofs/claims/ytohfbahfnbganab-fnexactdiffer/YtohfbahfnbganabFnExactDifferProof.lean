/-
  At any two trees the program's Differ answers as the specification's does, writes into no argument, and its answer owns its memory.
-/
import Derived.Test.YtohfbahfnbganabRows
import Derived.Test.YtohfbahfnbganabStM
import Derived.Test.YtohfbahfnbganabSt3
import Derived.Test.YtohfbahfnbganabStBx
import Derived.Test.YtohfbahfnbganabTreL
import Derived.Test.YtohfbahfnbganabTrX
import Derived.WalkKit
import Derived.ProofKit
import Derived.OpenShut
import Derived.ShutString
import Derived.ChangeOld
import Derived.Below
import Derived.Carry
namespace Go.Proofs.Ytohfbahfnbganab.fnExactDiffer
open Go.ChangeShapes Go.WideShapes Go.ChangeAt Go.RowKit
open Go.ChangeMaps (open_string shut_string)

theorem own : ownKnob Try.prog.godebug = none := by kernel_rfl
theorem laidOut : laidOutB Try.prog = true := by kernel_rfl

theorem sdiffer_v (a : Option Addr) (n c : Nat) (ns : List Int) (q : Int) (b : Option Addr) (m d : Nat) (ms : List Int) (p : Int) (n1 : Nat) (HN : Hid ((dfL ns q ms p).length = n1)) (w : World) (hn : n ≤ 140737488351232) (hm : m ≤ 140737488351232) (h : RwN w (.slice a n c) ns) (h1 : RwN w (.slice b m d) ms) :
    Calls Try.prog 22 #[.agg #[.slice a n c, .int .i64 q], .agg #[.slice b m d, .int .i64 p]] w fun e w' => ∃ a1 c1, e = .returned (.slice a1 n1 c1) ∧ OwN w.heap.size w' (.slice a1 n1 c1) (dfL ns q ms p) ∧ Below w.heap.size w w' := by
  refine (sdiffer_any a n c ns q b m d ms p w hn hm h h1).mono ?_
  rintro e w1 ⟨a1, n2, c1, rfl, o1, b1⟩
  obtain rfl : n2 = n1 := ((o1.rw encN_len).len.1).trans (unhide HN)
  exact ⟨a1, c1, rfl, o1, b1⟩
theorem idiffer_v (a : Option Addr) (n c : Nat) (ns : List Int) (q : Int) (b : Option Addr) (m d : Nat) (ms : List Int) (p : Int) (n1 : Nat) (HN : Hid ((dfL ns q ms p).length = n1)) (w : World) (hn : n ≤ 140737488351232) (hm : m ≤ 140737488351232) (h : RwN w (.slice a n c) ns) (h1 : RwN w (.slice b m d) ms) :
    Calls Try.prog 23 #[.agg #[.slice a n c, .int .i64 q], .agg #[.slice b m d, .int .i64 p]] w fun e w' => ∃ a1 c1, e = .returned (.slice a1 n1 c1) ∧ OwN w.heap.size w' (.slice a1 n1 c1) (dfL ns q ms p) ∧ Below w.heap.size w w' := by
  refine (idiffer_any a n c ns q b m d ms p w hn hm h h1).mono ?_
  rintro e w1 ⟨a1, n2, c1, rfl, o1, b1⟩
  obtain rfl : n2 = n1 := ((o1.rw encN_len).len.1).trans (unhide HN)
  exact ⟨a1, c1, rfl, o1, b1⟩
theorem heldints_w (a : Option Addr) (n c : Nat) (k : Int) (w : World) (hn : n ≤ 140737488351232) (hk0 : 0 ≤ k) (hk1 : k ≤ 140737488351232) (h : RwN w (.slice a n c) (markN k n)) :
    Calls Try.prog 26 #[.slice a n c, .int .i64 k] w fun e w' => e = .returned (.int .i64 (k + n)) ∧ Below w.heap.size w w' := by
  refine (heldints_v a n c k w hn hk0 hk1 h).mono ?_
  rintro e _ ⟨rfl, rfl⟩
  exact ⟨rfl, Below.refl _ _⟩

set_option maxHeartbeats 4000000 in
set_option maxRecDepth 100000 in
theorem walk (w : World) (aA : Option Addr) (nA cA : Nat) (sA : List Int) (qA : Int) (hnA : nA ≤ 9223372036854775807) (hA : RwN w (.slice aA nA cA) sA) (_ : FitNs sA) (_ : FitN qA) (aB : Option Addr) (nB cB : Nat) (sB : List Int) (qB : Int) (hnB : nB ≤ 9223372036854775807) (hB : RwN w (.slice aB nB cB) sB) (_ : FitNs sB) (_ : FitN qB) :
    Calls Try.prog 6 #[.agg #[.slice aA nA cA, .int .i64 qA], .agg #[.slice aB nB cB, .int .i64 qB]] w fun e w' => e = .returned (.bool true) ∧ Below w.heap.size w w' := by
  have R_A := hide hA
  have R_B := hide hB
  have O_A := R_A
  have O_B := R_B
  clear hA hB
  have hl1 : (dfL sA qA sB qB).length ≤ 4 := by
    unfold dfL; split
    · simp
    · exact List.length_filter_le _ _
  obtain ⟨n1, hn1⟩ : ∃ n, (dfL sA qA sB qB).length = n := ⟨_, rfl⟩
  rw [hn1] at hl1
  have HN1 := hide hn1
  clear hn1
  go_enter Try.func6, Try.ntmps6
  go_wp2_with fail
  refine (sztree_any aA nA cA qA ((1048576 : Int)) _ hnA (by omega) (by omega)).mono ?_
  rintro e w1 ⟨h, b1⟩
  have cw1 := (((Below.refl w.heap.size w).alloc (Nat.le_refl _) _).alloc (by simp <;> omega) _).trans (b1.mono (by simp <;> omega))
  have zw1 := cw1.size
  have K_a : Hid (w1.heap[w.heap.size]? = some (.cells #[.slice aA nA cA, .int .i64 qA] 42 (0, 0)) ∧ w.heap.size < w1.heap.size) := hide ⟨(b1.block _ (by simp <;> omega)).trans (lowB2 w _ _), by have := b1.size; simp at this; omega⟩
  have y_a := (unhide K_a).2
  have K_b : Hid (w1.heap[w.heap.size + 1]? = some (.cells #[.slice aB nB cB, .int .i64 qB] 42 (0, 0)) ∧ w.heap.size + 1 < w1.heap.size) := hide ⟨(b1.block _ (by simp <;> omega)).trans (newB2 w _ _), by have := b1.size; simp at this; omega⟩
  have y_b := (unhide K_b).2
  have R_A := hide ((unhide R_A).later cw1)
  have R_B := hide ((unhide R_B).later cw1)
  have BL := hide cw1
  clear b1 cw1
  obtain ⟨a_0, a_1, -⟩ := blk_cells2 (unhide K_a).1
  have n_a := (unhide K_a).2
  obtain ⟨b_0, b_1, -⟩ := blk_cells2 (unhide K_b).1
  have n_b := (unhide K_b).2
  rcases h with ⟨rfl, hbA⟩ | ⟨rfl, hbA⟩
  · go_wp2
    go_ret
    exact ⟨rfl, unhide BL⟩
  have hdA : decide (((1048576 : Int)) - (nA : Int) < 0) = false := by simp; omega
  go_wp2_with fail
  refine (sztree_any aB nB cB qB ((1048576 : Int) - (nA : Int)) _ hnB (by omega) (by omega)).mono ?_
  rintro e w2 ⟨h, b2⟩
  clear a_0 a_1 n_a b_0 b_1 n_b
  have cw2 := b2
  have zw2 := cw2.size
  have K_a := hide (keptblk cw2 K_a)
  have K_b := hide (keptblk cw2 K_b)
  have R_A := hide ((unhide R_A).later cw2)
  have R_B := hide ((unhide R_B).later cw2)
  have BL := hide ((unhide BL).trans (cw2.mono (unhide BL).size))
  clear b2 cw2
  obtain ⟨a_0, a_1, -⟩ := blk_cells2 (unhide K_a).1
  have n_a := (unhide K_a).2
  obtain ⟨b_0, b_1, -⟩ := blk_cells2 (unhide K_b).1
  have n_b := (unhide K_b).2
  rcases h with ⟨rfl, hbB⟩ | ⟨rfl, hbB⟩
  · go_wp2
    go_ret
    exact ⟨rfl, unhide BL⟩
  have hdB : decide (((1048576 : Int) - (nA : Int)) - (nB : Int) < 0) = false := by simp; omega
  clear a_0 a_1 n_a b_0 b_1 n_b
  obtain ⟨x0, x1, -⟩ := blk_cells2 (unhide K_a).1
  obtain ⟨y0, y1, -⟩ := blk_cells2 (unhide K_b).1
  have X0 := hide x0; have X1 := hide x1; have Y0 := hide y0; have Y1 := hide y1
  go_wp2_with fail
  clear x0 x1 y0 y1
  go_region_held3 (fun W => Below w2.heap.size w2 W ∧ W.cell? ⟨w.heap.size, 0, none⟩ = some (.slice aA nA cA) ∧ W.cell? ⟨w.heap.size, 1, none⟩ = some (.int .i64 qA) ∧ W.cell? ⟨w.heap.size + 1, 0, none⟩ = some (.slice aB nB cB) ∧ W.cell? ⟨w.heap.size + 1, 1, none⟩ = some (.int .i64 qB))
    (first | (with_reducible exact keep4 (unhide K_a).2 (unhide K_a).2 (unhide K_b).2 (unhide K_b).2 (unhide X0) (unhide X1) (unhide Y0) (unhide Y1) (Below.refl _ _)) | (with_reducible exact keep4 (unhide K_a).2 (unhide K_a).2 (unhide K_b).2 (unhide K_b).2 (unhide X0) (unhide X1) (unhide Y0) (unhide Y1) ((Below.refl _ _).drew)) | (with_reducible exact keep4 (unhide K_a).2 (unhide K_a).2 (unhide K_b).2 (unhide K_b).2 (unhide X0) (unhide X1) (unhide Y0) (unhide Y1) (by assumption)))
    (first
      | (go_at_call_of 20 (Value.agg #[Value.slice aA nA cA, Value.int IntKind.i64 qA]); refine (totree_any aA nA cA sA qA _ (by omega) ?_).mono ?_; exact (unhide R_A).later (kb1 (by assumption)); rintro e w3 ⟨ta1, tc1, rfl, o1, b6⟩; have R_t1 := hide (o1.rw encN_len); clear o1; have bw3 := kb2 (by assumption) b6; clear b6)
      | (go_at_call_of 20 (Value.agg #[Value.slice aB nB cB, Value.int IntKind.i64 qB]); refine (totree_any aB nB cB sB qB _ (by omega) ?_).mono ?_; exact (unhide R_B).later (kb1 (by assumption)); rintro e w4 ⟨ta2, tc2, rfl, o1, b6⟩; have R_t2 := hide (o1.rw encN_len); clear o1; have R_t1 := hide ((unhide R_t1).later b6); have bw4 := kb2 (by assumption) b6; clear b6)
      | (go_at_call 22; refine (sdiffer_v ta1 nA tc1 sA qA ta2 nB tc2 sB qB n1 HN1 _ (by omega) (by omega) (unhide R_t1) (unhide R_t2)).mono ?_; rintro e w5 ⟨wa, wc, rfl, o1, b8⟩; have R_oW := hide (o1); have bw5 := kb2 (by assumption) b8; clear b8))
  have cw5 : Below w2.heap.size w2 w5 := bw5
  have zw5 := cw5.size
  have L_oW := hide (World.ownsRow.lt (unhide R_oW))
  clear X0 X1 Y0 Y1 bw3 bw4 bw5 R_t1 R_t2
  have K_a := hide (keptblk cw5 K_a)
  have K_b := hide (keptblk cw5 K_b)
  have R_A := hide ((unhide R_A).later cw5)
  have R_B := hide ((unhide R_B).later cw5)
  have BL := hide ((unhide BL).trans (cw5.mono (unhide BL).size))
  clear cw5
  obtain ⟨a_0, a_1, -⟩ := blk_cells2 (unhide K_a).1
  have n_a := (unhide K_a).2
  obtain ⟨b_0, b_1, -⟩ := blk_cells2 (unhide K_b).1
  have n_b := (unhide K_b).2
  go_wp2_with fail
  refine (totree_any aA nA cA sA qA _ (by omega) ((unhide R_A))).mono ?_
  rintro e w6 ⟨aX, cX, rfl, o1, b6⟩
  clear a_0 a_1 n_a b_0 b_1 n_b
  have cw6 := b6
  have zw6 := cw6.size
  have K_a := hide (keptblk cw6 K_a)
  have K_b := hide (keptblk cw6 K_b)
  have R_A := hide ((unhide R_A).later cw6)
  have R_B := hide ((unhide R_B).later cw6)
  have R_oW := hide ((unhide R_oW).later cw6)
  have BL := hide ((unhide BL).trans (cw6.mono (unhide BL).size))
  have R_oX := hide (o1)
  have L_oX := hide (World.ownsRow.lt (unhide R_oX))
  clear b6 cw6
  obtain ⟨a_0, a_1, -⟩ := blk_cells2 (unhide K_a).1
  have n_a := (unhide K_a).2
  obtain ⟨b_0, b_1, -⟩ := blk_cells2 (unhide K_b).1
  have n_b := (unhide K_b).2
  clear o1
  go_wp2_with fail
  refine (totree_any aB nB cB sB qB _ (by omega) ((unhide R_B).alloc _)).mono ?_
  rintro e w7 ⟨aY, cY, rfl, o1, b7⟩
  clear a_0 a_1 n_a b_0 b_1 n_b
  have cw7 := ((Below.refl w6.heap.size w6).alloc (Nat.le_refl _) _).trans (b7.mono (by simp <;> omega))
  have zw7 := cw7.size
  have K_a := hide (keptblk cw7 K_a)
  have K_b := hide (keptblk cw7 K_b)
  have K_x : Hid (w7.heap[w6.heap.size]? = some (.cells #[.slice aX nA cX, .int .i64 qA] 37 (0, 0)) ∧ w6.heap.size < w7.heap.size) := hide ⟨(b7.block _ (by simp <;> omega)).trans (newB1 w6 _), by have := b7.size; simp at this; omega⟩
  have y_x := (unhide K_x).2
  have R_A := hide ((unhide R_A).later cw7)
  have R_B := hide ((unhide R_B).later cw7)
  have R_oW := hide ((unhide R_oW).later cw7)
  have R_oX := hide ((unhide R_oX).later cw7)
  have BL := hide ((unhide BL).trans (cw7.mono (unhide BL).size))
  have R_oY := hide (Ow.base (base' := (w6.heap.size + 1)) o1 (by simp))
  have L_oY := hide (World.ownsRow.lt (unhide R_oY))
  clear b7 cw7
  obtain ⟨a_0, a_1, -⟩ := blk_cells2 (unhide K_a).1
  have n_a := (unhide K_a).2
  obtain ⟨b_0, b_1, -⟩ := blk_cells2 (unhide K_b).1
  have n_b := (unhide K_b).2
  obtain ⟨x_0, x_1, -⟩ := blk_cells2 (unhide K_x).1
  have n_x := (unhide K_x).2
  clear o1
  go_wp2_with fail
  refine (idiffer_v aX nA cX sA qA aY nB cY sB qB n1 HN1 _ (by omega) (by omega) (((unhide R_oX).rw encN_len).alloc _) (((unhide R_oY).rw encN_len).alloc _)).mono ?_
  rintro e w8 ⟨ga, gc, rfl, o1, b8⟩
  clear a_0 a_1 n_a b_0 b_1 n_b x_0 x_1 n_x
  have cw8 := ((Below.refl w7.heap.size w7).alloc (Nat.le_refl _) _).trans (b8.mono (by simp <;> omega))
  have zw8 := cw8.size
  have K_a := hide (keptblk cw8 K_a)
  have K_b := hide (keptblk cw8 K_b)
  have K_x := hide (keptblk cw8 K_x)
  have K_y : Hid (w8.heap[w7.heap.size]? = some (.cells #[.slice aY nB cY, .int .i64 qB] 37 (0, 0)) ∧ w7.heap.size < w8.heap.size) := hide ⟨(b8.block _ (by simp <;> omega)).trans (newB1 w7 _), by have := b8.size; simp at this; omega⟩
  have y_y := (unhide K_y).2
  have R_A := hide ((unhide R_A).later cw8)
  have R_B := hide ((unhide R_B).later cw8)
  have R_oW := hide ((unhide R_oW).later cw8)
  have R_oX := hide ((unhide R_oX).later cw8)
  have R_oY := hide ((unhide R_oY).later cw8)
  have BL := hide ((unhide BL).trans (cw8.mono (unhide BL).size))
  have R_oG := hide (Ow.base (base' := (w7.heap.size + 1)) o1 (by simp))
  have L_oG := hide (World.ownsRow.lt (unhide R_oG))
  clear b8 cw8
  obtain ⟨a_0, a_1, -⟩ := blk_cells2 (unhide K_a).1
  have n_a := (unhide K_a).2
  obtain ⟨b_0, b_1, -⟩ := blk_cells2 (unhide K_b).1
  have n_b := (unhide K_b).2
  obtain ⟨x_0, x_1, -⟩ := blk_cells2 (unhide K_x).1
  have n_x := (unhide K_x).2
  obtain ⟨y_0, y_1, -⟩ := blk_cells2 (unhide K_y).1
  have n_y := (unhide K_y).2
  clear o1
  go_wp2_with fail
  refine (eqints_v ga wa n1 gc wc (dfL sA qA sB qB) _ (by omega) ((unhide R_oG).rw encN_len) ((unhide R_oW).rw encN_len)).mono ?_
  rintro e w9 ⟨rfl, b9⟩
  clear a_0 a_1 n_a b_0 b_1 n_b x_0 x_1 n_x y_0 y_1 n_y
  have cw9 := b9
  have zw9 := cw9.size
  have K_a := hide (keptblk cw9 K_a)
  have K_b := hide (keptblk cw9 K_b)
  have K_x := hide (keptblk cw9 K_x)
  have K_y := hide (keptblk cw9 K_y)
  have R_A := hide ((unhide R_A).later cw9)
  have R_B := hide ((unhide R_B).later cw9)
  have R_oW := hide ((unhide R_oW).later cw9)
  have R_oX := hide ((unhide R_oX).later cw9)
  have R_oY := hide ((unhide R_oY).later cw9)
  have R_oG := hide ((unhide R_oG).later cw9)
  have BL := hide ((unhide BL).trans (cw9.mono (unhide BL).size))
  clear b9 cw9
  obtain ⟨a_0, a_1, -⟩ := blk_cells2 (unhide K_a).1
  have n_a := (unhide K_a).2
  obtain ⟨b_0, b_1, -⟩ := blk_cells2 (unhide K_b).1
  have n_b := (unhide K_b).2
  obtain ⟨x_0, x_1, -⟩ := blk_cells2 (unhide K_x).1
  have n_x := (unhide K_x).2
  obtain ⟨y_0, y_1, -⟩ := blk_cells2 (unhide K_y).1
  have n_y := (unhide K_y).2
  clear a_0 a_1 n_a b_0 b_1 n_b x_0 x_1 n_x y_0 y_1 n_y
  obtain ⟨x0, x1, -⟩ := blk_cells2 (unhide K_x).1
  obtain ⟨y0, y1, -⟩ := blk_cells2 (unhide K_a).1
  have X0 := hide x0; have X1 := hide x1; have Y0 := hide y0; have Y1 := hide y1
  go_wp2_with fail
  clear x0 x1 y0 y1
  go_region_held3 (fun W => Below w9.heap.size w9 W ∧ W.cell? ⟨w6.heap.size, 0, none⟩ = some (.slice aX nA cX) ∧ W.cell? ⟨w6.heap.size, 1, none⟩ = some (.int .i64 qA) ∧ W.cell? ⟨w.heap.size, 0, none⟩ = some (.slice aA nA cA) ∧ W.cell? ⟨w.heap.size, 1, none⟩ = some (.int .i64 qA))
    (first | (with_reducible exact keep4 (unhide K_x).2 (unhide K_x).2 (unhide K_a).2 (unhide K_a).2 (unhide X0) (unhide X1) (unhide Y0) (unhide Y1) (Below.refl _ _)) | (with_reducible exact keep4 (unhide K_x).2 (unhide K_x).2 (unhide K_a).2 (unhide K_a).2 (unhide X0) (unhide X1) (unhide Y0) (unhide Y1) ((Below.refl _ _).drew)) | (with_reducible exact keep4 (unhide K_x).2 (unhide K_x).2 (unhide K_a).2 (unhide K_a).2 (unhide X0) (unhide X1) (unhide Y0) (unhide Y1) (by assumption)))
    (first
      | (go_at_call 20; refine (totree_any aA nA cA sA qA _ (by omega) ?_).mono ?_; exact (unhide R_A).later (kb1 (by assumption)); rintro e w10 ⟨ta, tc, rfl, o1, b6⟩; have O5 := hide (o1.rw encN_len); clear o1; have b6k := kb2 (by assumption) b6; clear b6)
      | (go_at_call 14; refine (eqtree_same aX _ nA cX _ sA qA _ (by omega) ?_ (unhide O5)).mono ?_; exact ((unhide R_oX).rw encN_len).later (kb1 (by assumption)); rintro e w11 ⟨rfl, b7⟩; have b7k := kb2 (by assumption) b7; clear b7))
  have cw11 : Below w9.heap.size w9 w11 := b7k
  have zw11 := cw11.size
  clear X0 X1 Y0 Y1 b6k b7k O5
  have K_a := hide (keptblk cw11 K_a)
  have K_b := hide (keptblk cw11 K_b)
  have K_x := hide (keptblk cw11 K_x)
  have K_y := hide (keptblk cw11 K_y)
  have R_A := hide ((unhide R_A).later cw11)
  have R_B := hide ((unhide R_B).later cw11)
  have R_oW := hide ((unhide R_oW).later cw11)
  have R_oX := hide ((unhide R_oX).later cw11)
  have R_oY := hide ((unhide R_oY).later cw11)
  have R_oG := hide ((unhide R_oG).later cw11)
  have BL := hide ((unhide BL).trans (cw11.mono (unhide BL).size))
  clear cw11
  obtain ⟨a_0, a_1, -⟩ := blk_cells2 (unhide K_a).1
  have n_a := (unhide K_a).2
  obtain ⟨b_0, b_1, -⟩ := blk_cells2 (unhide K_b).1
  have n_b := (unhide K_b).2
  obtain ⟨x_0, x_1, -⟩ := blk_cells2 (unhide K_x).1
  have n_x := (unhide K_x).2
  obtain ⟨y_0, y_1, -⟩ := blk_cells2 (unhide K_y).1
  have n_y := (unhide K_y).2
  clear a_0 a_1 n_a b_0 b_1 n_b x_0 x_1 n_x y_0 y_1 n_y
  obtain ⟨x0, x1, -⟩ := blk_cells2 (unhide K_y).1
  obtain ⟨y0, y1, -⟩ := blk_cells2 (unhide K_b).1
  have X0 := hide x0; have X1 := hide x1; have Y0 := hide y0; have Y1 := hide y1
  go_wp2_with fail
  clear x0 x1 y0 y1
  go_region_held3 (fun W => Below w11.heap.size w11 W ∧ W.cell? ⟨w7.heap.size, 0, none⟩ = some (.slice aY nB cY) ∧ W.cell? ⟨w7.heap.size, 1, none⟩ = some (.int .i64 qB) ∧ W.cell? ⟨w.heap.size + 1, 0, none⟩ = some (.slice aB nB cB) ∧ W.cell? ⟨w.heap.size + 1, 1, none⟩ = some (.int .i64 qB))
    (first | (with_reducible exact keep4 (unhide K_y).2 (unhide K_y).2 (unhide K_b).2 (unhide K_b).2 (unhide X0) (unhide X1) (unhide Y0) (unhide Y1) (Below.refl _ _)) | (with_reducible exact keep4 (unhide K_y).2 (unhide K_y).2 (unhide K_b).2 (unhide K_b).2 (unhide X0) (unhide X1) (unhide Y0) (unhide Y1) ((Below.refl _ _).drew)) | (with_reducible exact keep4 (unhide K_y).2 (unhide K_y).2 (unhide K_b).2 (unhide K_b).2 (unhide X0) (unhide X1) (unhide Y0) (unhide Y1) (by assumption)))
    (first
      | (go_at_call 20; refine (totree_any aB nB cB sB qB _ (by omega) ?_).mono ?_; exact (unhide R_B).later (kb1 (by assumption)); rintro e w12 ⟨ta, tc, rfl, o1, b6⟩; have O5 := hide (o1.rw encN_len); clear o1; have b6k := kb2 (by assumption) b6; clear b6)
      | (go_at_call 14; refine (eqtree_same aY _ nB cY _ sB qB _ (by omega) ?_ (unhide O5)).mono ?_; exact ((unhide R_oY).rw encN_len).later (kb1 (by assumption)); rintro e w13 ⟨rfl, b7⟩; have b7k := kb2 (by assumption) b7; clear b7))
  have cw13 : Below w11.heap.size w11 w13 := b7k
  have zw13 := cw13.size
  clear X0 X1 Y0 Y1 b6k b7k O5
  have K_a := hide (keptblk cw13 K_a)
  have K_b := hide (keptblk cw13 K_b)
  have K_x := hide (keptblk cw13 K_x)
  have K_y := hide (keptblk cw13 K_y)
  have R_A := hide ((unhide R_A).later cw13)
  have R_B := hide ((unhide R_B).later cw13)
  have R_oW := hide ((unhide R_oW).later cw13)
  have R_oX := hide ((unhide R_oX).later cw13)
  have R_oY := hide ((unhide R_oY).later cw13)
  have R_oG := hide ((unhide R_oG).later cw13)
  have BL := hide ((unhide BL).trans (cw13.mono (unhide BL).size))
  clear cw13
  obtain ⟨a_0, a_1, -⟩ := blk_cells2 (unhide K_a).1
  have n_a := (unhide K_a).2
  obtain ⟨b_0, b_1, -⟩ := blk_cells2 (unhide K_b).1
  have n_b := (unhide K_b).2
  obtain ⟨x_0, x_1, -⟩ := blk_cells2 (unhide K_x).1
  have n_x := (unhide K_x).2
  obtain ⟨y_0, y_1, -⟩ := blk_cells2 (unhide K_y).1
  have n_y := (unhide K_y).2
  go_wp2_with fail
  refine (marktree_v _ aX nA cX _ qA 1 _ (by omega) (by omega) (by omega) (unhide R_oX)).mono ?_
  rintro e w14 ⟨rfl, o1, g1w⟩
  have t1 := Trn.of_grown g1w
  clear a_0 a_1 n_a b_0 b_1 n_b x_0 x_1 n_x y_0 y_1 n_y
  have zw14 := t1.size
  have K_a := hide (t1.kept K_a (fun q => by (first | (have := unhide L_oX _ q; omega) | (exact absurd q (by simp [Value.ownBlock])))))
  have K_b := hide (t1.kept K_b (fun q => by (first | (have := unhide L_oX _ q; omega) | (exact absurd q (by simp [Value.ownBlock])))))
  have K_x := hide (t1.kept K_x (fun q => by (first | (have := unhide L_oX _ q; omega) | (exact absurd q (by simp [Value.ownBlock])))))
  have K_y := hide (t1.kept K_y (fun q => by (first | (have := unhide L_oX _ q; omega) | (exact absurd q (by simp [Value.ownBlock])))))
  have R_oW := hide (t1.own (unhide R_oW) (fun i hi => fun q => by have := unhide L_oW _ hi; (first | (have := unhide L_oX _ q; omega) | (exact absurd q (by simp [Value.ownBlock])))))
  have R_oY := hide (t1.own (unhide R_oY) (fun i hi => fun q => by have := unhide L_oY _ hi; (first | (have := unhide L_oX _ q; omega) | (exact absurd q (by simp [Value.ownBlock])))))
  have R_oG := hide (t1.own (unhide R_oG) (fun i hi => fun q => by have := unhide L_oG _ hi; (first | (have := unhide L_oX _ q; omega) | (exact absurd q (by simp [Value.ownBlock])))))
  have BL := hide (Trn.below (unhide BL) t1 (unhide BL).size (fun i q => by (first | (have := unhide L_oX _ q; omega) | (exact absurd q (by simp [Value.ownBlock])))))
  have R_A := hide ((unhide O_A).later (unhide BL))
  have R_B := hide ((unhide O_B).later (unhide BL))
  have R_oX := hide o1
  clear o1 t1 g1w
  obtain ⟨a_0, a_1, -⟩ := blk_cells2 (unhide K_a).1
  have n_a := (unhide K_a).2
  obtain ⟨b_0, b_1, -⟩ := blk_cells2 (unhide K_b).1
  have n_b := (unhide K_b).2
  obtain ⟨x_0, x_1, -⟩ := blk_cells2 (unhide K_x).1
  have n_x := (unhide K_x).2
  obtain ⟨y_0, y_1, -⟩ := blk_cells2 (unhide K_y).1
  have n_y := (unhide K_y).2
  go_wp2_with fail
  refine (marktree_v _ aY nB cY _ qB (1 + (nA : Int)) _ (by omega) (by omega) (by omega) (unhide R_oY)).mono ?_
  rintro e w15 ⟨rfl, o1, g1w⟩
  have t1 := Trn.of_grown g1w
  clear a_0 a_1 n_a b_0 b_1 n_b x_0 x_1 n_x y_0 y_1 n_y
  have zw15 := t1.size
  have K_a := hide (t1.kept K_a (fun q => by (first | (have := unhide L_oY _ q; omega) | (exact absurd q (by simp [Value.ownBlock])))))
  have K_b := hide (t1.kept K_b (fun q => by (first | (have := unhide L_oY _ q; omega) | (exact absurd q (by simp [Value.ownBlock])))))
  have K_x := hide (t1.kept K_x (fun q => by (first | (have := unhide L_oY _ q; omega) | (exact absurd q (by simp [Value.ownBlock])))))
  have K_y := hide (t1.kept K_y (fun q => by (first | (have := unhide L_oY _ q; omega) | (exact absurd q (by simp [Value.ownBlock])))))
  have R_oW := hide (t1.own (unhide R_oW) (fun i hi => fun q => by have := unhide L_oW _ hi; (first | (have := unhide L_oY _ q; omega) | (exact absurd q (by simp [Value.ownBlock])))))
  have R_oX := hide (t1.own (unhide R_oX) (fun i hi => fun q => by have := unhide L_oX _ hi; (first | (have := unhide L_oY _ q; omega) | (exact absurd q (by simp [Value.ownBlock])))))
  have R_oG := hide (t1.own (unhide R_oG) (fun i hi => fun q => by have := unhide L_oG _ hi; (first | (have := unhide L_oY _ q; omega) | (exact absurd q (by simp [Value.ownBlock])))))
  have BL := hide (Trn.below (unhide BL) t1 (unhide BL).size (fun i q => by (first | (have := unhide L_oY _ q; omega) | (exact absurd q (by simp [Value.ownBlock])))))
  have R_A := hide ((unhide O_A).later (unhide BL))
  have R_B := hide ((unhide O_B).later (unhide BL))
  have R_oY := hide o1
  clear o1 t1 g1w
  obtain ⟨a_0, a_1, -⟩ := blk_cells2 (unhide K_a).1
  have n_a := (unhide K_a).2
  obtain ⟨b_0, b_1, -⟩ := blk_cells2 (unhide K_b).1
  have n_b := (unhide K_b).2
  obtain ⟨x_0, x_1, -⟩ := blk_cells2 (unhide K_x).1
  have n_x := (unhide K_x).2
  obtain ⟨y_0, y_1, -⟩ := blk_cells2 (unhide K_y).1
  have n_y := (unhide K_y).2
  have hq0 : decide ((1 : Int) + (nA : Int) + (nB : Int) < 0) = false := by simp; omega
  go_wp2_with fail
  refine (eqints_v ga wa n1 gc wc (dfL sA qA sB qB) _ (by omega) ((unhide R_oG).rw encN_len) ((unhide R_oW).rw encN_len)).mono ?_
  rintro e w16 ⟨rfl, b16⟩
  clear a_0 a_1 n_a b_0 b_1 n_b x_0 x_1 n_x y_0 y_1 n_y
  have cw16 := b16
  have zw16 := cw16.size
  have K_a := hide (keptblk cw16 K_a)
  have K_b := hide (keptblk cw16 K_b)
  have K_x := hide (keptblk cw16 K_x)
  have K_y := hide (keptblk cw16 K_y)
  have R_A := hide ((unhide R_A).later cw16)
  have R_B := hide ((unhide R_B).later cw16)
  have R_oW := hide ((unhide R_oW).later cw16)
  have R_oX := hide ((unhide R_oX).later cw16)
  have R_oY := hide ((unhide R_oY).later cw16)
  have R_oG := hide ((unhide R_oG).later cw16)
  have BL := hide ((unhide BL).trans (cw16.mono (unhide BL).size))
  clear b16 cw16
  obtain ⟨a_0, a_1, -⟩ := blk_cells2 (unhide K_a).1
  have n_a := (unhide K_a).2
  obtain ⟨b_0, b_1, -⟩ := blk_cells2 (unhide K_b).1
  have n_b := (unhide K_b).2
  obtain ⟨x_0, x_1, -⟩ := blk_cells2 (unhide K_x).1
  have n_x := (unhide K_x).2
  obtain ⟨y_0, y_1, -⟩ := blk_cells2 (unhide K_y).1
  have n_y := (unhide K_y).2
  go_wp2_with fail
  refine (markints_v _ ga n1 gc _ 1 _ (by omega) (by omega) (by omega) (unhide R_oG)).mono ?_
  rintro e w17 ⟨rfl, o1, g1w⟩
  have t1 := Trn.of_grown g1w
  clear a_0 a_1 n_a b_0 b_1 n_b x_0 x_1 n_x y_0 y_1 n_y
  have zw17 := t1.size
  have K_a := hide (t1.kept K_a (fun q => by (first | (have := unhide L_oG _ q; omega) | (exact absurd q (by simp [Value.ownBlock])))))
  have K_b := hide (t1.kept K_b (fun q => by (first | (have := unhide L_oG _ q; omega) | (exact absurd q (by simp [Value.ownBlock])))))
  have K_x := hide (t1.kept K_x (fun q => by (first | (have := unhide L_oG _ q; omega) | (exact absurd q (by simp [Value.ownBlock])))))
  have K_y := hide (t1.kept K_y (fun q => by (first | (have := unhide L_oG _ q; omega) | (exact absurd q (by simp [Value.ownBlock])))))
  have R_oW := hide (t1.own (unhide R_oW) (fun i hi => fun q => by have := unhide L_oW _ hi; (first | (have := unhide L_oG _ q; omega) | (exact absurd q (by simp [Value.ownBlock])))))
  have R_oX := hide (t1.own (unhide R_oX) (fun i hi => fun q => by have := unhide L_oX _ hi; (first | (have := unhide L_oG _ q; omega) | (exact absurd q (by simp [Value.ownBlock])))))
  have R_oY := hide (t1.own (unhide R_oY) (fun i hi => fun q => by have := unhide L_oY _ hi; (first | (have := unhide L_oG _ q; omega) | (exact absurd q (by simp [Value.ownBlock])))))
  have BL := hide (Trn.below (unhide BL) t1 (unhide BL).size (fun i q => by (first | (have := unhide L_oG _ q; omega) | (exact absurd q (by simp [Value.ownBlock])))))
  have R_A := hide ((unhide O_A).later (unhide BL))
  have R_B := hide ((unhide O_B).later (unhide BL))
  have R_oG := hide o1
  clear o1 t1 g1w
  obtain ⟨a_0, a_1, -⟩ := blk_cells2 (unhide K_a).1
  have n_a := (unhide K_a).2
  obtain ⟨b_0, b_1, -⟩ := blk_cells2 (unhide K_b).1
  have n_b := (unhide K_b).2
  obtain ⟨x_0, x_1, -⟩ := blk_cells2 (unhide K_x).1
  have n_x := (unhide K_x).2
  obtain ⟨y_0, y_1, -⟩ := blk_cells2 (unhide K_y).1
  have n_y := (unhide K_y).2
  go_wp2_with fail
  refine (heldints_w ga n1 gc 1 _ (by omega) (by omega) (by omega) ((unhide R_oG).rw encN_len)).mono ?_
  rintro e w18 ⟨rfl, b18⟩
  clear a_0 a_1 n_a b_0 b_1 n_b x_0 x_1 n_x y_0 y_1 n_y
  have cw18 := b18
  have zw18 := cw18.size
  have K_a := hide (keptblk cw18 K_a)
  have K_b := hide (keptblk cw18 K_b)
  have K_x := hide (keptblk cw18 K_x)
  have K_y := hide (keptblk cw18 K_y)
  have R_A := hide ((unhide R_A).later cw18)
  have R_B := hide ((unhide R_B).later cw18)
  have R_oW := hide ((unhide R_oW).later cw18)
  have R_oX := hide ((unhide R_oX).later cw18)
  have R_oY := hide ((unhide R_oY).later cw18)
  have R_oG := hide ((unhide R_oG).later cw18)
  have BL := hide ((unhide BL).trans (cw18.mono (unhide BL).size))
  clear b18 cw18
  obtain ⟨a_0, a_1, -⟩ := blk_cells2 (unhide K_a).1
  have n_a := (unhide K_a).2
  obtain ⟨b_0, b_1, -⟩ := blk_cells2 (unhide K_b).1
  have n_b := (unhide K_b).2
  obtain ⟨x_0, x_1, -⟩ := blk_cells2 (unhide K_x).1
  have n_x := (unhide K_x).2
  obtain ⟨y_0, y_1, -⟩ := blk_cells2 (unhide K_y).1
  have n_y := (unhide K_y).2
  have hq1 : decide ((1 : Int) + (n1 : Int) < 0) = false := by simp; omega
  have hq2 : ((1 : Int) + (n1 : Int) != 1 + (n1 : Int)) = false := by simp
  clear a_0 a_1 n_a b_0 b_1 n_b x_0 x_1 n_x y_0 y_1 n_y
  obtain ⟨x0, x1, -⟩ := blk_cells2 (unhide K_a).1
  obtain ⟨y0, y1, -⟩ := blk_cells2 (unhide K_b).1
  have X0 := hide x0; have X1 := hide x1; have Y0 := hide y0; have Y1 := hide y1
  go_wp2_with fail
  clear x0 x1 y0 y1
  go_region_held3 (fun W => Below w18.heap.size w18 W ∧ W.cell? ⟨w.heap.size, 0, none⟩ = some (.slice aA nA cA) ∧ W.cell? ⟨w.heap.size, 1, none⟩ = some (.int .i64 qA) ∧ W.cell? ⟨w.heap.size + 1, 0, none⟩ = some (.slice aB nB cB) ∧ W.cell? ⟨w.heap.size + 1, 1, none⟩ = some (.int .i64 qB))
    (first | (with_reducible exact keep4 (unhide K_a).2 (unhide K_a).2 (unhide K_b).2 (unhide K_b).2 (unhide X0) (unhide X1) (unhide Y0) (unhide Y1) (Below.refl _ _)) | (with_reducible exact keep4 (unhide K_a).2 (unhide K_a).2 (unhide K_b).2 (unhide K_b).2 (unhide X0) (unhide X1) (unhide Y0) (unhide Y1) ((Below.refl _ _).drew)) | (with_reducible exact keep4 (unhide K_a).2 (unhide K_a).2 (unhide K_b).2 (unhide K_b).2 (unhide X0) (unhide X1) (unhide Y0) (unhide Y1) (by assumption)))
    (first
      | (go_at_call_of 20 (Value.agg #[Value.slice aA nA cA, Value.int IntKind.i64 qA]); refine (totree_any aA nA cA sA qA _ (by omega) ?_).mono ?_; exact (unhide R_A).later (kb1 (by assumption)); rintro e w19 ⟨ta1, tc1, rfl, o1, b6⟩; have R_t1 := hide (o1.rw encN_len); clear o1; have bw19 := kb2 (by assumption) b6; clear b6)
      | (go_at_call_of 20 (Value.agg #[Value.slice aB nB cB, Value.int IntKind.i64 qB]); refine (totree_any aB nB cB sB qB _ (by omega) ?_).mono ?_; exact (unhide R_B).later (kb1 (by assumption)); rintro e w20 ⟨ta2, tc2, rfl, o1, b6⟩; have R_t2 := hide (o1.rw encN_len); clear o1; have R_t1 := hide ((unhide R_t1).later b6); have bw20 := kb2 (by assumption) b6; clear b6)
      | (go_at_call 23; refine (idiffer_v ta1 nA tc1 sA qA ta2 nB tc2 sB qB n1 HN1 _ (by omega) (by omega) (unhide R_t1) (unhide R_t2)).mono ?_; rintro e w21 ⟨ha, hc, rfl, o1, b8⟩; have R_oH := hide (o1); have bw21 := kb2 (by assumption) b8; clear b8))
  have cw21 : Below w18.heap.size w18 w21 := bw21
  have zw21 := cw21.size
  have L_oH := hide (World.ownsRow.lt (unhide R_oH))
  clear X0 X1 Y0 Y1 bw19 bw20 bw21 R_t1 R_t2
  have K_a := hide (keptblk cw21 K_a)
  have K_b := hide (keptblk cw21 K_b)
  have K_x := hide (keptblk cw21 K_x)
  have K_y := hide (keptblk cw21 K_y)
  have R_A := hide ((unhide R_A).later cw21)
  have R_B := hide ((unhide R_B).later cw21)
  have R_oW := hide ((unhide R_oW).later cw21)
  have R_oX := hide ((unhide R_oX).later cw21)
  have R_oY := hide ((unhide R_oY).later cw21)
  have R_oG := hide ((unhide R_oG).later cw21)
  have BL := hide ((unhide BL).trans (cw21.mono (unhide BL).size))
  clear cw21
  obtain ⟨a_0, a_1, -⟩ := blk_cells2 (unhide K_a).1
  have n_a := (unhide K_a).2
  obtain ⟨b_0, b_1, -⟩ := blk_cells2 (unhide K_b).1
  have n_b := (unhide K_b).2
  obtain ⟨x_0, x_1, -⟩ := blk_cells2 (unhide K_x).1
  have n_x := (unhide K_x).2
  obtain ⟨y_0, y_1, -⟩ := blk_cells2 (unhide K_y).1
  have n_y := (unhide K_y).2
  go_wp2_with fail
  refine (eqints_v ha wa n1 hc wc (dfL sA qA sB qB) _ (by omega) ((unhide R_oH).rw encN_len) ((unhide R_oW).rw encN_len)).mono ?_
  rintro e w22 ⟨rfl, b22⟩
  clear a_0 a_1 n_a b_0 b_1 n_b x_0 x_1 n_x y_0 y_1 n_y
  have cw22 := b22
  have zw22 := cw22.size
  have K_a := hide (keptblk cw22 K_a)
  have K_b := hide (keptblk cw22 K_b)
  have K_x := hide (keptblk cw22 K_x)
  have K_y := hide (keptblk cw22 K_y)
  have R_A := hide ((unhide R_A).later cw22)
  have R_B := hide ((unhide R_B).later cw22)
  have R_oW := hide ((unhide R_oW).later cw22)
  have R_oX := hide ((unhide R_oX).later cw22)
  have R_oY := hide ((unhide R_oY).later cw22)
  have R_oG := hide ((unhide R_oG).later cw22)
  have R_oH := hide ((unhide R_oH).later cw22)
  have BL := hide ((unhide BL).trans (cw22.mono (unhide BL).size))
  clear b22 cw22
  obtain ⟨a_0, a_1, -⟩ := blk_cells2 (unhide K_a).1
  have n_a := (unhide K_a).2
  obtain ⟨b_0, b_1, -⟩ := blk_cells2 (unhide K_b).1
  have n_b := (unhide K_b).2
  obtain ⟨x_0, x_1, -⟩ := blk_cells2 (unhide K_x).1
  have n_x := (unhide K_x).2
  obtain ⟨y_0, y_1, -⟩ := blk_cells2 (unhide K_y).1
  have n_y := (unhide K_y).2
  go_wp2_with fail
  refine (heldints_w ga n1 gc 1 _ (by omega) (by omega) (by omega) ((unhide R_oG).rw encN_len)).mono ?_
  rintro e w23 ⟨rfl, b23⟩
  clear a_0 a_1 n_a b_0 b_1 n_b x_0 x_1 n_x y_0 y_1 n_y
  have cw23 := b23
  have zw23 := cw23.size
  have K_a := hide (keptblk cw23 K_a)
  have K_b := hide (keptblk cw23 K_b)
  have K_x := hide (keptblk cw23 K_x)
  have K_y := hide (keptblk cw23 K_y)
  have R_A := hide ((unhide R_A).later cw23)
  have R_B := hide ((unhide R_B).later cw23)
  have R_oW := hide ((unhide R_oW).later cw23)
  have R_oX := hide ((unhide R_oX).later cw23)
  have R_oY := hide ((unhide R_oY).later cw23)
  have R_oG := hide ((unhide R_oG).later cw23)
  have R_oH := hide ((unhide R_oH).later cw23)
  have BL := hide ((unhide BL).trans (cw23.mono (unhide BL).size))
  clear b23 cw23
  obtain ⟨a_0, a_1, -⟩ := blk_cells2 (unhide K_a).1
  have n_a := (unhide K_a).2
  obtain ⟨b_0, b_1, -⟩ := blk_cells2 (unhide K_b).1
  have n_b := (unhide K_b).2
  obtain ⟨x_0, x_1, -⟩ := blk_cells2 (unhide K_x).1
  have n_x := (unhide K_x).2
  obtain ⟨y_0, y_1, -⟩ := blk_cells2 (unhide K_y).1
  have n_y := (unhide K_y).2
  go_wp2
  go_ret
  exact ⟨rfl, unhide BL⟩

set_option maxHeartbeats 4000000 in
set_option maxRecDepth 100000 in
theorem lifted (os : Os) (started : os.Started) (H : Type) (enc : TypeId × Value → H) :
    ReturnsInHanded {} Try.checked os 6 .any (Rows.fnExactDifferSpec.pre6 enc Try.prog Try.f6 Rows.fnExactDifferRow.domain false) (Rows.fnExactDifferSpec.post enc Try.prog Try.f6 false true false false) := by
  refine returnsInHanded_of_change (C := Try.checked) own started (by kernel_rfl) Try.func6
    (ChangeSpec.witness6 (enc := enc) (C := Try.checked) false ⟨#[], #[.agg #[.slice none 0 0, .int .i64 0], .agg #[.slice none 0 0, .int .i64 0]], []⟩ 8 (by kernel_rfl) (by kernel_rfl) (by kernel_rfl) (by kernel_rfl)) ?_
  intro W base args ds gs before hval0 hW hcnd _
  have hval : ∀ (j : Nat) t v, Try.f6.params[j]? = some t → args[j]? = some v → Value.okWide Try.prog W .any base t v := hval0
  have hW' := hW
  obtain ⟨p, q, hA0, hV, rfl, hfz, hnd⟩ := hW
  have hA : DataW.TrodAll enc Try.prog W 0 (fun _ => true) true Try.f6.params.toList args.toList ds p := hA0
  rw [Try.params6] at hA hval
  obtain ⟨v0, vs0, d0, ds0, p0, q0, hargs0, rfl, rfl, h0, r0⟩ := trodAll_cons hA
  obtain ⟨v1, vs1, d1, ds1, p1, q1, hargs1, rfl, rfl, h1, r1⟩ := trodAll_cons r0
  obtain ⟨rfl, rfl, rfl⟩ := trodAll_nil r1
  obtain rfl : args = #[v0, v1] := by cases args; simp_all
  obtain ⟨rfl, rfl⟩ := trodVars_none hV
  have k0 := h0
  have lt0 : ∀ x ∈ p0, x.block < W.heap.size := by obtain ⟨m, hm⟩ := k0; exact DataW.trod_lt m _ _ _ hm
  have k1 := h1
  have lt1 : ∀ x ∈ p1, x.block < W.heap.size := by obtain ⟨m, hm⟩ := k1; exact DataW.trod_lt m _ _ _ hm
  obtain ⟨Aa, An, Ac, As, Aq, rfl, Ah1, Ah2, Ah3, Ah4⟩ := open_tree (hval 0 42 v0 rfl rfl) h0
  obtain ⟨Ba, Bn, Bc, Bs, Bq, rfl, Bh1, Bh2, Bh3, Bh4⟩ := open_tree (hval 1 42 v1 rfl rfl) h1
  clear hA0 hval0
  refine (walk W Aa An Ac As Aq Ah1 Ah2 Ah3 Ah4 Ba Bn Bc Bs Bq Bh1 Bh2 Bh3 Bh4).mono fun e W' ⟨he, bel⟩ => ?_
  subst he
  exact ⟨_, rfl, _, _, _, [], _, [], hW', trodAll_mk1 (shut_bool Try.underlying4 _), (trodAll_cons_mk (Below.trod laidOut (by kernel_rfl) (of_decide_eq_true (by kernel_rfl)) k0 bel lt0) (trodAll_cons_mk (Below.trod laidOut (by kernel_rfl) (of_decide_eq_true (by kernel_rfl)) k1 bel lt1) trodAll_mk0)), rfl, bel.frame _, fun h => by cases h⟩

theorem over : Rows.fnExactDifferRow.holds Try.pinned (OpenSpec.ofChange Rows.fnExactDifferSpec) :=
  OpenClaim.holds_of_wide 6 Try.f6 rfl rfl rfl rfl rfl rfl rfl ⟨rfl, rfl, rfl, rfl, rfl⟩ rfl rfl rfl rfl rfl (by kernel_rfl) Try.func6 (by kernel_rfl)
    (of_decide_eq_true (by kernel_rfl)) (by unfold Func.isWrapper; first | (rw [if_pos (by decide +kernel)]; kernel_rfl) | (rw [if_neg (by decide +kernel)]; exact ⟨rfl, rfl⟩))
    (fun os started H enc _ => lifted os started H enc)

theorem proved : Rows.FnExactDifferSaid := over
#print axioms proved
end Go.Proofs.Ytohfbahfnbganab.fnExactDiffer
namespace Go.Proofs.Ytohfbahfnbganab
theorem fnExactDiffer_holds : Rows.FnExactDifferSaid := fnExactDiffer.proved
end Go.Proofs.Ytohfbahfnbganab
