/-
  At every argument VecMax answers as its model, writes into no argument, and its answer owns its memory. No conditions but the statement's own.
-/
import Derived.Test.YtdjoobcbnaelnaaRows
import Derived.Test.YtdjoobcbnaelnaaVcC
import Derived.Test.YtdjoobcbnaelnaaIntO
import Derived.Test.YtdjoobcbnaelnaaTrn
import Derived.WalkKit
import Derived.ProofKit
import Derived.OpenShut
import Derived.ShutString
import Derived.ChangeOld
import Derived.Below
import Derived.Carry
namespace Go.Proofs.Ytdjoobcbnaelnaa.fnExactVecMax
open Go.ChangeShapes Go.WideShapes Go.ChangeAt Go.RowKit
open Go.ChangeMaps (open_string shut_string)

theorem own : ownKnob Try.prog.godebug = none := by kernel_rfl
theorem laidOut : laidOutB Try.prog = true := by kernel_rfl

theorem vecmax_v {f : FuncId} {args : Array Value} {w : World} {r : List Int} {n : Nat} (h : Calls Try.prog f args w fun e w' => ∃ a1 n1 c1, e = .returned (.slice a1 n1 c1) ∧ OwN w.heap.size w' (.slice a1 n1 c1) r ∧ Below w.heap.size w w') (hn : Hid (r.length = n)) :
    Calls Try.prog f args w fun e w' => ∃ a1 c1, e = .returned (.slice a1 n c1) ∧ OwN w.heap.size w' (.slice a1 n c1) r ∧ Below w.heap.size w w' := by
  refine h.mono ?_
  rintro e w1 ⟨a1, n1, c1, rfl, o1, b1⟩
  obtain rfl : n1 = n := ((o1.rw encN_len).len.1).trans (unhide hn)
  exact ⟨a1, c1, rfl, o1, b1⟩
theorem Calls.still {P : Program} {f : FuncId} {args : Array Value} {w : World} {v : Value} (h : Calls P f args w fun e w' => e = .returned v ∧ w = w') : Calls P f args w fun e w' => e = .returned v ∧ Below w.heap.size w w' := by
  refine h.mono ?_
  rintro e _ ⟨rfl, rfl⟩
  exact ⟨rfl, Below.refl _ _⟩
set_option maxHeartbeats 4000000 in
set_option maxRecDepth 100000 in
theorem walk (w : World) (xa : Option Addr) (xn xc : Nat) (xs : List Int) (xh1 : xn ≤ 9223372036854775807) (xh2 : RwN w (.slice xa xn xc) xs) (_ : FitNs xs) (ya : Option Addr) (yn yc : Nat) (ys : List Int) (yh1 : yn ≤ 9223372036854775807) (yh2 : RwN w (.slice ya yn yc) ys) (_ : FitNs ys) :
    Calls Try.prog 5 #[.slice xa xn xc, .slice ya yn yc] w fun e w' => e = .returned (.bool true) ∧ Below w.heap.size w w' := by
  obtain ⟨n1, hn1⟩ : ∃ n, n = max xn yn := ⟨_, rfl⟩
  have HN1 : Hid ((vm xs ys).length = n1) := hide (by rw [vm_len, hn1, xh2.len.1, yh2.len.1])
  have R_x := hide xh2
  have O_x := R_x
  clear xh2
  have R_y := hide yh2
  have O_y := R_y
  clear yh2
  by_cases hbx : 1048576 < xn
  · have hdx : decide (1048576 < (xn : Int)) = true := by simp; omega
    go_enter Try.func5, Try.ntmps5
    go_wp2
    go_ret
    exact ⟨rfl, Below.refl _ _⟩
  have hdx : decide (1048576 < (xn : Int)) = false := by simp; omega
  by_cases hby : 1048576 < yn
  · have hdy : decide (1048576 < (yn : Int)) = true := by simp; omega
    go_enter Try.func5, Try.ntmps5
    go_wp2
    go_ret
    exact ⟨rfl, Below.refl _ _⟩
  have hdy : decide (1048576 < (yn : Int)) = false := by simp; omega
  have hn2 : n1 ≤ 1048576 := by omega
  clear hn1
  go_enter Try.func5, Try.ntmps5
  go_wp2_with fail
  refine (toints_v xa xn xc xs _ (by omega) (unhide R_x)).mono ?_
  rintro e w1 ⟨Pa, Pc, rfl, o1, b1⟩
  have cw1 := b1
  have zw1 := cw1.size
  have R_x := hide ((unhide R_x).later cw1)
  have R_y := hide ((unhide R_y).later cw1)
  have BL := hide cw1
  have R_oP := hide (o1)
  have L_oP := hide (World.ownsRow.lt (unhide R_oP))
  clear b1 cw1
  clear o1
  go_wp2_with fail
  refine (toints_v ya yn yc ys _ (by omega) (unhide R_y)).mono ?_
  rintro e w2 ⟨Qa, Qc, rfl, o1, b2⟩
  have cw2 := b2
  have zw2 := cw2.size
  have R_x := hide ((unhide R_x).later cw2)
  have R_y := hide ((unhide R_y).later cw2)
  have R_oP := hide ((unhide R_oP).later cw2)
  have BL := hide ((unhide BL).trans (cw2.mono (unhide BL).size))
  have R_oQ := hide (o1)
  have L_oQ := hide (World.ownsRow.lt (unhide R_oQ))
  clear b2 cw2
  clear o1
  go_wp2_with fail
  refine (vecmax_v (svecmax_any Pa xn Pc xs Qa yn Qc ys _ (by omega) (by omega) ((unhide R_oP).rw encN_len) ((unhide R_oQ).rw encN_len)) HN1).mono ?_
  rintro e w3 ⟨Wa, Wc, rfl, o1, b3⟩
  have cw3 := b3
  have zw3 := cw3.size
  have R_x := hide ((unhide R_x).later cw3)
  have R_y := hide ((unhide R_y).later cw3)
  have R_oP := hide ((unhide R_oP).later cw3)
  have R_oQ := hide ((unhide R_oQ).later cw3)
  have BL := hide ((unhide BL).trans (cw3.mono (unhide BL).size))
  have R_oW := hide (o1)
  have L_oW := hide (World.ownsRow.lt (unhide R_oW))
  clear b3 cw3
  clear o1
  go_wp2_with fail
  refine (toints_v xa xn xc xs _ (by omega) (unhide R_x)).mono ?_
  rintro e w4 ⟨Xa, Xc, rfl, o1, b4⟩
  have cw4 := b4
  have zw4 := cw4.size
  have R_x := hide ((unhide R_x).later cw4)
  have R_y := hide ((unhide R_y).later cw4)
  have R_oP := hide ((unhide R_oP).later cw4)
  have R_oQ := hide ((unhide R_oQ).later cw4)
  have R_oW := hide ((unhide R_oW).later cw4)
  have BL := hide ((unhide BL).trans (cw4.mono (unhide BL).size))
  have R_oX := hide (o1)
  have L_oX := hide (World.ownsRow.lt (unhide R_oX))
  clear b4 cw4
  clear o1
  go_wp2_with fail
  refine (toints_v ya yn yc ys _ (by omega) (unhide R_y)).mono ?_
  rintro e w5 ⟨Ya, Yc, rfl, o1, b5⟩
  have cw5 := b5
  have zw5 := cw5.size
  have R_x := hide ((unhide R_x).later cw5)
  have R_y := hide ((unhide R_y).later cw5)
  have R_oP := hide ((unhide R_oP).later cw5)
  have R_oQ := hide ((unhide R_oQ).later cw5)
  have R_oW := hide ((unhide R_oW).later cw5)
  have R_oX := hide ((unhide R_oX).later cw5)
  have BL := hide ((unhide BL).trans (cw5.mono (unhide BL).size))
  have R_oY := hide (o1)
  have L_oY := hide (World.ownsRow.lt (unhide R_oY))
  clear b5 cw5
  clear o1
  go_wp2_with fail
  refine (vecmax_v (ivecmax_any Xa xn Xc xs Ya yn Yc ys _ (by omega) (by omega) ((unhide R_oX).rw encN_len) ((unhide R_oY).rw encN_len)) HN1).mono ?_
  rintro e w6 ⟨Ga, Gc, rfl, o1, b6⟩
  have cw6 := b6
  have zw6 := cw6.size
  have R_x := hide ((unhide R_x).later cw6)
  have R_y := hide ((unhide R_y).later cw6)
  have R_oP := hide ((unhide R_oP).later cw6)
  have R_oQ := hide ((unhide R_oQ).later cw6)
  have R_oW := hide ((unhide R_oW).later cw6)
  have R_oX := hide ((unhide R_oX).later cw6)
  have R_oY := hide ((unhide R_oY).later cw6)
  have BL := hide ((unhide BL).trans (cw6.mono (unhide BL).size))
  have R_oG := hide (o1)
  have L_oG := hide (World.ownsRow.lt (unhide R_oG))
  clear b6 cw6
  clear o1
  go_wp2_with fail
  refine (eqints_v Ga Wa n1 Gc Wc (vm xs ys) _ (by omega) ((unhide R_oG).rw encN_len) ((unhide R_oW).rw encN_len)).mono ?_
  rintro e w7 ⟨rfl, b7⟩
  have cw7 := b7
  have zw7 := cw7.size
  have R_x := hide ((unhide R_x).later cw7)
  have R_y := hide ((unhide R_y).later cw7)
  have R_oP := hide ((unhide R_oP).later cw7)
  have R_oQ := hide ((unhide R_oQ).later cw7)
  have R_oW := hide ((unhide R_oW).later cw7)
  have R_oX := hide ((unhide R_oX).later cw7)
  have R_oY := hide ((unhide R_oY).later cw7)
  have R_oG := hide ((unhide R_oG).later cw7)
  have BL := hide ((unhide BL).trans (cw7.mono (unhide BL).size))
  clear b7 cw7
  go_wp2_with fail
  refine (toints_v xa xn xc xs _ (by omega) (unhide R_x)).mono ?_
  rintro e w8 ⟨Ua, Uc, rfl, o1, b8⟩
  have cw8 := b8
  have zw8 := cw8.size
  have R_x := hide ((unhide R_x).later cw8)
  have R_y := hide ((unhide R_y).later cw8)
  have R_oP := hide ((unhide R_oP).later cw8)
  have R_oQ := hide ((unhide R_oQ).later cw8)
  have R_oW := hide ((unhide R_oW).later cw8)
  have R_oX := hide ((unhide R_oX).later cw8)
  have R_oY := hide ((unhide R_oY).later cw8)
  have R_oG := hide ((unhide R_oG).later cw8)
  have BL := hide ((unhide BL).trans (cw8.mono (unhide BL).size))
  have R_oU := hide (o1)
  have L_oU := hide (World.ownsRow.lt (unhide R_oU))
  clear b8 cw8
  clear o1
  go_wp2_with fail
  refine (eqints_v Xa Ua xn Xc Uc xs _ (by omega) ((unhide R_oX).rw encN_len) ((unhide R_oU).rw encN_len)).mono ?_
  rintro e w9 ⟨rfl, b9⟩
  have cw9 := b9
  have zw9 := cw9.size
  have R_x := hide ((unhide R_x).later cw9)
  have R_y := hide ((unhide R_y).later cw9)
  have R_oP := hide ((unhide R_oP).later cw9)
  have R_oQ := hide ((unhide R_oQ).later cw9)
  have R_oW := hide ((unhide R_oW).later cw9)
  have R_oX := hide ((unhide R_oX).later cw9)
  have R_oY := hide ((unhide R_oY).later cw9)
  have R_oG := hide ((unhide R_oG).later cw9)
  clear R_oU
  have BL := hide ((unhide BL).trans (cw9.mono (unhide BL).size))
  clear b9 cw9
  go_wp2_with fail
  refine (toints_v ya yn yc ys _ (by omega) (unhide R_y)).mono ?_
  rintro e w10 ⟨Va, Vc, rfl, o1, b10⟩
  have cw10 := b10
  have zw10 := cw10.size
  have R_x := hide ((unhide R_x).later cw10)
  have R_y := hide ((unhide R_y).later cw10)
  have R_oP := hide ((unhide R_oP).later cw10)
  have R_oQ := hide ((unhide R_oQ).later cw10)
  have R_oW := hide ((unhide R_oW).later cw10)
  have R_oX := hide ((unhide R_oX).later cw10)
  have R_oY := hide ((unhide R_oY).later cw10)
  have R_oG := hide ((unhide R_oG).later cw10)
  have BL := hide ((unhide BL).trans (cw10.mono (unhide BL).size))
  have R_oV := hide (o1)
  have L_oV := hide (World.ownsRow.lt (unhide R_oV))
  clear b10 cw10
  clear o1
  go_wp2_with fail
  refine (eqints_v Ya Va yn Yc Vc ys _ (by omega) ((unhide R_oY).rw encN_len) ((unhide R_oV).rw encN_len)).mono ?_
  rintro e w11 ⟨rfl, b11⟩
  have cw11 := b11
  have zw11 := cw11.size
  have R_x := hide ((unhide R_x).later cw11)
  have R_y := hide ((unhide R_y).later cw11)
  have R_oP := hide ((unhide R_oP).later cw11)
  have R_oQ := hide ((unhide R_oQ).later cw11)
  have R_oW := hide ((unhide R_oW).later cw11)
  have R_oX := hide ((unhide R_oX).later cw11)
  have R_oY := hide ((unhide R_oY).later cw11)
  have R_oG := hide ((unhide R_oG).later cw11)
  clear R_oV
  have BL := hide ((unhide BL).trans (cw11.mono (unhide BL).size))
  clear b11 cw11
  go_wp2_with fail
  refine (markints_v _ Xa xn Xc _ 1 _ (by omega) (by omega) (by omega) (unhide R_oX)).mono ?_
  rintro e w12 ⟨rfl, o1, g1w⟩
  have t1 := Trn.of_grown g1w
  have zw12 := t1.size
  have R_oP := hide (t1.own (unhide R_oP) (fun i hi => fun q => by have := unhide L_oP _ hi; (first | (have := unhide L_oX _ q; omega) | (exact absurd q (by simp [Value.ownBlock])))))
  have R_oQ := hide (t1.own (unhide R_oQ) (fun i hi => fun q => by have := unhide L_oQ _ hi; (first | (have := unhide L_oX _ q; omega) | (exact absurd q (by simp [Value.ownBlock])))))
  have R_oW := hide (t1.own (unhide R_oW) (fun i hi => fun q => by have := unhide L_oW _ hi; (first | (have := unhide L_oX _ q; omega) | (exact absurd q (by simp [Value.ownBlock])))))
  have R_oY := hide (t1.own (unhide R_oY) (fun i hi => fun q => by have := unhide L_oY _ hi; (first | (have := unhide L_oX _ q; omega) | (exact absurd q (by simp [Value.ownBlock])))))
  have R_oG := hide (t1.own (unhide R_oG) (fun i hi => fun q => by have := unhide L_oG _ hi; (first | (have := unhide L_oX _ q; omega) | (exact absurd q (by simp [Value.ownBlock])))))
  have BL := hide (Trn.below (unhide BL) t1 (unhide BL).size (fun i q => by (first | (have := unhide L_oX _ q; omega) | (exact absurd q (by simp [Value.ownBlock])))))
  have R_x := hide ((unhide O_x).later (unhide BL))
  have R_y := hide ((unhide O_y).later (unhide BL))
  have R_oX := hide o1
  clear o1 t1 g1w
  go_wp2_with fail
  refine (markints_v _ Ya yn Yc _ (1 + (xn : Int)) _ (by omega) (by omega) (by omega) (unhide R_oY)).mono ?_
  rintro e w13 ⟨rfl, o1, g1w⟩
  have t1 := Trn.of_grown g1w
  have zw13 := t1.size
  have R_oP := hide (t1.own (unhide R_oP) (fun i hi => fun q => by have := unhide L_oP _ hi; (first | (have := unhide L_oY _ q; omega) | (exact absurd q (by simp [Value.ownBlock])))))
  have R_oQ := hide (t1.own (unhide R_oQ) (fun i hi => fun q => by have := unhide L_oQ _ hi; (first | (have := unhide L_oY _ q; omega) | (exact absurd q (by simp [Value.ownBlock])))))
  have R_oW := hide (t1.own (unhide R_oW) (fun i hi => fun q => by have := unhide L_oW _ hi; (first | (have := unhide L_oY _ q; omega) | (exact absurd q (by simp [Value.ownBlock])))))
  have R_oX := hide (t1.own (unhide R_oX) (fun i hi => fun q => by have := unhide L_oX _ hi; (first | (have := unhide L_oY _ q; omega) | (exact absurd q (by simp [Value.ownBlock])))))
  have R_oG := hide (t1.own (unhide R_oG) (fun i hi => fun q => by have := unhide L_oG _ hi; (first | (have := unhide L_oY _ q; omega) | (exact absurd q (by simp [Value.ownBlock])))))
  have BL := hide (Trn.below (unhide BL) t1 (unhide BL).size (fun i q => by (first | (have := unhide L_oY _ q; omega) | (exact absurd q (by simp [Value.ownBlock])))))
  have R_x := hide ((unhide O_x).later (unhide BL))
  have R_y := hide ((unhide O_y).later (unhide BL))
  have R_oY := hide o1
  clear o1 t1 g1w
  have hq0 : decide ((1 : Int) + (xn : Int) + (yn : Int) < 0) = false := by simp; omega
  go_wp2_with fail
  refine (eqints_v Ga Wa n1 Gc Wc (vm xs ys) _ (by omega) ((unhide R_oG).rw encN_len) ((unhide R_oW).rw encN_len)).mono ?_
  rintro e w14 ⟨rfl, b14⟩
  have cw14 := b14
  have zw14 := cw14.size
  have R_x := hide ((unhide R_x).later cw14)
  have R_y := hide ((unhide R_y).later cw14)
  have R_oP := hide ((unhide R_oP).later cw14)
  have R_oQ := hide ((unhide R_oQ).later cw14)
  have R_oW := hide ((unhide R_oW).later cw14)
  have R_oX := hide ((unhide R_oX).later cw14)
  have R_oY := hide ((unhide R_oY).later cw14)
  have R_oG := hide ((unhide R_oG).later cw14)
  have BL := hide ((unhide BL).trans (cw14.mono (unhide BL).size))
  clear b14 cw14
  go_wp2_with fail
  refine (markints_v _ Ga n1 Gc _ 1 _ (by omega) (by omega) (by omega) (unhide R_oG)).mono ?_
  rintro e w15 ⟨rfl, o1, g1w⟩
  have t1 := Trn.of_grown g1w
  have zw15 := t1.size
  have R_oP := hide (t1.own (unhide R_oP) (fun i hi => fun q => by have := unhide L_oP _ hi; (first | (have := unhide L_oG _ q; omega) | (exact absurd q (by simp [Value.ownBlock])))))
  have R_oQ := hide (t1.own (unhide R_oQ) (fun i hi => fun q => by have := unhide L_oQ _ hi; (first | (have := unhide L_oG _ q; omega) | (exact absurd q (by simp [Value.ownBlock])))))
  have R_oW := hide (t1.own (unhide R_oW) (fun i hi => fun q => by have := unhide L_oW _ hi; (first | (have := unhide L_oG _ q; omega) | (exact absurd q (by simp [Value.ownBlock])))))
  have R_oX := hide (t1.own (unhide R_oX) (fun i hi => fun q => by have := unhide L_oX _ hi; (first | (have := unhide L_oG _ q; omega) | (exact absurd q (by simp [Value.ownBlock])))))
  have R_oY := hide (t1.own (unhide R_oY) (fun i hi => fun q => by have := unhide L_oY _ hi; (first | (have := unhide L_oG _ q; omega) | (exact absurd q (by simp [Value.ownBlock])))))
  have BL := hide (Trn.below (unhide BL) t1 (unhide BL).size (fun i q => by (first | (have := unhide L_oG _ q; omega) | (exact absurd q (by simp [Value.ownBlock])))))
  have R_x := hide ((unhide O_x).later (unhide BL))
  have R_y := hide ((unhide O_y).later (unhide BL))
  have R_oG := hide o1
  clear o1 t1 g1w
  go_wp2_with fail
  refine (Calls.still (heldints_v Ga n1 Gc 1 _ (by omega) (by omega) (by omega) ((unhide R_oG).rw encN_len))).mono ?_
  rintro e w16 ⟨rfl, b16⟩
  have cw16 := b16
  have zw16 := cw16.size
  have R_x := hide ((unhide R_x).later cw16)
  have R_y := hide ((unhide R_y).later cw16)
  have R_oP := hide ((unhide R_oP).later cw16)
  have R_oQ := hide ((unhide R_oQ).later cw16)
  have R_oW := hide ((unhide R_oW).later cw16)
  have R_oX := hide ((unhide R_oX).later cw16)
  have R_oY := hide ((unhide R_oY).later cw16)
  have R_oG := hide ((unhide R_oG).later cw16)
  have BL := hide ((unhide BL).trans (cw16.mono (unhide BL).size))
  clear b16 cw16
  have hq1 : decide ((1 : Int) + (n1 : Int) < 0) = false := by simp; omega
  have hq2 : ((1 : Int) + (n1 : Int) != 1 + (n1 : Int)) = false := by simp
  go_wp2_with fail
  refine (toints_v xa xn xc xs _ (by omega) (unhide R_x)).mono ?_
  rintro e w17 ⟨Ja, Jc, rfl, o1, b17⟩
  have cw17 := b17
  have zw17 := cw17.size
  have R_x := hide ((unhide R_x).later cw17)
  have R_y := hide ((unhide R_y).later cw17)
  have R_oP := hide ((unhide R_oP).later cw17)
  have R_oQ := hide ((unhide R_oQ).later cw17)
  have R_oW := hide ((unhide R_oW).later cw17)
  have R_oX := hide ((unhide R_oX).later cw17)
  have R_oY := hide ((unhide R_oY).later cw17)
  have R_oG := hide ((unhide R_oG).later cw17)
  have BL := hide ((unhide BL).trans (cw17.mono (unhide BL).size))
  have R_oJ := hide (o1)
  have L_oJ := hide (World.ownsRow.lt (unhide R_oJ))
  clear b17 cw17
  clear o1
  go_wp2_with fail
  refine (toints_v ya yn yc ys _ (by omega) (unhide R_y)).mono ?_
  rintro e w18 ⟨Ka, Kc, rfl, o1, b18⟩
  have cw18 := b18
  have zw18 := cw18.size
  have R_x := hide ((unhide R_x).later cw18)
  have R_y := hide ((unhide R_y).later cw18)
  have R_oP := hide ((unhide R_oP).later cw18)
  have R_oQ := hide ((unhide R_oQ).later cw18)
  have R_oW := hide ((unhide R_oW).later cw18)
  have R_oX := hide ((unhide R_oX).later cw18)
  have R_oY := hide ((unhide R_oY).later cw18)
  have R_oG := hide ((unhide R_oG).later cw18)
  have R_oJ := hide ((unhide R_oJ).later cw18)
  have BL := hide ((unhide BL).trans (cw18.mono (unhide BL).size))
  have R_oK := hide (o1)
  have L_oK := hide (World.ownsRow.lt (unhide R_oK))
  clear b18 cw18
  clear o1
  go_wp2_with fail
  refine (vecmax_v (ivecmax_any Ja xn Jc xs Ka yn Kc ys _ (by omega) (by omega) ((unhide R_oJ).rw encN_len) ((unhide R_oK).rw encN_len)) HN1).mono ?_
  rintro e w19 ⟨Ha, Hc, rfl, o1, b19⟩
  have cw19 := b19
  have zw19 := cw19.size
  have R_x := hide ((unhide R_x).later cw19)
  have R_y := hide ((unhide R_y).later cw19)
  have R_oP := hide ((unhide R_oP).later cw19)
  have R_oQ := hide ((unhide R_oQ).later cw19)
  have R_oW := hide ((unhide R_oW).later cw19)
  have R_oX := hide ((unhide R_oX).later cw19)
  have R_oY := hide ((unhide R_oY).later cw19)
  have R_oG := hide ((unhide R_oG).later cw19)
  have R_oJ := hide ((unhide R_oJ).later cw19)
  have R_oK := hide ((unhide R_oK).later cw19)
  have BL := hide ((unhide BL).trans (cw19.mono (unhide BL).size))
  have R_oH := hide (o1)
  have L_oH := hide (World.ownsRow.lt (unhide R_oH))
  clear b19 cw19
  clear o1
  go_wp2_with fail
  refine (eqints_v Ha Wa n1 Hc Wc (vm xs ys) _ (by omega) ((unhide R_oH).rw encN_len) ((unhide R_oW).rw encN_len)).mono ?_
  rintro e w20 ⟨rfl, b20⟩
  have cw20 := b20
  have zw20 := cw20.size
  have R_x := hide ((unhide R_x).later cw20)
  have R_y := hide ((unhide R_y).later cw20)
  have R_oP := hide ((unhide R_oP).later cw20)
  have R_oQ := hide ((unhide R_oQ).later cw20)
  have R_oW := hide ((unhide R_oW).later cw20)
  have R_oX := hide ((unhide R_oX).later cw20)
  have R_oY := hide ((unhide R_oY).later cw20)
  have R_oG := hide ((unhide R_oG).later cw20)
  have R_oJ := hide ((unhide R_oJ).later cw20)
  have R_oK := hide ((unhide R_oK).later cw20)
  have R_oH := hide ((unhide R_oH).later cw20)
  have BL := hide ((unhide BL).trans (cw20.mono (unhide BL).size))
  clear b20 cw20
  go_wp2_with fail
  refine (Calls.still (heldints_v Ga n1 Gc 1 _ (by omega) (by omega) (by omega) ((unhide R_oG).rw encN_len))).mono ?_
  rintro e w21 ⟨rfl, b21⟩
  have cw21 := b21
  have zw21 := cw21.size
  have R_x := hide ((unhide R_x).later cw21)
  have R_y := hide ((unhide R_y).later cw21)
  have R_oP := hide ((unhide R_oP).later cw21)
  have R_oQ := hide ((unhide R_oQ).later cw21)
  have R_oW := hide ((unhide R_oW).later cw21)
  have R_oX := hide ((unhide R_oX).later cw21)
  have R_oY := hide ((unhide R_oY).later cw21)
  have R_oG := hide ((unhide R_oG).later cw21)
  have R_oJ := hide ((unhide R_oJ).later cw21)
  have R_oK := hide ((unhide R_oK).later cw21)
  have R_oH := hide ((unhide R_oH).later cw21)
  have BL := hide ((unhide BL).trans (cw21.mono (unhide BL).size))
  clear b21 cw21
  go_wp2
  go_ret
  exact ⟨rfl, unhide BL⟩

set_option maxHeartbeats 4000000 in
set_option maxRecDepth 100000 in
theorem lifted (os : Os) (started : os.Started) (H : Type) (enc : TypeId × Value → H) :
    ReturnsInHanded {} Try.checked os 5 .any (Rows.fnExactVecMaxSpec.pre6 enc Try.prog Try.f5 Rows.fnExactVecMaxRow.domain false) (Rows.fnExactVecMaxSpec.post enc Try.prog Try.f5 false true false false) := by
  refine returnsInHanded_of_change (C := Try.checked) own started (by kernel_rfl) Try.func5
    (ChangeSpec.witness6 (enc := enc) (C := Try.checked) false ⟨#[], #[.slice none 0 0, .slice none 0 0], []⟩ 8 (by kernel_rfl) (by kernel_rfl) (by kernel_rfl) (by kernel_rfl)) ?_
  intro W base args ds gs before hval0 hW hcnd _
  have hval : ∀ (j : Nat) t v, Try.f5.params[j]? = some t → args[j]? = some v → Value.okWide Try.prog W .any base t v := hval0
  have hW' := hW
  obtain ⟨p, q, hA0, hV, rfl, hfz, hnd⟩ := hW
  have hA : DataW.TrodAll enc Try.prog W 0 (fun _ => true) true Try.f5.params.toList args.toList ds p := hA0
  rw [Try.params5] at hA hval
  obtain ⟨v0, vs0, d0, ds0, p0, q0, hargs0, rfl, rfl, h0, r0⟩ := trodAll_cons hA
  obtain ⟨v1, vs1, d1, ds1, p1, q1, hargs1, rfl, rfl, h1, r1⟩ := trodAll_cons r0
  obtain ⟨rfl, rfl, rfl⟩ := trodAll_nil r1
  obtain rfl : args = #[v0, v1] := by cases args; simp_all
  obtain ⟨rfl, rfl⟩ := trodVars_none hV
  have k0 := h0
  have lt0 : ∀ x ∈ p0, x.block < W.heap.size := by obtain ⟨m, hm⟩ := k0; exact DataW.trod_lt m _ _ _ hm
  have k1 := h1
  have lt1 : ∀ x ∈ p1, x.block < W.heap.size := by obtain ⟨m, hm⟩ := k1; exact DataW.trod_lt m _ _ _ hm
  obtain ⟨xa, xn, xc, xs, rfl, xh1, xh2, xh3⟩ := open_numrow (hval 0 24 v0 rfl rfl) h0
  obtain ⟨ya, yn, yc, ys, rfl, yh1, yh2, yh3⟩ := open_numrow (hval 1 24 v1 rfl rfl) h1
  clear hA0 hval0
  refine (walk W xa xn xc xs xh1 xh2 xh3 ya yn yc ys yh1 yh2 yh3).mono fun e W' ⟨he, bel⟩ => ?_
  subst he
  exact ⟨_, rfl, _, _, _, [], _, [], hW', trodAll_mk1 (shut_bool Try.underlying4 _), (trodAll_cons_mk (Below.trod laidOut (by kernel_rfl) (of_decide_eq_true (by kernel_rfl)) k0 bel lt0) (trodAll_cons_mk (Below.trod laidOut (by kernel_rfl) (of_decide_eq_true (by kernel_rfl)) k1 bel lt1) trodAll_mk0)), rfl, bel.frame _, fun h => by cases h⟩

theorem over : Rows.fnExactVecMaxRow.holds Try.pinned (OpenSpec.ofChange Rows.fnExactVecMaxSpec) :=
  OpenClaim.holds_of_wide 5 Try.f5 rfl rfl rfl rfl rfl rfl rfl ⟨rfl, rfl, rfl, rfl, rfl⟩ rfl rfl rfl rfl rfl (by kernel_rfl) Try.func5 (by kernel_rfl)
    (of_decide_eq_true (by kernel_rfl)) (by unfold Func.isWrapper; first | (rw [if_pos (by decide +kernel)]; kernel_rfl) | (rw [if_neg (by decide +kernel)]; exact ⟨rfl, rfl⟩))
    (fun os started H enc _ => lifted os started H enc)

theorem proved : Rows.FnExactVecMaxSaid := over
#print axioms proved
end Go.Proofs.Ytdjoobcbnaelnaa.fnExactVecMax
namespace Go.Proofs.Ytdjoobcbnaelnaa
theorem fnExactVecMax_holds : Rows.FnExactVecMaxSaid := fnExactVecMax.proved
end Go.Proofs.Ytdjoobcbnaelnaa
