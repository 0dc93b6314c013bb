/-
  The law FnOrder answers true at every slice of bytes, and the slice reads behind the call as before it. No condition.
-/
import Derived.Test.YtnalnjokijbhbaaRows
import Derived.Test.YtnalnjokijbhbaaEntOrd
import Derived.WalkKit
import Derived.ProofKit
import Derived.OpenShut
import Derived.ShutString
import Derived.ChangeOld
import Derived.Below
namespace Go.Proofs.Ytnalnjokijbhbaa.fnOrder
open Go.ChangeShapes Go.WideShapes Go.ChangeAt Go.RowKit
open Go.ChangeMaps (open_string shut_string)
set_option linter.unusedVariables false

theorem own : ownKnob Try.prog.godebug = none := by kernel_rfl
theorem laidOut : laidOutB Try.prog = true := by kernel_rfl

/-- WHAT THE WALK IS TOLD OF A SLICE OF INTEGERS THAT CAME IN: it is nil; or it leads to a row of 'cap' cells, the numbers 'zs' (the first 'len' are its elements, the rest its spare room), each fitting its kind. -/
def IsRow (k : IntKind) (w : World) (a : Option Addr) (len cap : Nat) (zs : List Int) : Prop :=
  (a = none ∧ len = 0 ∧ cap = 0 ∧ zs = []) ∨
  ∃ x, a = some x ∧ len ≤ cap ∧ cap ≤ maxLen ∧ zs.length = cap ∧ (∀ i, i < zs.length → w.cell? (x.add i) = some (.int k (zs.getD i 0))) ∧ ∀ n ∈ zs, (Lit.int k n).wf = true

/-! ### STEP 1: THE WALK: the Go text returns true, AND WRITES NOTHING THAT WAS THERE: 'Below w.heap.size w w'' (Derived/Below.lean: '.refl', '.alloc', '.drew', '.setCell' at a new block, '.trans'). Open each 'IsRow' by 'rcases' AHEAD of 'go_enter'; part every test ahead of the walk. -/
set_option linter.unusedSimpArgs false in
set_option maxHeartbeats 4000000 in
theorem walk (a0 : Option Addr) (len0 cap0 : Nat) (z0 : List Int) (w : World) (w0 : IsRow .u8 w a0 len0 cap0 z0) :
    Calls Try.prog 3 #[.slice a0 len0 cap0] w fun e w' => e = .returned (.bool true) ∧ Below w.heap.size w w' := by
  obtain ⟨xs, hxl, hseg, hbd⟩ := seg_of_row w0
  subst hxl
  by_cases hbig : 1048576 < xs.length
  · clear w0 hseg hbd
    go_enter Try.func3, Try.ntmps3
    go_wp2
    go_ret
    exact ⟨rfl, Below.refl _ _⟩
  have hlen : xs.length ≤ 1048576 := by omega
  have HS0 := hide hseg
  have HD := hide hbd
  clear hseg hbd w0
  go_enter Try.func3, Try.ntmps3
  go_wp2_with fail
  refine (big_no _ _ _ _ hbig).mono ?_
  rintro e _ ⟨rfl, rfl⟩
  go_wp2_with fail
  refine (drawcmp_any _ xs _ hlen (unhide HD) (unhide HS0)).mono ?_
  rintro e w1 ⟨⟨ai, ar, ab, av, ad, bi, br, bb, bv, bd, rfl, ha9, hb9⟩, b1⟩
  have HSx := hide ((unhide HS0).below ((b1.alloc b1.size (.cells #[.int .i64 ai, .int .i64 ar, .int .i64 ab, .int .i64 av, .string ad] 25)).alloc (by have := b1.size; simp; omega) (.cells #[.int .i64 bi, .int .i64 br, .int .i64 bb, .int .i64 bv, .string bd] 25)) (Nat.le_refl _))
  have B1 := hide b1
  have hw1 := b1.size
  clear b1
  go_wp2_with fail
  refine (tail_any _ xs _ hlen (unhide HSx)).mono ?_
  rintro e _ ⟨⟨v', rfl, hv'⟩, rfl⟩
  have HV := hide hv'
  clear hv'
  go_wp2_with fail
  refine (drawcmp_any v' xs.tail _ (by simp; omega) (fun z hz => unhide HD z (List.mem_of_mem_tail hz)) (unhide HV)).mono ?_
  rintro e w2 ⟨⟨di, dr, db, dv, dd, fi, fr, fb, fv, fd, rfl, hd9, -⟩, b2⟩
  have hs2 := b2.size
  simp only [World.size_alloc] at hs2
  have S2 : Below w.heap.size w ((w2.alloc (.cells #[.int .i64 di, .int .i64 dr, .int .i64 db, .int .i64 dv, .string dd] 25)).alloc (.cells #[.int .i64 fi, .int .i64 fr, .int .i64 fb, .int .i64 fv, .string fd] 25)) ∧ w1.heap.size < ((w2.alloc (.cells #[.int .i64 di, .int .i64 dr, .int .i64 db, .int .i64 dv, .string dd] 25)).alloc (.cells #[.int .i64 fi, .int .i64 fr, .int .i64 fb, .int .i64 fv, .string fd] 25)).heap.size ∧ w1.heap.size + 1 < ((w2.alloc (.cells #[.int .i64 di, .int .i64 dr, .int .i64 db, .int .i64 dv, .string dd] 25)).alloc (.cells #[.int .i64 fi, .int .i64 fr, .int .i64 fb, .int .i64 fv, .string fd] 25)).heap.size ∧ w2.heap.size < ((w2.alloc (.cells #[.int .i64 di, .int .i64 dr, .int .i64 db, .int .i64 dv, .string dd] 25)).alloc (.cells #[.int .i64 fi, .int .i64 fr, .int .i64 fb, .int .i64 fv, .string fd] 25)).heap.size ∧ ((w2.alloc (.cells #[.int .i64 di, .int .i64 dr, .int .i64 db, .int .i64 dv, .string dd] 25)).alloc (.cells #[.int .i64 fi, .int .i64 fr, .int .i64 fb, .int .i64 fv, .string fd] 25)).cell? ⟨w1.heap.size, 0, none⟩ = some (.int .i64 ai) ∧ ((w2.alloc (.cells #[.int .i64 di, .int .i64 dr, .int .i64 db, .int .i64 dv, .string dd] 25)).alloc (.cells #[.int .i64 fi, .int .i64 fr, .int .i64 fb, .int .i64 fv, .string fd] 25)).cell? ⟨w1.heap.size, 1, none⟩ = some (.int .i64 ar) ∧ ((w2.alloc (.cells #[.int .i64 di, .int .i64 dr, .int .i64 db, .int .i64 dv, .string dd] 25)).alloc (.cells #[.int .i64 fi, .int .i64 fr, .int .i64 fb, .int .i64 fv, .string fd] 25)).cell? ⟨w1.heap.size, 2, none⟩ = some (.int .i64 ab) ∧ ((w2.alloc (.cells #[.int .i64 di, .int .i64 dr, .int .i64 db, .int .i64 dv, .string dd] 25)).alloc (.cells #[.int .i64 fi, .int .i64 fr, .int .i64 fb, .int .i64 fv, .string fd] 25)).cell? ⟨w1.heap.size, 3, none⟩ = some (.int .i64 av) ∧ ((w2.alloc (.cells #[.int .i64 di, .int .i64 dr, .int .i64 db, .int .i64 dv, .string dd] 25)).alloc (.cells #[.int .i64 fi, .int .i64 fr, .int .i64 fb, .int .i64 fv, .string fd] 25)).cell? ⟨w1.heap.size, 4, none⟩ = some (.string ad) ∧ ((w2.alloc (.cells #[.int .i64 di, .int .i64 dr, .int .i64 db, .int .i64 dv, .string dd] 25)).alloc (.cells #[.int .i64 fi, .int .i64 fr, .int .i64 fb, .int .i64 fv, .string fd] 25)).cell? ⟨w1.heap.size + 1, 0, none⟩ = some (.int .i64 bi) ∧ ((w2.alloc (.cells #[.int .i64 di, .int .i64 dr, .int .i64 db, .int .i64 dv, .string dd] 25)).alloc (.cells #[.int .i64 fi, .int .i64 fr, .int .i64 fb, .int .i64 fv, .string fd] 25)).cell? ⟨w1.heap.size + 1, 1, none⟩ = some (.int .i64 br) ∧ ((w2.alloc (.cells #[.int .i64 di, .int .i64 dr, .int .i64 db, .int .i64 dv, .string dd] 25)).alloc (.cells #[.int .i64 fi, .int .i64 fr, .int .i64 fb, .int .i64 fv, .string fd] 25)).cell? ⟨w1.heap.size + 1, 2, none⟩ = some (.int .i64 bb) ∧ ((w2.alloc (.cells #[.int .i64 di, .int .i64 dr, .int .i64 db, .int .i64 dv, .string dd] 25)).alloc (.cells #[.int .i64 fi, .int .i64 fr, .int .i64 fb, .int .i64 fv, .string fd] 25)).cell? ⟨w1.heap.size + 1, 3, none⟩ = some (.int .i64 bv) ∧ ((w2.alloc (.cells #[.int .i64 di, .int .i64 dr, .int .i64 db, .int .i64 dv, .string dd] 25)).alloc (.cells #[.int .i64 fi, .int .i64 fr, .int .i64 fb, .int .i64 fv, .string fd] 25)).cell? ⟨w1.heap.size + 1, 4, none⟩ = some (.string bd) ∧ ((w2.alloc (.cells #[.int .i64 di, .int .i64 dr, .int .i64 db, .int .i64 dv, .string dd] 25)).alloc (.cells #[.int .i64 fi, .int .i64 fr, .int .i64 fb, .int .i64 fv, .string fd] 25)).cell? ⟨w2.heap.size, 0, none⟩ = some (.int .i64 di) ∧ ((w2.alloc (.cells #[.int .i64 di, .int .i64 dr, .int .i64 db, .int .i64 dv, .string dd] 25)).alloc (.cells #[.int .i64 fi, .int .i64 fr, .int .i64 fb, .int .i64 fv, .string fd] 25)).cell? ⟨w2.heap.size, 1, none⟩ = some (.int .i64 dr) ∧ ((w2.alloc (.cells #[.int .i64 di, .int .i64 dr, .int .i64 db, .int .i64 dv, .string dd] 25)).alloc (.cells #[.int .i64 fi, .int .i64 fr, .int .i64 fb, .int .i64 fv, .string fd] 25)).cell? ⟨w2.heap.size, 2, none⟩ = some (.int .i64 db) ∧ ((w2.alloc (.cells #[.int .i64 di, .int .i64 dr, .int .i64 db, .int .i64 dv, .string dd] 25)).alloc (.cells #[.int .i64 fi, .int .i64 fr, .int .i64 fb, .int .i64 fv, .string fd] 25)).cell? ⟨w2.heap.size, 3, none⟩ = some (.int .i64 dv) ∧ ((w2.alloc (.cells #[.int .i64 di, .int .i64 dr, .int .i64 db, .int .i64 dv, .string dd] 25)).alloc (.cells #[.int .i64 fi, .int .i64 fr, .int .i64 fb, .int .i64 fv, .string fd] 25)).cell? ⟨w2.heap.size, 4, none⟩ = some (.string dd) := by
    have hb : Below w.heap.size w ((w1.alloc (.cells #[.int .i64 ai, .int .i64 ar, .int .i64 ab, .int .i64 av, .string ad] 25)).alloc (.cells #[.int .i64 bi, .int .i64 br, .int .i64 bb, .int .i64 bv, .string bd] 25)) := ((unhide B1).alloc hw1 _).alloc (by simp; omega) _
    have hb2 : Below w.heap.size w w2 := hb.trans (b2.mono (by simp; omega))
    obtain ⟨nA, nB⟩ := two_new w1 (.cells #[.int .i64 ai, .int .i64 ar, .int .i64 ab, .int .i64 av, .string ad] 25) (.cells #[.int .i64 bi, .int .i64 br, .int .i64 bb, .int .i64 bv, .string bd] 25)
    obtain ⟨nD, -⟩ := two_new w2 (.cells #[.int .i64 di, .int .i64 dr, .int .i64 db, .int .i64 dv, .string dd] 25) (.cells #[.int .i64 fi, .int .i64 fr, .int .i64 fb, .int .i64 fv, .string fd] 25)
    have mA := two_old (.cells #[.int .i64 di, .int .i64 dr, .int .i64 db, .int .i64 dv, .string dd] 25) (.cells #[.int .i64 fi, .int .i64 fr, .int .i64 fb, .int .i64 fv, .string fd] 25) ((b2.block _ (by simp; omega)).trans nA)
    have mB := two_old (.cells #[.int .i64 di, .int .i64 dr, .int .i64 db, .int .i64 dv, .string dd] 25) (.cells #[.int .i64 fi, .int .i64 fr, .int .i64 fb, .int .i64 fv, .string fd] 25) ((b2.block _ (by simp)).trans nB)
    obtain ⟨p0, p1, p2, p3, p4, -⟩ := blk_cells5 mA
    obtain ⟨q0, q1, q2, q3, q4, -⟩ := blk_cells5 mB
    obtain ⟨r0, r1, r2, r3, r4, -⟩ := blk_cells5 nD
    exact ⟨(hb2.alloc hb2.size _).alloc (by have := hb2.size; simp; omega) _, by simp; omega, by simp; omega, by simp; omega, p0, p1, p2, p3, p4, q0, q1, q2, q3, q4, r0, r1, r2, r3, r4⟩
  have H2 := hide S2
  clear S2 b2 HSx HS0 B1 HV
  go_upto_region 5 with fail
  obtain ⟨w3, hq⟩ : ∃ q, q = ((w2.alloc (.cells #[.int .i64 di, .int .i64 dr, .int .i64 db, .int .i64 dv, .string dd] 25)).alloc (.cells #[.int .i64 fi, .int .i64 fr, .int .i64 fb, .int .i64 fv, .string fd] 25)) := ⟨_, rfl⟩
  rw [← hq]
  rw [← hq] at H2
  have H3 := H2
  have S3 := unhide H3
  obtain ⟨-, hz0, hz1, hz2, c0, c1, c2, c3, c4, c5, c6, c7, c8, c9, c10, c11, c12, c13, c14⟩ := S3
  clear hq H2
  obtain ⟨X, hX⟩ : ∃ X, cmpE ai ar ab av ad bi br bb bv bd = X := ⟨_, rfl⟩
  have HX := hide hX
  have HY := hide (show cmpE bi br bb bv bd ai ar ab av ad = -X by rw [← hX, cmpE_key, cmpE_key]; exact keyC_is.anti _ _)
  have hx := cmpE_range ai ar ab av ad bi br bb bv bd
  rw [hX] at hx
  obtain ⟨hx0, hx1⟩ := hx
  clear hX
  go_wp2_with fail
  refine (icmp_v ai ar ab av ad bi br bb bv bd X (unhide HX) _).mono ?_
  rintro e w4 ⟨rfl, b4⟩
  have S4 := keepSP b4 (unhide H3)
  have H4 := hide S4
  clear b4 hz0 hz1 hz2 c0 c1 c2 c3 c4 c5 c6 c7 c8 c9 c10 c11 c12 c13 c14 H3
  obtain ⟨-, hz0, hz1, hz2, c0, c1, c2, c3, c4, c5, c6, c7, c8, c9, c10, c11, c12, c13, c14⟩ := S4
  go_wp2_with fail
  refine (scmp_v ai ar ab av ad bi br bb bv bd X (unhide HX) _).mono ?_
  rintro e w5 ⟨rfl, b5⟩
  have S5 := keepSP b5 (unhide H4)
  have H5 := hide S5
  clear b5 hz0 hz1 hz2 c0 c1 c2 c3 c4 c5 c6 c7 c8 c9 c10 c11 c12 c13 c14 H4
  obtain ⟨-, hz0, hz1, hz2, c0, c1, c2, c3, c4, c5, c6, c7, c8, c9, c10, c11, c12, c13, c14⟩ := S5
  go_wp2_with fail
  refine (icmp_v bi br bb bv bd ai ar ab av ad (-X) (unhide HY) _).mono ?_
  rintro e w6 ⟨rfl, b6⟩
  have S6 := keepSP b6 (unhide H5)
  have H6 := hide S6
  clear b6 hz0 hz1 hz2 c0 c1 c2 c3 c4 c5 c6 c7 c8 c9 c10 c11 c12 c13 c14 H5
  obtain ⟨-, hz0, hz1, hz2, c0, c1, c2, c3, c4, c5, c6, c7, c8, c9, c10, c11, c12, c13, c14⟩ := S6
  have hq0 : ∀ W : World, (Op.equalIn 10000 25 (.agg #[.int .i64 ai, .int .i64 ar, .int .i64 ab, .int .i64 av, .string ad]) (.agg #[.int .i64 bi, .int .i64 br, .int .i64 bb, .int .i64 bv, .string bd])).run Try.prog W = .ok (decide (X = 0)) W := fun W => by rw [eq_run, unhide HX]
  obtain ⟨mi, mr, mb, mv, md, hm⟩ := isMax_ex ai ar ab av ad bi br bb bv bd
  have HM := hide hm
  clear hm
  have hbq : ((X == 0) != decide (X = 0)) = false := by by_cases h : X = 0 <;> simp [h]
  go_wp2_with fail
  refine (inewer_v ai ar ab av ad bi br bb bv bd X (unhide HX) _).mono ?_
  rintro e w7 ⟨rfl, b7⟩
  have S7 := keepSP b7 (unhide H6)
  have H7 := hide S7
  clear b7 hz0 hz1 hz2 c0 c1 c2 c3 c4 c5 c6 c7 c8 c9 c10 c11 c12 c13 c14 H6
  obtain ⟨-, hz0, hz1, hz2, c0, c1, c2, c3, c4, c5, c6, c7, c8, c9, c10, c11, c12, c13, c14⟩ := S7
  clear hbq
  go_wp2_with fail
  refine (imax_v ai ar ab av ad bi br bb bv bd mi mr mb mv md HM ha9 hb9 _).mono ?_
  rintro e w8 ⟨rfl, b8⟩
  have S8 := keepSP b8 (unhide H7)
  have H8 := hide S8
  clear b8 hz0 hz1 hz2 c0 c1 c2 c3 c4 c5 c6 c7 c8 c9 c10 c11 c12 c13 c14 H7
  obtain ⟨-, hz0, hz1, hz2, c0, c1, c2, c3, c4, c5, c6, c7, c8, c9, c10, c11, c12, c13, c14⟩ := S8
  go_upto_region 9 with fail
  obtain ⟨w9, hq⟩ : ∃ q, q = w8.alloc (.cells #[.int .i64 mi, .int .i64 mr, .int .i64 mb, .int .i64 mv, .string md] 25) := ⟨_, rfl⟩
  rw [← hq]
  have S9 : Below w.heap.size w w9 ∧ w1.heap.size < w9.heap.size ∧ w1.heap.size + 1 < w9.heap.size ∧ w2.heap.size < w9.heap.size ∧ w8.heap.size < w9.heap.size ∧ w9.cell? ⟨w1.heap.size, 0, none⟩ = some (.int .i64 ai) ∧ w9.cell? ⟨w1.heap.size, 1, none⟩ = some (.int .i64 ar) ∧ w9.cell? ⟨w1.heap.size, 2, none⟩ = some (.int .i64 ab) ∧ w9.cell? ⟨w1.heap.size, 3, none⟩ = some (.int .i64 av) ∧ w9.cell? ⟨w1.heap.size, 4, none⟩ = some (.string ad) ∧ w9.cell? ⟨w1.heap.size + 1, 0, none⟩ = some (.int .i64 bi) ∧ w9.cell? ⟨w1.heap.size + 1, 1, none⟩ = some (.int .i64 br) ∧ w9.cell? ⟨w1.heap.size + 1, 2, none⟩ = some (.int .i64 bb) ∧ w9.cell? ⟨w1.heap.size + 1, 3, none⟩ = some (.int .i64 bv) ∧ w9.cell? ⟨w1.heap.size + 1, 4, none⟩ = some (.string bd) ∧ w9.cell? ⟨w2.heap.size, 0, none⟩ = some (.int .i64 di) ∧ w9.cell? ⟨w2.heap.size, 1, none⟩ = some (.int .i64 dr) ∧ w9.cell? ⟨w2.heap.size, 2, none⟩ = some (.int .i64 db) ∧ w9.cell? ⟨w2.heap.size, 3, none⟩ = some (.int .i64 dv) ∧ w9.cell? ⟨w2.heap.size, 4, none⟩ = some (.string dd) ∧ w9.cell? ⟨w8.heap.size, 0, none⟩ = some (.int .i64 mi) ∧ w9.cell? ⟨w8.heap.size, 1, none⟩ = some (.int .i64 mr) ∧ w9.cell? ⟨w8.heap.size, 2, none⟩ = some (.int .i64 mb) ∧ w9.cell? ⟨w8.heap.size, 3, none⟩ = some (.int .i64 mv) ∧ w9.cell? ⟨w8.heap.size, 4, none⟩ = some (.string md) := by rw [hq]; exact addQ (keepAP _ (unhide H8)) (heap_alloc_new _ _)
  have H9 := hide S9
  clear hq S9 H8 c0 c1 c2 c3 c4 c5 c6 c7 c8 c9 c10 c11 c12 c13 c14 hz0 hz1 hz2 hq0 HY
  have HMB := hide (isMax_comm ai ar ab av ad bi br bb bv bd mi mr mb mv md (unhide HM))
  have hm9 := isMax_size ai ar ab av ad bi br bb bv bd mi mr mb mv md (unhide HM) ha9 hb9
  obtain ⟨V, hV⟩ : ∃ V, cmpE mi mr mb mv md ai ar ab av ad = V := ⟨_, rfl⟩
  obtain ⟨U, hU⟩ : ∃ U, cmpE mi mr mb mv md bi br bb bv bd = U := ⟨_, rfl⟩
  have hvu := isMax_le ai ar ab av ad bi br bb bv bd mi mr mb mv md (unhide HM)
  rw [hV, hU] at hvu
  obtain ⟨v0, u0, vu⟩ := hvu
  have HV := hide hV
  have HU := hide hU
  have VU := hide vu
  clear hV hU vu
  go_cut [83] from 57 to 83 (fun s wx => s = .bool false ∧ Below w.heap.size w wx ∧ w1.heap.size < wx.heap.size ∧ w1.heap.size + 1 < wx.heap.size ∧ w2.heap.size < wx.heap.size ∧ w8.heap.size < wx.heap.size ∧ wx.cell? ⟨w1.heap.size, 0, none⟩ = some (.int .i64 ai) ∧ wx.cell? ⟨w1.heap.size, 1, none⟩ = some (.int .i64 ar) ∧ wx.cell? ⟨w1.heap.size, 2, none⟩ = some (.int .i64 ab) ∧ wx.cell? ⟨w1.heap.size, 3, none⟩ = some (.int .i64 av) ∧ wx.cell? ⟨w1.heap.size, 4, none⟩ = some (.string ad) ∧ wx.cell? ⟨w1.heap.size + 1, 0, none⟩ = some (.int .i64 bi) ∧ wx.cell? ⟨w1.heap.size + 1, 1, none⟩ = some (.int .i64 br) ∧ wx.cell? ⟨w1.heap.size + 1, 2, none⟩ = some (.int .i64 bb) ∧ wx.cell? ⟨w1.heap.size + 1, 3, none⟩ = some (.int .i64 bv) ∧ wx.cell? ⟨w1.heap.size + 1, 4, none⟩ = some (.string bd) ∧ wx.cell? ⟨w2.heap.size, 0, none⟩ = some (.int .i64 di) ∧ wx.cell? ⟨w2.heap.size, 1, none⟩ = some (.int .i64 dr) ∧ wx.cell? ⟨w2.heap.size, 2, none⟩ = some (.int .i64 db) ∧ wx.cell? ⟨w2.heap.size, 3, none⟩ = some (.int .i64 dv) ∧ wx.cell? ⟨w2.heap.size, 4, none⟩ = some (.string dd) ∧ wx.cell? ⟨w8.heap.size, 0, none⟩ = some (.int .i64 mi) ∧ wx.cell? ⟨w8.heap.size, 1, none⟩ = some (.int .i64 mr) ∧ wx.cell? ⟨w8.heap.size, 2, none⟩ = some (.int .i64 mb) ∧ wx.cell? ⟨w8.heap.size, 3, none⟩ = some (.int .i64 mv) ∧ wx.cell? ⟨w8.heap.size, 4, none⟩ = some (.string md))
  case first =>
    have hmm : ∀ W : World, (Op.equalIn 10000 25 (.agg #[.int .i64 mi, .int .i64 mr, .int .i64 mb, .int .i64 mv, .string md]) (.agg #[.int .i64 mi, .int .i64 mr, .int .i64 mb, .int .i64 mv, .string md])).run Try.prog W = .ok true W := fun W => by rw [eq_run, cmpE_self]; rfl
    have hV0 : decide (V < 0) = false := by simp; omega
    have hU0 : decide (U < 0) = false := by simp; omega
    rcases Decidable.em (V = 0) with h | h
    · have hma : ∀ W : World, (Op.equalIn 10000 25 (.agg #[.int .i64 mi, .int .i64 mr, .int .i64 mb, .int .i64 mv, .string md]) (.agg #[.int .i64 ai, .int .i64 ar, .int .i64 ab, .int .i64 av, .string ad])).run Try.prog W = .ok true W := fun W => by rw [eq_run, unhide HV, h]; rfl
      clear h
      refine wp_region_noPanic ?_
      refine wp_region_held_drew (S := fun w' => Below w.heap.size w w' ∧ w1.heap.size < w'.heap.size ∧ w1.heap.size + 1 < w'.heap.size ∧ w2.heap.size < w'.heap.size ∧ w8.heap.size < w'.heap.size ∧ w'.cell? ⟨w1.heap.size, 0, none⟩ = some (.int .i64 ai) ∧ w'.cell? ⟨w1.heap.size, 1, none⟩ = some (.int .i64 ar) ∧ w'.cell? ⟨w1.heap.size, 2, none⟩ = some (.int .i64 ab) ∧ w'.cell? ⟨w1.heap.size, 3, none⟩ = some (.int .i64 av) ∧ w'.cell? ⟨w1.heap.size, 4, none⟩ = some (.string ad) ∧ w'.cell? ⟨w1.heap.size + 1, 0, none⟩ = some (.int .i64 bi) ∧ w'.cell? ⟨w1.heap.size + 1, 1, none⟩ = some (.int .i64 br) ∧ w'.cell? ⟨w1.heap.size + 1, 2, none⟩ = some (.int .i64 bb) ∧ w'.cell? ⟨w1.heap.size + 1, 3, none⟩ = some (.int .i64 bv) ∧ w'.cell? ⟨w1.heap.size + 1, 4, none⟩ = some (.string bd) ∧ w'.cell? ⟨w2.heap.size, 0, none⟩ = some (.int .i64 di) ∧ w'.cell? ⟨w2.heap.size, 1, none⟩ = some (.int .i64 dr) ∧ w'.cell? ⟨w2.heap.size, 2, none⟩ = some (.int .i64 db) ∧ w'.cell? ⟨w2.heap.size, 3, none⟩ = some (.int .i64 dv) ∧ w'.cell? ⟨w2.heap.size, 4, none⟩ = some (.string dd) ∧ w'.cell? ⟨w8.heap.size, 0, none⟩ = some (.int .i64 mi) ∧ w'.cell? ⟨w8.heap.size, 1, none⟩ = some (.int .i64 mr) ∧ w'.cell? ⟨w8.heap.size, 2, none⟩ = some (.int .i64 mb) ∧ w'.cell? ⟨w8.heap.size, 3, none⟩ = some (.int .i64 mv) ∧ w'.cell? ⟨w8.heap.size, 4, none⟩ = some (.string md)) (by kernel_rfl) (keepDQ (unhide H9)) (fun hHeld => ?_)
      refine wpAnyH_take (i := 0) (oi := { dst := some 57, op := Op.load 25 (Operand.tmp 8), type := 25, pos := "laws.go:115", after := #[], guard := none }) (v := ?_) rfl (by kernel_rfl) (by kernel_rfl) (by kernel_rfl) (fun _ _ _ h => h) (Or.inl ⟨by rfl, ?_⟩) (by assumption) ?_
      rotate_left
      · intro W hSw
        (try dsimp only at hSw)
        go_simp
        (try with_reducible rfl)
      try simp only [Act.put, List.setIfInBounds_toArray, List.set_cons_zero, List.set_cons_succ]
      refine wpAnyH_take (i := 1) (oi := { dst := some 58, op := Op.load 25 (Operand.tmp 4), type := 25, pos := "laws.go:115", after := #[], guard := none }) (v := ?_) rfl (by kernel_rfl) (by kernel_rfl) (by kernel_rfl) (fun _ _ _ h => h) (Or.inl ⟨by rfl, ?_⟩) (by assumption) ?_
      rotate_left
      · intro W hSw
        (try dsimp only at hSw)
        go_simp
        (try with_reducible rfl)
      try simp only [Act.put, List.setIfInBounds_toArray, List.set_cons_zero, List.set_cons_succ]
      refine wpAnyH_take (i := 2) (oi := { dst := some 59, op := Op.load 25 (Operand.tmp 3), type := 25, pos := "laws.go:115", after := #[], guard := none }) (v := ?_) rfl (by kernel_rfl) (by kernel_rfl) (by kernel_rfl) (fun _ _ _ h => h) (Or.inl ⟨by rfl, ?_⟩) (by assumption) ?_
      rotate_left
      · intro W hSw
        (try dsimp only at hSw)
        go_simp
        (try with_reducible rfl)
      try simp only [Act.put, List.setIfInBounds_toArray, List.set_cons_zero, List.set_cons_succ]
      refine wpAnyH_ready (rs := [3]) (by kernel_rfl) (by simp) ?_
      refine AllReadyH.cons (o := { dst := some 60, op := Op.call { callee := Callee.value (Operand.func 15), args := #[Operand.tmp 58, Operand.tmp 59], argTypes := #[25, 25] }, type := 25, pos := "laws.go:115", after := #[{ on := 1, ground := Ground.data }, { on := 2, ground := Ground.data }], guard := none }) rfl (fun K hK => ?_) AllReadyH.nil
      go_simp
      (go_at_call 15; with_reducible refine (imax_v bi br bb bv bd ai ar ab av ad mi mr mb mv md HMB hb9 ha9 _).mono ?_; rintro e w1 ⟨rfl, bx⟩; have hS1 := hide (keepSQ bx (by assumption)); obtain ⟨hw1, hz0, hz1, hz2, hz3, -⟩ := unhide hS1; have hwz := hw1.size; clear hw1; clear bx)
      (try go_wp2_with fail)
      refine hK.out _ _ (unhide (by assumption)) (fun hHeld => ?_)
      clear hK K
      try simp only [Act.put, List.setIfInBounds_toArray, List.set_cons_zero, List.set_cons_succ]
      refine wpAnyH_take (i := 4) (oi := { dst := some 61, op := Op.binOp BinOp.neq 25 (Operand.tmp 57) (Operand.tmp 60) 25, type := 4, pos := "laws.go:115", after := #[{ on := 0, ground := Ground.data }, { on := 3, ground := Ground.data }], guard := none }) (v := ?_) rfl (by kernel_rfl) (by kernel_rfl) (by kernel_rfl) (fun _ _ _ h => h) (Or.inl ⟨by rfl, ?_⟩) (by assumption) ?_
      rotate_left
      · intro W hSw
        (try dsimp only at hSw)
        go_simp
        (try with_reducible rfl)
      try simp only [Act.put, List.setIfInBounds_toArray, List.set_cons_zero, List.set_cons_succ]
      refine wpAnyH_take (i := 5) (oi := { dst := some 62, op := Op.move (Operand.tmp 61), type := 4, pos := "laws.go:115", after := #[{ on := 4, ground := Ground.data }, { on := 3, ground := Ground.chain }], guard := none }) (v := ?_) rfl (by kernel_rfl) (by kernel_rfl) (by kernel_rfl) (fun _ _ _ h => h) (Or.inl ⟨by rfl, ?_⟩) (by assumption) ?_
      rotate_left
      · intro W hSw
        (try dsimp only at hSw)
        go_simp
        (try with_reducible rfl)
      try simp only [Act.put, List.setIfInBounds_toArray, List.set_cons_zero, List.set_cons_succ]
      refine wpAnyH_take (i := 6) (oi := { dst := some 63, op := Op.load 25 (Operand.tmp 8), type := 25, pos := "laws.go:115", after := #[{ on := 5, ground := Ground.guard }], guard := some (5, false) }) (v := ?_) rfl (by kernel_rfl) (by kernel_rfl) (by kernel_rfl) (fun _ _ _ h => h) (Or.inl ⟨by rfl, ?_⟩) (by assumption) ?_
      rotate_left
      · intro W hSw
        (try dsimp only at hSw)
        go_simp
        (try with_reducible rfl)
      try simp only [Act.put, List.setIfInBounds_toArray, List.set_cons_zero, List.set_cons_succ]
      refine wpAnyH_take (i := 7) (oi := { dst := some 64, op := Op.load 25 (Operand.tmp 3), type := 25, pos := "laws.go:115", after := #[{ on := 5, ground := Ground.guard }], guard := some (5, false) }) (v := ?_) rfl (by kernel_rfl) (by kernel_rfl) (by kernel_rfl) (fun _ _ _ h => h) (Or.inl ⟨by rfl, ?_⟩) (by assumption) ?_
      rotate_left
      · intro W hSw
        (try dsimp only at hSw)
        go_simp
        (try with_reducible rfl)
      try simp only [Act.put, List.setIfInBounds_toArray, List.set_cons_zero, List.set_cons_succ]
      refine wpAnyH_ready (rs := [8]) (by kernel_rfl) (by simp) ?_
      refine AllReadyH.cons (o := { dst := some 65, op := Op.call { callee := Callee.value (Operand.func 12), args := #[Operand.tmp 63, Operand.tmp 64], argTypes := #[25, 25] }, type := 3, pos := "laws.go:115", after := #[{ on := 6, ground := Ground.data }, { on := 7, ground := Ground.data }, { on := 5, ground := Ground.chain }, { on := 5, ground := Ground.guard }], guard := some (5, false) }) rfl (fun K hK => ?_) AllReadyH.nil
      go_simp
      (go_at_call 12; with_reducible refine (icmp_v mi mr mb mv md ai ar ab av ad V (unhide HV) _).mono ?_; rintro e w1 ⟨rfl, bx⟩; have hS1 := hide (keepSQ bx (by assumption)); obtain ⟨hw1, hz0, hz1, hz2, hz3, -⟩ := unhide hS1; have hwz := hw1.size; clear hw1; clear bx)
      (try go_wp2_with fail)
      refine hK.out _ _ (unhide (by assumption)) (fun hHeld => ?_)
      clear hK K
      try simp only [Act.put, List.setIfInBounds_toArray, List.set_cons_zero, List.set_cons_succ]
      refine wpAnyH_take (i := 9) (oi := { dst := some 66, op := Op.binOp BinOp.lss 3 (Operand.tmp 65) (Operand.const (Value.int IntKind.i64 0)) 3, type := 4, pos := "laws.go:115", after := #[{ on := 8, ground := Ground.data }, { on := 5, ground := Ground.guard }], guard := some (5, false) }) (v := ?_) rfl (by kernel_rfl) (by kernel_rfl) (by kernel_rfl) (fun _ _ _ h => h) (Or.inl ⟨by rfl, ?_⟩) (by assumption) ?_
      rotate_left
      · intro W hSw
        (try dsimp only at hSw)
        go_simp
        (try with_reducible rfl)
      try simp only [Act.put, List.setIfInBounds_toArray, List.set_cons_zero, List.set_cons_succ]
      refine wpAnyH_take (i := 10) (oi := { dst := some 67, op := Op.pick (Operand.tmp 62) (Operand.const (Value.bool true)) (Operand.tmp 66), type := 4, pos := "laws.go:115", after := #[{ on := 5, ground := Ground.data }, { on := 9, ground := Ground.data }], guard := none }) (v := ?_) rfl (by kernel_rfl) (by kernel_rfl) (by kernel_rfl) (fun _ _ _ h => h) (Or.inl ⟨by rfl, ?_⟩) (by assumption) ?_
      rotate_left
      · intro W hSw
        (try dsimp only at hSw)
        go_simp
        (try with_reducible rfl)
      try simp only [Act.put, List.setIfInBounds_toArray, List.set_cons_zero, List.set_cons_succ]
      refine wpAnyH_take (i := 11) (oi := { dst := some 68, op := Op.move (Operand.tmp 67), type := 4, pos := "laws.go:115", after := #[{ on := 10, ground := Ground.data }, { on := 8, ground := Ground.chain }], guard := none }) (v := ?_) rfl (by kernel_rfl) (by kernel_rfl) (by kernel_rfl) (fun _ _ _ h => h) (Or.inl ⟨by rfl, ?_⟩) (by assumption) ?_
      rotate_left
      · intro W hSw
        (try dsimp only at hSw)
        go_simp
        (try with_reducible rfl)
      try simp only [Act.put, List.setIfInBounds_toArray, List.set_cons_zero, List.set_cons_succ]
      refine wpAnyH_take (i := 12) (oi := { dst := some 69, op := Op.load 25 (Operand.tmp 8), type := 25, pos := "laws.go:115", after := #[{ on := 11, ground := Ground.guard }], guard := some (11, false) }) (v := ?_) rfl (by kernel_rfl) (by kernel_rfl) (by kernel_rfl) (fun _ _ _ h => h) (Or.inl ⟨by rfl, ?_⟩) (by assumption) ?_
      rotate_left
      · intro W hSw
        (try dsimp only at hSw)
        go_simp
        (try with_reducible rfl)
      try simp only [Act.put, List.setIfInBounds_toArray, List.set_cons_zero, List.set_cons_succ]
      refine wpAnyH_take (i := 13) (oi := { dst := some 70, op := Op.load 25 (Operand.tmp 4), type := 25, pos := "laws.go:115", after := #[{ on := 11, ground := Ground.guard }], guard := some (11, false) }) (v := ?_) rfl (by kernel_rfl) (by kernel_rfl) (by kernel_rfl) (fun _ _ _ h => h) (Or.inl ⟨by rfl, ?_⟩) (by assumption) ?_
      rotate_left
      · intro W hSw
        (try dsimp only at hSw)
        go_simp
        (try with_reducible rfl)
      try simp only [Act.put, List.setIfInBounds_toArray, List.set_cons_zero, List.set_cons_succ]
      refine wpAnyH_ready (rs := [14]) (by kernel_rfl) (by simp) ?_
      refine AllReadyH.cons (o := { dst := some 71, op := Op.call { callee := Callee.value (Operand.func 12), args := #[Operand.tmp 69, Operand.tmp 70], argTypes := #[25, 25] }, type := 3, pos := "laws.go:115", after := #[{ on := 12, ground := Ground.data }, { on := 13, ground := Ground.data }, { on := 11, ground := Ground.chain }, { on := 11, ground := Ground.guard }], guard := some (11, false) }) rfl (fun K hK => ?_) AllReadyH.nil
      go_simp
      (go_at_call 12; with_reducible refine (icmp_v mi mr mb mv md bi br bb bv bd U (unhide HU) _).mono ?_; rintro e w1 ⟨rfl, bx⟩; have hS1 := hide (keepSQ bx (by assumption)); obtain ⟨hw1, hz0, hz1, hz2, hz3, -⟩ := unhide hS1; have hwz := hw1.size; clear hw1; clear bx)
      (try go_wp2_with fail)
      refine hK.out _ _ (unhide (by assumption)) (fun hHeld => ?_)
      clear hK K
      try simp only [Act.put, List.setIfInBounds_toArray, List.set_cons_zero, List.set_cons_succ]
      refine wpAnyH_take (i := 15) (oi := { dst := some 72, op := Op.binOp BinOp.lss 3 (Operand.tmp 71) (Operand.const (Value.int IntKind.i64 0)) 3, type := 4, pos := "laws.go:115", after := #[{ on := 14, ground := Ground.data }, { on := 11, ground := Ground.guard }], guard := some (11, false) }) (v := ?_) rfl (by kernel_rfl) (by kernel_rfl) (by kernel_rfl) (fun _ _ _ h => h) (Or.inl ⟨by rfl, ?_⟩) (by assumption) ?_
      rotate_left
      · intro W hSw
        (try dsimp only at hSw)
        go_simp
        (try with_reducible rfl)
      try simp only [Act.put, List.setIfInBounds_toArray, List.set_cons_zero, List.set_cons_succ]
      refine wpAnyH_take (i := 16) (oi := { dst := some 73, op := Op.pick (Operand.tmp 68) (Operand.const (Value.bool true)) (Operand.tmp 72), type := 4, pos := "laws.go:115", after := #[{ on := 11, ground := Ground.data }, { on := 15, ground := Ground.data }], guard := none }) (v := ?_) rfl (by kernel_rfl) (by kernel_rfl) (by kernel_rfl) (fun _ _ _ h => h) (Or.inl ⟨by rfl, ?_⟩) (by assumption) ?_
      rotate_left
      · intro W hSw
        (try dsimp only at hSw)
        go_simp
        (try with_reducible rfl)
      try simp only [Act.put, List.setIfInBounds_toArray, List.set_cons_zero, List.set_cons_succ]
      refine wpAnyH_take (i := 17) (oi := { dst := some 74, op := Op.move (Operand.tmp 73), type := 4, pos := "laws.go:115", after := #[{ on := 16, ground := Ground.data }, { on := 14, ground := Ground.chain }], guard := none }) (v := ?_) rfl (by kernel_rfl) (by kernel_rfl) (by kernel_rfl) (fun _ _ _ h => h) (Or.inl ⟨by rfl, ?_⟩) (by assumption) ?_
      rotate_left
      · intro W hSw
        (try dsimp only at hSw)
        go_simp
        (try with_reducible rfl)
      try simp only [Act.put, List.setIfInBounds_toArray, List.set_cons_zero, List.set_cons_succ]
      refine wpAnyH_take (i := 18) (oi := { dst := some 75, op := Op.load 25 (Operand.tmp 8), type := 25, pos := "laws.go:115", after := #[{ on := 17, ground := Ground.guard }], guard := some (17, false) }) (v := ?_) rfl (by kernel_rfl) (by kernel_rfl) (by kernel_rfl) (fun _ _ _ h => h) (Or.inl ⟨by rfl, ?_⟩) (by assumption) ?_
      rotate_left
      · intro W hSw
        (try dsimp only at hSw)
        go_simp
        (try with_reducible rfl)
      try simp only [Act.put, List.setIfInBounds_toArray, List.set_cons_zero, List.set_cons_succ]
      refine wpAnyH_take (i := 19) (oi := { dst := some 76, op := Op.load 25 (Operand.tmp 3), type := 25, pos := "laws.go:115", after := #[{ on := 17, ground := Ground.guard }], guard := some (17, false) }) (v := ?_) rfl (by kernel_rfl) (by kernel_rfl) (by kernel_rfl) (fun _ _ _ h => h) (Or.inl ⟨by rfl, ?_⟩) (by assumption) ?_
      rotate_left
      · intro W hSw
        (try dsimp only at hSw)
        go_simp
        (try with_reducible rfl)
      try simp only [Act.put, List.setIfInBounds_toArray, List.set_cons_zero, List.set_cons_succ]
      refine wpAnyH_take (i := 20) (oi := { dst := some 77, op := Op.binOp BinOp.neq 25 (Operand.tmp 75) (Operand.tmp 76) 25, type := 4, pos := "laws.go:115", after := #[{ on := 18, ground := Ground.data }, { on := 19, ground := Ground.data }, { on := 17, ground := Ground.guard }], guard := some (17, false) }) (v := ?_) rfl (by kernel_rfl) (by kernel_rfl) (by kernel_rfl) (fun _ _ _ h => h) (Or.inl ⟨by rfl, ?_⟩) (by assumption) ?_
      rotate_left
      · intro W hSw
        (try dsimp only at hSw)
        go_simp
        (try with_reducible rfl)
      try simp only [Act.put, List.setIfInBounds_toArray, List.set_cons_zero, List.set_cons_succ]
      refine wpAnyH_take (i := 21) (oi := { dst := some 78, op := Op.move (Operand.tmp 77), type := 4, pos := "laws.go:115", after := #[{ on := 20, ground := Ground.data }, { on := 17, ground := Ground.chain }, { on := 17, ground := Ground.guard }], guard := some (17, false) }) (v := ?_) rfl (by kernel_rfl) (by kernel_rfl) (by kernel_rfl) (fun _ _ _ h => h) (Or.inl ⟨by rfl, ?_⟩) (by assumption) ?_
      rotate_left
      · intro W hSw
        (try dsimp only at hSw)
        go_simp
        (try with_reducible rfl)
      try simp only [Act.put, List.setIfInBounds_toArray, List.set_cons_zero, List.set_cons_succ]
      refine wpAnyH_take (i := 22) (oi := { dst := some 79, op := Op.load 25 (Operand.tmp 8), type := 25, pos := "laws.go:115", after := #[{ on := 21, ground := Ground.guard }], guard := some (21, true) }) (v := undef) rfl (by kernel_rfl) (by kernel_rfl) (by kernel_rfl) (fun _ _ _ h => h) (Or.inr ⟨by rfl, rfl⟩) (by assumption) ?_
      try simp only [Act.put, List.setIfInBounds_toArray, List.set_cons_zero, List.set_cons_succ]
      refine wpAnyH_take (i := 23) (oi := { dst := some 80, op := Op.load 25 (Operand.tmp 4), type := 25, pos := "laws.go:115", after := #[{ on := 21, ground := Ground.guard }], guard := some (21, true) }) (v := undef) rfl (by kernel_rfl) (by kernel_rfl) (by kernel_rfl) (fun _ _ _ h => h) (Or.inr ⟨by rfl, rfl⟩) (by assumption) ?_
      try simp only [Act.put, List.setIfInBounds_toArray, List.set_cons_zero, List.set_cons_succ]
      refine wpAnyH_take (i := 24) (oi := { dst := some 81, op := Op.binOp BinOp.neq 25 (Operand.tmp 79) (Operand.tmp 80) 25, type := 4, pos := "laws.go:115", after := #[{ on := 22, ground := Ground.data }, { on := 23, ground := Ground.data }, { on := 21, ground := Ground.guard }], guard := some (21, true) }) (v := undef) rfl (by kernel_rfl) (by kernel_rfl) (by kernel_rfl) (fun _ _ _ h => h) (Or.inr ⟨by rfl, rfl⟩) (by assumption) ?_
      try simp only [Act.put, List.setIfInBounds_toArray, List.set_cons_zero, List.set_cons_succ]
      refine wpAnyH_take (i := 25) (oi := { dst := some 82, op := Op.pick (Operand.tmp 78) (Operand.tmp 81) (Operand.const (Value.bool false)), type := 4, pos := "laws.go:115", after := #[{ on := 21, ground := Ground.data }, { on := 24, ground := Ground.data }, { on := 17, ground := Ground.guard }], guard := some (17, false) }) (v := ?_) rfl (by kernel_rfl) (by kernel_rfl) (by kernel_rfl) (fun _ _ _ h => h) (Or.inl ⟨by rfl, ?_⟩) (by assumption) ?_
      rotate_left
      · intro W hSw
        (try dsimp only at hSw)
        go_simp
        (try with_reducible rfl)
      try simp only [Act.put, List.setIfInBounds_toArray, List.set_cons_zero, List.set_cons_succ]
      refine wpAnyH_take (i := 26) (oi := { dst := some 83, op := Op.pick (Operand.tmp 74) (Operand.const (Value.bool true)) (Operand.tmp 82), type := 4, pos := "laws.go:115", after := #[{ on := 17, ground := Ground.data }, { on := 25, ground := Ground.data }], guard := none }) (v := ?_) rfl (by kernel_rfl) (by kernel_rfl) (by kernel_rfl) (fun _ _ _ h => h) (Or.inl ⟨by rfl, ?_⟩) (by assumption) ?_
      rotate_left
      · intro W hSw
        (try dsimp only at hSw)
        go_simp
        (try with_reducible rfl)
      try simp only [Act.put, List.setIfInBounds_toArray, List.set_cons_zero, List.set_cons_succ]
      refine wpAnyH_done (by kernel_rfl) ?_ _
      refine NoPanic.normal ?_
      go_wp2_with fail
      go_meet
      exact ⟨rfl, hHeld⟩
    · have hma : ∀ W : World, (Op.equalIn 10000 25 (.agg #[.int .i64 mi, .int .i64 mr, .int .i64 mb, .int .i64 mv, .string md]) (.agg #[.int .i64 ai, .int .i64 ar, .int .i64 ab, .int .i64 av, .string ad])).run Try.prog W = .ok false W := fun W => by rw [eq_run, unhide HV]; simp [h]
      have hmb : ∀ W : World, (Op.equalIn 10000 25 (.agg #[.int .i64 mi, .int .i64 mr, .int .i64 mb, .int .i64 mv, .string md]) (.agg #[.int .i64 bi, .int .i64 br, .int .i64 bb, .int .i64 bv, .string bd])).run Try.prog W = .ok true W := fun W => by rw [eq_run, unhide HU, (unhide VU).resolve_left h]; rfl
      clear h
      first
        | go_region_held3 (fun w' => Below w.heap.size w w' ∧ w1.heap.size < w'.heap.size ∧ w1.heap.size + 1 < w'.heap.size ∧ w2.heap.size < w'.heap.size ∧ w8.heap.size < w'.heap.size ∧ w'.cell? ⟨w1.heap.size, 0, none⟩ = some (.int .i64 ai) ∧ w'.cell? ⟨w1.heap.size, 1, none⟩ = some (.int .i64 ar) ∧ w'.cell? ⟨w1.heap.size, 2, none⟩ = some (.int .i64 ab) ∧ w'.cell? ⟨w1.heap.size, 3, none⟩ = some (.int .i64 av) ∧ w'.cell? ⟨w1.heap.size, 4, none⟩ = some (.string ad) ∧ w'.cell? ⟨w1.heap.size + 1, 0, none⟩ = some (.int .i64 bi) ∧ w'.cell? ⟨w1.heap.size + 1, 1, none⟩ = some (.int .i64 br) ∧ w'.cell? ⟨w1.heap.size + 1, 2, none⟩ = some (.int .i64 bb) ∧ w'.cell? ⟨w1.heap.size + 1, 3, none⟩ = some (.int .i64 bv) ∧ w'.cell? ⟨w1.heap.size + 1, 4, none⟩ = some (.string bd) ∧ w'.cell? ⟨w2.heap.size, 0, none⟩ = some (.int .i64 di) ∧ w'.cell? ⟨w2.heap.size, 1, none⟩ = some (.int .i64 dr) ∧ w'.cell? ⟨w2.heap.size, 2, none⟩ = some (.int .i64 db) ∧ w'.cell? ⟨w2.heap.size, 3, none⟩ = some (.int .i64 dv) ∧ w'.cell? ⟨w2.heap.size, 4, none⟩ = some (.string dd) ∧ w'.cell? ⟨w8.heap.size, 0, none⟩ = some (.int .i64 mi) ∧ w'.cell? ⟨w8.heap.size, 1, none⟩ = some (.int .i64 mr) ∧ w'.cell? ⟨w8.heap.size, 2, none⟩ = some (.int .i64 mb) ∧ w'.cell? ⟨w8.heap.size, 3, none⟩ = some (.int .i64 mv) ∧ w'.cell? ⟨w8.heap.size, 4, none⟩ = some (.string md)) (first | with_reducible exact unhide (by assumption) | with_reducible exact keepDQ (unhide H9) | with_reducible exact keepDQ (by assumption) | with_reducible exact keepADQ _ (by assumption) | (with_reducible refine keepBDQ _ _ ?_ ?_ ?_ ?_ ?_ (by assumption) <;> omega) | with_reducible exact keepAQ _ (by assumption) | (with_reducible refine keepBQ _ _ ?_ ?_ ?_ ?_ ?_ (by assumption) <;> omega))
            (first
              | (go_at_call 15; with_reducible refine (imax_v bi br bb bv bd ai ar ab av ad mi mr mb mv md HMB hb9 ha9 _).mono ?_; rintro e w1 ⟨rfl, bx⟩; have hS1 := hide (keepSQ bx (by assumption)); obtain ⟨hw1, hz0, hz1, hz2, hz3, -⟩ := unhide hS1; have hwz := hw1.size; clear hw1; clear bx)
              | (go_at_call 12; with_reducible refine (icmp_v mi mr mb mv md ai ar ab av ad V (unhide HV) _).mono ?_; rintro e w1 ⟨rfl, bx⟩; have hS1 := hide (keepSQ bx (by assumption)); obtain ⟨hw1, hz0, hz1, hz2, hz3, -⟩ := unhide hS1; have hwz := hw1.size; clear hw1; clear bx)
              | (go_at_call 12; with_reducible refine (icmp_v mi mr mb mv md bi br bb bv bd U (unhide HU) _).mono ?_; rintro e w1 ⟨rfl, bx⟩; have hS1 := hide (keepSQ bx (by assumption)); obtain ⟨hw1, hz0, hz1, hz2, hz3, -⟩ := unhide hS1; have hwz := hw1.size; clear hw1; clear bx))
        | fail
      all_goals
        rename_i hS
        go_wp2_with fail
        go_meet
        exact ⟨rfl, hS⟩
  case rest =>
    obtain ⟨rfl, hS⟩ := hcut
    have H10 := hide hS
    clear hS H9 VU HV HU v0 u0 HMB
    obtain ⟨qi, qr, qb, qv, qd, hq⟩ := isMax_ex mi mr mb mv md di dr db dv dd
    obtain ⟨ri, rr, rb, rv, rd, hr⟩ := isMax_ex bi br bb bv bd di dr db dv dd
    have HQ := hide hq
    have HR := hide hr
    have HAR := hide (isMax_assoc ai ar ab av ad bi br bb bv bd di dr db dv dd mi mr mb mv md qi qr qb qv qd ri rr rb rv rd (unhide HM) hq hr)
    have HAA := hide (isMax_self ai ar ab av ad)
    have hr9 := isMax_size bi br bb bv bd di dr db dv dd ri rr rb rv rd hr hb9 hd9
    clear hq hr
    go_upto_region 11 with fail
    go_cut [101] from 84 to 101 (fun s wx => s = .bool false ∧ Below w.heap.size w wx ∧ w1.heap.size < wx.heap.size ∧ w1.heap.size + 1 < wx.heap.size ∧ w2.heap.size < wx.heap.size ∧ w8.heap.size < wx.heap.size ∧ wx.cell? ⟨w1.heap.size, 0, none⟩ = some (.int .i64 ai) ∧ wx.cell? ⟨w1.heap.size, 1, none⟩ = some (.int .i64 ar) ∧ wx.cell? ⟨w1.heap.size, 2, none⟩ = some (.int .i64 ab) ∧ wx.cell? ⟨w1.heap.size, 3, none⟩ = some (.int .i64 av) ∧ wx.cell? ⟨w1.heap.size, 4, none⟩ = some (.string ad) ∧ wx.cell? ⟨w1.heap.size + 1, 0, none⟩ = some (.int .i64 bi) ∧ wx.cell? ⟨w1.heap.size + 1, 1, none⟩ = some (.int .i64 br) ∧ wx.cell? ⟨w1.heap.size + 1, 2, none⟩ = some (.int .i64 bb) ∧ wx.cell? ⟨w1.heap.size + 1, 3, none⟩ = some (.int .i64 bv) ∧ wx.cell? ⟨w1.heap.size + 1, 4, none⟩ = some (.string bd) ∧ wx.cell? ⟨w2.heap.size, 0, none⟩ = some (.int .i64 di) ∧ wx.cell? ⟨w2.heap.size, 1, none⟩ = some (.int .i64 dr) ∧ wx.cell? ⟨w2.heap.size, 2, none⟩ = some (.int .i64 db) ∧ wx.cell? ⟨w2.heap.size, 3, none⟩ = some (.int .i64 dv) ∧ wx.cell? ⟨w2.heap.size, 4, none⟩ = some (.string dd) ∧ wx.cell? ⟨w8.heap.size, 0, none⟩ = some (.int .i64 mi) ∧ wx.cell? ⟨w8.heap.size, 1, none⟩ = some (.int .i64 mr) ∧ wx.cell? ⟨w8.heap.size, 2, none⟩ = some (.int .i64 mb) ∧ wx.cell? ⟨w8.heap.size, 3, none⟩ = some (.int .i64 mv) ∧ wx.cell? ⟨w8.heap.size, 4, none⟩ = some (.string md))
    case first =>
      have hqq : ∀ W : World, (Op.equalIn 10000 25 (.agg #[.int .i64 qi, .int .i64 qr, .int .i64 qb, .int .i64 qv, .string qd]) (.agg #[.int .i64 qi, .int .i64 qr, .int .i64 qb, .int .i64 qv, .string qd])).run Try.prog W = .ok true W := fun W => by rw [eq_run, cmpE_self]; rfl
      have haa : ∀ W : World, (Op.equalIn 10000 25 (.agg #[.int .i64 ai, .int .i64 ar, .int .i64 ab, .int .i64 av, .string ad]) (.agg #[.int .i64 ai, .int .i64 ar, .int .i64 ab, .int .i64 av, .string ad])).run Try.prog W = .ok true W := fun W => by rw [eq_run, cmpE_self]; rfl
      go_region_held3 (fun w' => Below w.heap.size w w' ∧ w1.heap.size < w'.heap.size ∧ w1.heap.size + 1 < w'.heap.size ∧ w2.heap.size < w'.heap.size ∧ w8.heap.size < w'.heap.size ∧ w'.cell? ⟨w1.heap.size, 0, none⟩ = some (.int .i64 ai) ∧ w'.cell? ⟨w1.heap.size, 1, none⟩ = some (.int .i64 ar) ∧ w'.cell? ⟨w1.heap.size, 2, none⟩ = some (.int .i64 ab) ∧ w'.cell? ⟨w1.heap.size, 3, none⟩ = some (.int .i64 av) ∧ w'.cell? ⟨w1.heap.size, 4, none⟩ = some (.string ad) ∧ w'.cell? ⟨w1.heap.size + 1, 0, none⟩ = some (.int .i64 bi) ∧ w'.cell? ⟨w1.heap.size + 1, 1, none⟩ = some (.int .i64 br) ∧ w'.cell? ⟨w1.heap.size + 1, 2, none⟩ = some (.int .i64 bb) ∧ w'.cell? ⟨w1.heap.size + 1, 3, none⟩ = some (.int .i64 bv) ∧ w'.cell? ⟨w1.heap.size + 1, 4, none⟩ = some (.string bd) ∧ w'.cell? ⟨w2.heap.size, 0, none⟩ = some (.int .i64 di) ∧ w'.cell? ⟨w2.heap.size, 1, none⟩ = some (.int .i64 dr) ∧ w'.cell? ⟨w2.heap.size, 2, none⟩ = some (.int .i64 db) ∧ w'.cell? ⟨w2.heap.size, 3, none⟩ = some (.int .i64 dv) ∧ w'.cell? ⟨w2.heap.size, 4, none⟩ = some (.string dd) ∧ w'.cell? ⟨w8.heap.size, 0, none⟩ = some (.int .i64 mi) ∧ w'.cell? ⟨w8.heap.size, 1, none⟩ = some (.int .i64 mr) ∧ w'.cell? ⟨w8.heap.size, 2, none⟩ = some (.int .i64 mb) ∧ w'.cell? ⟨w8.heap.size, 3, none⟩ = some (.int .i64 mv) ∧ w'.cell? ⟨w8.heap.size, 4, none⟩ = some (.string md)) (first | with_reducible exact unhide (by assumption) | with_reducible exact keepDQ (unhide H10) | with_reducible exact keepDQ (by assumption) | with_reducible exact keepADQ _ (by assumption) | (with_reducible refine keepBDQ _ _ ?_ ?_ ?_ ?_ ?_ (by assumption) <;> omega) | with_reducible exact keepAQ _ (by assumption) | (with_reducible refine keepBQ _ _ ?_ ?_ ?_ ?_ ?_ (by assumption) <;> omega))
            (first
              | (go_at_call 15; with_reducible refine (imax_v ai ar ab av ad bi br bb bv bd mi mr mb mv md HM ha9 hb9 _).mono ?_; rintro e w1 ⟨rfl, bx⟩; have hS1 := hide (keepSQ bx (by assumption)); obtain ⟨hw1, hz0, hz1, hz2, hz3, -⟩ := unhide hS1; have hwz := hw1.size; clear hw1; clear bx)
              | (go_at_call 15; with_reducible refine (imax_v mi mr mb mv md di dr db dv dd qi qr qb qv qd HQ hm9 hd9 _).mono ?_; rintro e w1 ⟨rfl, bx⟩; have hS1 := hide (keepSQ bx (by assumption)); obtain ⟨hw1, hz0, hz1, hz2, hz3, -⟩ := unhide hS1; have hwz := hw1.size; clear hw1; clear bx)
              | (go_at_call 15; with_reducible refine (imax_v bi br bb bv bd di dr db dv dd ri rr rb rv rd HR hb9 hd9 _).mono ?_; rintro e w1 ⟨rfl, bx⟩; have hS1 := hide (keepSQ bx (by assumption)); obtain ⟨hw1, hz0, hz1, hz2, hz3, -⟩ := unhide hS1; have hwz := hw1.size; clear hw1; clear bx)
              | (go_at_call 15; with_reducible refine (imax_v ai ar ab av ad ri rr rb rv rd qi qr qb qv qd HAR ha9 hr9 _).mono ?_; rintro e w1 ⟨rfl, bx⟩; have hS1 := hide (keepSQ bx (by assumption)); obtain ⟨hw1, hz0, hz1, hz2, hz3, -⟩ := unhide hS1; have hwz := hw1.size; clear hw1; clear bx)
              | (go_at_call 15; with_reducible refine (imax_v ai ar ab av ad ai ar ab av ad ai ar ab av ad HAA ha9 ha9 _).mono ?_; rintro e w1 ⟨rfl, bx⟩; have hS1 := hide (keepSQ bx (by assumption)); obtain ⟨hw1, hz0, hz1, hz2, hz3, -⟩ := unhide hS1; have hwz := hw1.size; clear hw1; clear bx))
      all_goals
        rename_i hS
        go_wp2_with fail
        go_meet
        exact ⟨rfl, hS⟩
    case rest =>
      obtain ⟨rfl, hS⟩ := hcut
      have H11 := hide hS
      obtain ⟨-, hz0, hz1, hz2, hz3, c0, c1, c2, c3, c4, c5, c6, c7, c8, c9, c10, c11, c12, c13, c14, c15, c16, c17, c18, c19⟩ := hS
      clear H10 HQ HR HAR HAA hr9 HM hm9
      obtain ⟨Y, hY⟩ : ∃ Y, cmpE bi br bb bv bd di dr db dv dd = Y := ⟨_, rfl⟩
      obtain ⟨Z, hZ⟩ : ∃ Z, cmpE ai ar ab av ad di dr db dv dd = Z := ⟨_, rfl⟩
      have htr := hide (cmpE_trans ai ar ab av ad bi br bb bv bd di dr db dv dd)
      rw [unhide HX, hY, hZ] at htr
      have HY2 := hide hY
      have HZ2 := hide hZ
      clear hY hZ HX
      by_cases h1 : X < 0
      · have hd1 : decide (X < 0) = true := by simpa using h1
        go_wp2
        go_ret
        exact ⟨rfl, (unhide H11).1⟩
      have hd1 : decide (X < 0) = false := by simpa using h1
      go_wp2_with fail
      refine (icmp_v bi br bb bv bd di dr db dv dd Y (unhide HY2) _).mono ?_
      rintro e w12 ⟨rfl, b12⟩
      have S12 := keepSQ b12 (unhide H11)
      have H12 := hide S12
      clear b12 hz0 hz1 hz2 hz3 c0 c1 c2 c3 c4 c5 c6 c7 c8 c9 c10 c11 c12 c13 c14 c15 c16 c17 c18 c19 H11
      obtain ⟨-, hz0, hz1, hz2, hz3, c0, c1, c2, c3, c4, c5, c6, c7, c8, c9, c10, c11, c12, c13, c14, c15, c16, c17, c18, c19⟩ := S12
      by_cases h2 : Y < 0
      · have hd2 : decide (Y < 0) = true := by simpa using h2
        go_wp2
        go_ret
        exact ⟨rfl, (unhide H12).1⟩
      have hd2 : decide (Y < 0) = false := by simpa using h2
      have hd3 : decide (0 ≤ Z) = true := by simpa using unhide htr (by omega) (by omega)
      go_wp2_with fail
      refine (icmp_v ai ar ab av ad di dr db dv dd Z (unhide HZ2) _).mono ?_
      rintro e w13 ⟨rfl, b13⟩
      have H13 := hide (keepSQ b13 (unhide H12)).1
      clear b13 hz0 hz1 hz2 hz3 c0 c1 c2 c3 c4 c5 c6 c7 c8 c9 c10 c11 c12 c13 c14 c15 c16 c17 c18 c19 H12
      go_wp2
      go_ret
      exact ⟨rfl, unhide H13⟩

/-! ### THE ROW's STEP: WRITTEN OUT: LEAVE IT -/
set_option maxRecDepth 100000 in
theorem lifted (os : Os) (started : os.Started) (H : Type) (enc : TypeId × Value → H) :
    ReturnsInHanded {} Try.checked os 3 .any (Rows.fnOrderSpec.pre6 enc Try.prog Try.f3 Rows.fnOrderRow.domain false) (Rows.fnOrderSpec.post enc Try.prog Try.f3 false true false false) := by
  refine returnsInHanded_of_change (C := Try.checked) own started (by kernel_rfl) Try.func3
    (ChangeSpec.witness6 (enc := enc) (C := Try.checked) false ⟨#[], #[.slice none 0 0], []⟩ 8 (by kernel_rfl) (by kernel_rfl) (by kernel_rfl) (by kernel_rfl)) ?_
  intro W base args ds gs before hval0 hW hcnd _
  have hval : ∀ (j : Nat) t v, Try.f3.params[j]? = some t → args[j]? = some v → Value.okWide Try.prog W .any base t v := hval0
  have hW' := hW
  obtain ⟨p, q, hA0, hV, rfl, hfz, hnd⟩ := hW
  have hA : DataW.TrodAll enc Try.prog W 0 (fun _ => true) true Try.f3.params.toList args.toList ds p := hA0
  rw [Try.params3] at hA hval
  obtain ⟨v0, vs0, d0, ds0, p0, q0, hargs, rfl, rfl, h0, r0⟩ := trodAll_cons hA
  obtain ⟨rfl, rfl, rfl⟩ := trodAll_nil r0
  obtain rfl : args = #[v0] := by cases args; simp_all
  obtain ⟨rfl, rfl⟩ := trodVars_none hV
  obtain ⟨a0, len0, cap0, rfl⟩ := okWide_slice Try.underlying22 (hval 0 22 v0 rfl rfl)
  have k0 := h0
  have lt0 : ∀ x ∈ p0, x.block < W.heap.size := by obtain ⟨m, hm⟩ := k0; exact DataW.trod_lt m _ _ _ hm
  obtain ⟨z0, w0⟩ : ∃ zs, IsRow .u8 W a0 len0 cap0 zs := by
    obtain ⟨fuel, hf⟩ := h0
    rcases open_ints Try.underlying22 Try.underlying5 (by kernel_rfl) hf with ⟨hcs, _⟩ | ⟨x, l, c, zs, hcs, _, hl, hm, hz, _, hcell, hwz⟩
    · simp [Value.cells] at hcs
      obtain ⟨rfl, rfl, rfl⟩ := hcs
      exact ⟨[], .inl ⟨rfl, rfl, rfl, rfl⟩⟩
    · simp [Value.cells] at hcs
      obtain ⟨rfl, rfl, rfl⟩ := hcs
      exact ⟨zs, .inr ⟨_, rfl, hl, hm, by simpa using hz, hcell, hwz⟩⟩
  clear hA0 hval0
  refine (walk a0 len0 cap0 z0 W w0).mono fun e W' ⟨he, bel⟩ => ?_
  subst he
  exact ⟨_, rfl, _, _, _, [], _, [], hW', trodAll_mk1 (shut_bool Try.underlying4 _), (trodAll_cons_mk (Below.trod laidOut (by kernel_rfl) (of_decide_eq_true (by kernel_rfl)) k0 bel lt0) trodAll_mk0), rfl, bel.frame _, fun h => by cases h⟩

theorem over : Rows.fnOrderRow.holds Try.pinned (OpenSpec.ofChange Rows.fnOrderSpec) :=
  OpenClaim.holds_of_wide 3 Try.f3 rfl rfl rfl rfl rfl rfl rfl ⟨rfl, rfl, rfl, rfl, rfl⟩ rfl rfl rfl rfl rfl (by kernel_rfl) Try.func3 (by kernel_rfl)
    (of_decide_eq_true (by kernel_rfl)) (by unfold Func.isWrapper; first | (rw [if_pos (by decide +kernel)]; kernel_rfl) | (rw [if_neg (by decide +kernel)]; exact ⟨rfl, rfl⟩))
    (fun os started H enc _ => lifted os started H enc)

theorem proved : Rows.FnOrderSaid := over
#print axioms proved
end Go.Proofs.Ytnalnjokijbhbaa.fnOrder
namespace Go.Proofs.Ytnalnjokijbhbaa
theorem fnOrder_holds : Rows.FnOrderSaid := fnOrder.proved
end Go.Proofs.Ytnalnjokijbhbaa
