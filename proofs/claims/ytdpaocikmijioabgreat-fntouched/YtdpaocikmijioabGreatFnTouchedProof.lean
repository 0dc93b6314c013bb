/-
  Over every code: the tree of a drawn state, touched where one node’s drawn entry was joined, is the joined state’s tree; the two trees are unlike in that node’s leaf alone.
-/
import Derived.Test.YtdpaocikmijioabGreatRows
import Derived.Test.YtdpaocikmijioabGreatTrX
import Derived.Test.YtdpaocikmijioabGreatIJnP
import Derived.Test.YtdpaocikmijioabGreatStSg
import Derived.Test.YtdpaocikmijioabGreatIJoin
import Derived.Test.YtdpaocikmijioabGreatDrawB
import Derived.WalkKit
import Derived.ProofKit
import Derived.OpenShut
import Derived.ShutString
import Derived.ChangeOld
import Derived.Below
namespace Go.Proofs.YtdpaocikmijioabGreat.fnTouched
open Go.ChangeShapes Go.WideShapes Go.ChangeAt Go.RowKit
open Go.ChangeMaps (open_string shut_string)
set_option linter.unusedVariables false

theorem own : ownKnob Tryz.prog.godebug = none := by kernel_rfl
theorem laidOut : laidOutB Tryz.prog = true := by kernel_rfl

/-- WHAT THE WALK IS TOLD OF A SLICE OF INTEGERS THAT CAME IN: it is nil; or it leads to a row of 'cap' cells, the numbers 'zs' (the first 'len' are its elements, the rest its spare room), each fitting its kind. -/
def IsRow (k : IntKind) (w : World) (a : Option Addr) (len cap : Nat) (zs : List Int) : Prop :=
  (a = none ∧ len = 0 ∧ cap = 0 ∧ zs = []) ∨
  ∃ x, a = some x ∧ len ≤ cap ∧ cap ≤ maxLen ∧ zs.length = cap ∧ (∀ i, i < zs.length → w.cell? (x.add i) = some (.int k (zs.getD i 0))) ∧ ∀ n ∈ zs, (Lit.int k n).wf = true

/-! ### STEP 1: THE WALK: the Go text returns true, AND WRITES NOTHING THAT WAS THERE: 'Below w.heap.size w w'' (Derived/Below.lean: '.refl', '.alloc', '.drew', '.setCell' at a new block, '.trans'). Open each 'IsRow' by 'rcases' AHEAD of 'go_enter'; part every test ahead of the walk. -/
set_option maxRecDepth 100000 in
set_option maxHeartbeats 4000000 in
theorem walk (a0 : Option Addr) (len0 cap0 : Nat) (z0 : List Int) (w : World) (w0 : IsRow .u8 w a0 len0 cap0 z0) :
    Calls Tryz.prog 5 #[.slice a0 len0 cap0] w fun e w' => e = .returned (.bool true) ∧ Below w.heap.size w w' := by
  obtain ⟨xs, hxl, hseg, hbd⟩ := seg_of_row w0
  subst hxl
  by_cases hbig : 1048576 < xs.length
  · clear w0 hseg hbd
    go_enter Tryz.func5, Tryz.ntmps5
    go_wp2
    go_ret
    exact ⟨rfl, Below.refl _ _⟩
  have hlen : xs.length ≤ 1048576 := by omega
  have HS0 := hide hseg
  have HD := hide hbd
  clear hseg hbd w0
  go_enter Tryz.func5, Tryz.ntmps5
  go_wp2_with fail
  refine (big_no _ _ _ _ hbig).mono ?_
  rintro e _ ⟨rfl, rfl⟩
  go_wp2_with fail
  refine (drawent_any _ xs _ hlen (unhide HD) (unhide HS0)).mono ?_
  rintro e w1 ⟨a1, n1, c1, a2, n2, c2, its, fls, id, rfl, ⟨hi0, hi1⟩, t⟩
  have BL := hide t.bel
  have R_x := hide (t.oi.rw encI_len)
  have R_f := hide (t.of.rw encF_len)
  have NI := hide t.ni
  have l1 := t.li
  have l2 := t.lf
  have hh1 := (t.oi.rw encI_len).len.1
  have hh2 := (t.of.rw encF_len).len.1
  obtain ⟨m1, m2⟩ : n1 ≤ 6 ∧ n2 ≤ 6 := by omega
  have zw1 := t.bel.size
  clear t l1 l2 hh1 hh2
  go_wp2_with fail
  refine (drawsingle_any _ xs _ hlen (unhide HD) (((unhide HS0).below (unhide BL) (Nat.le_refl _)).below ((Below.refl _ _).alloc (Nat.le_refl _) _) (Nat.le_refl _))).mono ?_
  rintro e w2 ⟨⟨id2, ei, er, eb, ev, ed, rfl, hed⟩, b2⟩
  have cw2 := ((Below.refl w1.heap.size w1).alloc (Nat.le_refl _) _).trans (b2.mono (by simp <;> omega))
  have zw2 := cw2.size
  have K_s : Hid (w2.heap[w1.heap.size]? = some (.cells #[.slice a1 n1 c1, .slice a2 n2 c2] 27 (0, 0)) ∧ w1.heap.size < w2.heap.size) := hide ⟨(b2.block _ (by simp <;> omega)).trans (newB1 w1 _), by have := b2.size; simp at this; omega⟩
  have y_s := (unhide K_s).2
  have R_x := hide ((unhide R_x).later cw2)
  have R_f := hide ((unhide R_f).later cw2)
  have BL := hide ((unhide BL).trans (cw2.mono (unhide BL).size))
  clear b2 cw2
  obtain ⟨s_0, s_1, -⟩ := blk_cells2 (unhide K_s).1
  have n_s := (unhide K_s).2
  obtain ⟨ky, hky⟩ : ∃ k : Key, k = (ei, er, eb, ev, ed) := ⟨_, rfl⟩
  obtain rfl : ei = ky.1 := by rw [hky]
  obtain rfl : er = ky.2.1 := by rw [hky]
  obtain rfl : eb = ky.2.2.1 := by rw [hky]
  obtain rfl : ev = ky.2.2.2.1 := by rw [hky]
  obtain rfl : ed = ky.2.2.2.2 := by rw [hky]
  clear hky
  obtain ⟨nt, HNT⟩ : ∃ n, Hid ((trL its fls).length = n) := ⟨_, hide rfl⟩
  obtain ⟨qt, HQT⟩ : ∃ q, Hid (trR its fls = q) := ⟨_, hide rfl⟩
  have hnt : nt ≤ 4 := by rw [← unhide HNT, trL_len]; split <;> omega
  have hntne : ((nt : Int) != (nt : Int)) = false := by simp
  go_wp2_with fail
  refine (itreeof_any a1 n1 c1 its a2 n2 c2 fls nt HNT qt HQT _ (by omega) (by omega) ((unhide R_x).alloc _) ((unhide R_f).alloc _)).mono ?_
  rintro e w3 ⟨ta, tc, rfl, ⟨E1, o1⟩, b3⟩
  clear s_0 s_1 n_s
  have cw3 := ((Below.refl w2.heap.size w2).alloc (Nat.le_refl _) _).trans (b3.mono (by simp <;> omega))
  have zw3 := cw3.size
  have K_s := hide (keptblk cw3 K_s)
  have K_e : Hid (w3.heap[w2.heap.size]? = some (.cells #[.int .i64 ky.1, .int .i64 ky.2.1, .int .i64 ky.2.2.1, .int .i64 ky.2.2.2.1, .string ky.2.2.2.2] 38 (0, 0)) ∧ w2.heap.size < w3.heap.size) := hide ⟨(b3.block _ (by simp <;> omega)).trans (newB1 w2 _), by have := b3.size; simp at this; omega⟩
  have y_e := (unhide K_e).2
  have R_x := hide ((unhide R_x).later cw3)
  have R_f := hide ((unhide R_f).later cw3)
  have BL := hide ((unhide BL).trans (cw3.mono (unhide BL).size))
  have R_T := hide (o1.rw encN_len)
  clear b3 cw3
  obtain ⟨s_0, s_1, -⟩ := blk_cells2 (unhide K_s).1
  have n_s := (unhide K_s).2
  obtain ⟨e_0, e_1, e_2, e_3, e_4, -⟩ := blk_cells5 (unhide K_e).1
  have n_e := (unhide K_e).2
  have NT := hide (Ow.nilok o1)
  clear o1
  go_wp2_with fail
  clear e_0 e_1 e_2 e_3 e_4 n_e s_0 s_1 n_s
  obtain ⟨wt, hwt⟩ : ∃ W, W = w3.alloc (.cells #[.slice ta nt tc, .int .i64 qt] 50) := ⟨_, rfl⟩
  rw [← hwt]
  have cwt : Below w3.heap.size w3 wt := by rw [hwt]; exact (Below.refl _ _).alloc (Nat.le_refl _) _
  have zwt := cwt.size
  have K_t9 : Hid (wt.heap[w3.heap.size]? = some (.cells #[.slice ta nt tc, .int .i64 qt] 50 (0, 0)) ∧ w3.heap.size < wt.heap.size) := hide ⟨by rw [hwt]; exact heap_alloc_new _ _, by rw [hwt]; simp⟩
  clear hwt
  have K_s := hide (keptblk cwt K_s)
  have K_e := hide (keptblk cwt K_e)
  have R_x := hide ((unhide R_x).later cwt)
  have R_f := hide ((unhide R_f).later cwt)
  have R_T := hide ((unhide R_T).later cwt)
  have BL := hide ((unhide BL).trans (cwt.mono (unhide BL).size))
  clear cwt
  obtain ⟨s_0, s_1, -⟩ := blk_cells2 (unhide K_s).1
  have n_s := (unhide K_s).2
  obtain ⟨e_0, e_1, e_2, e_3, e_4, -⟩ := blk_cells5 (unhide K_e).1
  have n_e := (unhide K_e).2
  have K_t := K_t9
  clear K_t9
  obtain ⟨t_0, t_1, -⟩ := blk_cells2 (unhide K_t).1
  have n_t := (unhide K_t).2
  clear e_0 e_1 e_2 e_3 e_4 n_e s_0 s_1 n_s t_0 t_1 n_t
  obtain ⟨x0, x1, -⟩ := blk_cells2 (unhide K_t).1
  obtain ⟨y0, y1, -⟩ := blk_cells2 (unhide K_s).1
  have X0 := hide x0; have X1 := hide x1; have Y0 := hide y0; have Y1 := hide y1
  clear x0 x1 y0 y1
  go_region_held3 (fun W => Below wt.heap.size wt W ∧ W.cell? ⟨w3.heap.size, 0, none⟩ = some (.slice ta nt tc) ∧ W.cell? ⟨w3.heap.size, 1, none⟩ = some (.int .i64 qt) ∧ W.cell? ⟨w1.heap.size, 0, none⟩ = some (.slice a1 n1 c1) ∧ W.cell? ⟨w1.heap.size, 1, none⟩ = some (.slice a2 n2 c2))
    (first | (with_reducible exact keep4 (unhide K_t).2 (unhide K_t).2 (unhide K_s).2 (unhide K_s).2 (unhide X0) (unhide X1) (unhide Y0) (unhide Y1) (Below.refl _ _)) | (with_reducible exact keep4 (unhide K_t).2 (unhide K_t).2 (unhide K_s).2 (unhide K_s).2 (unhide X0) (unhide X1) (unhide Y0) (unhide Y1) ((Below.refl _ _).drew)) | (with_reducible exact keep4 (unhide K_t).2 (unhide K_t).2 (unhide K_s).2 (unhide K_s).2 (unhide X0) (unhide X1) (unhide Y0) (unhide Y1) (by assumption)))
    (first
      | (go_at_call 33; refine (streeof_any a1 n1 c1 its a2 n2 c2 fls nt HNT qt HQT _ (by omega) (by omega) ((unhide R_x).later (kb1 (by assumption))) ((unhide R_f).later (kb1 (by assumption)))).mono ?_; rintro e wu ⟨ua, uc, rfl, o1, b6⟩; have hfl := fun W => fld_leaves ua nt uc (.int .i64 qt) W; have bwu := kb2 (by assumption) b6; clear o1 b6))
  have cwu : Below wt.heap.size wt wu := bwu
  have zwu := cwu.size
  clear X0 X1 Y0 Y1 bwu
  have K_s := hide (keptblk cwu K_s)
  have K_e := hide (keptblk cwu K_e)
  have K_t := hide (keptblk cwu K_t)
  have R_x := hide ((unhide R_x).later cwu)
  have R_f := hide ((unhide R_f).later cwu)
  have R_T := hide ((unhide R_T).later cwu)
  have BL := hide ((unhide BL).trans (cwu.mono (unhide BL).size))
  clear cwu
  obtain ⟨s_0, s_1, -⟩ := blk_cells2 (unhide K_s).1
  have n_s := (unhide K_s).2
  obtain ⟨e_0, e_1, e_2, e_3, e_4, -⟩ := blk_cells5 (unhide K_e).1
  have n_e := (unhide K_e).2
  obtain ⟨t_0, t_1, -⟩ := blk_cells2 (unhide K_t).1
  have n_t := (unhide K_t).2
  obtain ⟨oks, HKS⟩ : ∃ k, Hid (okS [(id, ky)] [] = k) := ⟨_, hide rfl⟩
  obtain ⟨no, HNO⟩ : ∃ n, Hid ((sgl oks id ky).length = n) := ⟨_, hide rfl⟩
  have hno : no ≤ 1 := by rw [← unhide HNO]; cases oks <;> simp [sgl]
  obtain ⟨ok, HOK⟩ : ∃ ok, Hid (okS its fls = ok) := ⟨_, hide rfl⟩
  go_wp2_with fail
  refine (isingle_any id ky (by omega) oks HKS no HNO _).mono ?_
  rintro e w4 ⟨oa, oc, rfl, o1, b4⟩
  clear e_0 e_1 e_2 e_3 e_4 n_e s_0 s_1 n_s t_0 t_1 n_t
  have cw4 := b4
  have zw4 := cw4.size
  have K_s := hide (keptblk cw4 K_s)
  have K_e := hide (keptblk cw4 K_e)
  have K_t := hide (keptblk cw4 K_t)
  have R_x := hide ((unhide R_x).later cw4)
  have R_f := hide ((unhide R_f).later cw4)
  have R_T := hide ((unhide R_T).later cw4)
  have BL := hide ((unhide BL).trans (cw4.mono (unhide BL).size))
  have R_O := hide (o1.rw encI_len)
  clear b4 cw4
  obtain ⟨s_0, s_1, -⟩ := blk_cells2 (unhide K_s).1
  have n_s := (unhide K_s).2
  obtain ⟨e_0, e_1, e_2, e_3, e_4, -⟩ := blk_cells5 (unhide K_e).1
  have n_e := (unhide K_e).2
  obtain ⟨t_0, t_1, -⟩ := blk_cells2 (unhide K_t).1
  have n_t := (unhide K_t).2
  clear o1
  have HO0 := HNO
  cases oks
  · obtain rfl : no = 0 := (unhide HNO).symm
    obtain ⟨nq, HNQ⟩ : ∃ n, Hid ((trL (sgl false id ky) []).length = n) := ⟨_, hide rfl⟩
    obtain ⟨qq, HQQ⟩ : ∃ q, Hid (trR (sgl false id ky) [] = q) := ⟨_, hide rfl⟩
    have hqq : decide (0 ≤ qq) = true := by have h := (trR_range (sgl false id ky) []).1; rw [unhide HQQ] at h; simpa using h
    go_wp2_with fail
    refine (itreeof_any oa 0 oc (sgl false id ky) none 0 0 [] nq HNQ qq HQQ _ (by omega) (by omega) ((unhide R_O).alloc _) Rw.nil).mono ?_
    rintro e w5 ⟨qa, qc, rfl, o1, b5⟩
    clear e_0 e_1 e_2 e_3 e_4 n_e s_0 s_1 n_s t_0 t_1 n_t
    have cw5 := ((Below.refl w4.heap.size w4).alloc (Nat.le_refl _) _).trans (b5.mono (by simp <;> omega))
    have zw5 := cw5.size
    have K_s := hide (keptblk cw5 K_s)
    have K_e := hide (keptblk cw5 K_e)
    have K_t := hide (keptblk cw5 K_t)
    have K_o : Hid (w5.heap[w4.heap.size]? = some (.cells #[.slice oa 0 oc, .slice none 0 0] 27 (0, 0)) ∧ w4.heap.size < w5.heap.size) := hide ⟨(b5.block _ (by simp <;> omega)).trans (newB1 w4 _), by have := b5.size; simp at this; omega⟩
    have y_o := (unhide K_o).2
    have R_x := hide ((unhide R_x).later cw5)
    have R_f := hide ((unhide R_f).later cw5)
    have R_T := hide ((unhide R_T).later cw5)
    have R_O := hide ((unhide R_O).later cw5)
    have BL := hide ((unhide BL).trans (cw5.mono (unhide BL).size))
    clear b5 cw5
    obtain ⟨s_0, s_1, -⟩ := blk_cells2 (unhide K_s).1
    have n_s := (unhide K_s).2
    obtain ⟨e_0, e_1, e_2, e_3, e_4, -⟩ := blk_cells5 (unhide K_e).1
    have n_e := (unhide K_e).2
    obtain ⟨t_0, t_1, -⟩ := blk_cells2 (unhide K_t).1
    have n_t := (unhide K_t).2
    obtain ⟨o_0, o_1, -⟩ := blk_cells2 (unhide K_o).1
    have n_o := (unhide K_o).2
    clear o1
    have hfr := fun W => fld_root qa nq qc qq W
    go_wp2
    go_ret
    exact ⟨rfl, unhide BL⟩
  obtain rfl : no = 1 := (unhide HNO).symm
  replace R_O := hide (show Rw encI 6 w4 (.slice oa 1 oc) [(id, ky)] from unhide R_O)
  go_wp2_with fail
  refine (sstateok_any a1 n1 c1 its a2 n2 c2 fls ok HOK _ (by omega) (by omega) ((unhide R_x).alloc _) ((unhide R_f).alloc _)).mono ?_
  rintro e w6 ⟨rfl, b6⟩
  clear e_0 e_1 e_2 e_3 e_4 n_e s_0 s_1 n_s t_0 t_1 n_t
  have cw6 := ((Below.refl w4.heap.size w4).alloc (Nat.le_refl _) _).trans (b6.mono (by simp <;> omega))
  have zw6 := cw6.size
  have K_s := hide (keptblk cw6 K_s)
  have K_e := hide (keptblk cw6 K_e)
  have K_t := hide (keptblk cw6 K_t)
  have K_o : Hid (w6.heap[w4.heap.size]? = some (.cells #[.slice oa 1 oc, .slice none 0 0] 27 (0, 0)) ∧ w4.heap.size < w6.heap.size) := hide ⟨(b6.block _ (by simp <;> omega)).trans (newB1 w4 _), by have := b6.size; simp at this; omega⟩
  have y_o := (unhide K_o).2
  have R_x := hide ((unhide R_x).later cw6)
  have R_f := hide ((unhide R_f).later cw6)
  have R_T := hide ((unhide R_T).later cw6)
  have R_O := hide ((unhide R_O).later cw6)
  have BL := hide ((unhide BL).trans (cw6.mono (unhide BL).size))
  clear b6 cw6
  obtain ⟨s_0, s_1, -⟩ := blk_cells2 (unhide K_s).1
  have n_s := (unhide K_s).2
  obtain ⟨e_0, e_1, e_2, e_3, e_4, -⟩ := blk_cells5 (unhide K_e).1
  have n_e := (unhide K_e).2
  obtain ⟨t_0, t_1, -⟩ := blk_cells2 (unhide K_t).1
  have n_t := (unhide K_t).2
  obtain ⟨o_0, o_1, -⟩ := blk_cells2 (unhide K_o).1
  have n_o := (unhide K_o).2
  cases ok
  · skip
    obtain ⟨nq, HNQ⟩ : ∃ n, Hid ((trL [(id, ky)] []).length = n) := ⟨_, hide rfl⟩
    obtain ⟨qq, HQQ⟩ : ∃ q, Hid (trR [(id, ky)] [] = q) := ⟨_, hide rfl⟩
    have hqq : decide (0 ≤ qq) = true := by have h := (trR_range [(id, ky)] []).1; rw [unhide HQQ] at h; simpa using h
    go_wp2_with fail
    refine (itreeof_any oa 1 oc [(id, ky)] none 0 0 [] nq HNQ qq HQQ _ (by omega) (by omega) (unhide R_O) Rw.nil).mono ?_
    rintro e w7 ⟨qa, qc, rfl, o1, b7⟩
    clear e_0 e_1 e_2 e_3 e_4 n_e o_0 o_1 n_o s_0 s_1 n_s t_0 t_1 n_t
    have cw7 := b7
    have zw7 := cw7.size
    have K_s := hide (keptblk cw7 K_s)
    have K_e := hide (keptblk cw7 K_e)
    have K_t := hide (keptblk cw7 K_t)
    have K_o := hide (keptblk cw7 K_o)
    have R_x := hide ((unhide R_x).later cw7)
    have R_f := hide ((unhide R_f).later cw7)
    have R_T := hide ((unhide R_T).later cw7)
    have R_O := hide ((unhide R_O).later cw7)
    have BL := hide ((unhide BL).trans (cw7.mono (unhide BL).size))
    clear b7 cw7
    obtain ⟨s_0, s_1, -⟩ := blk_cells2 (unhide K_s).1
    have n_s := (unhide K_s).2
    obtain ⟨e_0, e_1, e_2, e_3, e_4, -⟩ := blk_cells5 (unhide K_e).1
    have n_e := (unhide K_e).2
    obtain ⟨t_0, t_1, -⟩ := blk_cells2 (unhide K_t).1
    have n_t := (unhide K_t).2
    obtain ⟨o_0, o_1, -⟩ := blk_cells2 (unhide K_o).1
    have n_o := (unhide K_o).2
    clear o1
    have hfr := fun W => fld_root qa nq qc qq W
    go_wp2
    go_ret
    exact ⟨rfl, unhide BL⟩
  have OA := hide ((okS_iff _ _).1 (unhide HOK))
  have OB := hide ((okS_iff _ _).1 (unhide HKS))
  have HJ : Hid ((okS its fls && okS [(id, ky)] []) = true) := hide (by rw [unhide HOK, unhide HKS]; rfl)
  obtain ⟨j1, HJ1⟩ : ∃ n, Hid ((jnI true its fls [(id, ky)] []).length = n) := ⟨_, hide rfl⟩
  obtain ⟨j2, HJ2⟩ : ∃ n, Hid ((jnF true fls []).length = n) := ⟨_, hide rfl⟩
  have hj1 : j1 ≤ 5 := by rw [← unhide HJ1]; exact jnI_len _ _ _ _ _
  have hj2 : j2 ≤ 5 := by rw [← unhide HJ2]; exact jnF_len _ _ _
  obtain ⟨jts, HJT⟩ : ∃ l, Hid (joinI its fls [(id, ky)] [] = l) := ⟨_, hide rfl⟩
  obtain ⟨jls, HJL⟩ : ∃ l, Hid (joinF fls [] = l) := ⟨_, hide rfl⟩
  go_wp2_with fail
  refine (ijoin_any a1 n1 c1 its a2 n2 c2 fls oa 1 oc [(id, ky)] none 0 0 [] true HJ j1 j2 HJ1 HJ2 _ (by omega) (by omega) (by omega) (by omega) (unhide R_x) (unhide R_f) (unhide R_O) Rw.nil).mono ?_
  rintro e w8 ⟨ja1, jc1, ja2, jc2, rfl, o1, o2, b8⟩
  clear e_0 e_1 e_2 e_3 e_4 n_e o_0 o_1 n_o s_0 s_1 n_s t_0 t_1 n_t
  have cw8 := b8
  have zw8 := cw8.size
  have K_s := hide (keptblk cw8 K_s)
  have K_e := hide (keptblk cw8 K_e)
  have K_t := hide (keptblk cw8 K_t)
  have K_o := hide (keptblk cw8 K_o)
  have R_x := hide ((unhide R_x).later cw8)
  have R_f := hide ((unhide R_f).later cw8)
  have R_T := hide ((unhide R_T).later cw8)
  have R_O := hide ((unhide R_O).later cw8)
  have BL := hide ((unhide BL).trans (cw8.mono (unhide BL).size))
  have R_jx := hide (by have h := o1.rw encI_len; exact (show Rw encI 6 _ (.slice ja1 j1 jc1) jts from by rw [← unhide HJT]; exact h))
  have R_jf := hide (by have h := o2.rw encF_len; exact (show Rw encF 2 _ (.slice ja2 j2 jc2) jls from by rw [← unhide HJL]; exact h))
  clear b8 cw8
  obtain ⟨s_0, s_1, -⟩ := blk_cells2 (unhide K_s).1
  have n_s := (unhide K_s).2
  obtain ⟨e_0, e_1, e_2, e_3, e_4, -⟩ := blk_cells5 (unhide K_e).1
  have n_e := (unhide K_e).2
  obtain ⟨t_0, t_1, -⟩ := blk_cells2 (unhide K_t).1
  have n_t := (unhide K_t).2
  obtain ⟨o_0, o_1, -⟩ := blk_cells2 (unhide K_o).1
  have n_o := (unhide K_o).2
  clear o1 o2
  obtain ⟨qw, HQW⟩ : ∃ q, Hid (trR jts jls = q) := ⟨_, hide rfl⟩
  obtain ⟨nw, HNW⟩ : ∃ n, Hid ((trL jts jls).length = n) := ⟨_, hide rfl⟩
  have hnw : nw ≤ 4 := by rw [← unhide HNW, trL_len]; split <;> omega
  have htc : tcL (trL its fls) jts jls id = trL jts jls ∧ tcR (trL its fls) qt jts jls id = qw := by
    have h := (unhide OA).touched (unhide OB)
    rw [unhide HJT, unhide HJL, unhide HQT, unhide HQW] at h
    exact h
  have HTC1 := hide htc.1
  have HTC2 := hide htc.2
  have hft : ∀ (k : Nat) (x : Int), (trL its fls)[k]? = some x → -9223372036854775808 ≤ x ∧ x ≤ 9223372036854775807 := fun k x h => by
    have hm := List.mem_of_getElem? h
    rw [trL, if_pos (unhide HOK)] at hm
    simp at hm
    rcases hm with rfl | rfl | rfl | rfl <;> (have := lsm_range its fls 0; have := lsm_range its fls 1; have := lsm_range its fls 2; have := lsm_range its fls 3; omega)
  have HFT := hide hft
  clear htc hft
  go_wp2_with fail
  refine (itreetouch_any ta nt tc (trL its fls) qt ja1 j1 jc1 jts ja2 j2 jc2 jls id qw HTC2 _ (by omega) (unhide NT) (unhide HFT) (by omega) (by omega) ((unhide R_T).alloc _) ((unhide R_jx).alloc _) ((unhide R_jf).alloc _)).mono ?_
  rintro e w9 ⟨va, vc, rfl, ⟨E2, o1⟩, b9⟩
  clear e_0 e_1 e_2 e_3 e_4 n_e o_0 o_1 n_o s_0 s_1 n_s t_0 t_1 n_t
  have cw9 := ((Below.refl w8.heap.size w8).alloc (Nat.le_refl _) _).trans (b9.mono (by simp <;> omega))
  have zw9 := cw9.size
  have K_s := hide (keptblk cw9 K_s)
  have K_e := hide (keptblk cw9 K_e)
  have K_t := hide (keptblk cw9 K_t)
  have K_o := hide (keptblk cw9 K_o)
  have K_j : Hid (w9.heap[w8.heap.size]? = some (.cells #[.slice ja1 j1 jc1, .slice ja2 j2 jc2] 27 (0, 0)) ∧ w8.heap.size < w9.heap.size) := hide ⟨(b9.block _ (by simp <;> omega)).trans (newB1 w8 _), by have := b9.size; simp at this; omega⟩
  have y_j := (unhide K_j).2
  have R_x := hide ((unhide R_x).later cw9)
  have R_f := hide ((unhide R_f).later cw9)
  have R_T := hide ((unhide R_T).later cw9)
  have R_O := hide ((unhide R_O).later cw9)
  have R_jx := hide ((unhide R_jx).later cw9)
  have R_jf := hide ((unhide R_jf).later cw9)
  have BL := hide ((unhide BL).trans (cw9.mono (unhide BL).size))
  have R_U := hide (by have h := o1.rw encN_len; exact (show RwN _ (.slice va nt vc) (trL jts jls) from by rw [← unhide HTC1]; exact h))
  clear b9 cw9
  obtain ⟨s_0, s_1, -⟩ := blk_cells2 (unhide K_s).1
  have n_s := (unhide K_s).2
  obtain ⟨e_0, e_1, e_2, e_3, e_4, -⟩ := blk_cells5 (unhide K_e).1
  have n_e := (unhide K_e).2
  obtain ⟨t_0, t_1, -⟩ := blk_cells2 (unhide K_t).1
  have n_t := (unhide K_t).2
  obtain ⟨o_0, o_1, -⟩ := blk_cells2 (unhide K_o).1
  have n_o := (unhide K_o).2
  obtain ⟨j_0, j_1, -⟩ := blk_cells2 (unhide K_j).1
  have n_j := (unhide K_j).2
  clear o1
  go_wp2_with fail
  refine (itreeof_any ja1 j1 jc1 jts ja2 j2 jc2 jls nw HNW qw HQW _ (by omega) (by omega) ((unhide R_jx).alloc _) ((unhide R_jf).alloc _)).mono ?_
  rintro e w10 ⟨wa, wc, rfl, ⟨E3, o1⟩, b10⟩
  clear e_0 e_1 e_2 e_3 e_4 n_e j_0 j_1 n_j o_0 o_1 n_o s_0 s_1 n_s t_0 t_1 n_t
  have cw10 := ((Below.refl w9.heap.size w9).alloc (Nat.le_refl _) _).trans (b10.mono (by simp <;> omega))
  have zw10 := cw10.size
  have K_s := hide (keptblk cw10 K_s)
  have K_e := hide (keptblk cw10 K_e)
  have K_t := hide (keptblk cw10 K_t)
  have K_o := hide (keptblk cw10 K_o)
  have K_j := hide (keptblk cw10 K_j)
  have K_u : Hid (w10.heap[w9.heap.size]? = some (.cells #[.slice va nt vc, .int .i64 qw] 50 (0, 0)) ∧ w9.heap.size < w10.heap.size) := hide ⟨(b10.block _ (by simp <;> omega)).trans (newB1 w9 _), by have := b10.size; simp at this; omega⟩
  have y_u := (unhide K_u).2
  have R_x := hide ((unhide R_x).later cw10)
  have R_f := hide ((unhide R_f).later cw10)
  have R_T := hide ((unhide R_T).later cw10)
  have R_O := hide ((unhide R_O).later cw10)
  have R_jx := hide ((unhide R_jx).later cw10)
  have R_jf := hide ((unhide R_jf).later cw10)
  have R_U := hide ((unhide R_U).later cw10)
  have BL := hide ((unhide BL).trans (cw10.mono (unhide BL).size))
  have R_V := hide (o1.rw encN_len)
  clear b10 cw10
  obtain ⟨s_0, s_1, -⟩ := blk_cells2 (unhide K_s).1
  have n_s := (unhide K_s).2
  obtain ⟨e_0, e_1, e_2, e_3, e_4, -⟩ := blk_cells5 (unhide K_e).1
  have n_e := (unhide K_e).2
  obtain ⟨t_0, t_1, -⟩ := blk_cells2 (unhide K_t).1
  have n_t := (unhide K_t).2
  obtain ⟨o_0, o_1, -⟩ := blk_cells2 (unhide K_o).1
  have n_o := (unhide K_o).2
  obtain ⟨j_0, j_1, -⟩ := blk_cells2 (unhide K_j).1
  have n_j := (unhide K_j).2
  obtain ⟨u_0, u_1, -⟩ := blk_cells2 (unhide K_u).1
  have n_u := (unhide K_u).2
  clear o1
  obtain ⟨l, HLF⟩ : ∃ l, Hid (lf id = l) := ⟨_, hide rfl⟩
  obtain ⟨ds, HDS⟩ : ∃ ds, Hid (dfL (trL its fls) qt (trL jts jls) qw = ds) := ⟨_, hide rfl⟩
  have hds : ds = [] ∨ ds = [l] := by
    have h := (unhide OA).differ (unhide OB)
    simp only at h
    rw [unhide HJT, unhide HJL, unhide HQT, unhide HQW, unhide HDS, unhide HLF] at h
    exact h
  go_wp2_with fail
  refine (idiffer_any ta nt tc (trL its fls) qt wa nw wc (trL jts jls) qw _ (by omega) (by omega) ((unhide R_T).alloc _) ((unhide R_V).alloc _)).mono ?_
  rintro e w11 ⟨da, dn, dc, rfl, o1, b11⟩
  clear e_0 e_1 e_2 e_3 e_4 n_e j_0 j_1 n_j o_0 o_1 n_o s_0 s_1 n_s t_0 t_1 n_t u_0 u_1 n_u
  have cw11 := ((Below.refl w10.heap.size w10).alloc (Nat.le_refl _) _).trans (b11.mono (by simp <;> omega))
  have zw11 := cw11.size
  have K_s := hide (keptblk cw11 K_s)
  have K_e := hide (keptblk cw11 K_e)
  have K_t := hide (keptblk cw11 K_t)
  have K_o := hide (keptblk cw11 K_o)
  have K_j := hide (keptblk cw11 K_j)
  have K_u := hide (keptblk cw11 K_u)
  have K_v : Hid (w11.heap[w10.heap.size]? = some (.cells #[.slice wa nw wc, .int .i64 qw] 50 (0, 0)) ∧ w10.heap.size < w11.heap.size) := hide ⟨(b11.block _ (by simp <;> omega)).trans (newB1 w10 _), by have := b11.size; simp at this; omega⟩
  have y_v := (unhide K_v).2
  have R_x := hide ((unhide R_x).later cw11)
  have R_f := hide ((unhide R_f).later cw11)
  have R_T := hide ((unhide R_T).later cw11)
  have R_O := hide ((unhide R_O).later cw11)
  have R_jx := hide ((unhide R_jx).later cw11)
  have R_jf := hide ((unhide R_jf).later cw11)
  have R_U := hide ((unhide R_U).later cw11)
  have R_V := hide ((unhide R_V).later cw11)
  have BL := hide ((unhide BL).trans (cw11.mono (unhide BL).size))
  have R_D := hide (by have h := o1.rw encN_len; exact (show RwN _ (.slice da dn dc) ds from by rw [← unhide HDS]; exact h))
  clear b11 cw11
  obtain ⟨s_0, s_1, -⟩ := blk_cells2 (unhide K_s).1
  have n_s := (unhide K_s).2
  obtain ⟨e_0, e_1, e_2, e_3, e_4, -⟩ := blk_cells5 (unhide K_e).1
  have n_e := (unhide K_e).2
  obtain ⟨t_0, t_1, -⟩ := blk_cells2 (unhide K_t).1
  have n_t := (unhide K_t).2
  obtain ⟨o_0, o_1, -⟩ := blk_cells2 (unhide K_o).1
  have n_o := (unhide K_o).2
  obtain ⟨j_0, j_1, -⟩ := blk_cells2 (unhide K_j).1
  have n_j := (unhide K_j).2
  obtain ⟨u_0, u_1, -⟩ := blk_cells2 (unhide K_u).1
  have n_u := (unhide K_u).2
  obtain ⟨v_0, v_1, -⟩ := blk_cells2 (unhide K_v).1
  have n_v := (unhide K_v).2
  clear o1
  have hdn := (unhide R_D).len.1
  have hdn1 : dn ≤ 1 := by rcases hds with rfl | rfl <;> simp at hdn <;> omega
  have HDN := hide hdn
  have HDD : Hid (∀ (k : Nat) (x : Int), ds[k]? = some x → x = l) := hide (by
    intro k x h
    have := List.mem_of_getElem? h
    rcases hds with rfl | rfl <;> simp at this
    exact this)
  have hd1 : decide ((dn : Int) ≤ 1) = true := by simp; omega
  clear hdn hds
  clear e_0 e_1 e_2 e_3 e_4 n_e j_0 j_1 n_j o_0 o_1 n_o s_0 s_1 n_s t_0 t_1 n_t u_0 u_1 n_u v_0 v_1 n_v
  go_wp2
  go_loopw [15] (fun i wr => ∃ k : Nat, k ≤ dn ∧ i = .int .i64 k ∧ Below w.heap.size w wr ∧ wr.heap[w9.heap.size]? = some (.cells #[.slice va nt vc, .int .i64 qw] 50 (0, 0)) ∧ wr.heap[w10.heap.size]? = some (.cells #[.slice wa nw wc, .int .i64 qw] 50 (0, 0)) ∧ RwN wr (.slice va nt vc) (trL jts jls) ∧ RwN wr (.slice wa nw wc) (trL jts jls) ∧ RwN wr (.slice da dn dc) ds) (fun i _ => dn - (intOf i).toNat)
  case atStart => exact ⟨0, by omega, rfl, unhide BL, (unhide K_u).1, (unhide K_v).1, unhide R_U, unhide R_V, unhide R_D⟩
  case round =>
    clear BL K_u K_v R_U R_V R_D
    obtain ⟨k, hk, rfl, h1, h2, h3, h4, h5, h6⟩ := hrel
    have BL := hide h1
    have hwr := h1.size
    have K_u := hide (And.intro h2 (Array.getElem?_eq_some_iff.1 h2).1)
    have K_v := hide (And.intro h3 (Array.getElem?_eq_some_iff.1 h3).1)
    have R_U := hide h4
    have R_V := hide h5
    have R_D := hide h6
    clear h1 h2 h3 h4 h5
    by_cases hlt : k < dn
    · obtain ⟨x, b, off, hx, rfl, hb, hcap, cx⟩ := h6.atN hlt
      obtain rfl := unhide HDD k x hx
      have hne : (x != x) = false := by simp
      have lc0 := later_some (w := wr) hb cx
      clear hx h6 cx
      go_wp2_with fail
      refine wp_region_later (by kernel_rfl) (by kernel_rfl) ?_
      repeat (go_big_quiet_step (first
        | (go_at_call 37; exact Calls.later_of (ileaf_any _ _ HLF _))))
      refine wpQuiet_nil ?_
      intro w9 b9
      have B9 := hide b9
      clear b9 lc0
      go_wp2
      go_roundw
      case rel => exact ⟨k + 1, by omega, by go_num, (unhide BL).trans ((unhide B9).mono hwr), ((unhide B9).block _ (unhide K_u).2).trans (unhide K_u).1, ((unhide B9).block _ (unhide K_v).2).trans (unhide K_v).1, (unhide R_U).later (unhide B9), (unhide R_V).later (unhide B9), (unhide R_D).later (unhide B9)⟩
      case measure => simp [intOf]; omega
    · clear h6
      obtain ⟨u_0, u_1, -⟩ := blk_cells2 (unhide K_u).1
      have n_u := (unhide K_u).2
      obtain ⟨v_0, v_1, -⟩ := blk_cells2 (unhide K_v).1
      have n_v := (unhide K_v).2
      have HD0 : Hid (dfL (trL jts jls) qw (trL jts jls) qw = []) := hide (by rw [dfL, if_pos rfl])
      have hqq : (qw == qw) = true := by simp
      go_wp2_with fail
      refine (idiffer_any va nt vc (trL jts jls) qw wa nw wc (trL jts jls) qw _ (by omega) (by omega) (unhide R_U) (unhide R_V)).mono ?_
      rintro e w12 ⟨za, zn, zc, rfl, o1, b12⟩
      clear u_0 u_1 n_u v_0 v_1 n_v
      have cw12 := b12
      have zw12 := cw12.size
      have K_u := hide (keptblk cw12 K_u)
      have K_v := hide (keptblk cw12 K_v)
      have R_U := hide ((unhide R_U).later cw12)
      have R_V := hide ((unhide R_V).later cw12)
      have R_D := hide ((unhide R_D).later cw12)
      have BL := hide ((unhide BL).trans (cw12.mono (unhide BL).size))
      clear b12 cw12
      obtain ⟨u_0, u_1, -⟩ := blk_cells2 (unhide K_u).1
      have n_u := (unhide K_u).2
      obtain ⟨v_0, v_1, -⟩ := blk_cells2 (unhide K_v).1
      have n_v := (unhide K_v).2
      obtain rfl : zn = 0 := by have h := (o1.rw encN_len).len.1; rw [unhide HD0] at h; simpa using h
      clear o1
      go_wp2
      go_ret
      exact ⟨rfl, unhide BL⟩

/-! ### THE ROW's STEP: WRITTEN OUT: LEAVE IT -/
set_option maxRecDepth 100000 in
theorem lifted (os : Os) (started : os.Started) (H : Type) (enc : TypeId × Value → H) :
    ReturnsInHanded {} Tryz.checked os 5 .any (Rows.fnTouchedSpec.pre6 enc Tryz.prog Tryz.f5 Rows.fnTouchedRow.domain false) (Rows.fnTouchedSpec.post enc Tryz.prog Tryz.f5 false true false false) := by
  refine returnsInHanded_of_change (C := Tryz.checked) own started (by kernel_rfl) Tryz.func5
    (ChangeSpec.witness6 (enc := enc) (C := Tryz.checked) false ⟨#[], #[.slice none 0 0], []⟩ 8 (by kernel_rfl) (by kernel_rfl) (by kernel_rfl) (by kernel_rfl)) ?_
  intro W base args ds gs before hval0 hW hcnd _
  have hval : ∀ (j : Nat) t v, Tryz.f5.params[j]? = some t → args[j]? = some v → Value.okWide Tryz.prog W .any base t v := hval0
  have hW' := hW
  obtain ⟨p, q, hA0, hV, rfl, hfz, hnd⟩ := hW
  have hA : DataW.TrodAll enc Tryz.prog W 0 (fun _ => true) true Tryz.f5.params.toList args.toList ds p := hA0
  rw [Tryz.params5] at hA hval
  obtain ⟨v0, vs0, d0, ds0, p0, q0, hargs, rfl, rfl, h0, r0⟩ := trodAll_cons hA
  obtain ⟨rfl, rfl, rfl⟩ := trodAll_nil r0
  obtain rfl : args = #[v0] := by cases args; simp_all
  obtain ⟨rfl, rfl⟩ := trodVars_none hV
  obtain ⟨a0, len0, cap0, rfl⟩ := okWide_slice Tryz.underlying22 (hval 0 22 v0 rfl rfl)
  have k0 := h0
  have lt0 : ∀ x ∈ p0, x.block < W.heap.size := by obtain ⟨m, hm⟩ := k0; exact DataW.trod_lt m _ _ _ hm
  obtain ⟨z0, w0⟩ : ∃ zs, IsRow .u8 W a0 len0 cap0 zs := by
    obtain ⟨fuel, hf⟩ := h0
    rcases open_ints Tryz.underlying22 Tryz.underlying5 (by kernel_rfl) hf with ⟨hcs, _⟩ | ⟨x, l, c, zs, hcs, _, hl, hm, hz, _, hcell, hwz⟩
    · simp [Value.cells] at hcs
      obtain ⟨rfl, rfl, rfl⟩ := hcs
      exact ⟨[], .inl ⟨rfl, rfl, rfl, rfl⟩⟩
    · simp [Value.cells] at hcs
      obtain ⟨rfl, rfl, rfl⟩ := hcs
      exact ⟨zs, .inr ⟨_, rfl, hl, hm, by simpa using hz, hcell, hwz⟩⟩
  clear hA0 hval0
  refine (walk a0 len0 cap0 z0 W w0).mono fun e W' ⟨he, bel⟩ => ?_
  subst he
  exact ⟨_, rfl, _, _, _, [], _, [], hW', trodAll_mk1 (shut_bool Tryz.underlying4 _), (trodAll_cons_mk (Below.trod laidOut (by kernel_rfl) (of_decide_eq_true (by kernel_rfl)) k0 bel lt0) trodAll_mk0), rfl, bel.frame _, fun h => by cases h⟩

theorem over : Rows.fnTouchedRow.holds Tryz.pinned (OpenSpec.ofChange Rows.fnTouchedSpec) :=
  OpenClaim.holds_of_wide 5 Tryz.f5 rfl rfl rfl rfl rfl rfl rfl ⟨rfl, rfl, rfl, rfl, rfl⟩ rfl rfl rfl rfl rfl (by kernel_rfl) Tryz.func5 (by kernel_rfl)
    (of_decide_eq_true (by kernel_rfl)) (by unfold Func.isWrapper; first | (rw [if_pos (by decide +kernel)]; kernel_rfl) | (rw [if_neg (by decide +kernel)]; exact ⟨rfl, rfl⟩))
    (fun os started H enc _ => lifted os started H enc)

theorem proved : Rows.FnTouchedSaid := over
#print axioms proved
end Go.Proofs.YtdpaocikmijioabGreat.fnTouched
namespace Go.Proofs.YtdpaocikmijioabGreat
theorem fnTouched_holds : Rows.FnTouchedSaid := fnTouched.proved
end Go.Proofs.YtdpaocikmijioabGreat
