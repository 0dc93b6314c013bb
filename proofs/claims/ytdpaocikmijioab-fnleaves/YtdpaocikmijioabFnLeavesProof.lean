/-
  leaves
-/
import Derived.Test.YtdpaocikmijioabRows
import Derived.Test.YtdpaocikmijioabIJnP
import Derived.Test.YtdpaocikmijioabL3E
import Derived.Test.YtdpaocikmijioabDrawB
import Derived.WalkKit
import Derived.ProofKit
import Derived.OpenShut
import Derived.ShutString
import Derived.ChangeOld
import Derived.Below
namespace Go.Proofs.Ytdpaocikmijioab.fnLeaves
open Go.ChangeShapes Go.WideShapes Go.ChangeAt Go.RowKit
open Go.ChangeMaps (open_string shut_string)
set_option linter.unusedVariables false

theorem own : ownKnob Try.prog.godebug = none := by kernel_rfl
theorem laidOut : laidOutB Try.prog = true := by kernel_rfl

/-- WHAT THE WALK IS TOLD OF A SLICE OF INTEGERS THAT CAME IN: it is nil; or it leads to a row of 'cap' cells, the numbers 'zs' (the first 'len' are its elements, the rest its spare room), each fitting its kind. -/
def IsRow (k : IntKind) (w : World) (a : Option Addr) (len cap : Nat) (zs : List Int) : Prop :=
  (a = none ∧ len = 0 ∧ cap = 0 ∧ zs = []) ∨
  ∃ x, a = some x ∧ len ≤ cap ∧ cap ≤ maxLen ∧ zs.length = cap ∧ (∀ i, i < zs.length → w.cell? (x.add i) = some (.int k (zs.getD i 0))) ∧ ∀ n ∈ zs, (Lit.int k n).wf = true

/-! ### STEP 1: THE WALK: the Go text returns true, AND WRITES NOTHING THAT WAS THERE: 'Below w.heap.size w w'' (Derived/Below.lean: '.refl', '.alloc', '.drew', '.setCell' at a new block, '.trans'). Open each 'IsRow' by 'rcases' AHEAD of 'go_enter'; part every test ahead of the walk. -/
set_option linter.unusedSimpArgs false in
set_option maxRecDepth 100000 in
set_option maxHeartbeats 4000000 in
theorem walk (a0 : Option Addr) (len0 cap0 : Nat) (z0 : List Int) (w : World) (w0 : IsRow .u8 w a0 len0 cap0 z0) :
    Calls Try.prog 4 #[.slice a0 len0 cap0] w fun e w' => e = .returned (.bool true) ∧ Below w.heap.size w w' := by
  obtain ⟨xs, hxl, hseg, hbd⟩ := seg_of_row w0
  subst hxl
  by_cases hbig : 1048576 < xs.length
  · clear w0 hseg hbd
    go_enter Try.func4, Try.ntmps4
    go_wp2
    go_ret
    exact ⟨rfl, Below.refl _ _⟩
  have hlen : xs.length ≤ 1048576 := by omega
  have HS0 := hide hseg
  have HD := hide hbd
  clear hseg hbd w0
  go_enter Try.func4, Try.ntmps4
  go_wp2_with fail
  refine (big_no _ _ _ _ hbig).mono ?_
  rintro e _ ⟨rfl, rfl⟩
  go_wp2_with fail
  refine (drawlookup_any _ xs _ hlen (unhide HD) (unhide HS0)).mono ?_
  rintro e w1 ⟨a1, n1, c1, a2, n2, c2, its, fls, id, rfl, ⟨hi0, hi1⟩, t⟩
  have BL := hide t.bel
  have R_x := hide (t.oi.rw encI_len)
  have R_f := hide (t.of.rw encF_len)
  have NI := hide t.ni
  have l1 := t.li
  have l2 := t.lf
  have hh1 := (t.oi.rw encI_len).len.1
  have hh2 := (t.of.rw encF_len).len.1
  obtain ⟨m1, m2⟩ : n1 ≤ 6 ∧ n2 ≤ 6 := by omega
  have zw1 := t.bel.size
  clear t l1 l2 hh1 hh2
  obtain ⟨l, HLF⟩ : ∃ l, Hid (lf id = l) := ⟨_, hide rfl⟩
  have hlr := lf_range id
  rw [unhide HLF] at hlr
  obtain ⟨lr0, lr1⟩ := hlr
  have hne : (l != l) = false := by simp
  go_wp2_with fail
  refine (ileaf_any id l HLF _).mono ?_
  rintro e w2 ⟨rfl, b2⟩
  have cw2 := ((Below.refl w1.heap.size w1).alloc (Nat.le_refl _) _).trans (b2.mono (by simp <;> omega))
  have zw2 := cw2.size
  have K_s : Hid (w2.heap[w1.heap.size]? = some (.cells #[.slice a1 n1 c1, .slice a2 n2 c2] 27 (0, 0)) ∧ w1.heap.size < w2.heap.size) := hide ⟨(b2.block _ (by simp <;> omega)).trans (newB1 w1 _), by have := b2.size; simp at this; omega⟩
  have y_s := (unhide K_s).2
  have R_x := hide ((unhide R_x).later cw2)
  have R_f := hide ((unhide R_f).later cw2)
  have BL := hide ((unhide BL).trans (cw2.mono (unhide BL).size))
  clear b2 cw2
  obtain ⟨s_0, s_1, -⟩ := blk_cells2 (unhide K_s).1
  have n_s := (unhide K_s).2
  go_wp2_with fail
  refine (sleaf_any id l HLF _).mono ?_
  rintro e w3 ⟨rfl, b3⟩
  clear s_0 s_1 n_s
  have cw3 := b3
  have zw3 := cw3.size
  have K_s := hide (keptblk cw3 K_s)
  have R_x := hide ((unhide R_x).later cw3)
  have R_f := hide ((unhide R_f).later cw3)
  have BL := hide ((unhide BL).trans (cw3.mono (unhide BL).size))
  clear b3 cw3
  obtain ⟨s_0, s_1, -⟩ := blk_cells2 (unhide K_s).1
  have n_s := (unhide K_s).2
  obtain ⟨ok, HOK⟩ : ∃ ok, Hid (okS its fls = ok) := ⟨_, hide rfl⟩
  by_cases hin : 0 ≤ id ∧ id ≤ 4
  rotate_left
  · obtain rfl : l = -1 := by rw [← unhide HLF]; exact lf_out (by simpa [inB] using hin)
    have he : (scI ok [-1] its).length = 0 := by rw [sc_none (unhide HOK)]; rfl
    obtain ⟨k2, hk2⟩ : ∃ k, Hid ((scF ok [-1] fls).length = k) := ⟨_, hide rfl⟩
    have HE := hide he
    clear he
    rcases (by omega : id = -1 ∨ id = 5) with rfl | rfl
    · skip
      go_wp2_with fail
      refine (islice_any a1 n1 c1 its a2 n2 c2 fls _ 1 1 [-1] ok HOK 0 k2 HE hk2 _ (by omega) (by omega) (by omega) ((unhide R_x).alloc _) ((unhide R_f).alloc _) (rwN_blk (ns := [-1]) (newB1 w3 _))).mono ?_
      rintro e w4 ⟨sa1, sc1, sa2, sc2, rfl, o1, o2, b4⟩
      clear s_0 s_1 n_s
      have cw4 := ((Below.refl w3.heap.size w3).alloc (Nat.le_refl _) _).trans (b4.mono (by simp <;> omega))
      have zw4 := cw4.size
      have K_s := hide (keptblk cw4 K_s)
      have K_n : Hid (w4.heap[w3.heap.size]? = some (.cells #[.int .i64 (-1)] 3 (0, 0)) ∧ w3.heap.size < w4.heap.size) := hide ⟨(b4.block _ (by simp <;> omega)).trans (newB1 w3 _), by have := b4.size; simp at this; omega⟩
      have y_n := (unhide K_n).2
      have R_x := hide ((unhide R_x).later cw4)
      have R_f := hide ((unhide R_f).later cw4)
      have BL := hide ((unhide BL).trans (cw4.mono (unhide BL).size))
      clear b4 cw4
      obtain ⟨s_0, s_1, -⟩ := blk_cells2 (unhide K_s).1
      have n_s := (unhide K_s).2
      obtain ⟨n_0, -⟩ := blk_cells1 (unhide K_n).1
      have n_n := (unhide K_n).2
      clear o1 o2
      have hfi := fun W => fld_items sa1 0 sc1 (.slice sa2 k2 sc2) W
      go_wp2
      go_ret
      exact ⟨rfl, unhide BL⟩
    · skip
      go_wp2_with fail
      refine (islice_any a1 n1 c1 its a2 n2 c2 fls _ 1 1 [-1] ok HOK 0 k2 HE hk2 _ (by omega) (by omega) (by omega) ((unhide R_x).alloc _) ((unhide R_f).alloc _) (rwN_blk (ns := [-1]) (newB1 w3 _))).mono ?_
      rintro e w5 ⟨sa1, sc1, sa2, sc2, rfl, o1, o2, b5⟩
      clear s_0 s_1 n_s
      have cw5 := ((Below.refl w3.heap.size w3).alloc (Nat.le_refl _) _).trans (b5.mono (by simp <;> omega))
      have zw5 := cw5.size
      have K_s := hide (keptblk cw5 K_s)
      have K_n : Hid (w5.heap[w3.heap.size]? = some (.cells #[.int .i64 (-1)] 3 (0, 0)) ∧ w3.heap.size < w5.heap.size) := hide ⟨(b5.block _ (by simp <;> omega)).trans (newB1 w3 _), by have := b5.size; simp at this; omega⟩
      have y_n := (unhide K_n).2
      have R_x := hide ((unhide R_x).later cw5)
      have R_f := hide ((unhide R_f).later cw5)
      have BL := hide ((unhide BL).trans (cw5.mono (unhide BL).size))
      clear b5 cw5
      obtain ⟨s_0, s_1, -⟩ := blk_cells2 (unhide K_s).1
      have n_s := (unhide K_s).2
      obtain ⟨n_0, -⟩ := blk_cells1 (unhide K_n).1
      have n_n := (unhide K_n).2
      clear o1 o2
      have hfi := fun W => fld_items sa1 0 sc1 (.slice sa2 k2 sc2) W
      go_wp2
      go_ret
      exact ⟨rfl, unhide BL⟩
  · obtain ⟨j0, j1⟩ := hin
    have hinB : inB id 0 4 = true := inB_iff.2 ⟨j0, j1⟩
    have hl := (lf_in hinB).2
    rw [unhide HLF] at hl
    obtain ⟨l0, l3⟩ := hl
    have hd1 : decide (0 ≤ l) = true := by simpa using l0
    have hd2 : decide (l < 0) = false := by simp; omega
    have hd3 : decide (0 ≤ id) = true := by simpa using j0
    have hd4 : decide (id < 5) = true := by simp; omega
    go_wp2_with fail
    refine (sstateok_any a1 n1 c1 its a2 n2 c2 fls ok HOK _ (by omega) (by omega) (unhide R_x) (unhide R_f)).mono ?_
    rintro e w6 ⟨rfl, b6⟩
    clear s_0 s_1 n_s
    have cw6 := b6
    have zw6 := cw6.size
    have K_s := hide (keptblk cw6 K_s)
    have R_x := hide ((unhide R_x).later cw6)
    have R_f := hide ((unhide R_f).later cw6)
    have BL := hide ((unhide BL).trans (cw6.mono (unhide BL).size))
    clear b6 cw6
    obtain ⟨s_0, s_1, -⟩ := blk_cells2 (unhide K_s).1
    have n_s := (unhide K_s).2
    cases ok
    · skip
      go_wp2_with fail
      refine (islice_any a1 n1 c1 its a2 n2 c2 fls _ 1 1 [l] false HOK 0 0 (hide rfl) (hide rfl) _ (by omega) (by omega) (by omega) ((unhide R_x).alloc _) ((unhide R_f).alloc _) (rwN_blk (ns := [l]) (newB1 w6 _))).mono ?_
      rintro e w7 ⟨sa1, sc1, sa2, sc2, rfl, o1, o2, b7⟩
      clear s_0 s_1 n_s
      have cw7 := ((Below.refl w6.heap.size w6).alloc (Nat.le_refl _) _).trans (b7.mono (by simp <;> omega))
      have zw7 := cw7.size
      have K_s := hide (keptblk cw7 K_s)
      have K_n : Hid (w7.heap[w6.heap.size]? = some (.cells #[.int .i64 l] 3 (0, 0)) ∧ w6.heap.size < w7.heap.size) := hide ⟨(b7.block _ (by simp <;> omega)).trans (newB1 w6 _), by have := b7.size; simp at this; omega⟩
      have y_n := (unhide K_n).2
      have R_x := hide ((unhide R_x).later cw7)
      have R_f := hide ((unhide R_f).later cw7)
      have BL := hide ((unhide BL).trans (cw7.mono (unhide BL).size))
      clear b7 cw7
      obtain ⟨s_0, s_1, -⟩ := blk_cells2 (unhide K_s).1
      have n_s := (unhide K_s).2
      obtain ⟨n_0, -⟩ := blk_cells1 (unhide K_n).1
      have n_n := (unhide K_n).2
      clear o1 o2
      have hfi := fun W => fld_items sa1 0 sc1 (.slice sa2 0 sc2) W
      go_wp2
      go_ret
      exact ⟨rfl, unhide BL⟩
    have OA := hide ((okS_iff _ _).1 (unhide HOK))
    obtain ⟨ey, has, HE⟩ : ∃ r t, Hid (entR its id = (r, t)) := ⟨_, _, hide rfl⟩
    have HE1 : Hid (entR (slI [l] its) id = (ey, has)) := hide (by rw [entR_leaf (unhide HLF)]; exact unhide HE)
    have hm0 : (l + 1) % 4 ≠ l := by omega
    have HE2 : Hid (entR (slI [(l + 1) % 4] its) id = (zeroK, false)) := hide (entR_else (unhide HLF) hm0)
    obtain ⟨q1, HQ1⟩ : ∃ n, Hid ((scI true [l] its).length = n) := ⟨_, hide rfl⟩
    obtain ⟨q2, HQ2⟩ : ∃ n, Hid ((scF true [l] fls).length = n) := ⟨_, hide rfl⟩
    obtain ⟨r1, HR1⟩ : ∃ n, Hid ((scI true [(l + 1) % 4] its).length = n) := ⟨_, hide rfl⟩
    obtain ⟨r2, HR2⟩ : ∃ n, Hid ((scF true [(l + 1) % 4] fls).length = n) := ⟨_, hide rfl⟩
    have hq1 : q1 ≤ 5 := by rw [← unhide HQ1]; exact Nat.le_trans (slI_len _ _) (unhide OA).len5.1
    have hr1 : r1 ≤ 5 := by rw [← unhide HR1]; exact Nat.le_trans (slI_len _ _) (unhide OA).len5.1
    have SM := hide (nine_sml (unhide NI))
    have SM1 := hide ((unhide OA).slice [l]).sml
    have SM2 := hide ((unhide OA).slice [(l + 1) % 4]).sml
    obtain ⟨z, HZ⟩ : ∃ z, Hid (lsm its fls l = z) := ⟨_, hide rfl⟩
    have hzr := lsm_range its fls l
    rw [unhide HZ] at hzr
    obtain ⟨hz0, hz1⟩ := hzr
    have hzd : decide (z < 1024) = true := by simpa using hz1
    have hzz : (z == z) = true := by simp
    have hee := fun W => eqK_self ey W
    have hbb : (has == has) = true := by simp
    go_wp2_with fail
    refine (ientry_any (.slice a2 n2 c2) a1 n1 c1 its (unhide SM) id ey has HE _ (by omega) (unhide R_x)).mono ?_
    rintro e w8 ⟨rfl, b8⟩
    clear s_0 s_1 n_s
    have cw8 := b8
    have zw8 := cw8.size
    have K_s := hide (keptblk cw8 K_s)
    have R_x := hide ((unhide R_x).later cw8)
    have R_f := hide ((unhide R_f).later cw8)
    have BL := hide ((unhide BL).trans (cw8.mono (unhide BL).size))
    clear b8 cw8
    obtain ⟨s_0, s_1, -⟩ := blk_cells2 (unhide K_s).1
    have n_s := (unhide K_s).2
    go_wp2_with fail
    refine (islice_any a1 n1 c1 its a2 n2 c2 fls _ 1 1 [l] true HOK q1 q2 HQ1 HQ2 _ (by omega) (by omega) (by omega) (((unhide R_x).alloc _).alloc _) (((unhide R_f).alloc _).alloc _) (rwN_blk (ns := [l]) (newB2 w8 _ _))).mono ?_
    rintro e w9 ⟨sa1, sc1, sa2, sc2, rfl, o1, o2, b9⟩
    clear s_0 s_1 n_s
    have cw9 := (((Below.refl w8.heap.size w8).alloc (Nat.le_refl _) _).alloc (by simp <;> omega) _).trans (b9.mono (by simp <;> omega))
    have zw9 := cw9.size
    have K_s := hide (keptblk cw9 K_s)
    have K_e : Hid (w9.heap[w8.heap.size]? = some (.cells #[.int .i64 ey.1, .int .i64 ey.2.1, .int .i64 ey.2.2.1, .int .i64 ey.2.2.2.1, .string ey.2.2.2.2] 38 (0, 0)) ∧ w8.heap.size < w9.heap.size) := hide ⟨(b9.block _ (by simp <;> omega)).trans (lowB2 w8 _ _), by have := b9.size; simp at this; omega⟩
    have y_e := (unhide K_e).2
    have K_n : Hid (w9.heap[w8.heap.size + 1]? = some (.cells #[.int .i64 l] 3 (0, 0)) ∧ w8.heap.size + 1 < w9.heap.size) := hide ⟨(b9.block _ (by simp <;> omega)).trans (newB2 w8 _ _), by have := b9.size; simp at this; omega⟩
    have y_n := (unhide K_n).2
    have R_x := hide ((unhide R_x).later cw9)
    have R_f := hide ((unhide R_f).later cw9)
    have BL := hide ((unhide BL).trans (cw9.mono (unhide BL).size))
    have R_p := hide (o1.rw encI_len)
    clear b9 cw9
    obtain ⟨s_0, s_1, -⟩ := blk_cells2 (unhide K_s).1
    have n_s := (unhide K_s).2
    obtain ⟨e_0, e_1, e_2, e_3, e_4, -⟩ := blk_cells5 (unhide K_e).1
    have n_e := (unhide K_e).2
    obtain ⟨n_0, -⟩ := blk_cells1 (unhide K_n).1
    have n_n := (unhide K_n).2
    clear o1 o2
    go_wp2_with fail
    refine (ientry_any (.slice sa2 q2 sc2) sa1 q1 sc1 (slI [l] its) (unhide SM1) id ey has HE1 _ (by omega) (unhide R_p)).mono ?_
    rintro e w10 ⟨rfl, b10⟩
    clear e_0 e_1 e_2 e_3 e_4 n_e n_0 n_n s_0 s_1 n_s
    have cw10 := b10
    have zw10 := cw10.size
    have K_s := hide (keptblk cw10 K_s)
    have K_e := hide (keptblk cw10 K_e)
    have K_n := hide (keptblk cw10 K_n)
    have R_x := hide ((unhide R_x).later cw10)
    have R_f := hide ((unhide R_f).later cw10)
    have R_p := hide ((unhide R_p).later cw10)
    have BL := hide ((unhide BL).trans (cw10.mono (unhide BL).size))
    clear b10 cw10
    obtain ⟨s_0, s_1, -⟩ := blk_cells2 (unhide K_s).1
    have n_s := (unhide K_s).2
    obtain ⟨e_0, e_1, e_2, e_3, e_4, -⟩ := blk_cells5 (unhide K_e).1
    have n_e := (unhide K_e).2
    obtain ⟨n_0, -⟩ := blk_cells1 (unhide K_n).1
    have n_n := (unhide K_n).2
    go_wp2_with fail
    refine (islice_any a1 n1 c1 its a2 n2 c2 fls _ 1 1 [(l + 1) % 4] true HOK r1 r2 HR1 HR2 _ (by omega) (by omega) (by omega) (((unhide R_x).alloc _).alloc _) (((unhide R_f).alloc _).alloc _) (rwN_blk (ns := [(l + 1) % 4]) (newB2 w10 _ _))).mono ?_
    rintro e w11 ⟨ra1, rc1, ra2, rc2, rfl, o1, o2, b11⟩
    clear e_0 e_1 e_2 e_3 e_4 n_e n_0 n_n s_0 s_1 n_s
    have cw11 := (((Below.refl w10.heap.size w10).alloc (Nat.le_refl _) _).alloc (by simp <;> omega) _).trans (b11.mono (by simp <;> omega))
    have zw11 := cw11.size
    have K_s := hide (keptblk cw11 K_s)
    have K_e := hide (keptblk cw11 K_e)
    have K_n := hide (keptblk cw11 K_n)
    have K_h : Hid (w11.heap[w10.heap.size]? = some (.cells #[.int .i64 ey.1, .int .i64 ey.2.1, .int .i64 ey.2.2.1, .int .i64 ey.2.2.2.1, .string ey.2.2.2.2] 38 (0, 0)) ∧ w10.heap.size < w11.heap.size) := hide ⟨(b11.block _ (by simp <;> omega)).trans (lowB2 w10 _ _), by have := b11.size; simp at this; omega⟩
    have y_h := (unhide K_h).2
    have K_m : Hid (w11.heap[w10.heap.size + 1]? = some (.cells #[.int .i64 ((l + 1) % 4)] 3 (0, 0)) ∧ w10.heap.size + 1 < w11.heap.size) := hide ⟨(b11.block _ (by simp <;> omega)).trans (newB2 w10 _ _), by have := b11.size; simp at this; omega⟩
    have y_m := (unhide K_m).2
    have R_x := hide ((unhide R_x).later cw11)
    have R_f := hide ((unhide R_f).later cw11)
    have R_p := hide ((unhide R_p).later cw11)
    have BL := hide ((unhide BL).trans (cw11.mono (unhide BL).size))
    have R_r := hide (o1.rw encI_len)
    clear b11 cw11
    obtain ⟨s_0, s_1, -⟩ := blk_cells2 (unhide K_s).1
    have n_s := (unhide K_s).2
    obtain ⟨e_0, e_1, e_2, e_3, e_4, -⟩ := blk_cells5 (unhide K_e).1
    have n_e := (unhide K_e).2
    obtain ⟨n_0, -⟩ := blk_cells1 (unhide K_n).1
    have n_n := (unhide K_n).2
    obtain ⟨h_0, h_1, h_2, h_3, h_4, -⟩ := blk_cells5 (unhide K_h).1
    have n_h := (unhide K_h).2
    obtain ⟨m_0, -⟩ := blk_cells1 (unhide K_m).1
    have n_m := (unhide K_m).2
    clear o1 o2
    go_wp2_with fail
    refine (ientry_any (.slice ra2 r2 rc2) ra1 r1 rc1 (slI [(l + 1) % 4] its) (unhide SM2) id zeroK false HE2 _ (by omega) (unhide R_r)).mono ?_
    rintro e w12 ⟨rfl, b12⟩
    clear e_0 e_1 e_2 e_3 e_4 n_e h_0 h_1 h_2 h_3 h_4 n_h m_0 n_m n_0 n_n s_0 s_1 n_s
    have cw12 := b12
    have zw12 := cw12.size
    have K_s := hide (keptblk cw12 K_s)
    have K_e := hide (keptblk cw12 K_e)
    have K_n := hide (keptblk cw12 K_n)
    have K_h := hide (keptblk cw12 K_h)
    have K_m := hide (keptblk cw12 K_m)
    have R_x := hide ((unhide R_x).later cw12)
    have R_f := hide ((unhide R_f).later cw12)
    have R_p := hide ((unhide R_p).later cw12)
    have R_r := hide ((unhide R_r).later cw12)
    have BL := hide ((unhide BL).trans (cw12.mono (unhide BL).size))
    clear b12 cw12
    obtain ⟨s_0, s_1, -⟩ := blk_cells2 (unhide K_s).1
    have n_s := (unhide K_s).2
    obtain ⟨e_0, e_1, e_2, e_3, e_4, -⟩ := blk_cells5 (unhide K_e).1
    have n_e := (unhide K_e).2
    obtain ⟨n_0, -⟩ := blk_cells1 (unhide K_n).1
    have n_n := (unhide K_n).2
    obtain ⟨h_0, h_1, h_2, h_3, h_4, -⟩ := blk_cells5 (unhide K_h).1
    have n_h := (unhide K_h).2
    obtain ⟨m_0, -⟩ := blk_cells1 (unhide K_m).1
    have n_m := (unhide K_m).2
    go_wp2_with fail
    clear e_0 e_1 e_2 e_3 e_4 n_e h_0 h_1 h_2 h_3 h_4 n_h m_0 n_m n_0 n_n s_0 s_1 n_s
    obtain ⟨wz, hwz⟩ : ∃ W, W = w12.alloc (.cells #[.int .i64 zeroK.1, .int .i64 zeroK.2.1, .int .i64 zeroK.2.2.1, .int .i64 zeroK.2.2.2.1, .string zeroK.2.2.2.2] 38) := ⟨_, rfl⟩
    rw [← hwz]
    have cwz : Below w12.heap.size w12 wz := by rw [hwz]; exact (Below.refl _ _).alloc (Nat.le_refl _) _
    have zwz := cwz.size
    have K_z9 : Hid (wz.heap[w12.heap.size]? = some (.cells #[.int .i64 zeroK.1, .int .i64 zeroK.2.1, .int .i64 zeroK.2.2.1, .int .i64 zeroK.2.2.2.1, .string zeroK.2.2.2.2] 38 (0, 0)) ∧ w12.heap.size < wz.heap.size) := hide ⟨by rw [hwz]; exact heap_alloc_new _ _, by rw [hwz]; simp⟩
    clear hwz
    have K_s := hide (keptblk cwz K_s)
    have K_e := hide (keptblk cwz K_e)
    have K_n := hide (keptblk cwz K_n)
    have K_h := hide (keptblk cwz K_h)
    have K_m := hide (keptblk cwz K_m)
    have R_x := hide ((unhide R_x).later cwz)
    have R_f := hide ((unhide R_f).later cwz)
    have R_p := hide ((unhide R_p).later cwz)
    have R_r := hide ((unhide R_r).later cwz)
    have BL := hide ((unhide BL).trans (cwz.mono (unhide BL).size))
    clear cwz
    obtain ⟨s_0, s_1, -⟩ := blk_cells2 (unhide K_s).1
    have n_s := (unhide K_s).2
    obtain ⟨e_0, e_1, e_2, e_3, e_4, -⟩ := blk_cells5 (unhide K_e).1
    have n_e := (unhide K_e).2
    obtain ⟨n_0, -⟩ := blk_cells1 (unhide K_n).1
    have n_n := (unhide K_n).2
    obtain ⟨h_0, h_1, h_2, h_3, h_4, -⟩ := blk_cells5 (unhide K_h).1
    have n_h := (unhide K_h).2
    obtain ⟨m_0, -⟩ := blk_cells1 (unhide K_m).1
    have n_m := (unhide K_m).2
    have K_z := K_z9
    clear K_z9
    obtain ⟨z_0, z_1, z_2, z_3, z_4, -⟩ := blk_cells5 (unhide K_z).1
    have n_z := (unhide K_z).2
    have HRX := R_x
    have HRF := R_f
    have HTL : Hid ((trL its fls).length = 4) := hide (by rw [trL_len, if_pos (unhide HOK)])
    obtain ⟨L, hL⟩ : ∃ L : Nat, l = L := ⟨l.toNat, by omega⟩
    have HAT : Hid ((trL its fls)[L]? = some z) := hide (by rw [trL_at (unhide HOK) (by omega), ← hL, unhide HZ])
    obtain ⟨qr, HQR⟩ : ∃ q, Hid (trR its fls = q) := ⟨_, hide rfl⟩
    clear e_0 e_1 e_2 e_3 e_4 n_e h_0 h_1 h_2 h_3 h_4 n_h m_0 n_m n_0 n_n s_0 s_1 n_s z_0 z_1 z_2 z_3 z_4 n_z
    obtain ⟨ke0, ke1, ke2, ke3, ke4, -⟩ := blk_cells5 (unhide K_e).1
    have nne := (unhide K_e).2
    obtain ⟨kh0, kh1, kh2, kh3, kh4, -⟩ := blk_cells5 (unhide K_h).1
    have nnh := (unhide K_h).2
    obtain ⟨ks0, ks1, -⟩ := blk_cells2 (unhide K_s).1
    have nns := (unhide K_s).2
    have HKP := hide (fun (W : World) (hb : Below wz.heap.size wz W) => keep12 (P := wz) nne nnh nns ke0 ke1 ke2 ke3 ke4 kh0 kh1 kh2 kh3 kh4 ks0 ks1 hb)
    clear ke0 ke1 ke2 ke3 ke4 kh0 kh1 kh2 kh3 kh4 ks0 ks1
    obtain rfl := hL
    have hL4 : (L : Int) < 4 := by omega
    have hL0 : (0 : Int) ≤ (L : Int) := by omega
    have hLn : L < 4 := by omega
    refine wp_region_noPanic ?_
    refine wp_region_held_drew (S := (fun W => Below wz.heap.size wz W ∧ W.cell? ⟨w8.heap.size, 0, none⟩ = some (.int .i64 ey.1) ∧ W.cell? ⟨w8.heap.size, 1, none⟩ = some (.int .i64 ey.2.1) ∧ W.cell? ⟨w8.heap.size, 2, none⟩ = some (.int .i64 ey.2.2.1) ∧ W.cell? ⟨w8.heap.size, 3, none⟩ = some (.int .i64 ey.2.2.2.1) ∧ W.cell? ⟨w8.heap.size, 4, none⟩ = some (.string ey.2.2.2.2) ∧ W.cell? ⟨w10.heap.size, 0, none⟩ = some (.int .i64 ey.1) ∧ W.cell? ⟨w10.heap.size, 1, none⟩ = some (.int .i64 ey.2.1) ∧ W.cell? ⟨w10.heap.size, 2, none⟩ = some (.int .i64 ey.2.2.1) ∧ W.cell? ⟨w10.heap.size, 3, none⟩ = some (.int .i64 ey.2.2.2.1) ∧ W.cell? ⟨w10.heap.size, 4, none⟩ = some (.string ey.2.2.2.2) ∧ W.cell? ⟨w1.heap.size, 0, none⟩ = some (.slice a1 n1 c1) ∧ W.cell? ⟨w1.heap.size, 1, none⟩ = some (.slice a2 n2 c2))) (by kernel_rfl) ?_ (fun hHeld => ?_)
    · (try dsimp only); (first | (with_reducible exact unhide HKP _ (Below.refl _ _)) | (with_reducible exact unhide HKP _ ((Below.refl _ _).drew)) | (with_reducible exact unhide HKP _ (by assumption)))
    refine wpAnyH_take (i := 0) (v := ?v0) (by (simp only [List.getElem?_toArray, List.getElem?_cons_succ, List.getElem?_cons_zero]; rfl)) (by kernel_rfl) (by kernel_rfl) (by kernel_rfl) (fun _ _ _ h => h) (Or.inl ⟨by rfl, ?hy0⟩) (by assumption) ?rest0
    case hy0 => (intro w hSw; (try dsimp only at hSw); go_simp <;> with_reducible rfl)
    (try simp only [Act.put, List.setIfInBounds_toArray, List.set_cons_zero, List.set_cons_succ])
    refine wpAnyH_take (i := 1) (v := ?v1) (by (simp only [List.getElem?_toArray, List.getElem?_cons_succ, List.getElem?_cons_zero]; rfl)) (by kernel_rfl) (by kernel_rfl) (by kernel_rfl) (fun _ _ _ h => h) (Or.inl ⟨by rfl, ?hy1⟩) (by assumption) ?rest1
    case hy1 => (intro w hSw; (try dsimp only at hSw); go_simp <;> with_reducible rfl)
    (try simp only [Act.put, List.setIfInBounds_toArray, List.set_cons_zero, List.set_cons_succ])
    refine wpAnyH_take (i := 2) (v := ?v2) (by (simp only [List.getElem?_toArray, List.getElem?_cons_succ, List.getElem?_cons_zero]; rfl)) (by kernel_rfl) (by kernel_rfl) (by kernel_rfl) (fun _ _ _ h => h) (Or.inl ⟨by rfl, ?hy2⟩) (by assumption) ?rest2
    case hy2 => (intro w hSw; (try dsimp only at hSw); go_simp <;> with_reducible rfl)
    (try simp only [Act.put, List.setIfInBounds_toArray, List.set_cons_zero, List.set_cons_succ])
    refine wpAnyH_take (i := 3) (v := ?v3) (by (simp only [List.getElem?_toArray, List.getElem?_cons_succ, List.getElem?_cons_zero]; rfl)) (by kernel_rfl) (by kernel_rfl) (by kernel_rfl) (fun _ _ _ h => h) (Or.inl ⟨by rfl, ?hy3⟩) (by assumption) ?rest3
    case hy3 => (intro w hSw; (try dsimp only at hSw); go_simp <;> with_reducible rfl)
    (try simp only [Act.put, List.setIfInBounds_toArray, List.set_cons_zero, List.set_cons_succ])
    refine wpAnyH_take (i := 4) (v := ?v4) (by (simp only [List.getElem?_toArray, List.getElem?_cons_succ, List.getElem?_cons_zero]; rfl)) (by kernel_rfl) (by kernel_rfl) (by kernel_rfl) (fun _ _ _ h => h) (Or.inl ⟨by rfl, ?hy4⟩) (by assumption) ?rest4
    case hy4 => (intro w hSw; (try dsimp only at hSw); go_simp <;> with_reducible rfl)
    (try simp only [Act.put, List.setIfInBounds_toArray, List.set_cons_zero, List.set_cons_succ])
    refine wpAnyH_take (i := 5) (v := ?v5) (by (simp only [List.getElem?_toArray, List.getElem?_cons_succ, List.getElem?_cons_zero]; rfl)) (by kernel_rfl) (by kernel_rfl) (by kernel_rfl) (fun _ _ _ h => h) (Or.inl ⟨by rfl, ?hy5⟩) (by assumption) ?rest5
    case hy5 => (intro w hSw; (try dsimp only at hSw); go_simp <;> with_reducible rfl)
    (try simp only [Act.put, List.setIfInBounds_toArray, List.set_cons_zero, List.set_cons_succ])
    refine wpAnyH_take (i := 6) (v := ?v6) (by (simp only [List.getElem?_toArray, List.getElem?_cons_succ, List.getElem?_cons_zero]; rfl)) (by kernel_rfl) (by kernel_rfl) (by kernel_rfl) (fun _ _ _ h => h) (Or.inl ⟨by rfl, ?hy6⟩) (by assumption) ?rest6
    case hy6 => (intro w hSw; (try dsimp only at hSw); go_simp <;> with_reducible rfl)
    (try simp only [Act.put, List.setIfInBounds_toArray, List.set_cons_zero, List.set_cons_succ])
    refine wpAnyH_take (i := 7) (v := ?v7) (by (simp only [List.getElem?_toArray, List.getElem?_cons_succ, List.getElem?_cons_zero]; rfl)) (by kernel_rfl) (by kernel_rfl) (by kernel_rfl) (fun _ _ _ h => h) (Or.inl ⟨by rfl, ?hy7⟩) (by assumption) ?rest7
    case hy7 => (intro w hSw; (try dsimp only at hSw); go_simp <;> with_reducible rfl)
    (try simp only [Act.put, List.setIfInBounds_toArray, List.set_cons_zero, List.set_cons_succ])
    refine wpAnyH_take (i := 8) (v := ?v8) (by (simp only [List.getElem?_toArray, List.getElem?_cons_succ, List.getElem?_cons_zero]; rfl)) (by kernel_rfl) (by kernel_rfl) (by kernel_rfl) (fun _ _ _ h => h) (Or.inl ⟨by rfl, ?hy8⟩) (by assumption) ?rest8
    case hy8 => (intro w hSw; (try dsimp only at hSw); go_simp <;> with_reducible rfl)
    (try simp only [Act.put, List.setIfInBounds_toArray, List.set_cons_zero, List.set_cons_succ])
    refine wpAnyH_take (i := 9) (v := ?v9) (by (simp only [List.getElem?_toArray, List.getElem?_cons_succ, List.getElem?_cons_zero]; rfl)) (by kernel_rfl) (by kernel_rfl) (by kernel_rfl) (fun _ _ _ h => h) (Or.inl ⟨by rfl, ?hy9⟩) (by assumption) ?rest9
    case hy9 => (intro w hSw; (try dsimp only at hSw); go_simp <;> with_reducible rfl)
    (try simp only [Act.put, List.setIfInBounds_toArray, List.set_cons_zero, List.set_cons_succ])
    refine wpAnyH_take (i := 10) (v := ?v10) (by (simp only [List.getElem?_toArray, List.getElem?_cons_succ, List.getElem?_cons_zero]; rfl)) (by kernel_rfl) (by kernel_rfl) (by kernel_rfl) (fun _ _ _ h => h) (Or.inl ⟨by rfl, ?hy10⟩) (by assumption) ?rest10
    case hy10 => (intro w hSw; (try dsimp only at hSw); go_simp <;> with_reducible rfl)
    (try simp only [Act.put, List.setIfInBounds_toArray, List.set_cons_zero, List.set_cons_succ])
    refine wpAnyH_take (i := 11) (v := ?v11) (by (simp only [List.getElem?_toArray, List.getElem?_cons_succ, List.getElem?_cons_zero]; rfl)) (by kernel_rfl) (by kernel_rfl) (by kernel_rfl) (fun _ _ _ h => h) (Or.inl ⟨by rfl, ?hy11⟩) (by assumption) ?rest11
    case hy11 => (intro w hSw; (try dsimp only at hSw); go_simp <;> with_reducible rfl)
    (try simp only [Act.put, List.setIfInBounds_toArray, List.set_cons_zero, List.set_cons_succ])
    refine wpAnyH_take (i := 12) (v := ?v12) (by (simp only [List.getElem?_toArray, List.getElem?_cons_succ, List.getElem?_cons_zero]; rfl)) (by kernel_rfl) (by kernel_rfl) (by kernel_rfl) (fun _ _ _ h => h) (Or.inl ⟨by rfl, ?hy12⟩) (by assumption) ?rest12
    case hy12 => (intro w hSw; (try dsimp only at hSw); go_simp <;> with_reducible rfl)
    (try simp only [Act.put, List.setIfInBounds_toArray, List.set_cons_zero, List.set_cons_succ])
    refine wpAnyH_take (i := 13) (v := ?v13) (by (simp only [List.getElem?_toArray, List.getElem?_cons_succ, List.getElem?_cons_zero]; rfl)) (by kernel_rfl) (by kernel_rfl) (by kernel_rfl) (fun _ _ _ h => h) (Or.inl ⟨by rfl, ?hy13⟩) (by assumption) ?rest13
    case hy13 => (intro w hSw; (try dsimp only at hSw); go_simp <;> with_reducible rfl)
    (try simp only [Act.put, List.setIfInBounds_toArray, List.set_cons_zero, List.set_cons_succ])
    refine wpAnyH_take (i := 14) (v := ?v14) (by (simp only [List.getElem?_toArray, List.getElem?_cons_succ, List.getElem?_cons_zero]; rfl)) (by kernel_rfl) (by kernel_rfl) (by kernel_rfl) (fun _ _ _ h => h) (Or.inl ⟨by rfl, ?hy14⟩) (by assumption) ?rest14
    case hy14 => (intro w hSw; (try dsimp only at hSw); go_simp <;> with_reducible rfl)
    (try simp only [Act.put, List.setIfInBounds_toArray, List.set_cons_zero, List.set_cons_succ])
    refine wpAnyH_take (i := 16) (v := ?v16) (by (simp only [List.getElem?_toArray, List.getElem?_cons_succ, List.getElem?_cons_zero]; rfl)) (by kernel_rfl) (by kernel_rfl) (by kernel_rfl) (fun _ _ _ h => h) (Or.inl ⟨by rfl, ?hy16⟩) (by assumption) ?rest16
    case hy16 => (intro w hSw; (try dsimp only at hSw); go_simp <;> with_reducible rfl)
    (try simp only [Act.put, List.setIfInBounds_toArray, List.set_cons_zero, List.set_cons_succ])
    refine wpAnyH_take (i := 19) (v := ?v19) (by (simp only [List.getElem?_toArray, List.getElem?_cons_succ, List.getElem?_cons_zero]; rfl)) (by kernel_rfl) (by kernel_rfl) (by kernel_rfl) (fun _ _ _ h => h) (Or.inl ⟨by rfl, ?hy19⟩) (by assumption) ?rest19
    case hy19 => (intro w hSw; (try dsimp only at hSw); go_simp <;> with_reducible rfl)
    (try simp only [Act.put, List.setIfInBounds_toArray, List.set_cons_zero, List.set_cons_succ])
    refine wpAnyH_ready (rs := [15]) (by kernel_rfl) (by simp) ?_
    refine AllReadyH.cons (by (simp only [List.getElem?_toArray, List.getElem?_cons_succ, List.getElem?_cons_zero]; rfl)) (fun K hK => ?_) AllReadyH.nil
    go_simp
    refine (ileafsum_any a1 n1 c1 its a2 n2 c2 fls _ _ HZ _ (by omega) (by omega) ((unhide R_x).later (kb1 (by assumption))) ((unhide R_f).later (kb1 (by assumption)))).mono ?_; rintro e5 wv ⟨rfl, b5⟩; have b5k := kb2 (by assumption) b5; clear b5
    (try go_wp2_with fail)
    refine hK.out _ _ ?_ (fun hHeldN => ?_)
    · (try dsimp only); (first | (with_reducible exact unhide HKP _ (Below.refl _ _)) | (with_reducible exact unhide HKP _ ((Below.refl _ _).drew)) | (with_reducible exact unhide HKP _ (by assumption)))
    clear hK K hHeld
    have hHeld := hHeldN
    clear hHeldN
    (try simp only [Act.put, List.setIfInBounds_toArray, List.set_cons_zero, List.set_cons_succ])
    refine wpAnyH_ready (rs := [17]) (by kernel_rfl) (by simp) ?_
    refine AllReadyH.cons (by (simp only [List.getElem?_toArray, List.getElem?_cons_succ, List.getElem?_cons_zero]; rfl)) (fun K hK => ?_) AllReadyH.nil
    go_simp
    refine (itreeof_any a1 n1 c1 its a2 n2 c2 fls 4 HTL qr HQR _ (by omega) (by omega) ((unhide R_x).later (kb1 (by assumption))) ((unhide R_f).later (kb1 (by assumption)))).mono ?_; rintro e6 wu ⟨ua, uc, rfl, ⟨E1, o6⟩, b6⟩; obtain ⟨yz, ub, uo, hyz, rfl, hub, huc, cyz⟩ := (o6.rw encN_len).atN (i := L) (by omega); obtain rfl : yz = z := Option.some.inj (hyz.symm.trans (unhide HAT)); have hfl := fun W => fld_leaves (some ⟨ub, uo, none⟩) 4 uc (.int .i64 qr) W; have b6k := kb2 (by assumption) b6; clear b6 o6 hyz
    (try go_wp2_with fail)
    refine hK.out _ _ ?_ (fun hHeldN => ?_)
    · (try dsimp only); (first | (with_reducible exact unhide HKP _ (Below.refl _ _)) | (with_reducible exact unhide HKP _ ((Below.refl _ _).drew)) | (with_reducible exact unhide HKP _ (by assumption)))
    clear hK K hHeld
    have hHeld := hHeldN
    clear hHeldN
    (try simp only [Act.put, List.setIfInBounds_toArray, List.set_cons_zero, List.set_cons_succ])
    refine wpAnyH_take (i := 18) (v := ?v18) (by (simp only [List.getElem?_toArray, List.getElem?_cons_succ, List.getElem?_cons_zero]; rfl)) (by kernel_rfl) (by kernel_rfl) (by kernel_rfl) (fun _ _ _ h => h) (Or.inl ⟨by rfl, ?hy18⟩) (by assumption) ?rest18
    case hy18 => (intro w hSw; (try dsimp only at hSw); go_simp <;> with_reducible rfl)
    (try simp only [Act.put, List.setIfInBounds_toArray, List.set_cons_zero, List.set_cons_succ])
    refine wpAnyH_take (i := 20) (v := ?v20) (by (simp only [List.getElem?_toArray, List.getElem?_cons_succ, List.getElem?_cons_zero]; rfl)) (by kernel_rfl) (by kernel_rfl) (by kernel_rfl) (fun _ _ _ h => h) (Or.inl ⟨by rfl, ?hy20⟩) (by assumption) ?rest20
    case hy20 => (intro w hSw; (try dsimp only at hSw); go_simp <;> with_reducible rfl)
    (try simp only [Act.put, List.setIfInBounds_toArray, List.set_cons_zero, List.set_cons_succ])
    refine wpAnyH_ready (rs := [21]) (by kernel_rfl) (by simp) ?_
    refine AllReadyH.cons (by (simp only [List.getElem?_toArray, List.getElem?_cons_succ, List.getElem?_cons_zero]; rfl)) (fun K hK => ?_) AllReadyH.nil
    go_simp
    refine hK.out _ _ ?_ (fun hHeldN => ?_)
    · (try dsimp only); (first | (with_reducible exact unhide HKP _ (Below.refl _ _)) | (with_reducible exact unhide HKP _ ((Below.refl _ _).drew)) | (with_reducible exact unhide HKP _ (by assumption)))
    clear hK K hHeld
    have hHeld := hHeldN
    clear hHeldN
    (try simp only [Act.put, List.setIfInBounds_toArray, List.set_cons_zero, List.set_cons_succ])
    refine wpAnyH_take (i := 22) (v := ?v22) (by (simp only [List.getElem?_toArray, List.getElem?_cons_succ, List.getElem?_cons_zero]; rfl)) (by kernel_rfl) (by kernel_rfl) (by kernel_rfl) (fun _ _ _ h => h) (Or.inl ⟨by rfl, ?hy22⟩) (by assumption) ?rest22
    case hy22 => (intro w hSw; (try dsimp only at hSw); go_simp <;> with_reducible rfl)
    (try simp only [Act.put, List.setIfInBounds_toArray, List.set_cons_zero, List.set_cons_succ])
    refine wpAnyH_take (i := 23) (v := ?v23) (by (simp only [List.getElem?_toArray, List.getElem?_cons_succ, List.getElem?_cons_zero]; rfl)) (by kernel_rfl) (by kernel_rfl) (by kernel_rfl) (fun _ _ _ h => h) (Or.inl ⟨by rfl, ?hy23⟩) (by assumption) ?rest23
    case hy23 => (intro w hSw; (try dsimp only at hSw); go_simp <;> with_reducible rfl)
    (try simp only [Act.put, List.setIfInBounds_toArray, List.set_cons_zero, List.set_cons_succ])
    refine wpAnyH_take (i := 24) (v := ?v24) (by (simp only [List.getElem?_toArray, List.getElem?_cons_succ, List.getElem?_cons_zero]; rfl)) (by kernel_rfl) (by kernel_rfl) (by kernel_rfl) (fun _ _ _ h => h) (Or.inl ⟨by rfl, ?hy24⟩) (by assumption) ?rest24
    case hy24 => (intro w hSw; (try dsimp only at hSw); go_simp <;> with_reducible rfl)
    (try simp only [Act.put, List.setIfInBounds_toArray, List.set_cons_zero, List.set_cons_succ])
    refine wpAnyH_take (i := 25) (v := ?v25) (by (simp only [List.getElem?_toArray, List.getElem?_cons_succ, List.getElem?_cons_zero]; rfl)) (by kernel_rfl) (by kernel_rfl) (by kernel_rfl) (fun _ _ _ h => h) (Or.inl ⟨by rfl, ?hy25⟩) (by assumption) ?rest25
    case hy25 => (intro w hSw; (try dsimp only at hSw); go_simp <;> with_reducible rfl)
    (try simp only [Act.put, List.setIfInBounds_toArray, List.set_cons_zero, List.set_cons_succ])
    refine wpAnyH_take (i := 26) (v := ?v26) (by (simp only [List.getElem?_toArray, List.getElem?_cons_succ, List.getElem?_cons_zero]; rfl)) (by kernel_rfl) (by kernel_rfl) (by kernel_rfl) (fun _ _ _ h => h) (Or.inl ⟨by rfl, ?hy26⟩) (by assumption) ?rest26
    case hy26 => (intro w hSw; (try dsimp only at hSw); go_simp <;> with_reducible rfl)
    (try simp only [Act.put, List.setIfInBounds_toArray, List.set_cons_zero, List.set_cons_succ])
    refine wpAnyH_ready (rs := [27]) (by kernel_rfl) (by simp) ?_
    refine AllReadyH.cons (by (simp only [List.getElem?_toArray, List.getElem?_cons_succ, List.getElem?_cons_zero]; rfl)) (fun K hK => ?_) AllReadyH.nil
    go_simp
    refine (ileafsum_any a1 n1 c1 its a2 n2 c2 fls _ _ HZ _ (by omega) (by omega) ((unhide R_x).later (kb1 (by assumption))) ((unhide R_f).later (kb1 (by assumption)))).mono ?_; rintro e5 wv ⟨rfl, b5⟩; have b5k := kb2 (by assumption) b5; clear b5
    (try go_wp2_with fail)
    refine hK.out _ _ ?_ (fun hHeldN => ?_)
    · (try dsimp only); (first | (with_reducible exact unhide HKP _ (Below.refl _ _)) | (with_reducible exact unhide HKP _ ((Below.refl _ _).drew)) | (with_reducible exact unhide HKP _ (by assumption)))
    clear hK K hHeld
    have hHeld := hHeldN
    clear hHeldN
    (try simp only [Act.put, List.setIfInBounds_toArray, List.set_cons_zero, List.set_cons_succ])
    refine wpAnyH_take (i := 28) (v := ?v28) (by (simp only [List.getElem?_toArray, List.getElem?_cons_succ, List.getElem?_cons_zero]; rfl)) (by kernel_rfl) (by kernel_rfl) (by kernel_rfl) (fun _ _ _ h => h) (Or.inl ⟨by rfl, ?hy28⟩) (by assumption) ?rest28
    case hy28 => (intro w hSw; (try dsimp only at hSw); go_simp <;> with_reducible rfl)
    (try simp only [Act.put, List.setIfInBounds_toArray, List.set_cons_zero, List.set_cons_succ])
    refine wpAnyH_take (i := 29) (v := ?v29) (by (simp only [List.getElem?_toArray, List.getElem?_cons_succ, List.getElem?_cons_zero]; rfl)) (by kernel_rfl) (by kernel_rfl) (by kernel_rfl) (fun _ _ _ h => h) (Or.inl ⟨by rfl, ?hy29⟩) (by assumption) ?rest29
    case hy29 => (intro w hSw; (try dsimp only at hSw); go_simp <;> with_reducible rfl)
    (try simp only [Act.put, List.setIfInBounds_toArray, List.set_cons_zero, List.set_cons_succ])
    refine wpAnyH_take (i := 30) (v := ?v30) (by (simp only [List.getElem?_toArray, List.getElem?_cons_succ, List.getElem?_cons_zero]; rfl)) (by kernel_rfl) (by kernel_rfl) (by kernel_rfl) (fun _ _ _ h => h) (Or.inl ⟨by rfl, ?hy30⟩) (by assumption) ?rest30
    case hy30 => (intro w hSw; (try dsimp only at hSw); go_simp <;> with_reducible rfl)
    (try simp only [Act.put, List.setIfInBounds_toArray, List.set_cons_zero, List.set_cons_succ])
    refine wpAnyH_done (by kernel_rfl) ?_ _
    refine NoPanic.normal ?_
    go_wp2
    go_ret
    exact ⟨rfl, (unhide BL).trans (Below.mono (by assumption) (unhide BL).size)⟩

/-! ### THE ROW's STEP: WRITTEN OUT: LEAVE IT -/
set_option maxRecDepth 100000 in
theorem lifted (os : Os) (started : os.Started) (H : Type) (enc : TypeId × Value → H) :
    ReturnsInHanded {} Try.checked os 4 .any (Rows.fnLeavesSpec.pre6 enc Try.prog Try.f4 Rows.fnLeavesRow.domain false) (Rows.fnLeavesSpec.post enc Try.prog Try.f4 false true false false) := by
  refine returnsInHanded_of_change (C := Try.checked) own started (by kernel_rfl) Try.func4
    (ChangeSpec.witness6 (enc := enc) (C := Try.checked) false ⟨#[], #[.slice none 0 0], []⟩ 8 (by kernel_rfl) (by kernel_rfl) (by kernel_rfl) (by kernel_rfl)) ?_
  intro W base args ds gs before hval0 hW hcnd _
  have hval : ∀ (j : Nat) t v, Try.f4.params[j]? = some t → args[j]? = some v → Value.okWide Try.prog W .any base t v := hval0
  have hW' := hW
  obtain ⟨p, q, hA0, hV, rfl, hfz, hnd⟩ := hW
  have hA : DataW.TrodAll enc Try.prog W 0 (fun _ => true) true Try.f4.params.toList args.toList ds p := hA0
  rw [Try.params4] at hA hval
  obtain ⟨v0, vs0, d0, ds0, p0, q0, hargs, rfl, rfl, h0, r0⟩ := trodAll_cons hA
  obtain ⟨rfl, rfl, rfl⟩ := trodAll_nil r0
  obtain rfl : args = #[v0] := by cases args; simp_all
  obtain ⟨rfl, rfl⟩ := trodVars_none hV
  obtain ⟨a0, len0, cap0, rfl⟩ := okWide_slice Try.underlying22 (hval 0 22 v0 rfl rfl)
  have k0 := h0
  have lt0 : ∀ x ∈ p0, x.block < W.heap.size := by obtain ⟨m, hm⟩ := k0; exact DataW.trod_lt m _ _ _ hm
  obtain ⟨z0, w0⟩ : ∃ zs, IsRow .u8 W a0 len0 cap0 zs := by
    obtain ⟨fuel, hf⟩ := h0
    rcases open_ints Try.underlying22 Try.underlying5 (by kernel_rfl) hf with ⟨hcs, _⟩ | ⟨x, l, c, zs, hcs, _, hl, hm, hz, _, hcell, hwz⟩
    · simp [Value.cells] at hcs
      obtain ⟨rfl, rfl, rfl⟩ := hcs
      exact ⟨[], .inl ⟨rfl, rfl, rfl, rfl⟩⟩
    · simp [Value.cells] at hcs
      obtain ⟨rfl, rfl, rfl⟩ := hcs
      exact ⟨zs, .inr ⟨_, rfl, hl, hm, by simpa using hz, hcell, hwz⟩⟩
  clear hA0 hval0
  refine (walk a0 len0 cap0 z0 W w0).mono fun e W' ⟨he, bel⟩ => ?_
  subst he
  exact ⟨_, rfl, _, _, _, [], _, [], hW', trodAll_mk1 (shut_bool Try.underlying4 _), (trodAll_cons_mk (Below.trod laidOut (by kernel_rfl) (of_decide_eq_true (by kernel_rfl)) k0 bel lt0) trodAll_mk0), rfl, bel.frame _, fun h => by cases h⟩

theorem over : Rows.fnLeavesRow.holds Try.pinned (OpenSpec.ofChange Rows.fnLeavesSpec) :=
  OpenClaim.holds_of_wide 4 Try.f4 rfl rfl rfl rfl rfl rfl rfl ⟨rfl, rfl, rfl, rfl, rfl⟩ rfl rfl rfl rfl rfl (by kernel_rfl) Try.func4 (by kernel_rfl)
    (of_decide_eq_true (by kernel_rfl)) (by unfold Func.isWrapper; first | (rw [if_pos (by decide +kernel)]; kernel_rfl) | (rw [if_neg (by decide +kernel)]; exact ⟨rfl, rfl⟩))
    (fun os started H enc _ => lifted os started H enc)

theorem proved : Rows.FnLeavesSaid := over
#print axioms proved
end Go.Proofs.Ytdpaocikmijioab.fnLeaves
namespace Go.Proofs.Ytdpaocikmijioab
theorem fnLeaves_holds : Rows.FnLeavesSaid := fnLeaves.proved
end Go.Proofs.Ytdpaocikmijioab
