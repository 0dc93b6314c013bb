/-
  slices
-/
import Derived.Test.YtdpaocikmijioabGreatRows
import Derived.Test.YtdpaocikmijioabGreatSlP
import Derived.Test.YtdpaocikmijioabGreatDrawB
import Derived.WalkKit
import Derived.ProofKit
import Derived.OpenShut
import Derived.ShutString
import Derived.ChangeOld
import Derived.Below
namespace Go.Proofs.YtdpaocikmijioabGreat.fnSlices
open Go.ChangeShapes Go.WideShapes Go.ChangeAt Go.RowKit
open Go.ChangeMaps (open_string shut_string)
set_option linter.unusedVariables false

theorem own : ownKnob Tryz.prog.godebug = none := by kernel_rfl
theorem laidOut : laidOutB Tryz.prog = true := by kernel_rfl

/-- WHAT THE WALK IS TOLD OF A SLICE OF INTEGERS THAT CAME IN: it is nil; or it leads to a row of 'cap' cells, the numbers 'zs' (the first 'len' are its elements, the rest its spare room), each fitting its kind. -/
def IsRow (k : IntKind) (w : World) (a : Option Addr) (len cap : Nat) (zs : List Int) : Prop :=
  (a = none ∧ len = 0 ∧ cap = 0 ∧ zs = []) ∨
  ∃ x, a = some x ∧ len ≤ cap ∧ cap ≤ maxLen ∧ zs.length = cap ∧ (∀ i, i < zs.length → w.cell? (x.add i) = some (.int k (zs.getD i 0))) ∧ ∀ n ∈ zs, (Lit.int k n).wf = true

/-! ### STEP 1: THE WALK: the Go text returns true, AND WRITES NOTHING THAT WAS THERE: 'Below w.heap.size w w'' (Derived/Below.lean: '.refl', '.alloc', '.drew', '.setCell' at a new block, '.trans'). Open each 'IsRow' by 'rcases' AHEAD of 'go_enter'; part every test ahead of the walk. -/
set_option linter.unusedSimpArgs false in
set_option maxRecDepth 100000 in
set_option maxHeartbeats 4000000 in
theorem walk (a0 : Option Addr) (len0 cap0 : Nat) (z0 : List Int) (w : World) (w0 : IsRow .u8 w a0 len0 cap0 z0) :
    Calls Tryz.prog 4 #[.slice a0 len0 cap0] w fun e w' => e = .returned (.bool true) ∧ Below w.heap.size w w' := by
  obtain ⟨xs, hxl, hseg, hbd⟩ := seg_of_row w0
  subst hxl
  by_cases hbig : 1048576 < xs.length
  · clear w0 hseg hbd
    go_enter Tryz.func4, Tryz.ntmps4
    go_wp2
    go_ret
    exact ⟨rfl, Below.refl _ _⟩
  have hlen : xs.length ≤ 1048576 := by omega
  have HS0 := hide hseg
  have HD := hide hbd
  clear hseg hbd w0
  go_enter Tryz.func4, Tryz.ntmps4
  go_wp2_with fail
  refine (big_no _ _ _ _ hbig).mono ?_
  rintro e _ ⟨rfl, rfl⟩
  go_wp2_with fail
  refine (drawslice_any _ xs _ hlen (unhide HD) (unhide HS0)).mono ?_
  rintro e w1 ⟨a1, n1, c1, a2, n2, c2, its, fls, la, ln, lc, ls, rfl, hln, rl, t⟩
  have BL := hide t.bel
  have R_x := hide (t.oi.rw encI_len)
  have R_f := hide (t.of.rw encF_len)
  have NI := hide t.ni
  have l1 := t.li
  have l2 := t.lf
  have hh1 := (t.oi.rw encI_len).len.1
  have hh2 := (t.of.rw encF_len).len.1
  obtain ⟨m1, m2⟩ : n1 ≤ 6 ∧ n2 ≤ 6 := by omega
  have zw1 := t.bel.size
  clear t l1 l2 hh1 hh2
  have R_l := hide rl
  clear rl
  obtain ⟨ok, HOK⟩ : ∃ ok, Hid (okS its fls = ok) := ⟨_, hide rfl⟩
  obtain ⟨k1, HK1⟩ : ∃ n, Hid ((scI ok ls its).length = n) := ⟨_, hide rfl⟩
  obtain ⟨k2, HK2⟩ : ∃ n, Hid ((scF ok ls fls).length = n) := ⟨_, hide rfl⟩
  obtain ⟨hk1, hk2⟩ : k1 ≤ 6 ∧ k2 ≤ 6 := by
    have h1 := scI_len ok ls its
    have h2 := scF_len ok ls fls
    rw [unhide HK1] at h1
    rw [unhide HK2] at h2
    have h3 := (unhide R_x).len.1
    have h4 := (unhide R_f).len.1
    omega
  go_wp2_with fail
  refine (islice_any a1 n1 c1 its a2 n2 c2 fls la ln lc ls ok HOK k1 k2 HK1 HK2 _ (by omega) (by omega) (by omega) ((unhide R_x).alloc _) ((unhide R_f).alloc _) ((unhide R_l).alloc _)).mono ?_
  rintro e w2 ⟨sa1, sc1, sa2, sc2, rfl, o1, o2, b2⟩
  have cw2 := ((Below.refl w1.heap.size w1).alloc (Nat.le_refl _) _).trans (b2.mono (by simp <;> omega))
  have zw2 := cw2.size
  have K_s : Hid (w2.heap[w1.heap.size]? = some (.cells #[.slice a1 n1 c1, .slice a2 n2 c2] 27 (0, 0)) ∧ w1.heap.size < w2.heap.size) := hide ⟨(b2.block _ (by simp <;> omega)).trans (newB1 w1 _), by have := b2.size; simp at this; omega⟩
  have y_s := (unhide K_s).2
  have R_x := hide ((unhide R_x).later cw2)
  have R_f := hide ((unhide R_f).later cw2)
  have R_l := hide ((unhide R_l).later cw2)
  have BL := hide ((unhide BL).trans (cw2.mono (unhide BL).size))
  have R_p := hide (o1.rw encI_len)
  have R_q := hide (o2.rw encF_len)
  clear b2 cw2
  obtain ⟨s_0, s_1, -⟩ := blk_cells2 (unhide K_s).1
  have n_s := (unhide K_s).2
  clear o1 o2
  go_wp2_with fail
  clear s_0 s_1 n_s
  obtain ⟨wa, hwa⟩ : ∃ W, W = w2.alloc (.cells #[.slice sa1 k1 sc1, .slice sa2 k2 sc2] 27) := ⟨_, rfl⟩
  rw [← hwa]
  have cwa : Below w2.heap.size w2 wa := by rw [hwa]; exact (Below.refl _ _).alloc (Nat.le_refl _) _
  have zwa := cwa.size
  have K_a9 : Hid (wa.heap[w2.heap.size]? = some (.cells #[.slice sa1 k1 sc1, .slice sa2 k2 sc2] 27 (0, 0)) ∧ w2.heap.size < wa.heap.size) := hide ⟨by rw [hwa]; exact heap_alloc_new _ _, by rw [hwa]; simp⟩
  clear hwa
  have K_s := hide (keptblk cwa K_s)
  have R_x := hide ((unhide R_x).later cwa)
  have R_f := hide ((unhide R_f).later cwa)
  have R_l := hide ((unhide R_l).later cwa)
  have R_p := hide ((unhide R_p).later cwa)
  have R_q := hide ((unhide R_q).later cwa)
  have BL := hide ((unhide BL).trans (cwa.mono (unhide BL).size))
  clear cwa
  obtain ⟨s_0, s_1, -⟩ := blk_cells2 (unhide K_s).1
  have n_s := (unhide K_s).2
  have K_a := K_a9
  clear K_a9
  obtain ⟨a_0, a_1, -⟩ := blk_cells2 (unhide K_a).1
  have n_a := (unhide K_a).2
  clear a_0 a_1 n_a s_0 s_1 n_s
  obtain ⟨x0, x1, -⟩ := blk_cells2 (unhide K_a).1
  obtain ⟨y0, y1, -⟩ := blk_cells2 (unhide K_s).1
  have X0 := hide x0; have X1 := hide x1; have Y0 := hide y0; have Y1 := hide y1
  clear x0 x1 y0 y1
  go_region_held3 (fun W => Below wa.heap.size wa W ∧ W.cell? ⟨w2.heap.size, 0, none⟩ = some (.slice sa1 k1 sc1) ∧ W.cell? ⟨w2.heap.size, 1, none⟩ = some (.slice sa2 k2 sc2) ∧ W.cell? ⟨w1.heap.size, 0, none⟩ = some (.slice a1 n1 c1) ∧ W.cell? ⟨w1.heap.size, 1, none⟩ = some (.slice a2 n2 c2))
    (first | (with_reducible exact keep4 (unhide K_a).2 (unhide K_a).2 (unhide K_s).2 (unhide K_s).2 (unhide X0) (unhide X1) (unhide Y0) (unhide Y1) (Below.refl _ _)) | (with_reducible exact keep4 (unhide K_a).2 (unhide K_a).2 (unhide K_s).2 (unhide K_s).2 (unhide X0) (unhide X1) (unhide Y0) (unhide Y1) ((Below.refl _ _).drew)) | (with_reducible exact keep4 (unhide K_a).2 (unhide K_a).2 (unhide K_s).2 (unhide K_s).2 (unhide X0) (unhide X1) (unhide Y0) (unhide Y1) (by assumption)))
    (first
      | (go_at_call 25; refine (sslice_any a1 n1 c1 its a2 n2 c2 fls la ln lc ls ok HOK k1 k2 HK1 HK2 _ (by omega) (by omega) (by omega) ((unhide R_x).later (kb1 (by assumption))) ((unhide R_f).later (kb1 (by assumption))) ((unhide R_l).later (kb1 (by assumption)))).mono ?_; rintro e wt ⟨ta1, tc1, ta2, tc2, rfl, o1, o2, b6⟩; have T1 := hide (o1.rw encI_len); have T2 := hide (o2.rw encF_len); have bwt := kb2 (by assumption) b6; clear o1 o2 b6)
      | (go_at_call 24; refine (ssame_any sa1 k1 sc1 _ sa2 k2 sc2 _ ta1 k1 tc1 _ ta2 k2 tc2 _ true (hide (by simp)) _ (by omega) (by omega) (by omega) (by omega) ((unhide R_p).later (kb1 (by assumption))) ((unhide R_q).later (kb1 (by assumption))) (unhide T1) (unhide T2)).mono ?_; rintro e wu ⟨rfl, b7⟩; have bwu := kb2 (by assumption) b7; clear b7 bwt T1 T2))
  have cwu : Below wa.heap.size wa wu := bwu
  have zwu := cwu.size
  clear X0 X1 Y0 Y1 bwu
  have K_s := hide (keptblk cwu K_s)
  have K_a := hide (keptblk cwu K_a)
  have R_x := hide ((unhide R_x).later cwu)
  have R_f := hide ((unhide R_f).later cwu)
  have R_l := hide ((unhide R_l).later cwu)
  have R_p := hide ((unhide R_p).later cwu)
  have R_q := hide ((unhide R_q).later cwu)
  have BL := hide ((unhide BL).trans (cwu.mono (unhide BL).size))
  clear cwu
  obtain ⟨s_0, s_1, -⟩ := blk_cells2 (unhide K_s).1
  have n_s := (unhide K_s).2
  obtain ⟨a_0, a_1, -⟩ := blk_cells2 (unhide K_a).1
  have n_a := (unhide K_a).2
  go_wp2_with fail
  refine (sstateok_any a1 n1 c1 its a2 n2 c2 fls ok HOK _ (by omega) (by omega) (unhide R_x) (unhide R_f)).mono ?_
  rintro e w3 ⟨rfl, b3⟩
  clear a_0 a_1 n_a s_0 s_1 n_s
  have cw3 := b3
  have zw3 := cw3.size
  have K_s := hide (keptblk cw3 K_s)
  have K_a := hide (keptblk cw3 K_a)
  have R_x := hide ((unhide R_x).later cw3)
  have R_f := hide ((unhide R_f).later cw3)
  have R_l := hide ((unhide R_l).later cw3)
  have R_p := hide ((unhide R_p).later cw3)
  have R_q := hide ((unhide R_q).later cw3)
  have BL := hide ((unhide BL).trans (cw3.mono (unhide BL).size))
  clear b3 cw3
  obtain ⟨s_0, s_1, -⟩ := blk_cells2 (unhide K_s).1
  have n_s := (unhide K_s).2
  obtain ⟨a_0, a_1, -⟩ := blk_cells2 (unhide K_a).1
  have n_a := (unhide K_a).2
  cases ok
  · skip
    have e0 : sbS its fls = [] := by rw [sbS, unhide HOK]; rfl
    have HT0 : Hid ((trL its fls).length = 0) := hide (by simp [trL, unhide HOK])
    have HR0 : Hid (trR its fls = 0) := hide (by simp [trR, unhide HOK])
    have E0 := hide e0
    clear e0
    go_wp2_with fail
    refine (ibytes_any a1 n1 c1 its a2 n2 c2 fls false HOK _ (by omega) (by omega) (unhide R_x) (unhide R_f)).mono ?_
    rintro e w4 ⟨v, rfl, o1, b4⟩
    clear a_0 a_1 n_a s_0 s_1 n_s
    have cw4 := b4
    have zw4 := cw4.size
    have K_s := hide (keptblk cw4 K_s)
    have K_a := hide (keptblk cw4 K_a)
    have R_x := hide ((unhide R_x).later cw4)
    have R_f := hide ((unhide R_f).later cw4)
    have R_l := hide ((unhide R_l).later cw4)
    have R_p := hide ((unhide R_p).later cw4)
    have R_q := hide ((unhide R_q).later cw4)
    have BL := hide ((unhide BL).trans (cw4.mono (unhide BL).size))
    clear b4 cw4
    obtain ⟨s_0, s_1, -⟩ := blk_cells2 (unhide K_s).1
    have n_s := (unhide K_s).2
    obtain ⟨a_0, a_1, -⟩ := blk_cells2 (unhide K_a).1
    have n_a := (unhide K_a).2
    rw [unhide E0] at o1
    obtain ⟨va, vc, rfl, -, -⟩ := seg_of_owns o1
    clear o1
    go_wp2_with fail
    refine (itreeof_any a1 n1 c1 its a2 n2 c2 fls 0 HT0 0 HR0 _ (by omega) (by omega) (unhide R_x) (unhide R_f)).mono ?_
    rintro e w5 ⟨ua, uc, rfl, o2, b5⟩
    clear a_0 a_1 n_a s_0 s_1 n_s
    have cw5 := b5
    have zw5 := cw5.size
    have K_s := hide (keptblk cw5 K_s)
    have K_a := hide (keptblk cw5 K_a)
    have R_x := hide ((unhide R_x).later cw5)
    have R_f := hide ((unhide R_f).later cw5)
    have R_l := hide ((unhide R_l).later cw5)
    have R_p := hide ((unhide R_p).later cw5)
    have R_q := hide ((unhide R_q).later cw5)
    have BL := hide ((unhide BL).trans (cw5.mono (unhide BL).size))
    clear b5 cw5
    obtain ⟨s_0, s_1, -⟩ := blk_cells2 (unhide K_s).1
    have n_s := (unhide K_s).2
    obtain ⟨a_0, a_1, -⟩ := blk_cells2 (unhide K_a).1
    have n_a := (unhide K_a).2
    clear o2
    have hfl := fun W => fld_leaves ua 0 uc (.int .i64 0) W
    go_wp2
    go_ret
    exact ⟨rfl, unhide BL⟩
  have OA := hide ((okS_iff _ _).1 (unhide HOK))
  clear a_0 a_1 n_a s_0 s_1 n_s
  go_wp2
  go_loopw [7] (fun i wr => ∃ (k : Nat) (g1 : Option Addr) (gn1 gc1 : Nat) (g2 : Option Addr) (gn2 gc2 : Nat), k ≤ 4 ∧ i = .int .i64 k ∧ Al6 w3 wr g1 gn1 gc1 g2 gn2 gc2 (slI (([0, 1, 2, 3] : List Int).take k) its) (slF (([0, 1, 2, 3] : List Int).take k) fls)) (fun i _ => 4 - (intOf i).toNat)
  case atStart => exact ⟨0, none, 0, 0, none, 0, 0, by omega, rfl, by rw [(sl_nil its fls).1, (sl_nil its fls).2]; exact Al6.new _⟩
  case round =>
    obtain ⟨k, g1, gn1, gc1, g2, gn2, gc2, hk, rfl, hal⟩ := hrel
    have JV := hide hal
    have KS := hide ((hal.bel.block _ (unhide K_s).2).trans (unhide K_s).1)
    have nS := Nat.lt_of_lt_of_le (unhide K_s).2 hal.bel.size
    have X_r := hide ((unhide R_x).later hal.bel)
    have F_r := hide ((unhide R_f).later hal.bel)
    have zr := hal.lt
    have hg1 := (hal.o1.rw encI_len).len.1
    have hg2 := (hal.o2.rw encF_len).len.1
    clear hal
    by_cases hlt : k < 4
    · skip
      have hm1 : gn1 ≤ 5 := by have h := Nat.le_trans (slI_len (([0, 1, 2, 3] : List Int).take k) its) (unhide OA).len5.1; omega
      have hm2 : gn2 ≤ 5 := by have h := Nat.le_trans (slF_len (([0, 1, 2, 3] : List Int).take k) fls) (unhide OA).len5.2; omega
      clear hg1 hg2
      obtain ⟨q1, HQ1⟩ : ∃ n, Hid ((scI true [(k : Int)] its).length = n) := ⟨_, hide rfl⟩
      obtain ⟨q2, HQ2⟩ : ∃ n, Hid ((scF true [(k : Int)] fls).length = n) := ⟨_, hide rfl⟩
      have hq1 : q1 ≤ 5 := by rw [← unhide HQ1]; exact Nat.le_trans (slI_len _ _) (unhide OA).len5.1
      have hq2 : q2 ≤ 5 := by rw [← unhide HQ2]; exact Nat.le_trans (slF_len _ _) (unhide OA).len5.2
      have HJ : Hid ((okS (slI (([0, 1, 2, 3] : List Int).take k) its) (slF (([0, 1, 2, 3] : List Int).take k) fls) && okS (slI [(k : Int)] its) (slF [(k : Int)] fls)) = true) := hide (by rw [(unhide OA).slice_ok, (unhide OA).slice_ok]; rfl)
      have HS1 := hide ((unhide OA).slice_step hlt).1
      have HS2 := hide ((unhide OA).slice_step hlt).2
      obtain ⟨j1, HJ1⟩ : ∃ n, Hid ((jnI true (slI (([0, 1, 2, 3] : List Int).take k) its) (slF (([0, 1, 2, 3] : List Int).take k) fls) (slI [(k : Int)] its) (slF [(k : Int)] fls)).length = n) := ⟨_, hide rfl⟩
      obtain ⟨j2, HJ2⟩ : ∃ n, Hid ((jnF true (slF (([0, 1, 2, 3] : List Int).take k) fls) (slF [(k : Int)] fls)).length = n) := ⟨_, hide rfl⟩
      have JD := hide ((unhide JV).later (Below.refl _ _).drew)
      have XD := hide ((unhide X_r).later (Below.refl _ _).drew)
      have FD := hide ((unhide F_r).later (Below.refl _ _).drew)
      obtain ⟨p0, p1, -⟩ := blk_cells2 (unhide JV).blk
      obtain ⟨s0, s1, -⟩ := blk_cells2 (unhide KS)
      have hd4 : decide ((k : Int) < 4) = true := by simp; omega
      go_wp2_with fail
      go_region_law (first
        | (go_simp; go_at_call 23; refine (islice_any a1 n1 c1 its a2 n2 c2 fls _ 1 1 [(k : Int)] true HOK q1 q2 HQ1 HQ2 _ (by omega) (by omega) (by omega) ((unhide XD).alloc _) ((unhide FD).alloc _) (rwN_blk (ns := [(k : Int)]) (newB1 _ _))).mono ?_; rintro e w4 ⟨sa3, sc3, sa4, sc4, rfl, o1, o2, b4⟩; have J4 := hide (((unhide JD).later ((Below.refl _ _).alloc (Nat.le_refl _) _)).later b4); have R4 := hide (o1.rw encI_len); have F4 := hide (o2.rw encF_len); have z4 := (unhide J4).lt; obtain ⟨t0, t1, -⟩ := blk_cells2 (unhide J4).blk; clear o1 o2 b4)
        | (go_simp; go_at_call 17; refine (ijoin_any g1 gn1 gc1 _ g2 gn2 gc2 _ sa3 q1 sc3 (slI [(k : Int)] its) sa4 q2 sc4 (slF [(k : Int)] fls) true HJ j1 j2 HJ1 HJ2 _ (by omega) (by omega) (by omega) (by omega) ((unhide J4).o1.rw encI_len) ((unhide J4).o2.rw encF_len) (unhide R4) (unhide F4)).mono ?_; rintro e w5 ⟨ja1, jc1, ja2, jc2, rfl, o1, o2, b5⟩; have J5 := hide ((unhide J4).later b5); have z5 := (unhide J5).lt; obtain ⟨u0, u1, uf⟩ := blk_cells2 (unhide J5).blk; have J6 := hide ((unhide J5).put z4 o1 o2); clear o1 o2 b5))
      all_goals clear p0 p1 s0 s1 t0 t1 u0 u1 uf
      all_goals
        go_wp2
        go_roundw
        case rel => exact ⟨k + 1, ja1, j1, jc1, ja2, j2, jc2, by omega, by go_num, by rw [← unhide HS1, ← unhide HS2]; exact unhide J6⟩
        case measure => simp [intOf]; omega
    · obtain rfl : k = 4 := by omega
      have hall := slI_all (unhide OA)
      have JA := hide (show Al6 w3 wr g1 gn1 gc1 g2 gn2 gc2 its fls from by
        have h := unhide JV
        rw [show ([0, 1, 2, 3] : List Int).take 4 = [0, 1, 2, 3] from rfl, hall.1, hall.2] at h
        exact h)
      clear hall JV hlt
      have b9 := (unhide JA).bel
      have BN := hide ((unhide BL).trans (b9.mono (unhide BL).size))
      clear BL K_s K_a R_x R_f R_p R_q R_l b9
      have BL := BN
      have K_s := hide (And.intro (unhide KS) nS)
      have K_g := hide (And.intro (unhide JA).blk (unhide JA).lt)
      have R_x := X_r
      have R_f := F_r
      have R_g := hide ((unhide JA).o1.rw encI_len)
      have R_h := hide ((unhide JA).o2.rw encF_len)
      clear BN KS X_r F_r JA hg1 hg2
      obtain ⟨hg1, hg2⟩ : gn1 ≤ 6 ∧ gn2 ≤ 6 := by
        have h1 := (unhide R_x).len.1
        have h2 := (unhide R_f).len.1
        have h3 := (unhide R_g).len.1
        have h4 := (unhide R_h).len.1
        omega
      obtain ⟨s_0, s_1, -⟩ := blk_cells2 (unhide K_s).1
      have n_s := (unhide K_s).2
      obtain ⟨g_0, g_1, -⟩ := blk_cells2 (unhide K_g).1
      have n_g := (unhide K_g).2
      go_wp2_with fail
      refine (drawjoin_any _ xs _ hlen (unhide HD) ((unhide HS0).below (unhide BL) (Nat.le_refl _))).mono ?_
      rintro e wj ⟨ta1, tn1, tc1, ta2, tn2, tc2, va1, vn1, vc1, va2, vn2, vc2, tts, tfs, vts, vfs, rfl, T⟩
      have bj := T.bel
      clear g_0 g_1 n_g s_0 s_1 n_s
      have cwj := bj
      have zwj := cwj.size
      have K_s := hide (keptblk cwj K_s)
      have K_g := hide (keptblk cwj K_g)
      have R_x := hide ((unhide R_x).later cwj)
      have R_f := hide ((unhide R_f).later cwj)
      have R_g := hide ((unhide R_g).later cwj)
      have R_h := hide ((unhide R_h).later cwj)
      have BL := hide ((unhide BL).trans (cwj.mono (unhide BL).size))
      have R_t := hide (T.oi.rw encI_len)
      have R_tf := hide (T.of.rw encF_len)
      have R_v := hide (T.pi.rw encI_len)
      have R_vf := hide (T.pf.rw encF_len)
      clear bj cwj
      obtain ⟨s_0, s_1, -⟩ := blk_cells2 (unhide K_s).1
      have n_s := (unhide K_s).2
      obtain ⟨g_0, g_1, -⟩ := blk_cells2 (unhide K_g).1
      have n_g := (unhide K_g).2
      obtain ⟨ht1, ht2, hv1, hv2⟩ : tn1 ≤ 6 ∧ tn2 ≤ 6 ∧ vn1 ≤ 6 ∧ vn2 ≤ 6 := by
        have h1 := (unhide R_t).len.1
        have h2 := (unhide R_tf).len.1
        have h3 := (unhide R_v).len.1
        have h4 := (unhide R_vf).len.1
        have := T.l1
        have := T.l2
        have := T.l3
        have := T.l4
        omega
      clear T
      obtain ⟨nx, HNX⟩ : ∃ n, Hid ((trL tts tfs).length = n) := ⟨_, hide rfl⟩
      obtain ⟨qx, HQX⟩ : ∃ q, Hid (trR tts tfs = q) := ⟨_, hide rfl⟩
      have hnx : nx ≤ 4 := by rw [← unhide HNX, trL_len]; split <;> omega
      obtain ⟨ny, HNY⟩ : ∃ n, Hid ((trL vts vfs).length = n) := ⟨_, hide rfl⟩
      obtain ⟨qy, HQY⟩ : ∃ q, Hid (trR vts vfs = q) := ⟨_, hide rfl⟩
      have hny : ny ≤ 4 := by rw [← unhide HNY, trL_len]; split <;> omega
      go_wp2_with fail
      refine (itreeof_any ta1 tn1 tc1 tts ta2 tn2 tc2 tfs nx HNX qx HQX _ (by omega) (by omega) (((unhide R_t).alloc _).alloc _) (((unhide R_tf).alloc _).alloc _)).mono ?_
      rintro e w21 ⟨xa, xc, rfl, ⟨E1, o1⟩, b21⟩
      clear g_0 g_1 n_g s_0 s_1 n_s
      have cw21 := (((Below.refl wj.heap.size wj).alloc (Nat.le_refl _) _).alloc (by simp <;> omega) _).trans (b21.mono (by simp <;> omega))
      have zw21 := cw21.size
      have K_s := hide (keptblk cw21 K_s)
      have K_g := hide (keptblk cw21 K_g)
      have K_t : Hid (w21.heap[wj.heap.size]? = some (.cells #[.slice ta1 tn1 tc1, .slice ta2 tn2 tc2] 27 (0, 0)) ∧ wj.heap.size < w21.heap.size) := hide ⟨(b21.block _ (by simp <;> omega)).trans (lowB2 wj _ _), by have := b21.size; simp at this; omega⟩
      have y_t := (unhide K_t).2
      have K_u : Hid (w21.heap[wj.heap.size + 1]? = some (.cells #[.slice va1 vn1 vc1, .slice va2 vn2 vc2] 27 (0, 0)) ∧ wj.heap.size + 1 < w21.heap.size) := hide ⟨(b21.block _ (by simp <;> omega)).trans (newB2 wj _ _), by have := b21.size; simp at this; omega⟩
      have y_u := (unhide K_u).2
      have R_x := hide ((unhide R_x).later cw21)
      have R_f := hide ((unhide R_f).later cw21)
      have R_g := hide ((unhide R_g).later cw21)
      have R_h := hide ((unhide R_h).later cw21)
      have R_t := hide ((unhide R_t).later cw21)
      have R_tf := hide ((unhide R_tf).later cw21)
      have R_v := hide ((unhide R_v).later cw21)
      have R_vf := hide ((unhide R_vf).later cw21)
      have BL := hide ((unhide BL).trans (cw21.mono (unhide BL).size))
      have R_X := hide (o1.rw encN_len)
      clear b21 cw21
      obtain ⟨s_0, s_1, -⟩ := blk_cells2 (unhide K_s).1
      have n_s := (unhide K_s).2
      obtain ⟨g_0, g_1, -⟩ := blk_cells2 (unhide K_g).1
      have n_g := (unhide K_g).2
      obtain ⟨t_0, t_1, -⟩ := blk_cells2 (unhide K_t).1
      have n_t := (unhide K_t).2
      obtain ⟨u_0, u_1, -⟩ := blk_cells2 (unhide K_u).1
      have n_u := (unhide K_u).2
      clear o1
      go_wp2_with fail
      refine (itreeof_any va1 vn1 vc1 vts va2 vn2 vc2 vfs ny HNY qy HQY _ (by omega) (by omega) ((unhide R_v).alloc _) ((unhide R_vf).alloc _)).mono ?_
      rintro e w22 ⟨ya, yc, rfl, ⟨E2, o1⟩, b22⟩
      clear g_0 g_1 n_g s_0 s_1 n_s t_0 t_1 n_t u_0 u_1 n_u
      have cw22 := ((Below.refl w21.heap.size w21).alloc (Nat.le_refl _) _).trans (b22.mono (by simp <;> omega))
      have zw22 := cw22.size
      have K_s := hide (keptblk cw22 K_s)
      have K_g := hide (keptblk cw22 K_g)
      have K_t := hide (keptblk cw22 K_t)
      have K_u := hide (keptblk cw22 K_u)
      have K_x : Hid (w22.heap[w21.heap.size]? = some (.cells #[.slice xa nx xc, .int .i64 qx] 50 (0, 0)) ∧ w21.heap.size < w22.heap.size) := hide ⟨(b22.block _ (by simp <;> omega)).trans (newB1 w21 _), by have := b22.size; simp at this; omega⟩
      have y_x := (unhide K_x).2
      have R_x := hide ((unhide R_x).later cw22)
      have R_f := hide ((unhide R_f).later cw22)
      have R_g := hide ((unhide R_g).later cw22)
      have R_h := hide ((unhide R_h).later cw22)
      have R_t := hide ((unhide R_t).later cw22)
      have R_tf := hide ((unhide R_tf).later cw22)
      have R_v := hide ((unhide R_v).later cw22)
      have R_vf := hide ((unhide R_vf).later cw22)
      have R_X := hide ((unhide R_X).later cw22)
      have BL := hide ((unhide BL).trans (cw22.mono (unhide BL).size))
      have R_Y := hide (o1.rw encN_len)
      clear b22 cw22
      obtain ⟨s_0, s_1, -⟩ := blk_cells2 (unhide K_s).1
      have n_s := (unhide K_s).2
      obtain ⟨g_0, g_1, -⟩ := blk_cells2 (unhide K_g).1
      have n_g := (unhide K_g).2
      obtain ⟨t_0, t_1, -⟩ := blk_cells2 (unhide K_t).1
      have n_t := (unhide K_t).2
      obtain ⟨u_0, u_1, -⟩ := blk_cells2 (unhide K_u).1
      have n_u := (unhide K_u).2
      obtain ⟨x_0, x_1, -⟩ := blk_cells2 (unhide K_x).1
      have n_x := (unhide K_x).2
      clear o1
      go_wp2
      clear g_0 g_1 n_g s_0 s_1 n_s t_0 t_1 n_t u_0 u_1 n_u x_0 x_1 n_x
      obtain ⟨wy, hwy⟩ : ∃ W, W = w22.alloc (.cells #[.slice ya ny yc, .int .i64 qy] 50) := ⟨_, rfl⟩
      rw [← hwy]
      have cwy : Below w22.heap.size w22 wy := by rw [hwy]; exact (Below.refl _ _).alloc (Nat.le_refl _) _
      have zwy := cwy.size
      have K_y9 : Hid (wy.heap[w22.heap.size]? = some (.cells #[.slice ya ny yc, .int .i64 qy] 50 (0, 0)) ∧ w22.heap.size < wy.heap.size) := hide ⟨by rw [hwy]; exact heap_alloc_new _ _, by rw [hwy]; simp⟩
      clear hwy
      have K_s := hide (keptblk cwy K_s)
      have K_g := hide (keptblk cwy K_g)
      have K_t := hide (keptblk cwy K_t)
      have K_u := hide (keptblk cwy K_u)
      have K_x := hide (keptblk cwy K_x)
      have R_x := hide ((unhide R_x).later cwy)
      have R_f := hide ((unhide R_f).later cwy)
      have R_g := hide ((unhide R_g).later cwy)
      have R_h := hide ((unhide R_h).later cwy)
      have R_t := hide ((unhide R_t).later cwy)
      have R_tf := hide ((unhide R_tf).later cwy)
      have R_v := hide ((unhide R_v).later cwy)
      have R_vf := hide ((unhide R_vf).later cwy)
      have R_X := hide ((unhide R_X).later cwy)
      have R_Y := hide ((unhide R_Y).later cwy)
      have BL := hide ((unhide BL).trans (cwy.mono (unhide BL).size))
      clear cwy
      obtain ⟨s_0, s_1, -⟩ := blk_cells2 (unhide K_s).1
      have n_s := (unhide K_s).2
      obtain ⟨g_0, g_1, -⟩ := blk_cells2 (unhide K_g).1
      have n_g := (unhide K_g).2
      obtain ⟨t_0, t_1, -⟩ := blk_cells2 (unhide K_t).1
      have n_t := (unhide K_t).2
      obtain ⟨u_0, u_1, -⟩ := blk_cells2 (unhide K_u).1
      have n_u := (unhide K_u).2
      obtain ⟨x_0, x_1, -⟩ := blk_cells2 (unhide K_x).1
      have n_x := (unhide K_x).2
      have K_y := K_y9
      clear K_y9
      obtain ⟨y_0, y_1, -⟩ := blk_cells2 (unhide K_y).1
      have n_y := (unhide K_y).2
      clear g_0 g_1 n_g s_0 s_1 n_s t_0 t_1 n_t u_0 u_1 n_u x_0 x_1 n_x y_0 y_1 n_y
      go_loopw [12] (fun i wr => ∃ k : Nat, k ≤ nx ∧ i = .int .i64 k ∧ Below wy.heap.size wy wr) (fun i _ => nx - (intOf i).toNat)
      case atStart => exact ⟨0, by omega, rfl, Below.refl _ _⟩
      case round =>
        obtain ⟨k, hk, rfl, cwr⟩ := hrel
        have HB := hide cwr
        have zwr := cwr.size
        have K_s := hide (keptblk cwr K_s)
        have K_g := hide (keptblk cwr K_g)
        have K_t := hide (keptblk cwr K_t)
        have K_u := hide (keptblk cwr K_u)
        have K_x := hide (keptblk cwr K_x)
        have K_y := hide (keptblk cwr K_y)
        have R_x := hide ((unhide R_x).later cwr)
        have R_f := hide ((unhide R_f).later cwr)
        have R_g := hide ((unhide R_g).later cwr)
        have R_h := hide ((unhide R_h).later cwr)
        have R_t := hide ((unhide R_t).later cwr)
        have R_tf := hide ((unhide R_tf).later cwr)
        have R_v := hide ((unhide R_v).later cwr)
        have R_vf := hide ((unhide R_vf).later cwr)
        have R_X := hide ((unhide R_X).later cwr)
        have R_Y := hide ((unhide R_Y).later cwr)
        have BL := hide ((unhide BL).trans (cwr.mono (unhide BL).size))
        clear cwr
        obtain ⟨s_0, s_1, -⟩ := blk_cells2 (unhide K_s).1
        have n_s := (unhide K_s).2
        obtain ⟨g_0, g_1, -⟩ := blk_cells2 (unhide K_g).1
        have n_g := (unhide K_g).2
        obtain ⟨t_0, t_1, -⟩ := blk_cells2 (unhide K_t).1
        have n_t := (unhide K_t).2
        obtain ⟨u_0, u_1, -⟩ := blk_cells2 (unhide K_u).1
        have n_u := (unhide K_u).2
        obtain ⟨x_0, x_1, -⟩ := blk_cells2 (unhide K_x).1
        have n_x := (unhide K_x).2
        obtain ⟨y_0, y_1, -⟩ := blk_cells2 (unhide K_y).1
        have n_y := (unhide K_y).2
        have HT4 : Hid ((trL its fls).length = 4) := hide (by rw [trL_len, if_pos (unhide HOK)])
        obtain ⟨qs, HQS⟩ : ∃ q, Hid (trR its fls = q) := ⟨_, hide rfl⟩
        by_cases hlt : k < nx
        rotate_left
        · have hd1 : decide ((k : Int) < (nx : Int)) = false := by simp; omega
          go_wp2_with fail
          refine (isame_any g1 gn1 gc1 its g2 gn2 gc2 fls a1 n1 c1 its a2 n2 c2 fls true (hide (by simp)) _ (by omega) (by omega) (by omega) (by omega) (unhide R_g) (unhide R_h) (unhide R_x) (unhide R_f)).mono ?_
          rintro e w41 ⟨rfl, b41⟩
          clear g_0 g_1 n_g s_0 s_1 n_s t_0 t_1 n_t u_0 u_1 n_u x_0 x_1 n_x y_0 y_1 n_y
          have cw41 := b41
          have zw41 := cw41.size
          have K_s := hide (keptblk cw41 K_s)
          have K_g := hide (keptblk cw41 K_g)
          have K_t := hide (keptblk cw41 K_t)
          have K_u := hide (keptblk cw41 K_u)
          have K_x := hide (keptblk cw41 K_x)
          have K_y := hide (keptblk cw41 K_y)
          have R_x := hide ((unhide R_x).later cw41)
          have R_f := hide ((unhide R_f).later cw41)
          have R_g := hide ((unhide R_g).later cw41)
          have R_h := hide ((unhide R_h).later cw41)
          have R_t := hide ((unhide R_t).later cw41)
          have R_tf := hide ((unhide R_tf).later cw41)
          have R_v := hide ((unhide R_v).later cw41)
          have R_vf := hide ((unhide R_vf).later cw41)
          have R_X := hide ((unhide R_X).later cw41)
          have R_Y := hide ((unhide R_Y).later cw41)
          have BL := hide ((unhide BL).trans (cw41.mono (unhide BL).size))
          clear b41 cw41
          obtain ⟨s_0, s_1, -⟩ := blk_cells2 (unhide K_s).1
          have n_s := (unhide K_s).2
          obtain ⟨g_0, g_1, -⟩ := blk_cells2 (unhide K_g).1
          have n_g := (unhide K_g).2
          obtain ⟨t_0, t_1, -⟩ := blk_cells2 (unhide K_t).1
          have n_t := (unhide K_t).2
          obtain ⟨u_0, u_1, -⟩ := blk_cells2 (unhide K_u).1
          have n_u := (unhide K_u).2
          obtain ⟨x_0, x_1, -⟩ := blk_cells2 (unhide K_x).1
          have n_x := (unhide K_x).2
          obtain ⟨y_0, y_1, -⟩ := blk_cells2 (unhide K_y).1
          have n_y := (unhide K_y).2
          go_wp2_with fail
          refine (itreeof_any a1 n1 c1 its a2 n2 c2 fls 4 HT4 qs HQS _ (by omega) (by omega) (unhide R_x) (unhide R_f)).mono ?_
          rintro e w42 ⟨ua, uc, rfl, o2, b42⟩
          clear g_0 g_1 n_g s_0 s_1 n_s t_0 t_1 n_t u_0 u_1 n_u x_0 x_1 n_x y_0 y_1 n_y
          have cw42 := b42
          have zw42 := cw42.size
          have K_s := hide (keptblk cw42 K_s)
          have K_g := hide (keptblk cw42 K_g)
          have K_t := hide (keptblk cw42 K_t)
          have K_u := hide (keptblk cw42 K_u)
          have K_x := hide (keptblk cw42 K_x)
          have K_y := hide (keptblk cw42 K_y)
          have R_x := hide ((unhide R_x).later cw42)
          have R_f := hide ((unhide R_f).later cw42)
          have R_g := hide ((unhide R_g).later cw42)
          have R_h := hide ((unhide R_h).later cw42)
          have R_t := hide ((unhide R_t).later cw42)
          have R_tf := hide ((unhide R_tf).later cw42)
          have R_v := hide ((unhide R_v).later cw42)
          have R_vf := hide ((unhide R_vf).later cw42)
          have R_X := hide ((unhide R_X).later cw42)
          have R_Y := hide ((unhide R_Y).later cw42)
          have BL := hide ((unhide BL).trans (cw42.mono (unhide BL).size))
          clear b42 cw42
          obtain ⟨s_0, s_1, -⟩ := blk_cells2 (unhide K_s).1
          have n_s := (unhide K_s).2
          obtain ⟨g_0, g_1, -⟩ := blk_cells2 (unhide K_g).1
          have n_g := (unhide K_g).2
          obtain ⟨t_0, t_1, -⟩ := blk_cells2 (unhide K_t).1
          have n_t := (unhide K_t).2
          obtain ⟨u_0, u_1, -⟩ := blk_cells2 (unhide K_u).1
          have n_u := (unhide K_u).2
          obtain ⟨x_0, x_1, -⟩ := blk_cells2 (unhide K_x).1
          have n_x := (unhide K_x).2
          obtain ⟨y_0, y_1, -⟩ := blk_cells2 (unhide K_y).1
          have n_y := (unhide K_y).2
          clear o2
          have hfl := fun W => fld_leaves ua 4 uc (.int .i64 qs) W
          go_wp2
          go_ret
          exact ⟨rfl, unhide BL⟩
        have hd1 : decide ((k : Int) < (nx : Int)) = true := by simp; omega
        by_cases hly : k < ny
        rotate_left
        · have hd2 : decide ((k : Int) < (ny : Int)) = false := by simp; omega
          go_wp2_with fail
          refine (isame_any g1 gn1 gc1 its g2 gn2 gc2 fls a1 n1 c1 its a2 n2 c2 fls true (hide (by simp)) _ (by omega) (by omega) (by omega) (by omega) (unhide R_g) (unhide R_h) (unhide R_x) (unhide R_f)).mono ?_
          rintro e w41 ⟨rfl, b41⟩
          clear g_0 g_1 n_g s_0 s_1 n_s t_0 t_1 n_t u_0 u_1 n_u x_0 x_1 n_x y_0 y_1 n_y
          have cw41 := b41
          have zw41 := cw41.size
          have K_s := hide (keptblk cw41 K_s)
          have K_g := hide (keptblk cw41 K_g)
          have K_t := hide (keptblk cw41 K_t)
          have K_u := hide (keptblk cw41 K_u)
          have K_x := hide (keptblk cw41 K_x)
          have K_y := hide (keptblk cw41 K_y)
          have R_x := hide ((unhide R_x).later cw41)
          have R_f := hide ((unhide R_f).later cw41)
          have R_g := hide ((unhide R_g).later cw41)
          have R_h := hide ((unhide R_h).later cw41)
          have R_t := hide ((unhide R_t).later cw41)
          have R_tf := hide ((unhide R_tf).later cw41)
          have R_v := hide ((unhide R_v).later cw41)
          have R_vf := hide ((unhide R_vf).later cw41)
          have R_X := hide ((unhide R_X).later cw41)
          have R_Y := hide ((unhide R_Y).later cw41)
          have BL := hide ((unhide BL).trans (cw41.mono (unhide BL).size))
          clear b41 cw41
          obtain ⟨s_0, s_1, -⟩ := blk_cells2 (unhide K_s).1
          have n_s := (unhide K_s).2
          obtain ⟨g_0, g_1, -⟩ := blk_cells2 (unhide K_g).1
          have n_g := (unhide K_g).2
          obtain ⟨t_0, t_1, -⟩ := blk_cells2 (unhide K_t).1
          have n_t := (unhide K_t).2
          obtain ⟨u_0, u_1, -⟩ := blk_cells2 (unhide K_u).1
          have n_u := (unhide K_u).2
          obtain ⟨x_0, x_1, -⟩ := blk_cells2 (unhide K_x).1
          have n_x := (unhide K_x).2
          obtain ⟨y_0, y_1, -⟩ := blk_cells2 (unhide K_y).1
          have n_y := (unhide K_y).2
          go_wp2_with fail
          refine (itreeof_any a1 n1 c1 its a2 n2 c2 fls 4 HT4 qs HQS _ (by omega) (by omega) (unhide R_x) (unhide R_f)).mono ?_
          rintro e w42 ⟨ua, uc, rfl, o2, b42⟩
          clear g_0 g_1 n_g s_0 s_1 n_s t_0 t_1 n_t u_0 u_1 n_u x_0 x_1 n_x y_0 y_1 n_y
          have cw42 := b42
          have zw42 := cw42.size
          have K_s := hide (keptblk cw42 K_s)
          have K_g := hide (keptblk cw42 K_g)
          have K_t := hide (keptblk cw42 K_t)
          have K_u := hide (keptblk cw42 K_u)
          have K_x := hide (keptblk cw42 K_x)
          have K_y := hide (keptblk cw42 K_y)
          have R_x := hide ((unhide R_x).later cw42)
          have R_f := hide ((unhide R_f).later cw42)
          have R_g := hide ((unhide R_g).later cw42)
          have R_h := hide ((unhide R_h).later cw42)
          have R_t := hide ((unhide R_t).later cw42)
          have R_tf := hide ((unhide R_tf).later cw42)
          have R_v := hide ((unhide R_v).later cw42)
          have R_vf := hide ((unhide R_vf).later cw42)
          have R_X := hide ((unhide R_X).later cw42)
          have R_Y := hide ((unhide R_Y).later cw42)
          have BL := hide ((unhide BL).trans (cw42.mono (unhide BL).size))
          clear b42 cw42
          obtain ⟨s_0, s_1, -⟩ := blk_cells2 (unhide K_s).1
          have n_s := (unhide K_s).2
          obtain ⟨g_0, g_1, -⟩ := blk_cells2 (unhide K_g).1
          have n_g := (unhide K_g).2
          obtain ⟨t_0, t_1, -⟩ := blk_cells2 (unhide K_t).1
          have n_t := (unhide K_t).2
          obtain ⟨u_0, u_1, -⟩ := blk_cells2 (unhide K_u).1
          have n_u := (unhide K_u).2
          obtain ⟨x_0, x_1, -⟩ := blk_cells2 (unhide K_x).1
          have n_x := (unhide K_x).2
          obtain ⟨y_0, y_1, -⟩ := blk_cells2 (unhide K_y).1
          have n_y := (unhide K_y).2
          clear o2
          have hfl := fun W => fld_leaves ua 4 uc (.int .i64 qs) W
          go_wp2
          go_ret
          exact ⟨rfl, unhide BL⟩
        have hd2 : decide ((k : Int) < (ny : Int)) = true := by simp; omega
        have HOT := hide (ok_of_len (unhide HNX) hlt).1
        have HOV := hide (ok_of_len (unhide HNY) hly).1
        have OT := hide ((okS_iff _ _).1 (unhide HOT))
        have OV := hide ((okS_iff _ _).1 (unhide HOV))
        have HOS := hide ((unhide OT).slice_ok [(k : Int)])
        have HOR := hide ((unhide OV).slice_ok [(k : Int)])
        obtain ⟨p1, HP1⟩ : ∃ n, Hid ((scI true [(k : Int)] tts).length = n) := ⟨_, hide rfl⟩
        obtain ⟨p2, HP2⟩ : ∃ n, Hid ((scF true [(k : Int)] tfs).length = n) := ⟨_, hide rfl⟩
        obtain ⟨r1, HR1⟩ : ∃ n, Hid ((scI true [(k : Int)] vts).length = n) := ⟨_, hide rfl⟩
        obtain ⟨r2, HR2⟩ : ∃ n, Hid ((scF true [(k : Int)] vfs).length = n) := ⟨_, hide rfl⟩
        have hp1 : p1 ≤ 5 := by rw [← unhide HP1]; exact Nat.le_trans (slI_len _ _) (unhide OT).len5.1
        have hp2 : p2 ≤ 5 := by rw [← unhide HP2]; exact Nat.le_trans (slF_len _ _) (unhide OT).len5.2
        have hr1 : r1 ≤ 5 := by rw [← unhide HR1]; exact Nat.le_trans (slI_len _ _) (unhide OV).len5.1
        have hr2 : r2 ≤ 5 := by rw [← unhide HR2]; exact Nat.le_trans (slF_len _ _) (unhide OV).len5.2
        obtain ⟨y1, HY1⟩ : ∃ y, Hid (strOfNums (sbS (slI [(k : Int)] tts) (slF [(k : Int)] tfs)) = y) := ⟨_, hide rfl⟩
        obtain ⟨y2, HY2⟩ : ∃ y, Hid (strOfNums (sbS (slI [(k : Int)] vts) (slF [(k : Int)] vfs)) = y) := ⟨_, hide rfl⟩
        obtain ⟨r, hyr⟩ : ∃ r, (y1.toList == y2.toList) = r := ⟨_, rfl⟩
        have HYR := hide hyr
        have hk0 : (0 : Int) ≤ (k : Int) := by omega
        have hkx : (k : Int) < (nx : Int) := by omega
        have hky : (k : Int) < (ny : Int) := by omega
        go_wp2_with fail
        clear g_0 g_1 n_g s_0 s_1 n_s t_0 t_1 n_t u_0 u_1 n_u x_0 x_1 n_x y_0 y_1 n_y
        obtain ⟨x0, x1, -⟩ := blk_cells2 (unhide K_t).1
        obtain ⟨y0, y1, -⟩ := blk_cells2 (unhide K_u).1
        have HKP := hide (fun (W : World) (hb : Below wr.heap.size wr W) => keep4 (unhide K_t).2 (unhide K_t).2 (unhide K_u).2 (unhide K_u).2 x0 x1 y0 y1 hb)
        clear x0 x1 y0 y1
        refine wp_region_noPanic ?_
        refine wp_region_held_drew (S := (fun W => Below wr.heap.size wr W ∧ W.cell? ⟨wj.heap.size, 0, none⟩ = some (.slice ta1 tn1 tc1) ∧ W.cell? ⟨wj.heap.size, 1, none⟩ = some (.slice ta2 tn2 tc2) ∧ W.cell? ⟨wj.heap.size + 1, 0, none⟩ = some (.slice va1 vn1 vc1) ∧ W.cell? ⟨wj.heap.size + 1, 1, none⟩ = some (.slice va2 vn2 vc2))) (by kernel_rfl) ?_ (fun hHeld => ?_)
        · (try dsimp only); exact unhide HKP _ ((Below.refl _ _).drew)
        obtain ⟨wd, hwd⟩ : ∃ q, q = wr.drew := ⟨_, rfl⟩
        rw [← hwd] at hHeld ⊢
        have Bd : Below wr.heap.size wr wd := by rw [hwd]; exact (Below.refl _ _).drew
        clear hwd
        refine wpAnyH_take (i := 0) (v := ?v1) (by (simp only [List.getElem?_toArray, List.getElem?_cons_succ, List.getElem?_cons_zero]; rfl)) (by kernel_rfl) (by kernel_rfl) (by kernel_rfl) (fun _ _ _ h => h) (Or.inl ⟨by rfl, ?hy1⟩) (by assumption) ?rest1
        case hy1 => (intro w hSw; (try dsimp only at hSw); go_simp <;> with_reducible rfl)
        (try simp only [Act.put, List.setIfInBounds_toArray, List.set_cons_zero, List.set_cons_succ])
        refine wpAnyH_take (i := 1) (v := ?v2) (by (simp only [List.getElem?_toArray, List.getElem?_cons_succ, List.getElem?_cons_zero]; rfl)) (by kernel_rfl) (by kernel_rfl) (by kernel_rfl) (fun _ _ _ h => h) (Or.inl ⟨by rfl, ?hy2⟩) (by assumption) ?rest2
        case hy2 => (intro w hSw; (try dsimp only at hSw); go_simp <;> with_reducible rfl)
        (try simp only [Act.put, List.setIfInBounds_toArray, List.set_cons_zero, List.set_cons_succ])
        refine wpAnyH_take (i := 6) (v := ?v3) (by (simp only [List.getElem?_toArray, List.getElem?_cons_succ, List.getElem?_cons_zero]; rfl)) (by kernel_rfl) (by kernel_rfl) (by kernel_rfl) (fun _ _ _ h => h) (Or.inl ⟨by rfl, ?hy3⟩) (by assumption) ?rest3
        case hy3 => (intro w hSw; (try dsimp only at hSw); go_simp <;> with_reducible rfl)
        (try simp only [Act.put, List.setIfInBounds_toArray, List.set_cons_zero, List.set_cons_succ])
        refine wpAnyH_take (i := 7) (v := ?v4) (by (simp only [List.getElem?_toArray, List.getElem?_cons_succ, List.getElem?_cons_zero]; rfl)) (by kernel_rfl) (by kernel_rfl) (by kernel_rfl) (fun _ _ _ h => h) (Or.inl ⟨by rfl, ?hy4⟩) (by assumption) ?rest4
        case hy4 => (intro w hSw; (try dsimp only at hSw); go_simp <;> with_reducible rfl)
        (try simp only [Act.put, List.setIfInBounds_toArray, List.set_cons_zero, List.set_cons_succ])
        refine wpAnyH_ready (rs := [2, 8]) (by kernel_rfl) (by simp) ?_
        refine AllReadyH.cons (by (simp only [List.getElem?_toArray, List.getElem?_cons_succ, List.getElem?_cons_zero]; rfl)) (fun K hK => ?_) ?_
        · skip
          go_simp
          obtain ⟨wb2, hW⟩ : ∃ q, q = wd.alloc (.cells #[.int .i64 (k : Int)] 3) := ⟨_, rfl⟩
          rw [← hW]
          have bn : Below wd.heap.size wd wb2 := by rw [hW]; exact (Below.refl _ _).alloc (Nat.le_refl _) _
          have N2 := hide (show RwN wb2 (.slice (some ⟨wd.heap.size, 0, none⟩) 1 1) [(k : Int)] from by rw [hW]; exact rwN_blk (ns := [(k : Int)]) (newB1 _ _))
          clear hW
          have B2 : Below wr.heap.size wr wb2 := Bd.trans (bn.mono Bd.size)
          clear bn
          refine hK.out _ _ ?_ (fun hHeldN => ?_)
          · (try dsimp only); exact unhide HKP _ B2
          clear hK K hHeld
          have hHeld := hHeldN
          clear hHeldN
          (try simp only [Act.put, List.setIfInBounds_toArray, List.set_cons_zero, List.set_cons_succ])
          refine wpAnyH_ready (rs := [3, 8]) (by kernel_rfl) (by simp) ?_
          refine AllReadyH.cons (by (simp only [List.getElem?_toArray, List.getElem?_cons_succ, List.getElem?_cons_zero]; rfl)) (fun K hK => ?_) ?_
          · skip
            go_simp
            refine (islice_any ta1 tn1 tc1 tts ta2 tn2 tc2 tfs _ 1 1 [(k : Int)] true HOT p1 p2 HP1 HP2 _ (by omega) (by omega) (by omega) ((unhide R_t).later B2) ((unhide R_tf).later B2) (unhide N2)).mono ?_
            rintro e wc3 ⟨ha1, hc1, ha2, hc2, rfl, o1, o2, bn⟩
            have A3 := hide (o1.rw encI_len)
            have F3 := hide (o2.rw encF_len)
            clear o1 o2
            (try go_wp2_with fail)
            have B3 : Below wr.heap.size wr wc3 := B2.trans (bn.mono B2.size)
            have N2 := hide ((unhide N2).later bn)
            clear bn
            refine hK.out _ _ ?_ (fun hHeldN => ?_)
            · (try dsimp only); exact unhide HKP _ B3
            clear hK K hHeld
            have hHeld := hHeldN
            clear hHeldN
            (try simp only [Act.put, List.setIfInBounds_toArray, List.set_cons_zero, List.set_cons_succ])
            refine wpAnyH_ready (rs := [4, 8]) (by kernel_rfl) (by simp) ?_
            refine AllReadyH.cons (by (simp only [List.getElem?_toArray, List.getElem?_cons_succ, List.getElem?_cons_zero]; rfl)) (fun K hK => ?_) ?_
            · skip
              go_simp
              refine (ibytes_any ha1 p1 hc1 (slI [(k : Int)] tts) ha2 p2 hc2 (slF [(k : Int)] tfs) true HOS _ (by omega) (by omega) (unhide A3) (unhide F3)).mono ?_
              rintro e wc4 ⟨v4, rfl, o1, bn⟩
              have C4 := hide o1
              clear o1
              (try go_wp2_with fail)
              have B4 : Below wr.heap.size wr wc4 := B3.trans (bn.mono B3.size)
              have N2 := hide ((unhide N2).later bn)
              have A3 := hide ((unhide A3).later bn)
              have F3 := hide ((unhide F3).later bn)
              clear bn
              refine hK.out _ _ ?_ (fun hHeldN => ?_)
              · (try dsimp only); exact unhide HKP _ B4
              clear hK K hHeld
              have hHeld := hHeldN
              clear hHeldN
              (try simp only [Act.put, List.setIfInBounds_toArray, List.set_cons_zero, List.set_cons_succ])
              refine wpAnyH_ready (rs := [5, 8]) (by kernel_rfl) (by simp) ?_
              refine AllReadyH.cons (by (simp only [List.getElem?_toArray, List.getElem?_cons_succ, List.getElem?_cons_zero]; rfl)) (fun K hK => ?_) ?_
              · skip
                have hcv := conv6 HY1 (unhide C4)
                go_simp
                clear hcv
                refine hK.out _ _ ?_ (fun hHeldN => ?_)
                · (try dsimp only); exact unhide HKP _ B4
                clear hK K hHeld
                have hHeld := hHeldN
                clear hHeldN
                (try simp only [Act.put, List.setIfInBounds_toArray, List.set_cons_zero, List.set_cons_succ])
                refine wpAnyH_ready (rs := [8]) (by kernel_rfl) (by simp) ?_
                refine AllReadyH.cons (by (simp only [List.getElem?_toArray, List.getElem?_cons_succ, List.getElem?_cons_zero]; rfl)) (fun K hK => ?_) AllReadyH.nil
                go_simp
                obtain ⟨wb8, hW⟩ : ∃ q, q = wc4.alloc (.cells #[.int .i64 (k : Int)] 3) := ⟨_, rfl⟩
                rw [← hW]
                have bn : Below wc4.heap.size wc4 wb8 := by rw [hW]; exact (Below.refl _ _).alloc (Nat.le_refl _) _
                have N8 := hide (show RwN wb8 (.slice (some ⟨wc4.heap.size, 0, none⟩) 1 1) [(k : Int)] from by rw [hW]; exact rwN_blk (ns := [(k : Int)]) (newB1 _ _))
                clear hW
                have B8 : Below wr.heap.size wr wb8 := B4.trans (bn.mono B4.size)
                have N2 := hide ((unhide N2).later bn)
                have A3 := hide ((unhide A3).later bn)
                have F3 := hide ((unhide F3).later bn)
                have C4 := hide ((unhide C4).later bn)
                clear bn
                refine hK.out _ _ ?_ (fun hHeldN => ?_)
                · (try dsimp only); exact unhide HKP _ B8
                clear hK K hHeld
                have hHeld := hHeldN
                clear hHeldN
                (try simp only [Act.put, List.setIfInBounds_toArray, List.set_cons_zero, List.set_cons_succ])
                refine wpAnyH_ready (rs := [9]) (by kernel_rfl) (by simp) ?_
                refine AllReadyH.cons (by (simp only [List.getElem?_toArray, List.getElem?_cons_succ, List.getElem?_cons_zero]; rfl)) (fun K hK => ?_) AllReadyH.nil
                go_simp
                refine (islice_any va1 vn1 vc1 vts va2 vn2 vc2 vfs _ 1 1 [(k : Int)] true HOV r1 r2 HR1 HR2 _ (by omega) (by omega) (by omega) ((unhide R_v).later B8) ((unhide R_vf).later B8) (unhide N8)).mono ?_
                rintro e wc9 ⟨ka1, kc1, ka2, kc2, rfl, o1, o2, bn⟩
                have A9 := hide (o1.rw encI_len)
                have F9 := hide (o2.rw encF_len)
                clear o1 o2
                (try go_wp2_with fail)
                have B9 : Below wr.heap.size wr wc9 := B8.trans (bn.mono B8.size)
                have N2 := hide ((unhide N2).later bn)
                have A3 := hide ((unhide A3).later bn)
                have F3 := hide ((unhide F3).later bn)
                have C4 := hide ((unhide C4).later bn)
                have N8 := hide ((unhide N8).later bn)
                clear bn
                refine hK.out _ _ ?_ (fun hHeldN => ?_)
                · (try dsimp only); exact unhide HKP _ B9
                clear hK K hHeld
                have hHeld := hHeldN
                clear hHeldN
                (try simp only [Act.put, List.setIfInBounds_toArray, List.set_cons_zero, List.set_cons_succ])
                refine wpAnyH_ready (rs := [10]) (by kernel_rfl) (by simp) ?_
                refine AllReadyH.cons (by (simp only [List.getElem?_toArray, List.getElem?_cons_succ, List.getElem?_cons_zero]; rfl)) (fun K hK => ?_) AllReadyH.nil
                go_simp
                refine (ibytes_any ka1 r1 kc1 (slI [(k : Int)] vts) ka2 r2 kc2 (slF [(k : Int)] vfs) true HOR _ (by omega) (by omega) (unhide A9) (unhide F9)).mono ?_
                rintro e wc10 ⟨v10, rfl, o1, bn⟩
                have C10 := hide o1
                clear o1
                (try go_wp2_with fail)
                have B10 : Below wr.heap.size wr wc10 := B9.trans (bn.mono B9.size)
                have N2 := hide ((unhide N2).later bn)
                have A3 := hide ((unhide A3).later bn)
                have F3 := hide ((unhide F3).later bn)
                have C4 := hide ((unhide C4).later bn)
                have N8 := hide ((unhide N8).later bn)
                have A9 := hide ((unhide A9).later bn)
                have F9 := hide ((unhide F9).later bn)
                clear bn
                refine hK.out _ _ ?_ (fun hHeldN => ?_)
                · (try dsimp only); exact unhide HKP _ B10
                clear hK K hHeld
                have hHeld := hHeldN
                clear hHeldN
                (try simp only [Act.put, List.setIfInBounds_toArray, List.set_cons_zero, List.set_cons_succ])
                refine wpAnyH_ready (rs := [11]) (by kernel_rfl) (by simp) ?_
                refine AllReadyH.cons (by (simp only [List.getElem?_toArray, List.getElem?_cons_succ, List.getElem?_cons_zero]; rfl)) (fun K hK => ?_) AllReadyH.nil
                have hcv := conv6 HY2 (unhide C10)
                go_simp
                clear hcv
                refine hK.out _ _ ?_ (fun hHeldN => ?_)
                · (try dsimp only); exact unhide HKP _ B10
                clear hK K hHeld
                have hHeld := hHeldN
                clear hHeldN
                (try simp only [Act.put, List.setIfInBounds_toArray, List.set_cons_zero, List.set_cons_succ])
                refine wpAnyH_take (i := 12) (v := ?v5) (by (simp only [List.getElem?_toArray, List.getElem?_cons_succ, List.getElem?_cons_zero]; rfl)) (by kernel_rfl) (by kernel_rfl) (by kernel_rfl) (fun _ _ _ h => h) (Or.inl ⟨by rfl, ?hy5⟩) (by assumption) ?rest5
                case hy5 => (intro w hSw; (try dsimp only at hSw); go_simp <;> with_reducible rfl)
                (try simp only [Act.put, List.setIfInBounds_toArray, List.set_cons_zero, List.set_cons_succ])
                refine wpAnyH_take (i := 13) (v := ?v6) (by (simp only [List.getElem?_toArray, List.getElem?_cons_succ, List.getElem?_cons_zero]; rfl)) (by kernel_rfl) (by kernel_rfl) (by kernel_rfl) (fun _ _ _ h => h) (Or.inl ⟨by rfl, ?hy6⟩) (by assumption) ?rest6
                case hy6 => (intro w hSw; (try dsimp only at hSw); go_simp <;> with_reducible rfl)
                (try simp only [Act.put, List.setIfInBounds_toArray, List.set_cons_zero, List.set_cons_succ])
                refine wpAnyH_done (by kernel_rfl) ?_ _
                refine NoPanic.normal ?_
                clear hHeld
                have HBF := hide ((unhide HB).trans (B10.mono (unhide HB).size))
                clear hyr
                cases r
                · go_wp2_with fail
                  go_quiet (fail)
                  go_wp2
                  go_roundw
                  case rel => exact ⟨k + 1, by omega, by go_num, below_drewN (unhide HBF) _⟩
                  case measure => simp [intOf]; omega
                · obtain ⟨z1, xb, xo, hz1, rfl, hb1, hc1, cx⟩ := ((unhide R_X).later B10).atN (i := k) hlt
                  obtain ⟨z2, yb, yo, hz2, rfl, hb2, hc2, cy⟩ := ((unhide R_Y).later B10).atN (i := k) hly
                  have hne : (z1 != z2) = false := by
                    rw [trL_at (unhide HOT) (by omega)] at hz1
                    rw [trL_at (unhide HOV) (by omega)] at hz2
                    rw [← Option.some.inj hz1, ← Option.some.inj hz2, same_sum (unhide HOT) (unhide HOV) (unhide HY1) (unhide HY2) (unhide HYR)]
                    simp
                  clear hz1 hz2
                  obtain ⟨x0, x1, -⟩ := blk_cells2 ((B10.block _ (unhide K_x).2).trans (unhide K_x).1)
                  obtain ⟨y0, yy1, -⟩ := blk_cells2 ((B10.block _ (unhide K_y).2).trans (unhide K_y).1)
                  go_wp2_with fail
                  go_quiet (fail)
                  go_wp2
                  go_roundw
                  case rel => exact ⟨k + 1, by omega, by go_num, below_drewN (unhide HBF) _⟩
                  case measure => simp [intOf]; omega
              refine AllReadyH.cons (by (simp only [List.getElem?_toArray, List.getElem?_cons_succ, List.getElem?_cons_zero]; rfl)) (fun K hK => ?_) AllReadyH.nil
              go_simp
              obtain ⟨wb8, hW⟩ : ∃ q, q = wc4.alloc (.cells #[.int .i64 (k : Int)] 3) := ⟨_, rfl⟩
              rw [← hW]
              have bn : Below wc4.heap.size wc4 wb8 := by rw [hW]; exact (Below.refl _ _).alloc (Nat.le_refl _) _
              have N8 := hide (show RwN wb8 (.slice (some ⟨wc4.heap.size, 0, none⟩) 1 1) [(k : Int)] from by rw [hW]; exact rwN_blk (ns := [(k : Int)]) (newB1 _ _))
              clear hW
              have B8 : Below wr.heap.size wr wb8 := B4.trans (bn.mono B4.size)
              have N2 := hide ((unhide N2).later bn)
              have A3 := hide ((unhide A3).later bn)
              have F3 := hide ((unhide F3).later bn)
              have C4 := hide ((unhide C4).later bn)
              clear bn
              refine hK.out _ _ ?_ (fun hHeldN => ?_)
              · (try dsimp only); exact unhide HKP _ B8
              clear hK K hHeld
              have hHeld := hHeldN
              clear hHeldN
              (try simp only [Act.put, List.setIfInBounds_toArray, List.set_cons_zero, List.set_cons_succ])
              refine wpAnyH_ready (rs := [5, 9]) (by kernel_rfl) (by simp) ?_
              refine AllReadyH.cons (by (simp only [List.getElem?_toArray, List.getElem?_cons_succ, List.getElem?_cons_zero]; rfl)) (fun K hK => ?_) ?_
              · skip
                have hcv := conv6 HY1 (unhide C4)
                go_simp
                clear hcv
                refine hK.out _ _ ?_ (fun hHeldN => ?_)
                · (try dsimp only); exact unhide HKP _ B8
                clear hK K hHeld
                have hHeld := hHeldN
                clear hHeldN
                (try simp only [Act.put, List.setIfInBounds_toArray, List.set_cons_zero, List.set_cons_succ])
                refine wpAnyH_ready (rs := [9]) (by kernel_rfl) (by simp) ?_
                refine AllReadyH.cons (by (simp only [List.getElem?_toArray, List.getElem?_cons_succ, List.getElem?_cons_zero]; rfl)) (fun K hK => ?_) AllReadyH.nil
                go_simp
                refine (islice_any va1 vn1 vc1 vts va2 vn2 vc2 vfs _ 1 1 [(k : Int)] true HOV r1 r2 HR1 HR2 _ (by omega) (by omega) (by omega) ((unhide R_v).later B8) ((unhide R_vf).later B8) (unhide N8)).mono ?_
                rintro e wc9 ⟨ka1, kc1, ka2, kc2, rfl, o1, o2, bn⟩
                have A9 := hide (o1.rw encI_len)
                have F9 := hide (o2.rw encF_len)
                clear o1 o2
                (try go_wp2_with fail)
                have B9 : Below wr.heap.size wr wc9 := B8.trans (bn.mono B8.size)
                have N2 := hide ((unhide N2).later bn)
                have A3 := hide ((unhide A3).later bn)
                have F3 := hide ((unhide F3).later bn)
                have C4 := hide ((unhide C4).later bn)
                have N8 := hide ((unhide N8).later bn)
                clear bn
                refine hK.out _ _ ?_ (fun hHeldN => ?_)
                · (try dsimp only); exact unhide HKP _ B9
                clear hK K hHeld
                have hHeld := hHeldN
                clear hHeldN
                (try simp only [Act.put, List.setIfInBounds_toArray, List.set_cons_zero, List.set_cons_succ])
                refine wpAnyH_ready (rs := [10]) (by kernel_rfl) (by simp) ?_
                refine AllReadyH.cons (by (simp only [List.getElem?_toArray, List.getElem?_cons_succ, List.getElem?_cons_zero]; rfl)) (fun K hK => ?_) AllReadyH.nil
                go_simp
                refine (ibytes_any ka1 r1 kc1 (slI [(k : Int)] vts) ka2 r2 kc2 (slF [(k : Int)] vfs) true HOR _ (by omega) (by omega) (unhide A9) (unhide F9)).mono ?_
                rintro e wc10 ⟨v10, rfl, o1, bn⟩
                have C10 := hide o1
                clear o1
                (try go_wp2_with fail)
                have B10 : Below wr.heap.size wr wc10 := B9.trans (bn.mono B9.size)
                have N2 := hide ((unhide N2).later bn)
                have A3 := hide ((unhide A3).later bn)
                have F3 := hide ((unhide F3).later bn)
                have C4 := hide ((unhide C4).later bn)
                have N8 := hide ((unhide N8).later bn)
                have A9 := hide ((unhide A9).later bn)
                have F9 := hide ((unhide F9).later bn)
                clear bn
                refine hK.out _ _ ?_ (fun hHeldN => ?_)
                · (try dsimp only); exact unhide HKP _ B10
                clear hK K hHeld
                have hHeld := hHeldN
                clear hHeldN
                (try simp only [Act.put, List.setIfInBounds_toArray, List.set_cons_zero, List.set_cons_succ])
                refine wpAnyH_ready (rs := [11]) (by kernel_rfl) (by simp) ?_
                refine AllReadyH.cons (by (simp only [List.getElem?_toArray, List.getElem?_cons_succ, List.getElem?_cons_zero]; rfl)) (fun K hK => ?_) AllReadyH.nil
                have hcv := conv6 HY2 (unhide C10)
                go_simp
                clear hcv
                refine hK.out _ _ ?_ (fun hHeldN => ?_)
                · (try dsimp only); exact unhide HKP _ B10
                clear hK K hHeld
                have hHeld := hHeldN
                clear hHeldN
                (try simp only [Act.put, List.setIfInBounds_toArray, List.set_cons_zero, List.set_cons_succ])
                refine wpAnyH_take (i := 12) (v := ?v7) (by (simp only [List.getElem?_toArray, List.getElem?_cons_succ, List.getElem?_cons_zero]; rfl)) (by kernel_rfl) (by kernel_rfl) (by kernel_rfl) (fun _ _ _ h => h) (Or.inl ⟨by rfl, ?hy7⟩) (by assumption) ?rest7
                case hy7 => (intro w hSw; (try dsimp only at hSw); go_simp <;> with_reducible rfl)
                (try simp only [Act.put, List.setIfInBounds_toArray, List.set_cons_zero, List.set_cons_succ])
                refine wpAnyH_take (i := 13) (v := ?v8) (by (simp only [List.getElem?_toArray, List.getElem?_cons_succ, List.getElem?_cons_zero]; rfl)) (by kernel_rfl) (by kernel_rfl) (by kernel_rfl) (fun _ _ _ h => h) (Or.inl ⟨by rfl, ?hy8⟩) (by assumption) ?rest8
                case hy8 => (intro w hSw; (try dsimp only at hSw); go_simp <;> with_reducible rfl)
                (try simp only [Act.put, List.setIfInBounds_toArray, List.set_cons_zero, List.set_cons_succ])
                refine wpAnyH_done (by kernel_rfl) ?_ _
                refine NoPanic.normal ?_
                clear hHeld
                have HBF := hide ((unhide HB).trans (B10.mono (unhide HB).size))
                clear hyr
                cases r
                · go_wp2_with fail
                  go_quiet (fail)
                  go_wp2
                  go_roundw
                  case rel => exact ⟨k + 1, by omega, by go_num, below_drewN (unhide HBF) _⟩
                  case measure => simp [intOf]; omega
                · obtain ⟨z1, xb, xo, hz1, rfl, hb1, hc1, cx⟩ := ((unhide R_X).later B10).atN (i := k) hlt
                  obtain ⟨z2, yb, yo, hz2, rfl, hb2, hc2, cy⟩ := ((unhide R_Y).later B10).atN (i := k) hly
                  have hne : (z1 != z2) = false := by
                    rw [trL_at (unhide HOT) (by omega)] at hz1
                    rw [trL_at (unhide HOV) (by omega)] at hz2
                    rw [← Option.some.inj hz1, ← Option.some.inj hz2, same_sum (unhide HOT) (unhide HOV) (unhide HY1) (unhide HY2) (unhide HYR)]
                    simp
                  clear hz1 hz2
                  obtain ⟨x0, x1, -⟩ := blk_cells2 ((B10.block _ (unhide K_x).2).trans (unhide K_x).1)
                  obtain ⟨y0, yy1, -⟩ := blk_cells2 ((B10.block _ (unhide K_y).2).trans (unhide K_y).1)
                  go_wp2_with fail
                  go_quiet (fail)
                  go_wp2
                  go_roundw
                  case rel => exact ⟨k + 1, by omega, by go_num, below_drewN (unhide HBF) _⟩
                  case measure => simp [intOf]; omega
              refine AllReadyH.cons (by (simp only [List.getElem?_toArray, List.getElem?_cons_succ, List.getElem?_cons_zero]; rfl)) (fun K hK => ?_) AllReadyH.nil
              go_simp
              refine (islice_any va1 vn1 vc1 vts va2 vn2 vc2 vfs _ 1 1 [(k : Int)] true HOV r1 r2 HR1 HR2 _ (by omega) (by omega) (by omega) ((unhide R_v).later B8) ((unhide R_vf).later B8) (unhide N8)).mono ?_
              rintro e wc9 ⟨ka1, kc1, ka2, kc2, rfl, o1, o2, bn⟩
              have A9 := hide (o1.rw encI_len)
              have F9 := hide (o2.rw encF_len)
              clear o1 o2
              (try go_wp2_with fail)
              have B9 : Below wr.heap.size wr wc9 := B8.trans (bn.mono B8.size)
              have N2 := hide ((unhide N2).later bn)
              have A3 := hide ((unhide A3).later bn)
              have F3 := hide ((unhide F3).later bn)
              have C4 := hide ((unhide C4).later bn)
              have N8 := hide ((unhide N8).later bn)
              clear bn
              refine hK.out _ _ ?_ (fun hHeldN => ?_)
              · (try dsimp only); exact unhide HKP _ B9
              clear hK K hHeld
              have hHeld := hHeldN
              clear hHeldN
              (try simp only [Act.put, List.setIfInBounds_toArray, List.set_cons_zero, List.set_cons_succ])
              refine wpAnyH_ready (rs := [5, 10]) (by kernel_rfl) (by simp) ?_
              refine AllReadyH.cons (by (simp only [List.getElem?_toArray, List.getElem?_cons_succ, List.getElem?_cons_zero]; rfl)) (fun K hK => ?_) ?_
              · skip
                have hcv := conv6 HY1 (unhide C4)
                go_simp
                clear hcv
                refine hK.out _ _ ?_ (fun hHeldN => ?_)
                · (try dsimp only); exact unhide HKP _ B9
                clear hK K hHeld
                have hHeld := hHeldN
                clear hHeldN
                (try simp only [Act.put, List.setIfInBounds_toArray, List.set_cons_zero, List.set_cons_succ])
                refine wpAnyH_ready (rs := [10]) (by kernel_rfl) (by simp) ?_
                refine AllReadyH.cons (by (simp only [List.getElem?_toArray, List.getElem?_cons_succ, List.getElem?_cons_zero]; rfl)) (fun K hK => ?_) AllReadyH.nil
                go_simp
                refine (ibytes_any ka1 r1 kc1 (slI [(k : Int)] vts) ka2 r2 kc2 (slF [(k : Int)] vfs) true HOR _ (by omega) (by omega) (unhide A9) (unhide F9)).mono ?_
                rintro e wc10 ⟨v10, rfl, o1, bn⟩
                have C10 := hide o1
                clear o1
                (try go_wp2_with fail)
                have B10 : Below wr.heap.size wr wc10 := B9.trans (bn.mono B9.size)
                have N2 := hide ((unhide N2).later bn)
                have A3 := hide ((unhide A3).later bn)
                have F3 := hide ((unhide F3).later bn)
                have C4 := hide ((unhide C4).later bn)
                have N8 := hide ((unhide N8).later bn)
                have A9 := hide ((unhide A9).later bn)
                have F9 := hide ((unhide F9).later bn)
                clear bn
                refine hK.out _ _ ?_ (fun hHeldN => ?_)
                · (try dsimp only); exact unhide HKP _ B10
                clear hK K hHeld
                have hHeld := hHeldN
                clear hHeldN
                (try simp only [Act.put, List.setIfInBounds_toArray, List.set_cons_zero, List.set_cons_succ])
                refine wpAnyH_ready (rs := [11]) (by kernel_rfl) (by simp) ?_
                refine AllReadyH.cons (by (simp only [List.getElem?_toArray, List.getElem?_cons_succ, List.getElem?_cons_zero]; rfl)) (fun K hK => ?_) AllReadyH.nil
                have hcv := conv6 HY2 (unhide C10)
                go_simp
                clear hcv
                refine hK.out _ _ ?_ (fun hHeldN => ?_)
                · (try dsimp only); exact unhide HKP _ B10
                clear hK K hHeld
                have hHeld := hHeldN
                clear hHeldN
                (try simp only [Act.put, List.setIfInBounds_toArray, List.set_cons_zero, List.set_cons_succ])
                refine wpAnyH_take (i := 12) (v := ?v9) (by (simp only [List.getElem?_toArray, List.getElem?_cons_succ, List.getElem?_cons_zero]; rfl)) (by kernel_rfl) (by kernel_rfl) (by kernel_rfl) (fun _ _ _ h => h) (Or.inl ⟨by rfl, ?hy9⟩) (by assumption) ?rest9
                case hy9 => (intro w hSw; (try dsimp only at hSw); go_simp <;> with_reducible rfl)
                (try simp only [Act.put, List.setIfInBounds_toArray, List.set_cons_zero, List.set_cons_succ])
                refine wpAnyH_take (i := 13) (v := ?v10) (by (simp only [List.getElem?_toArray, List.getElem?_cons_succ, List.getElem?_cons_zero]; rfl)) (by kernel_rfl) (by kernel_rfl) (by kernel_rfl) (fun _ _ _ h => h) (Or.inl ⟨by rfl, ?hy10⟩) (by assumption) ?rest10
                case hy10 => (intro w hSw; (try dsimp only at hSw); go_simp <;> with_reducible rfl)
                (try simp only [Act.put, List.setIfInBounds_toArray, List.set_cons_zero, List.set_cons_succ])
                refine wpAnyH_done (by kernel_rfl) ?_ _
                refine NoPanic.normal ?_
                clear hHeld
                have HBF := hide ((unhide HB).trans (B10.mono (unhide HB).size))
                clear hyr
                cases r
                · go_wp2_with fail
                  go_quiet (fail)
                  go_wp2
                  go_roundw
                  case rel => exact ⟨k + 1, by omega, by go_num, below_drewN (unhide HBF) _⟩
                  case measure => simp [intOf]; omega
                · obtain ⟨z1, xb, xo, hz1, rfl, hb1, hc1, cx⟩ := ((unhide R_X).later B10).atN (i := k) hlt
                  obtain ⟨z2, yb, yo, hz2, rfl, hb2, hc2, cy⟩ := ((unhide R_Y).later B10).atN (i := k) hly
                  have hne : (z1 != z2) = false := by
                    rw [trL_at (unhide HOT) (by omega)] at hz1
                    rw [trL_at (unhide HOV) (by omega)] at hz2
                    rw [← Option.some.inj hz1, ← Option.some.inj hz2, same_sum (unhide HOT) (unhide HOV) (unhide HY1) (unhide HY2) (unhide HYR)]
                    simp
                  clear hz1 hz2
                  obtain ⟨x0, x1, -⟩ := blk_cells2 ((B10.block _ (unhide K_x).2).trans (unhide K_x).1)
                  obtain ⟨y0, yy1, -⟩ := blk_cells2 ((B10.block _ (unhide K_y).2).trans (unhide K_y).1)
                  go_wp2_with fail
                  go_quiet (fail)
                  go_wp2
                  go_roundw
                  case rel => exact ⟨k + 1, by omega, by go_num, below_drewN (unhide HBF) _⟩
                  case measure => simp [intOf]; omega
              refine AllReadyH.cons (by (simp only [List.getElem?_toArray, List.getElem?_cons_succ, List.getElem?_cons_zero]; rfl)) (fun K hK => ?_) AllReadyH.nil
              go_simp
              refine (ibytes_any ka1 r1 kc1 (slI [(k : Int)] vts) ka2 r2 kc2 (slF [(k : Int)] vfs) true HOR _ (by omega) (by omega) (unhide A9) (unhide F9)).mono ?_
              rintro e wc10 ⟨v10, rfl, o1, bn⟩
              have C10 := hide o1
              clear o1
              (try go_wp2_with fail)
              have B10 : Below wr.heap.size wr wc10 := B9.trans (bn.mono B9.size)
              have N2 := hide ((unhide N2).later bn)
              have A3 := hide ((unhide A3).later bn)
              have F3 := hide ((unhide F3).later bn)
              have C4 := hide ((unhide C4).later bn)
              have N8 := hide ((unhide N8).later bn)
              have A9 := hide ((unhide A9).later bn)
              have F9 := hide ((unhide F9).later bn)
              clear bn
              refine hK.out _ _ ?_ (fun hHeldN => ?_)
              · (try dsimp only); exact unhide HKP _ B10
              clear hK K hHeld
              have hHeld := hHeldN
              clear hHeldN
              (try simp only [Act.put, List.setIfInBounds_toArray, List.set_cons_zero, List.set_cons_succ])
              refine wpAnyH_ready (rs := [5, 11]) (by kernel_rfl) (by simp) ?_
              refine AllReadyH.cons (by (simp only [List.getElem?_toArray, List.getElem?_cons_succ, List.getElem?_cons_zero]; rfl)) (fun K hK => ?_) ?_
              · skip
                have hcv := conv6 HY1 (unhide C4)
                go_simp
                clear hcv
                refine hK.out _ _ ?_ (fun hHeldN => ?_)
                · (try dsimp only); exact unhide HKP _ B10
                clear hK K hHeld
                have hHeld := hHeldN
                clear hHeldN
                (try simp only [Act.put, List.setIfInBounds_toArray, List.set_cons_zero, List.set_cons_succ])
                refine wpAnyH_ready (rs := [11]) (by kernel_rfl) (by simp) ?_
                refine AllReadyH.cons (by (simp only [List.getElem?_toArray, List.getElem?_cons_succ, List.getElem?_cons_zero]; rfl)) (fun K hK => ?_) AllReadyH.nil
                have hcv := conv6 HY2 (unhide C10)
                go_simp
                clear hcv
                refine hK.out _ _ ?_ (fun hHeldN => ?_)
                · (try dsimp only); exact unhide HKP _ B10
                clear hK K hHeld
                have hHeld := hHeldN
                clear hHeldN
                (try simp only [Act.put, List.setIfInBounds_toArray, List.set_cons_zero, List.set_cons_succ])
                refine wpAnyH_take (i := 12) (v := ?v11) (by (simp only [List.getElem?_toArray, List.getElem?_cons_succ, List.getElem?_cons_zero]; rfl)) (by kernel_rfl) (by kernel_rfl) (by kernel_rfl) (fun _ _ _ h => h) (Or.inl ⟨by rfl, ?hy11⟩) (by assumption) ?rest11
                case hy11 => (intro w hSw; (try dsimp only at hSw); go_simp <;> with_reducible rfl)
                (try simp only [Act.put, List.setIfInBounds_toArray, List.set_cons_zero, List.set_cons_succ])
                refine wpAnyH_take (i := 13) (v := ?v12) (by (simp only [List.getElem?_toArray, List.getElem?_cons_succ, List.getElem?_cons_zero]; rfl)) (by kernel_rfl) (by kernel_rfl) (by kernel_rfl) (fun _ _ _ h => h) (Or.inl ⟨by rfl, ?hy12⟩) (by assumption) ?rest12
                case hy12 => (intro w hSw; (try dsimp only at hSw); go_simp <;> with_reducible rfl)
                (try simp only [Act.put, List.setIfInBounds_toArray, List.set_cons_zero, List.set_cons_succ])
                refine wpAnyH_done (by kernel_rfl) ?_ _
                refine NoPanic.normal ?_
                clear hHeld
                have HBF := hide ((unhide HB).trans (B10.mono (unhide HB).size))
                clear hyr
                cases r
                · go_wp2_with fail
                  go_quiet (fail)
                  go_wp2
                  go_roundw
                  case rel => exact ⟨k + 1, by omega, by go_num, below_drewN (unhide HBF) _⟩
                  case measure => simp [intOf]; omega
                · obtain ⟨z1, xb, xo, hz1, rfl, hb1, hc1, cx⟩ := ((unhide R_X).later B10).atN (i := k) hlt
                  obtain ⟨z2, yb, yo, hz2, rfl, hb2, hc2, cy⟩ := ((unhide R_Y).later B10).atN (i := k) hly
                  have hne : (z1 != z2) = false := by
                    rw [trL_at (unhide HOT) (by omega)] at hz1
                    rw [trL_at (unhide HOV) (by omega)] at hz2
                    rw [← Option.some.inj hz1, ← Option.some.inj hz2, same_sum (unhide HOT) (unhide HOV) (unhide HY1) (unhide HY2) (unhide HYR)]
                    simp
                  clear hz1 hz2
                  obtain ⟨x0, x1, -⟩ := blk_cells2 ((B10.block _ (unhide K_x).2).trans (unhide K_x).1)
                  obtain ⟨y0, yy1, -⟩ := blk_cells2 ((B10.block _ (unhide K_y).2).trans (unhide K_y).1)
                  go_wp2_with fail
                  go_quiet (fail)
                  go_wp2
                  go_roundw
                  case rel => exact ⟨k + 1, by omega, by go_num, below_drewN (unhide HBF) _⟩
                  case measure => simp [intOf]; omega
              refine AllReadyH.cons (by (simp only [List.getElem?_toArray, List.getElem?_cons_succ, List.getElem?_cons_zero]; rfl)) (fun K hK => ?_) AllReadyH.nil
              have hcv := conv6 HY2 (unhide C10)
              go_simp
              clear hcv
              refine hK.out _ _ ?_ (fun hHeldN => ?_)
              · (try dsimp only); exact unhide HKP _ B10
              clear hK K hHeld
              have hHeld := hHeldN
              clear hHeldN
              (try simp only [Act.put, List.setIfInBounds_toArray, List.set_cons_zero, List.set_cons_succ])
              refine wpAnyH_ready (rs := [5]) (by kernel_rfl) (by simp) ?_
              refine AllReadyH.cons (by (simp only [List.getElem?_toArray, List.getElem?_cons_succ, List.getElem?_cons_zero]; rfl)) (fun K hK => ?_) AllReadyH.nil
              have hcv := conv6 HY1 (unhide C4)
              go_simp
              clear hcv
              refine hK.out _ _ ?_ (fun hHeldN => ?_)
              · (try dsimp only); exact unhide HKP _ B10
              clear hK K hHeld
              have hHeld := hHeldN
              clear hHeldN
              (try simp only [Act.put, List.setIfInBounds_toArray, List.set_cons_zero, List.set_cons_succ])
              refine wpAnyH_take (i := 12) (v := ?v13) (by (simp only [List.getElem?_toArray, List.getElem?_cons_succ, List.getElem?_cons_zero]; rfl)) (by kernel_rfl) (by kernel_rfl) (by kernel_rfl) (fun _ _ _ h => h) (Or.inl ⟨by rfl, ?hy13⟩) (by assumption) ?rest13
              case hy13 => (intro w hSw; (try dsimp only at hSw); go_simp <;> with_reducible rfl)
              (try simp only [Act.put, List.setIfInBounds_toArray, List.set_cons_zero, List.set_cons_succ])
              refine wpAnyH_take (i := 13) (v := ?v14) (by (simp only [List.getElem?_toArray, List.getElem?_cons_succ, List.getElem?_cons_zero]; rfl)) (by kernel_rfl) (by kernel_rfl) (by kernel_rfl) (fun _ _ _ h => h) (Or.inl ⟨by rfl, ?hy14⟩) (by assumption) ?rest14
              case hy14 => (intro w hSw; (try dsimp only at hSw); go_simp <;> with_reducible rfl)
              (try simp only [Act.put, List.setIfInBounds_toArray, List.set_cons_zero, List.set_cons_succ])
              refine wpAnyH_done (by kernel_rfl) ?_ _
              refine NoPanic.normal ?_
              clear hHeld
              have HBF := hide ((unhide HB).trans (B10.mono (unhide HB).size))
              clear hyr
              cases r
              · go_wp2_with fail
                go_quiet (fail)
                go_wp2
                go_roundw
                case rel => exact ⟨k + 1, by omega, by go_num, below_drewN (unhide HBF) _⟩
                case measure => simp [intOf]; omega
              · obtain ⟨z1, xb, xo, hz1, rfl, hb1, hc1, cx⟩ := ((unhide R_X).later B10).atN (i := k) hlt
                obtain ⟨z2, yb, yo, hz2, rfl, hb2, hc2, cy⟩ := ((unhide R_Y).later B10).atN (i := k) hly
                have hne : (z1 != z2) = false := by
                  rw [trL_at (unhide HOT) (by omega)] at hz1
                  rw [trL_at (unhide HOV) (by omega)] at hz2
                  rw [← Option.some.inj hz1, ← Option.some.inj hz2, same_sum (unhide HOT) (unhide HOV) (unhide HY1) (unhide HY2) (unhide HYR)]
                  simp
                clear hz1 hz2
                obtain ⟨x0, x1, -⟩ := blk_cells2 ((B10.block _ (unhide K_x).2).trans (unhide K_x).1)
                obtain ⟨y0, yy1, -⟩ := blk_cells2 ((B10.block _ (unhide K_y).2).trans (unhide K_y).1)
                go_wp2_with fail
                go_quiet (fail)
                go_wp2
                go_roundw
                case rel => exact ⟨k + 1, by omega, by go_num, below_drewN (unhide HBF) _⟩
                case measure => simp [intOf]; omega
            refine AllReadyH.cons (by (simp only [List.getElem?_toArray, List.getElem?_cons_succ, List.getElem?_cons_zero]; rfl)) (fun K hK => ?_) AllReadyH.nil
            go_simp
            obtain ⟨wb8, hW⟩ : ∃ q, q = wc3.alloc (.cells #[.int .i64 (k : Int)] 3) := ⟨_, rfl⟩
            rw [← hW]
            have bn : Below wc3.heap.size wc3 wb8 := by rw [hW]; exact (Below.refl _ _).alloc (Nat.le_refl _) _
            have N8 := hide (show RwN wb8 (.slice (some ⟨wc3.heap.size, 0, none⟩) 1 1) [(k : Int)] from by rw [hW]; exact rwN_blk (ns := [(k : Int)]) (newB1 _ _))
            clear hW
            have B8 : Below wr.heap.size wr wb8 := B3.trans (bn.mono B3.size)
            have N2 := hide ((unhide N2).later bn)
            have A3 := hide ((unhide A3).later bn)
            have F3 := hide ((unhide F3).later bn)
            clear bn
            refine hK.out _ _ ?_ (fun hHeldN => ?_)
            · (try dsimp only); exact unhide HKP _ B8
            clear hK K hHeld
            have hHeld := hHeldN
            clear hHeldN
            (try simp only [Act.put, List.setIfInBounds_toArray, List.set_cons_zero, List.set_cons_succ])
            refine wpAnyH_ready (rs := [4]) (by kernel_rfl) (by simp) ?_
            refine AllReadyH.cons (by (simp only [List.getElem?_toArray, List.getElem?_cons_succ, List.getElem?_cons_zero]; rfl)) (fun K hK => ?_) AllReadyH.nil
            go_simp
            refine (ibytes_any ha1 p1 hc1 (slI [(k : Int)] tts) ha2 p2 hc2 (slF [(k : Int)] tfs) true HOS _ (by omega) (by omega) (unhide A3) (unhide F3)).mono ?_
            rintro e wc4 ⟨v4, rfl, o1, bn⟩
            have C4 := hide o1
            clear o1
            (try go_wp2_with fail)
            have B4 : Below wr.heap.size wr wc4 := B8.trans (bn.mono B8.size)
            have N2 := hide ((unhide N2).later bn)
            have A3 := hide ((unhide A3).later bn)
            have F3 := hide ((unhide F3).later bn)
            have N8 := hide ((unhide N8).later bn)
            clear bn
            refine hK.out _ _ ?_ (fun hHeldN => ?_)
            · (try dsimp only); exact unhide HKP _ B4
            clear hK K hHeld
            have hHeld := hHeldN
            clear hHeldN
            (try simp only [Act.put, List.setIfInBounds_toArray, List.set_cons_zero, List.set_cons_succ])
            refine wpAnyH_ready (rs := [5, 9]) (by kernel_rfl) (by simp) ?_
            refine AllReadyH.cons (by (simp only [List.getElem?_toArray, List.getElem?_cons_succ, List.getElem?_cons_zero]; rfl)) (fun K hK => ?_) ?_
            · skip
              have hcv := conv6 HY1 (unhide C4)
              go_simp
              clear hcv
              refine hK.out _ _ ?_ (fun hHeldN => ?_)
              · (try dsimp only); exact unhide HKP _ B4
              clear hK K hHeld
              have hHeld := hHeldN
              clear hHeldN
              (try simp only [Act.put, List.setIfInBounds_toArray, List.set_cons_zero, List.set_cons_succ])
              refine wpAnyH_ready (rs := [9]) (by kernel_rfl) (by simp) ?_
              refine AllReadyH.cons (by (simp only [List.getElem?_toArray, List.getElem?_cons_succ, List.getElem?_cons_zero]; rfl)) (fun K hK => ?_) AllReadyH.nil
              go_simp
              refine (islice_any va1 vn1 vc1 vts va2 vn2 vc2 vfs _ 1 1 [(k : Int)] true HOV r1 r2 HR1 HR2 _ (by omega) (by omega) (by omega) ((unhide R_v).later B4) ((unhide R_vf).later B4) (unhide N8)).mono ?_
              rintro e wc9 ⟨ka1, kc1, ka2, kc2, rfl, o1, o2, bn⟩
              have A9 := hide (o1.rw encI_len)
              have F9 := hide (o2.rw encF_len)
              clear o1 o2
              (try go_wp2_with fail)
              have B9 : Below wr.heap.size wr wc9 := B4.trans (bn.mono B4.size)
              have N2 := hide ((unhide N2).later bn)
              have A3 := hide ((unhide A3).later bn)
              have F3 := hide ((unhide F3).later bn)
              have N8 := hide ((unhide N8).later bn)
              have C4 := hide ((unhide C4).later bn)
              clear bn
              refine hK.out _ _ ?_ (fun hHeldN => ?_)
              · (try dsimp only); exact unhide HKP _ B9
              clear hK K hHeld
              have hHeld := hHeldN
              clear hHeldN
              (try simp only [Act.put, List.setIfInBounds_toArray, List.set_cons_zero, List.set_cons_succ])
              refine wpAnyH_ready (rs := [10]) (by kernel_rfl) (by simp) ?_
              refine AllReadyH.cons (by (simp only [List.getElem?_toArray, List.getElem?_cons_succ, List.getElem?_cons_zero]; rfl)) (fun K hK => ?_) AllReadyH.nil
              go_simp
              refine (ibytes_any ka1 r1 kc1 (slI [(k : Int)] vts) ka2 r2 kc2 (slF [(k : Int)] vfs) true HOR _ (by omega) (by omega) (unhide A9) (unhide F9)).mono ?_
              rintro e wc10 ⟨v10, rfl, o1, bn⟩
              have C10 := hide o1
              clear o1
              (try go_wp2_with fail)
              have B10 : Below wr.heap.size wr wc10 := B9.trans (bn.mono B9.size)
              have N2 := hide ((unhide N2).later bn)
              have A3 := hide ((unhide A3).later bn)
              have F3 := hide ((unhide F3).later bn)
              have N8 := hide ((unhide N8).later bn)
              have C4 := hide ((unhide C4).later bn)
              have A9 := hide ((unhide A9).later bn)
              have F9 := hide ((unhide F9).later bn)
              clear bn
              refine hK.out _ _ ?_ (fun hHeldN => ?_)
              · (try dsimp only); exact unhide HKP _ B10
              clear hK K hHeld
              have hHeld := hHeldN
              clear hHeldN
              (try simp only [Act.put, List.setIfInBounds_toArray, List.set_cons_zero, List.set_cons_succ])
              refine wpAnyH_ready (rs := [11]) (by kernel_rfl) (by simp) ?_
              refine AllReadyH.cons (by (simp only [List.getElem?_toArray, List.getElem?_cons_succ, List.getElem?_cons_zero]; rfl)) (fun K hK => ?_) AllReadyH.nil
              have hcv := conv6 HY2 (unhide C10)
              go_simp
              clear hcv
              refine hK.out _ _ ?_ (fun hHeldN => ?_)
              · (try dsimp only); exact unhide HKP _ B10
              clear hK K hHeld
              have hHeld := hHeldN
              clear hHeldN
              (try simp only [Act.put, List.setIfInBounds_toArray, List.set_cons_zero, List.set_cons_succ])
              refine wpAnyH_take (i := 12) (v := ?v15) (by (simp only [List.getElem?_toArray, List.getElem?_cons_succ, List.getElem?_cons_zero]; rfl)) (by kernel_rfl) (by kernel_rfl) (by kernel_rfl) (fun _ _ _ h => h) (Or.inl ⟨by rfl, ?hy15⟩) (by assumption) ?rest15
              case hy15 => (intro w hSw; (try dsimp only at hSw); go_simp <;> with_reducible rfl)
              (try simp only [Act.put, List.setIfInBounds_toArray, List.set_cons_zero, List.set_cons_succ])
              refine wpAnyH_take (i := 13) (v := ?v16) (by (simp only [List.getElem?_toArray, List.getElem?_cons_succ, List.getElem?_cons_zero]; rfl)) (by kernel_rfl) (by kernel_rfl) (by kernel_rfl) (fun _ _ _ h => h) (Or.inl ⟨by rfl, ?hy16⟩) (by assumption) ?rest16
              case hy16 => (intro w hSw; (try dsimp only at hSw); go_simp <;> with_reducible rfl)
              (try simp only [Act.put, List.setIfInBounds_toArray, List.set_cons_zero, List.set_cons_succ])
              refine wpAnyH_done (by kernel_rfl) ?_ _
              refine NoPanic.normal ?_
              clear hHeld
              have HBF := hide ((unhide HB).trans (B10.mono (unhide HB).size))
              clear hyr
              cases r
              · go_wp2_with fail
                go_quiet (fail)
                go_wp2
                go_roundw
                case rel => exact ⟨k + 1, by omega, by go_num, below_drewN (unhide HBF) _⟩
                case measure => simp [intOf]; omega
              · obtain ⟨z1, xb, xo, hz1, rfl, hb1, hc1, cx⟩ := ((unhide R_X).later B10).atN (i := k) hlt
                obtain ⟨z2, yb, yo, hz2, rfl, hb2, hc2, cy⟩ := ((unhide R_Y).later B10).atN (i := k) hly
                have hne : (z1 != z2) = false := by
                  rw [trL_at (unhide HOT) (by omega)] at hz1
                  rw [trL_at (unhide HOV) (by omega)] at hz2
                  rw [← Option.some.inj hz1, ← Option.some.inj hz2, same_sum (unhide HOT) (unhide HOV) (unhide HY1) (unhide HY2) (unhide HYR)]
                  simp
                clear hz1 hz2
                obtain ⟨x0, x1, -⟩ := blk_cells2 ((B10.block _ (unhide K_x).2).trans (unhide K_x).1)
                obtain ⟨y0, yy1, -⟩ := blk_cells2 ((B10.block _ (unhide K_y).2).trans (unhide K_y).1)
                go_wp2_with fail
                go_quiet (fail)
                go_wp2
                go_roundw
                case rel => exact ⟨k + 1, by omega, by go_num, below_drewN (unhide HBF) _⟩
                case measure => simp [intOf]; omega
            refine AllReadyH.cons (by (simp only [List.getElem?_toArray, List.getElem?_cons_succ, List.getElem?_cons_zero]; rfl)) (fun K hK => ?_) AllReadyH.nil
            go_simp
            refine (islice_any va1 vn1 vc1 vts va2 vn2 vc2 vfs _ 1 1 [(k : Int)] true HOV r1 r2 HR1 HR2 _ (by omega) (by omega) (by omega) ((unhide R_v).later B4) ((unhide R_vf).later B4) (unhide N8)).mono ?_
            rintro e wc9 ⟨ka1, kc1, ka2, kc2, rfl, o1, o2, bn⟩
            have A9 := hide (o1.rw encI_len)
            have F9 := hide (o2.rw encF_len)
            clear o1 o2
            (try go_wp2_with fail)
            have B9 : Below wr.heap.size wr wc9 := B4.trans (bn.mono B4.size)
            have N2 := hide ((unhide N2).later bn)
            have A3 := hide ((unhide A3).later bn)
            have F3 := hide ((unhide F3).later bn)
            have N8 := hide ((unhide N8).later bn)
            have C4 := hide ((unhide C4).later bn)
            clear bn
            refine hK.out _ _ ?_ (fun hHeldN => ?_)
            · (try dsimp only); exact unhide HKP _ B9
            clear hK K hHeld
            have hHeld := hHeldN
            clear hHeldN
            (try simp only [Act.put, List.setIfInBounds_toArray, List.set_cons_zero, List.set_cons_succ])
            refine wpAnyH_ready (rs := [5, 10]) (by kernel_rfl) (by simp) ?_
            refine AllReadyH.cons (by (simp only [List.getElem?_toArray, List.getElem?_cons_succ, List.getElem?_cons_zero]; rfl)) (fun K hK => ?_) ?_
            · skip
              have hcv := conv6 HY1 (unhide C4)
              go_simp
              clear hcv
              refine hK.out _ _ ?_ (fun hHeldN => ?_)
              · (try dsimp only); exact unhide HKP _ B9
              clear hK K hHeld
              have hHeld := hHeldN
              clear hHeldN
              (try simp only [Act.put, List.setIfInBounds_toArray, List.set_cons_zero, List.set_cons_succ])
              refine wpAnyH_ready (rs := [10]) (by kernel_rfl) (by simp) ?_
              refine AllReadyH.cons (by (simp only [List.getElem?_toArray, List.getElem?_cons_succ, List.getElem?_cons_zero]; rfl)) (fun K hK => ?_) AllReadyH.nil
              go_simp
              refine (ibytes_any ka1 r1 kc1 (slI [(k : Int)] vts) ka2 r2 kc2 (slF [(k : Int)] vfs) true HOR _ (by omega) (by omega) (unhide A9) (unhide F9)).mono ?_
              rintro e wc10 ⟨v10, rfl, o1, bn⟩
              have C10 := hide o1
              clear o1
              (try go_wp2_with fail)
              have B10 : Below wr.heap.size wr wc10 := B9.trans (bn.mono B9.size)
              have N2 := hide ((unhide N2).later bn)
              have A3 := hide ((unhide A3).later bn)
              have F3 := hide ((unhide F3).later bn)
              have N8 := hide ((unhide N8).later bn)
              have C4 := hide ((unhide C4).later bn)
              have A9 := hide ((unhide A9).later bn)
              have F9 := hide ((unhide F9).later bn)
              clear bn
              refine hK.out _ _ ?_ (fun hHeldN => ?_)
              · (try dsimp only); exact unhide HKP _ B10
              clear hK K hHeld
              have hHeld := hHeldN
              clear hHeldN
              (try simp only [Act.put, List.setIfInBounds_toArray, List.set_cons_zero, List.set_cons_succ])
              refine wpAnyH_ready (rs := [11]) (by kernel_rfl) (by simp) ?_
              refine AllReadyH.cons (by (simp only [List.getElem?_toArray, List.getElem?_cons_succ, List.getElem?_cons_zero]; rfl)) (fun K hK => ?_) AllReadyH.nil
              have hcv := conv6 HY2 (unhide C10)
              go_simp
              clear hcv
              refine hK.out _ _ ?_ (fun hHeldN => ?_)
              · (try dsimp only); exact unhide HKP _ B10
              clear hK K hHeld
              have hHeld := hHeldN
              clear hHeldN
              (try simp only [Act.put, List.setIfInBounds_toArray, List.set_cons_zero, List.set_cons_succ])
              refine wpAnyH_take (i := 12) (v := ?v17) (by (simp only [List.getElem?_toArray, List.getElem?_cons_succ, List.getElem?_cons_zero]; rfl)) (by kernel_rfl) (by kernel_rfl) (by kernel_rfl) (fun _ _ _ h => h) (Or.inl ⟨by rfl, ?hy17⟩) (by assumption) ?rest17
              case hy17 => (intro w hSw; (try dsimp only at hSw); go_simp <;> with_reducible rfl)
              (try simp only [Act.put, List.setIfInBounds_toArray, List.set_cons_zero, List.set_cons_succ])
              refine wpAnyH_take (i := 13) (v := ?v18) (by (simp only [List.getElem?_toArray, List.getElem?_cons_succ, List.getElem?_cons_zero]; rfl)) (by kernel_rfl) (by kernel_rfl) (by kernel_rfl) (fun _ _ _ h => h) (Or.inl ⟨by rfl, ?hy18⟩) (by assumption) ?rest18
              case hy18 => (intro w hSw; (try dsimp only at hSw); go_simp <;> with_reducible rfl)
              (try simp only [Act.put, List.setIfInBounds_toArray, List.set_cons_zero, List.set_cons_succ])
              refine wpAnyH_done (by kernel_rfl) ?_ _
              refine NoPanic.normal ?_
              clear hHeld
              have HBF := hide ((unhide HB).trans (B10.mono (unhide HB).size))
              clear hyr
              cases r
              · go_wp2_with fail
                go_quiet (fail)
                go_wp2
                go_roundw
                case rel => exact ⟨k + 1, by omega, by go_num, below_drewN (unhide HBF) _⟩
                case measure => simp [intOf]; omega
              · obtain ⟨z1, xb, xo, hz1, rfl, hb1, hc1, cx⟩ := ((unhide R_X).later B10).atN (i := k) hlt
                obtain ⟨z2, yb, yo, hz2, rfl, hb2, hc2, cy⟩ := ((unhide R_Y).later B10).atN (i := k) hly
                have hne : (z1 != z2) = false := by
                  rw [trL_at (unhide HOT) (by omega)] at hz1
                  rw [trL_at (unhide HOV) (by omega)] at hz2
                  rw [← Option.some.inj hz1, ← Option.some.inj hz2, same_sum (unhide HOT) (unhide HOV) (unhide HY1) (unhide HY2) (unhide HYR)]
                  simp
                clear hz1 hz2
                obtain ⟨x0, x1, -⟩ := blk_cells2 ((B10.block _ (unhide K_x).2).trans (unhide K_x).1)
                obtain ⟨y0, yy1, -⟩ := blk_cells2 ((B10.block _ (unhide K_y).2).trans (unhide K_y).1)
                go_wp2_with fail
                go_quiet (fail)
                go_wp2
                go_roundw
                case rel => exact ⟨k + 1, by omega, by go_num, below_drewN (unhide HBF) _⟩
                case measure => simp [intOf]; omega
            refine AllReadyH.cons (by (simp only [List.getElem?_toArray, List.getElem?_cons_succ, List.getElem?_cons_zero]; rfl)) (fun K hK => ?_) AllReadyH.nil
            go_simp
            refine (ibytes_any ka1 r1 kc1 (slI [(k : Int)] vts) ka2 r2 kc2 (slF [(k : Int)] vfs) true HOR _ (by omega) (by omega) (unhide A9) (unhide F9)).mono ?_
            rintro e wc10 ⟨v10, rfl, o1, bn⟩
            have C10 := hide o1
            clear o1
            (try go_wp2_with fail)
            have B10 : Below wr.heap.size wr wc10 := B9.trans (bn.mono B9.size)
            have N2 := hide ((unhide N2).later bn)
            have A3 := hide ((unhide A3).later bn)
            have F3 := hide ((unhide F3).later bn)
            have N8 := hide ((unhide N8).later bn)
            have C4 := hide ((unhide C4).later bn)
            have A9 := hide ((unhide A9).later bn)
            have F9 := hide ((unhide F9).later bn)
            clear bn
            refine hK.out _ _ ?_ (fun hHeldN => ?_)
            · (try dsimp only); exact unhide HKP _ B10
            clear hK K hHeld
            have hHeld := hHeldN
            clear hHeldN
            (try simp only [Act.put, List.setIfInBounds_toArray, List.set_cons_zero, List.set_cons_succ])
            refine wpAnyH_ready (rs := [5, 11]) (by kernel_rfl) (by simp) ?_
            refine AllReadyH.cons (by (simp only [List.getElem?_toArray, List.getElem?_cons_succ, List.getElem?_cons_zero]; rfl)) (fun K hK => ?_) ?_
            · skip
              have hcv := conv6 HY1 (unhide C4)
              go_simp
              clear hcv
              refine hK.out _ _ ?_ (fun hHeldN => ?_)
              · (try dsimp only); exact unhide HKP _ B10
              clear hK K hHeld
              have hHeld := hHeldN
              clear hHeldN
              (try simp only [Act.put, List.setIfInBounds_toArray, List.set_cons_zero, List.set_cons_succ])
              refine wpAnyH_ready (rs := [11]) (by kernel_rfl) (by simp) ?_
              refine AllReadyH.cons (by (simp only [List.getElem?_toArray, List.getElem?_cons_succ, List.getElem?_cons_zero]; rfl)) (fun K hK => ?_) AllReadyH.nil
              have hcv := conv6 HY2 (unhide C10)
              go_simp
              clear hcv
              refine hK.out _ _ ?_ (fun hHeldN => ?_)
              · (try dsimp only); exact unhide HKP _ B10
              clear hK K hHeld
              have hHeld := hHeldN
              clear hHeldN
              (try simp only [Act.put, List.setIfInBounds_toArray, List.set_cons_zero, List.set_cons_succ])
              refine wpAnyH_take (i := 12) (v := ?v19) (by (simp only [List.getElem?_toArray, List.getElem?_cons_succ, List.getElem?_cons_zero]; rfl)) (by kernel_rfl) (by kernel_rfl) (by kernel_rfl) (fun _ _ _ h => h) (Or.inl ⟨by rfl, ?hy19⟩) (by assumption) ?rest19
              case hy19 => (intro w hSw; (try dsimp only at hSw); go_simp <;> with_reducible rfl)
              (try simp only [Act.put, List.setIfInBounds_toArray, List.set_cons_zero, List.set_cons_succ])
              refine wpAnyH_take (i := 13) (v := ?v20) (by (simp only [List.getElem?_toArray, List.getElem?_cons_succ, List.getElem?_cons_zero]; rfl)) (by kernel_rfl) (by kernel_rfl) (by kernel_rfl) (fun _ _ _ h => h) (Or.inl ⟨by rfl, ?hy20⟩) (by assumption) ?rest20
              case hy20 => (intro w hSw; (try dsimp only at hSw); go_simp <;> with_reducible rfl)
              (try simp only [Act.put, List.setIfInBounds_toArray, List.set_cons_zero, List.set_cons_succ])
              refine wpAnyH_done (by kernel_rfl) ?_ _
              refine NoPanic.normal ?_
              clear hHeld
              have HBF := hide ((unhide HB).trans (B10.mono (unhide HB).size))
              clear hyr
              cases r
              · go_wp2_with fail
                go_quiet (fail)
                go_wp2
                go_roundw
                case rel => exact ⟨k + 1, by omega, by go_num, below_drewN (unhide HBF) _⟩
                case measure => simp [intOf]; omega
              · obtain ⟨z1, xb, xo, hz1, rfl, hb1, hc1, cx⟩ := ((unhide R_X).later B10).atN (i := k) hlt
                obtain ⟨z2, yb, yo, hz2, rfl, hb2, hc2, cy⟩ := ((unhide R_Y).later B10).atN (i := k) hly
                have hne : (z1 != z2) = false := by
                  rw [trL_at (unhide HOT) (by omega)] at hz1
                  rw [trL_at (unhide HOV) (by omega)] at hz2
                  rw [← Option.some.inj hz1, ← Option.some.inj hz2, same_sum (unhide HOT) (unhide HOV) (unhide HY1) (unhide HY2) (unhide HYR)]
                  simp
                clear hz1 hz2
                obtain ⟨x0, x1, -⟩ := blk_cells2 ((B10.block _ (unhide K_x).2).trans (unhide K_x).1)
                obtain ⟨y0, yy1, -⟩ := blk_cells2 ((B10.block _ (unhide K_y).2).trans (unhide K_y).1)
                go_wp2_with fail
                go_quiet (fail)
                go_wp2
                go_roundw
                case rel => exact ⟨k + 1, by omega, by go_num, below_drewN (unhide HBF) _⟩
                case measure => simp [intOf]; omega
            refine AllReadyH.cons (by (simp only [List.getElem?_toArray, List.getElem?_cons_succ, List.getElem?_cons_zero]; rfl)) (fun K hK => ?_) AllReadyH.nil
            have hcv := conv6 HY2 (unhide C10)
            go_simp
            clear hcv
            refine hK.out _ _ ?_ (fun hHeldN => ?_)
            · (try dsimp only); exact unhide HKP _ B10
            clear hK K hHeld
            have hHeld := hHeldN
            clear hHeldN
            (try simp only [Act.put, List.setIfInBounds_toArray, List.set_cons_zero, List.set_cons_succ])
            refine wpAnyH_ready (rs := [5]) (by kernel_rfl) (by simp) ?_
            refine AllReadyH.cons (by (simp only [List.getElem?_toArray, List.getElem?_cons_succ, List.getElem?_cons_zero]; rfl)) (fun K hK => ?_) AllReadyH.nil
            have hcv := conv6 HY1 (unhide C4)
            go_simp
            clear hcv
            refine hK.out _ _ ?_ (fun hHeldN => ?_)
            · (try dsimp only); exact unhide HKP _ B10
            clear hK K hHeld
            have hHeld := hHeldN
            clear hHeldN
            (try simp only [Act.put, List.setIfInBounds_toArray, List.set_cons_zero, List.set_cons_succ])
            refine wpAnyH_take (i := 12) (v := ?v21) (by (simp only [List.getElem?_toArray, List.getElem?_cons_succ, List.getElem?_cons_zero]; rfl)) (by kernel_rfl) (by kernel_rfl) (by kernel_rfl) (fun _ _ _ h => h) (Or.inl ⟨by rfl, ?hy21⟩) (by assumption) ?rest21
            case hy21 => (intro w hSw; (try dsimp only at hSw); go_simp <;> with_reducible rfl)
            (try simp only [Act.put, List.setIfInBounds_toArray, List.set_cons_zero, List.set_cons_succ])
            refine wpAnyH_take (i := 13) (v := ?v22) (by (simp only [List.getElem?_toArray, List.getElem?_cons_succ, List.getElem?_cons_zero]; rfl)) (by kernel_rfl) (by kernel_rfl) (by kernel_rfl) (fun _ _ _ h => h) (Or.inl ⟨by rfl, ?hy22⟩) (by assumption) ?rest22
            case hy22 => (intro w hSw; (try dsimp only at hSw); go_simp <;> with_reducible rfl)
            (try simp only [Act.put, List.setIfInBounds_toArray, List.set_cons_zero, List.set_cons_succ])
            refine wpAnyH_done (by kernel_rfl) ?_ _
            refine NoPanic.normal ?_
            clear hHeld
            have HBF := hide ((unhide HB).trans (B10.mono (unhide HB).size))
            clear hyr
            cases r
            · go_wp2_with fail
              go_quiet (fail)
              go_wp2
              go_roundw
              case rel => exact ⟨k + 1, by omega, by go_num, below_drewN (unhide HBF) _⟩
              case measure => simp [intOf]; omega
            · obtain ⟨z1, xb, xo, hz1, rfl, hb1, hc1, cx⟩ := ((unhide R_X).later B10).atN (i := k) hlt
              obtain ⟨z2, yb, yo, hz2, rfl, hb2, hc2, cy⟩ := ((unhide R_Y).later B10).atN (i := k) hly
              have hne : (z1 != z2) = false := by
                rw [trL_at (unhide HOT) (by omega)] at hz1
                rw [trL_at (unhide HOV) (by omega)] at hz2
                rw [← Option.some.inj hz1, ← Option.some.inj hz2, same_sum (unhide HOT) (unhide HOV) (unhide HY1) (unhide HY2) (unhide HYR)]
                simp
              clear hz1 hz2
              obtain ⟨x0, x1, -⟩ := blk_cells2 ((B10.block _ (unhide K_x).2).trans (unhide K_x).1)
              obtain ⟨y0, yy1, -⟩ := blk_cells2 ((B10.block _ (unhide K_y).2).trans (unhide K_y).1)
              go_wp2_with fail
              go_quiet (fail)
              go_wp2
              go_roundw
              case rel => exact ⟨k + 1, by omega, by go_num, below_drewN (unhide HBF) _⟩
              case measure => simp [intOf]; omega
          refine AllReadyH.cons (by (simp only [List.getElem?_toArray, List.getElem?_cons_succ, List.getElem?_cons_zero]; rfl)) (fun K hK => ?_) AllReadyH.nil
          go_simp
          obtain ⟨wb8, hW⟩ : ∃ q, q = wb2.alloc (.cells #[.int .i64 (k : Int)] 3) := ⟨_, rfl⟩
          rw [← hW]
          have bn : Below wb2.heap.size wb2 wb8 := by rw [hW]; exact (Below.refl _ _).alloc (Nat.le_refl _) _
          have N8 := hide (show RwN wb8 (.slice (some ⟨wb2.heap.size, 0, none⟩) 1 1) [(k : Int)] from by rw [hW]; exact rwN_blk (ns := [(k : Int)]) (newB1 _ _))
          clear hW
          have B8 : Below wr.heap.size wr wb8 := B2.trans (bn.mono B2.size)
          have N2 := hide ((unhide N2).later bn)
          clear bn
          refine hK.out _ _ ?_ (fun hHeldN => ?_)
          · (try dsimp only); exact unhide HKP _ B8
          clear hK K hHeld
          have hHeld := hHeldN
          clear hHeldN
          (try simp only [Act.put, List.setIfInBounds_toArray, List.set_cons_zero, List.set_cons_succ])
          refine wpAnyH_ready (rs := [3]) (by kernel_rfl) (by simp) ?_
          refine AllReadyH.cons (by (simp only [List.getElem?_toArray, List.getElem?_cons_succ, List.getElem?_cons_zero]; rfl)) (fun K hK => ?_) AllReadyH.nil
          go_simp
          refine (islice_any ta1 tn1 tc1 tts ta2 tn2 tc2 tfs _ 1 1 [(k : Int)] true HOT p1 p2 HP1 HP2 _ (by omega) (by omega) (by omega) ((unhide R_t).later B8) ((unhide R_tf).later B8) (unhide N2)).mono ?_
          rintro e wc3 ⟨ha1, hc1, ha2, hc2, rfl, o1, o2, bn⟩
          have A3 := hide (o1.rw encI_len)
          have F3 := hide (o2.rw encF_len)
          clear o1 o2
          (try go_wp2_with fail)
          have B3 : Below wr.heap.size wr wc3 := B8.trans (bn.mono B8.size)
          have N2 := hide ((unhide N2).later bn)
          have N8 := hide ((unhide N8).later bn)
          clear bn
          refine hK.out _ _ ?_ (fun hHeldN => ?_)
          · (try dsimp only); exact unhide HKP _ B3
          clear hK K hHeld
          have hHeld := hHeldN
          clear hHeldN
          (try simp only [Act.put, List.setIfInBounds_toArray, List.set_cons_zero, List.set_cons_succ])
          refine wpAnyH_ready (rs := [4]) (by kernel_rfl) (by simp) ?_
          refine AllReadyH.cons (by (simp only [List.getElem?_toArray, List.getElem?_cons_succ, List.getElem?_cons_zero]; rfl)) (fun K hK => ?_) AllReadyH.nil
          go_simp
          refine (ibytes_any ha1 p1 hc1 (slI [(k : Int)] tts) ha2 p2 hc2 (slF [(k : Int)] tfs) true HOS _ (by omega) (by omega) (unhide A3) (unhide F3)).mono ?_
          rintro e wc4 ⟨v4, rfl, o1, bn⟩
          have C4 := hide o1
          clear o1
          (try go_wp2_with fail)
          have B4 : Below wr.heap.size wr wc4 := B3.trans (bn.mono B3.size)
          have N2 := hide ((unhide N2).later bn)
          have N8 := hide ((unhide N8).later bn)
          have A3 := hide ((unhide A3).later bn)
          have F3 := hide ((unhide F3).later bn)
          clear bn
          refine hK.out _ _ ?_ (fun hHeldN => ?_)
          · (try dsimp only); exact unhide HKP _ B4
          clear hK K hHeld
          have hHeld := hHeldN
          clear hHeldN
          (try simp only [Act.put, List.setIfInBounds_toArray, List.set_cons_zero, List.set_cons_succ])
          refine wpAnyH_ready (rs := [5, 9]) (by kernel_rfl) (by simp) ?_
          refine AllReadyH.cons (by (simp only [List.getElem?_toArray, List.getElem?_cons_succ, List.getElem?_cons_zero]; rfl)) (fun K hK => ?_) ?_
          · skip
            have hcv := conv6 HY1 (unhide C4)
            go_simp
            clear hcv
            refine hK.out _ _ ?_ (fun hHeldN => ?_)
            · (try dsimp only); exact unhide HKP _ B4
            clear hK K hHeld
            have hHeld := hHeldN
            clear hHeldN
            (try simp only [Act.put, List.setIfInBounds_toArray, List.set_cons_zero, List.set_cons_succ])
            refine wpAnyH_ready (rs := [9]) (by kernel_rfl) (by simp) ?_
            refine AllReadyH.cons (by (simp only [List.getElem?_toArray, List.getElem?_cons_succ, List.getElem?_cons_zero]; rfl)) (fun K hK => ?_) AllReadyH.nil
            go_simp
            refine (islice_any va1 vn1 vc1 vts va2 vn2 vc2 vfs _ 1 1 [(k : Int)] true HOV r1 r2 HR1 HR2 _ (by omega) (by omega) (by omega) ((unhide R_v).later B4) ((unhide R_vf).later B4) (unhide N8)).mono ?_
            rintro e wc9 ⟨ka1, kc1, ka2, kc2, rfl, o1, o2, bn⟩
            have A9 := hide (o1.rw encI_len)
            have F9 := hide (o2.rw encF_len)
            clear o1 o2
            (try go_wp2_with fail)
            have B9 : Below wr.heap.size wr wc9 := B4.trans (bn.mono B4.size)
            have N2 := hide ((unhide N2).later bn)
            have N8 := hide ((unhide N8).later bn)
            have A3 := hide ((unhide A3).later bn)
            have F3 := hide ((unhide F3).later bn)
            have C4 := hide ((unhide C4).later bn)
            clear bn
            refine hK.out _ _ ?_ (fun hHeldN => ?_)
            · (try dsimp only); exact unhide HKP _ B9
            clear hK K hHeld
            have hHeld := hHeldN
            clear hHeldN
            (try simp only [Act.put, List.setIfInBounds_toArray, List.set_cons_zero, List.set_cons_succ])
            refine wpAnyH_ready (rs := [10]) (by kernel_rfl) (by simp) ?_
            refine AllReadyH.cons (by (simp only [List.getElem?_toArray, List.getElem?_cons_succ, List.getElem?_cons_zero]; rfl)) (fun K hK => ?_) AllReadyH.nil
            go_simp
            refine (ibytes_any ka1 r1 kc1 (slI [(k : Int)] vts) ka2 r2 kc2 (slF [(k : Int)] vfs) true HOR _ (by omega) (by omega) (unhide A9) (unhide F9)).mono ?_
            rintro e wc10 ⟨v10, rfl, o1, bn⟩
            have C10 := hide o1
            clear o1
            (try go_wp2_with fail)
            have B10 : Below wr.heap.size wr wc10 := B9.trans (bn.mono B9.size)
            have N2 := hide ((unhide N2).later bn)
            have N8 := hide ((unhide N8).later bn)
            have A3 := hide ((unhide A3).later bn)
            have F3 := hide ((unhide F3).later bn)
            have C4 := hide ((unhide C4).later bn)
            have A9 := hide ((unhide A9).later bn)
            have F9 := hide ((unhide F9).later bn)
            clear bn
            refine hK.out _ _ ?_ (fun hHeldN => ?_)
            · (try dsimp only); exact unhide HKP _ B10
            clear hK K hHeld
            have hHeld := hHeldN
            clear hHeldN
            (try simp only [Act.put, List.setIfInBounds_toArray, List.set_cons_zero, List.set_cons_succ])
            refine wpAnyH_ready (rs := [11]) (by kernel_rfl) (by simp) ?_
            refine AllReadyH.cons (by (simp only [List.getElem?_toArray, List.getElem?_cons_succ, List.getElem?_cons_zero]; rfl)) (fun K hK => ?_) AllReadyH.nil
            have hcv := conv6 HY2 (unhide C10)
            go_simp
            clear hcv
            refine hK.out _ _ ?_ (fun hHeldN => ?_)
            · (try dsimp only); exact unhide HKP _ B10
            clear hK K hHeld
            have hHeld := hHeldN
            clear hHeldN
            (try simp only [Act.put, List.setIfInBounds_toArray, List.set_cons_zero, List.set_cons_succ])
            refine wpAnyH_take (i := 12) (v := ?v23) (by (simp only [List.getElem?_toArray, List.getElem?_cons_succ, List.getElem?_cons_zero]; rfl)) (by kernel_rfl) (by kernel_rfl) (by kernel_rfl) (fun _ _ _ h => h) (Or.inl ⟨by rfl, ?hy23⟩) (by assumption) ?rest23
            case hy23 => (intro w hSw; (try dsimp only at hSw); go_simp <;> with_reducible rfl)
            (try simp only [Act.put, List.setIfInBounds_toArray, List.set_cons_zero, List.set_cons_succ])
            refine wpAnyH_take (i := 13) (v := ?v24) (by (simp only [List.getElem?_toArray, List.getElem?_cons_succ, List.getElem?_cons_zero]; rfl)) (by kernel_rfl) (by kernel_rfl) (by kernel_rfl) (fun _ _ _ h => h) (Or.inl ⟨by rfl, ?hy24⟩) (by assumption) ?rest24
            case hy24 => (intro w hSw; (try dsimp only at hSw); go_simp <;> with_reducible rfl)
            (try simp only [Act.put, List.setIfInBounds_toArray, List.set_cons_zero, List.set_cons_succ])
            refine wpAnyH_done (by kernel_rfl) ?_ _
            refine NoPanic.normal ?_
            clear hHeld
            have HBF := hide ((unhide HB).trans (B10.mono (unhide HB).size))
            clear hyr
            cases r
            · go_wp2_with fail
              go_quiet (fail)
              go_wp2
              go_roundw
              case rel => exact ⟨k + 1, by omega, by go_num, below_drewN (unhide HBF) _⟩
              case measure => simp [intOf]; omega
            · obtain ⟨z1, xb, xo, hz1, rfl, hb1, hc1, cx⟩ := ((unhide R_X).later B10).atN (i := k) hlt
              obtain ⟨z2, yb, yo, hz2, rfl, hb2, hc2, cy⟩ := ((unhide R_Y).later B10).atN (i := k) hly
              have hne : (z1 != z2) = false := by
                rw [trL_at (unhide HOT) (by omega)] at hz1
                rw [trL_at (unhide HOV) (by omega)] at hz2
                rw [← Option.some.inj hz1, ← Option.some.inj hz2, same_sum (unhide HOT) (unhide HOV) (unhide HY1) (unhide HY2) (unhide HYR)]
                simp
              clear hz1 hz2
              obtain ⟨x0, x1, -⟩ := blk_cells2 ((B10.block _ (unhide K_x).2).trans (unhide K_x).1)
              obtain ⟨y0, yy1, -⟩ := blk_cells2 ((B10.block _ (unhide K_y).2).trans (unhide K_y).1)
              go_wp2_with fail
              go_quiet (fail)
              go_wp2
              go_roundw
              case rel => exact ⟨k + 1, by omega, by go_num, below_drewN (unhide HBF) _⟩
              case measure => simp [intOf]; omega
          refine AllReadyH.cons (by (simp only [List.getElem?_toArray, List.getElem?_cons_succ, List.getElem?_cons_zero]; rfl)) (fun K hK => ?_) AllReadyH.nil
          go_simp
          refine (islice_any va1 vn1 vc1 vts va2 vn2 vc2 vfs _ 1 1 [(k : Int)] true HOV r1 r2 HR1 HR2 _ (by omega) (by omega) (by omega) ((unhide R_v).later B4) ((unhide R_vf).later B4) (unhide N8)).mono ?_
          rintro e wc9 ⟨ka1, kc1, ka2, kc2, rfl, o1, o2, bn⟩
          have A9 := hide (o1.rw encI_len)
          have F9 := hide (o2.rw encF_len)
          clear o1 o2
          (try go_wp2_with fail)
          have B9 : Below wr.heap.size wr wc9 := B4.trans (bn.mono B4.size)
          have N2 := hide ((unhide N2).later bn)
          have N8 := hide ((unhide N8).later bn)
          have A3 := hide ((unhide A3).later bn)
          have F3 := hide ((unhide F3).later bn)
          have C4 := hide ((unhide C4).later bn)
          clear bn
          refine hK.out _ _ ?_ (fun hHeldN => ?_)
          · (try dsimp only); exact unhide HKP _ B9
          clear hK K hHeld
          have hHeld := hHeldN
          clear hHeldN
          (try simp only [Act.put, List.setIfInBounds_toArray, List.set_cons_zero, List.set_cons_succ])
          refine wpAnyH_ready (rs := [5, 10]) (by kernel_rfl) (by simp) ?_
          refine AllReadyH.cons (by (simp only [List.getElem?_toArray, List.getElem?_cons_succ, List.getElem?_cons_zero]; rfl)) (fun K hK => ?_) ?_
          · skip
            have hcv := conv6 HY1 (unhide C4)
            go_simp
            clear hcv
            refine hK.out _ _ ?_ (fun hHeldN => ?_)
            · (try dsimp only); exact unhide HKP _ B9
            clear hK K hHeld
            have hHeld := hHeldN
            clear hHeldN
            (try simp only [Act.put, List.setIfInBounds_toArray, List.set_cons_zero, List.set_cons_succ])
            refine wpAnyH_ready (rs := [10]) (by kernel_rfl) (by simp) ?_
            refine AllReadyH.cons (by (simp only [List.getElem?_toArray, List.getElem?_cons_succ, List.getElem?_cons_zero]; rfl)) (fun K hK => ?_) AllReadyH.nil
            go_simp
            refine (ibytes_any ka1 r1 kc1 (slI [(k : Int)] vts) ka2 r2 kc2 (slF [(k : Int)] vfs) true HOR _ (by omega) (by omega) (unhide A9) (unhide F9)).mono ?_
            rintro e wc10 ⟨v10, rfl, o1, bn⟩
            have C10 := hide o1
            clear o1
            (try go_wp2_with fail)
            have B10 : Below wr.heap.size wr wc10 := B9.trans (bn.mono B9.size)
            have N2 := hide ((unhide N2).later bn)
            have N8 := hide ((unhide N8).later bn)
            have A3 := hide ((unhide A3).later bn)
            have F3 := hide ((unhide F3).later bn)
            have C4 := hide ((unhide C4).later bn)
            have A9 := hide ((unhide A9).later bn)
            have F9 := hide ((unhide F9).later bn)
            clear bn
            refine hK.out _ _ ?_ (fun hHeldN => ?_)
            · (try dsimp only); exact unhide HKP _ B10
            clear hK K hHeld
            have hHeld := hHeldN
            clear hHeldN
            (try simp only [Act.put, List.setIfInBounds_toArray, List.set_cons_zero, List.set_cons_succ])
            refine wpAnyH_ready (rs := [11]) (by kernel_rfl) (by simp) ?_
            refine AllReadyH.cons (by (simp only [List.getElem?_toArray, List.getElem?_cons_succ, List.getElem?_cons_zero]; rfl)) (fun K hK => ?_) AllReadyH.nil
            have hcv := conv6 HY2 (unhide C10)
            go_simp
            clear hcv
            refine hK.out _ _ ?_ (fun hHeldN => ?_)
            · (try dsimp only); exact unhide HKP _ B10
            clear hK K hHeld
            have hHeld := hHeldN
            clear hHeldN
            (try simp only [Act.put, List.setIfInBounds_toArray, List.set_cons_zero, List.set_cons_succ])
            refine wpAnyH_take (i := 12) (v := ?v25) (by (simp only [List.getElem?_toArray, List.getElem?_cons_succ, List.getElem?_cons_zero]; rfl)) (by kernel_rfl) (by kernel_rfl) (by kernel_rfl) (fun _ _ _ h => h) (Or.inl ⟨by rfl, ?hy25⟩) (by assumption) ?rest25
            case hy25 => (intro w hSw; (try dsimp only at hSw); go_simp <;> with_reducible rfl)
            (try simp only [Act.put, List.setIfInBounds_toArray, List.set_cons_zero, List.set_cons_succ])
            refine wpAnyH_take (i := 13) (v := ?v26) (by (simp only [List.getElem?_toArray, List.getElem?_cons_succ, List.getElem?_cons_zero]; rfl)) (by kernel_rfl) (by kernel_rfl) (by kernel_rfl) (fun _ _ _ h => h) (Or.inl ⟨by rfl, ?hy26⟩) (by assumption) ?rest26
            case hy26 => (intro w hSw; (try dsimp only at hSw); go_simp <;> with_reducible rfl)
            (try simp only [Act.put, List.setIfInBounds_toArray, List.set_cons_zero, List.set_cons_succ])
            refine wpAnyH_done (by kernel_rfl) ?_ _
            refine NoPanic.normal ?_
            clear hHeld
            have HBF := hide ((unhide HB).trans (B10.mono (unhide HB).size))
            clear hyr
            cases r
            · go_wp2_with fail
              go_quiet (fail)
              go_wp2
              go_roundw
              case rel => exact ⟨k + 1, by omega, by go_num, below_drewN (unhide HBF) _⟩
              case measure => simp [intOf]; omega
            · obtain ⟨z1, xb, xo, hz1, rfl, hb1, hc1, cx⟩ := ((unhide R_X).later B10).atN (i := k) hlt
              obtain ⟨z2, yb, yo, hz2, rfl, hb2, hc2, cy⟩ := ((unhide R_Y).later B10).atN (i := k) hly
              have hne : (z1 != z2) = false := by
                rw [trL_at (unhide HOT) (by omega)] at hz1
                rw [trL_at (unhide HOV) (by omega)] at hz2
                rw [← Option.some.inj hz1, ← Option.some.inj hz2, same_sum (unhide HOT) (unhide HOV) (unhide HY1) (unhide HY2) (unhide HYR)]
                simp
              clear hz1 hz2
              obtain ⟨x0, x1, -⟩ := blk_cells2 ((B10.block _ (unhide K_x).2).trans (unhide K_x).1)
              obtain ⟨y0, yy1, -⟩ := blk_cells2 ((B10.block _ (unhide K_y).2).trans (unhide K_y).1)
              go_wp2_with fail
              go_quiet (fail)
              go_wp2
              go_roundw
              case rel => exact ⟨k + 1, by omega, by go_num, below_drewN (unhide HBF) _⟩
              case measure => simp [intOf]; omega
          refine AllReadyH.cons (by (simp only [List.getElem?_toArray, List.getElem?_cons_succ, List.getElem?_cons_zero]; rfl)) (fun K hK => ?_) AllReadyH.nil
          go_simp
          refine (ibytes_any ka1 r1 kc1 (slI [(k : Int)] vts) ka2 r2 kc2 (slF [(k : Int)] vfs) true HOR _ (by omega) (by omega) (unhide A9) (unhide F9)).mono ?_
          rintro e wc10 ⟨v10, rfl, o1, bn⟩
          have C10 := hide o1
          clear o1
          (try go_wp2_with fail)
          have B10 : Below wr.heap.size wr wc10 := B9.trans (bn.mono B9.size)
          have N2 := hide ((unhide N2).later bn)
          have N8 := hide ((unhide N8).later bn)
          have A3 := hide ((unhide A3).later bn)
          have F3 := hide ((unhide F3).later bn)
          have C4 := hide ((unhide C4).later bn)
          have A9 := hide ((unhide A9).later bn)
          have F9 := hide ((unhide F9).later bn)
          clear bn
          refine hK.out _ _ ?_ (fun hHeldN => ?_)
          · (try dsimp only); exact unhide HKP _ B10
          clear hK K hHeld
          have hHeld := hHeldN
          clear hHeldN
          (try simp only [Act.put, List.setIfInBounds_toArray, List.set_cons_zero, List.set_cons_succ])
          refine wpAnyH_ready (rs := [5, 11]) (by kernel_rfl) (by simp) ?_
          refine AllReadyH.cons (by (simp only [List.getElem?_toArray, List.getElem?_cons_succ, List.getElem?_cons_zero]; rfl)) (fun K hK => ?_) ?_
          · skip
            have hcv := conv6 HY1 (unhide C4)
            go_simp
            clear hcv
            refine hK.out _ _ ?_ (fun hHeldN => ?_)
            · (try dsimp only); exact unhide HKP _ B10
            clear hK K hHeld
            have hHeld := hHeldN
            clear hHeldN
            (try simp only [Act.put, List.setIfInBounds_toArray, List.set_cons_zero, List.set_cons_succ])
            refine wpAnyH_ready (rs := [11]) (by kernel_rfl) (by simp) ?_
            refine AllReadyH.cons (by (simp only [List.getElem?_toArray, List.getElem?_cons_succ, List.getElem?_cons_zero]; rfl)) (fun K hK => ?_) AllReadyH.nil
            have hcv := conv6 HY2 (unhide C10)
            go_simp
            clear hcv
            refine hK.out _ _ ?_ (fun hHeldN => ?_)
            · (try dsimp only); exact unhide HKP _ B10
            clear hK K hHeld
            have hHeld := hHeldN
            clear hHeldN
            (try simp only [Act.put, List.setIfInBounds_toArray, List.set_cons_zero, List.set_cons_succ])
            refine wpAnyH_take (i := 12) (v := ?v27) (by (simp only [List.getElem?_toArray, List.getElem?_cons_succ, List.getElem?_cons_zero]; rfl)) (by kernel_rfl) (by kernel_rfl) (by kernel_rfl) (fun _ _ _ h => h) (Or.inl ⟨by rfl, ?hy27⟩) (by assumption) ?rest27
            case hy27 => (intro w hSw; (try dsimp only at hSw); go_simp <;> with_reducible rfl)
            (try simp only [Act.put, List.setIfInBounds_toArray, List.set_cons_zero, List.set_cons_succ])
            refine wpAnyH_take (i := 13) (v := ?v28) (by (simp only [List.getElem?_toArray, List.getElem?_cons_succ, List.getElem?_cons_zero]; rfl)) (by kernel_rfl) (by kernel_rfl) (by kernel_rfl) (fun _ _ _ h => h) (Or.inl ⟨by rfl, ?hy28⟩) (by assumption) ?rest28
            case hy28 => (intro w hSw; (try dsimp only at hSw); go_simp <;> with_reducible rfl)
            (try simp only [Act.put, List.setIfInBounds_toArray, List.set_cons_zero, List.set_cons_succ])
            refine wpAnyH_done (by kernel_rfl) ?_ _
            refine NoPanic.normal ?_
            clear hHeld
            have HBF := hide ((unhide HB).trans (B10.mono (unhide HB).size))
            clear hyr
            cases r
            · go_wp2_with fail
              go_quiet (fail)
              go_wp2
              go_roundw
              case rel => exact ⟨k + 1, by omega, by go_num, below_drewN (unhide HBF) _⟩
              case measure => simp [intOf]; omega
            · obtain ⟨z1, xb, xo, hz1, rfl, hb1, hc1, cx⟩ := ((unhide R_X).later B10).atN (i := k) hlt
              obtain ⟨z2, yb, yo, hz2, rfl, hb2, hc2, cy⟩ := ((unhide R_Y).later B10).atN (i := k) hly
              have hne : (z1 != z2) = false := by
                rw [trL_at (unhide HOT) (by omega)] at hz1
                rw [trL_at (unhide HOV) (by omega)] at hz2
                rw [← Option.some.inj hz1, ← Option.some.inj hz2, same_sum (unhide HOT) (unhide HOV) (unhide HY1) (unhide HY2) (unhide HYR)]
                simp
              clear hz1 hz2
              obtain ⟨x0, x1, -⟩ := blk_cells2 ((B10.block _ (unhide K_x).2).trans (unhide K_x).1)
              obtain ⟨y0, yy1, -⟩ := blk_cells2 ((B10.block _ (unhide K_y).2).trans (unhide K_y).1)
              go_wp2_with fail
              go_quiet (fail)
              go_wp2
              go_roundw
              case rel => exact ⟨k + 1, by omega, by go_num, below_drewN (unhide HBF) _⟩
              case measure => simp [intOf]; omega
          refine AllReadyH.cons (by (simp only [List.getElem?_toArray, List.getElem?_cons_succ, List.getElem?_cons_zero]; rfl)) (fun K hK => ?_) AllReadyH.nil
          have hcv := conv6 HY2 (unhide C10)
          go_simp
          clear hcv
          refine hK.out _ _ ?_ (fun hHeldN => ?_)
          · (try dsimp only); exact unhide HKP _ B10
          clear hK K hHeld
          have hHeld := hHeldN
          clear hHeldN
          (try simp only [Act.put, List.setIfInBounds_toArray, List.set_cons_zero, List.set_cons_succ])
          refine wpAnyH_ready (rs := [5]) (by kernel_rfl) (by simp) ?_
          refine AllReadyH.cons (by (simp only [List.getElem?_toArray, List.getElem?_cons_succ, List.getElem?_cons_zero]; rfl)) (fun K hK => ?_) AllReadyH.nil
          have hcv := conv6 HY1 (unhide C4)
          go_simp
          clear hcv
          refine hK.out _ _ ?_ (fun hHeldN => ?_)
          · (try dsimp only); exact unhide HKP _ B10
          clear hK K hHeld
          have hHeld := hHeldN
          clear hHeldN
          (try simp only [Act.put, List.setIfInBounds_toArray, List.set_cons_zero, List.set_cons_succ])
          refine wpAnyH_take (i := 12) (v := ?v29) (by (simp only [List.getElem?_toArray, List.getElem?_cons_succ, List.getElem?_cons_zero]; rfl)) (by kernel_rfl) (by kernel_rfl) (by kernel_rfl) (fun _ _ _ h => h) (Or.inl ⟨by rfl, ?hy29⟩) (by assumption) ?rest29
          case hy29 => (intro w hSw; (try dsimp only at hSw); go_simp <;> with_reducible rfl)
          (try simp only [Act.put, List.setIfInBounds_toArray, List.set_cons_zero, List.set_cons_succ])
          refine wpAnyH_take (i := 13) (v := ?v30) (by (simp only [List.getElem?_toArray, List.getElem?_cons_succ, List.getElem?_cons_zero]; rfl)) (by kernel_rfl) (by kernel_rfl) (by kernel_rfl) (fun _ _ _ h => h) (Or.inl ⟨by rfl, ?hy30⟩) (by assumption) ?rest30
          case hy30 => (intro w hSw; (try dsimp only at hSw); go_simp <;> with_reducible rfl)
          (try simp only [Act.put, List.setIfInBounds_toArray, List.set_cons_zero, List.set_cons_succ])
          refine wpAnyH_done (by kernel_rfl) ?_ _
          refine NoPanic.normal ?_
          clear hHeld
          have HBF := hide ((unhide HB).trans (B10.mono (unhide HB).size))
          clear hyr
          cases r
          · go_wp2_with fail
            go_quiet (fail)
            go_wp2
            go_roundw
            case rel => exact ⟨k + 1, by omega, by go_num, below_drewN (unhide HBF) _⟩
            case measure => simp [intOf]; omega
          · obtain ⟨z1, xb, xo, hz1, rfl, hb1, hc1, cx⟩ := ((unhide R_X).later B10).atN (i := k) hlt
            obtain ⟨z2, yb, yo, hz2, rfl, hb2, hc2, cy⟩ := ((unhide R_Y).later B10).atN (i := k) hly
            have hne : (z1 != z2) = false := by
              rw [trL_at (unhide HOT) (by omega)] at hz1
              rw [trL_at (unhide HOV) (by omega)] at hz2
              rw [← Option.some.inj hz1, ← Option.some.inj hz2, same_sum (unhide HOT) (unhide HOV) (unhide HY1) (unhide HY2) (unhide HYR)]
              simp
            clear hz1 hz2
            obtain ⟨x0, x1, -⟩ := blk_cells2 ((B10.block _ (unhide K_x).2).trans (unhide K_x).1)
            obtain ⟨y0, yy1, -⟩ := blk_cells2 ((B10.block _ (unhide K_y).2).trans (unhide K_y).1)
            go_wp2_with fail
            go_quiet (fail)
            go_wp2
            go_roundw
            case rel => exact ⟨k + 1, by omega, by go_num, below_drewN (unhide HBF) _⟩
            case measure => simp [intOf]; omega
        refine AllReadyH.cons (by (simp only [List.getElem?_toArray, List.getElem?_cons_succ, List.getElem?_cons_zero]; rfl)) (fun K hK => ?_) AllReadyH.nil
        go_simp
        obtain ⟨wb8, hW⟩ : ∃ q, q = wd.alloc (.cells #[.int .i64 (k : Int)] 3) := ⟨_, rfl⟩
        rw [← hW]
        have bn : Below wd.heap.size wd wb8 := by rw [hW]; exact (Below.refl _ _).alloc (Nat.le_refl _) _
        have N8 := hide (show RwN wb8 (.slice (some ⟨wd.heap.size, 0, none⟩) 1 1) [(k : Int)] from by rw [hW]; exact rwN_blk (ns := [(k : Int)]) (newB1 _ _))
        clear hW
        have B8 : Below wr.heap.size wr wb8 := Bd.trans (bn.mono Bd.size)
        clear bn
        refine hK.out _ _ ?_ (fun hHeldN => ?_)
        · (try dsimp only); exact unhide HKP _ B8
        clear hK K hHeld
        have hHeld := hHeldN
        clear hHeldN
        (try simp only [Act.put, List.setIfInBounds_toArray, List.set_cons_zero, List.set_cons_succ])
        refine wpAnyH_ready (rs := [2]) (by kernel_rfl) (by simp) ?_
        refine AllReadyH.cons (by (simp only [List.getElem?_toArray, List.getElem?_cons_succ, List.getElem?_cons_zero]; rfl)) (fun K hK => ?_) AllReadyH.nil
        go_simp
        obtain ⟨wb2, hW⟩ : ∃ q, q = wb8.alloc (.cells #[.int .i64 (k : Int)] 3) := ⟨_, rfl⟩
        rw [← hW]
        have bn : Below wb8.heap.size wb8 wb2 := by rw [hW]; exact (Below.refl _ _).alloc (Nat.le_refl _) _
        have N2 := hide (show RwN wb2 (.slice (some ⟨wb8.heap.size, 0, none⟩) 1 1) [(k : Int)] from by rw [hW]; exact rwN_blk (ns := [(k : Int)]) (newB1 _ _))
        clear hW
        have B2 : Below wr.heap.size wr wb2 := B8.trans (bn.mono B8.size)
        have N8 := hide ((unhide N8).later bn)
        clear bn
        refine hK.out _ _ ?_ (fun hHeldN => ?_)
        · (try dsimp only); exact unhide HKP _ B2
        clear hK K hHeld
        have hHeld := hHeldN
        clear hHeldN
        (try simp only [Act.put, List.setIfInBounds_toArray, List.set_cons_zero, List.set_cons_succ])
        refine wpAnyH_ready (rs := [3]) (by kernel_rfl) (by simp) ?_
        refine AllReadyH.cons (by (simp only [List.getElem?_toArray, List.getElem?_cons_succ, List.getElem?_cons_zero]; rfl)) (fun K hK => ?_) AllReadyH.nil
        go_simp
        refine (islice_any ta1 tn1 tc1 tts ta2 tn2 tc2 tfs _ 1 1 [(k : Int)] true HOT p1 p2 HP1 HP2 _ (by omega) (by omega) (by omega) ((unhide R_t).later B2) ((unhide R_tf).later B2) (unhide N2)).mono ?_
        rintro e wc3 ⟨ha1, hc1, ha2, hc2, rfl, o1, o2, bn⟩
        have A3 := hide (o1.rw encI_len)
        have F3 := hide (o2.rw encF_len)
        clear o1 o2
        (try go_wp2_with fail)
        have B3 : Below wr.heap.size wr wc3 := B2.trans (bn.mono B2.size)
        have N8 := hide ((unhide N8).later bn)
        have N2 := hide ((unhide N2).later bn)
        clear bn
        refine hK.out _ _ ?_ (fun hHeldN => ?_)
        · (try dsimp only); exact unhide HKP _ B3
        clear hK K hHeld
        have hHeld := hHeldN
        clear hHeldN
        (try simp only [Act.put, List.setIfInBounds_toArray, List.set_cons_zero, List.set_cons_succ])
        refine wpAnyH_ready (rs := [4]) (by kernel_rfl) (by simp) ?_
        refine AllReadyH.cons (by (simp only [List.getElem?_toArray, List.getElem?_cons_succ, List.getElem?_cons_zero]; rfl)) (fun K hK => ?_) AllReadyH.nil
        go_simp
        refine (ibytes_any ha1 p1 hc1 (slI [(k : Int)] tts) ha2 p2 hc2 (slF [(k : Int)] tfs) true HOS _ (by omega) (by omega) (unhide A3) (unhide F3)).mono ?_
        rintro e wc4 ⟨v4, rfl, o1, bn⟩
        have C4 := hide o1
        clear o1
        (try go_wp2_with fail)
        have B4 : Below wr.heap.size wr wc4 := B3.trans (bn.mono B3.size)
        have N8 := hide ((unhide N8).later bn)
        have N2 := hide ((unhide N2).later bn)
        have A3 := hide ((unhide A3).later bn)
        have F3 := hide ((unhide F3).later bn)
        clear bn
        refine hK.out _ _ ?_ (fun hHeldN => ?_)
        · (try dsimp only); exact unhide HKP _ B4
        clear hK K hHeld
        have hHeld := hHeldN
        clear hHeldN
        (try simp only [Act.put, List.setIfInBounds_toArray, List.set_cons_zero, List.set_cons_succ])
        refine wpAnyH_ready (rs := [5, 9]) (by kernel_rfl) (by simp) ?_
        refine AllReadyH.cons (by (simp only [List.getElem?_toArray, List.getElem?_cons_succ, List.getElem?_cons_zero]; rfl)) (fun K hK => ?_) ?_
        · skip
          have hcv := conv6 HY1 (unhide C4)
          go_simp
          clear hcv
          refine hK.out _ _ ?_ (fun hHeldN => ?_)
          · (try dsimp only); exact unhide HKP _ B4
          clear hK K hHeld
          have hHeld := hHeldN
          clear hHeldN
          (try simp only [Act.put, List.setIfInBounds_toArray, List.set_cons_zero, List.set_cons_succ])
          refine wpAnyH_ready (rs := [9]) (by kernel_rfl) (by simp) ?_
          refine AllReadyH.cons (by (simp only [List.getElem?_toArray, List.getElem?_cons_succ, List.getElem?_cons_zero]; rfl)) (fun K hK => ?_) AllReadyH.nil
          go_simp
          refine (islice_any va1 vn1 vc1 vts va2 vn2 vc2 vfs _ 1 1 [(k : Int)] true HOV r1 r2 HR1 HR2 _ (by omega) (by omega) (by omega) ((unhide R_v).later B4) ((unhide R_vf).later B4) (unhide N8)).mono ?_
          rintro e wc9 ⟨ka1, kc1, ka2, kc2, rfl, o1, o2, bn⟩
          have A9 := hide (o1.rw encI_len)
          have F9 := hide (o2.rw encF_len)
          clear o1 o2
          (try go_wp2_with fail)
          have B9 : Below wr.heap.size wr wc9 := B4.trans (bn.mono B4.size)
          have N8 := hide ((unhide N8).later bn)
          have N2 := hide ((unhide N2).later bn)
          have A3 := hide ((unhide A3).later bn)
          have F3 := hide ((unhide F3).later bn)
          have C4 := hide ((unhide C4).later bn)
          clear bn
          refine hK.out _ _ ?_ (fun hHeldN => ?_)
          · (try dsimp only); exact unhide HKP _ B9
          clear hK K hHeld
          have hHeld := hHeldN
          clear hHeldN
          (try simp only [Act.put, List.setIfInBounds_toArray, List.set_cons_zero, List.set_cons_succ])
          refine wpAnyH_ready (rs := [10]) (by kernel_rfl) (by simp) ?_
          refine AllReadyH.cons (by (simp only [List.getElem?_toArray, List.getElem?_cons_succ, List.getElem?_cons_zero]; rfl)) (fun K hK => ?_) AllReadyH.nil
          go_simp
          refine (ibytes_any ka1 r1 kc1 (slI [(k : Int)] vts) ka2 r2 kc2 (slF [(k : Int)] vfs) true HOR _ (by omega) (by omega) (unhide A9) (unhide F9)).mono ?_
          rintro e wc10 ⟨v10, rfl, o1, bn⟩
          have C10 := hide o1
          clear o1
          (try go_wp2_with fail)
          have B10 : Below wr.heap.size wr wc10 := B9.trans (bn.mono B9.size)
          have N8 := hide ((unhide N8).later bn)
          have N2 := hide ((unhide N2).later bn)
          have A3 := hide ((unhide A3).later bn)
          have F3 := hide ((unhide F3).later bn)
          have C4 := hide ((unhide C4).later bn)
          have A9 := hide ((unhide A9).later bn)
          have F9 := hide ((unhide F9).later bn)
          clear bn
          refine hK.out _ _ ?_ (fun hHeldN => ?_)
          · (try dsimp only); exact unhide HKP _ B10
          clear hK K hHeld
          have hHeld := hHeldN
          clear hHeldN
          (try simp only [Act.put, List.setIfInBounds_toArray, List.set_cons_zero, List.set_cons_succ])
          refine wpAnyH_ready (rs := [11]) (by kernel_rfl) (by simp) ?_
          refine AllReadyH.cons (by (simp only [List.getElem?_toArray, List.getElem?_cons_succ, List.getElem?_cons_zero]; rfl)) (fun K hK => ?_) AllReadyH.nil
          have hcv := conv6 HY2 (unhide C10)
          go_simp
          clear hcv
          refine hK.out _ _ ?_ (fun hHeldN => ?_)
          · (try dsimp only); exact unhide HKP _ B10
          clear hK K hHeld
          have hHeld := hHeldN
          clear hHeldN
          (try simp only [Act.put, List.setIfInBounds_toArray, List.set_cons_zero, List.set_cons_succ])
          refine wpAnyH_take (i := 12) (v := ?v31) (by (simp only [List.getElem?_toArray, List.getElem?_cons_succ, List.getElem?_cons_zero]; rfl)) (by kernel_rfl) (by kernel_rfl) (by kernel_rfl) (fun _ _ _ h => h) (Or.inl ⟨by rfl, ?hy31⟩) (by assumption) ?rest31
          case hy31 => (intro w hSw; (try dsimp only at hSw); go_simp <;> with_reducible rfl)
          (try simp only [Act.put, List.setIfInBounds_toArray, List.set_cons_zero, List.set_cons_succ])
          refine wpAnyH_take (i := 13) (v := ?v32) (by (simp only [List.getElem?_toArray, List.getElem?_cons_succ, List.getElem?_cons_zero]; rfl)) (by kernel_rfl) (by kernel_rfl) (by kernel_rfl) (fun _ _ _ h => h) (Or.inl ⟨by rfl, ?hy32⟩) (by assumption) ?rest32
          case hy32 => (intro w hSw; (try dsimp only at hSw); go_simp <;> with_reducible rfl)
          (try simp only [Act.put, List.setIfInBounds_toArray, List.set_cons_zero, List.set_cons_succ])
          refine wpAnyH_done (by kernel_rfl) ?_ _
          refine NoPanic.normal ?_
          clear hHeld
          have HBF := hide ((unhide HB).trans (B10.mono (unhide HB).size))
          clear hyr
          cases r
          · go_wp2_with fail
            go_quiet (fail)
            go_wp2
            go_roundw
            case rel => exact ⟨k + 1, by omega, by go_num, below_drewN (unhide HBF) _⟩
            case measure => simp [intOf]; omega
          · obtain ⟨z1, xb, xo, hz1, rfl, hb1, hc1, cx⟩ := ((unhide R_X).later B10).atN (i := k) hlt
            obtain ⟨z2, yb, yo, hz2, rfl, hb2, hc2, cy⟩ := ((unhide R_Y).later B10).atN (i := k) hly
            have hne : (z1 != z2) = false := by
              rw [trL_at (unhide HOT) (by omega)] at hz1
              rw [trL_at (unhide HOV) (by omega)] at hz2
              rw [← Option.some.inj hz1, ← Option.some.inj hz2, same_sum (unhide HOT) (unhide HOV) (unhide HY1) (unhide HY2) (unhide HYR)]
              simp
            clear hz1 hz2
            obtain ⟨x0, x1, -⟩ := blk_cells2 ((B10.block _ (unhide K_x).2).trans (unhide K_x).1)
            obtain ⟨y0, yy1, -⟩ := blk_cells2 ((B10.block _ (unhide K_y).2).trans (unhide K_y).1)
            go_wp2_with fail
            go_quiet (fail)
            go_wp2
            go_roundw
            case rel => exact ⟨k + 1, by omega, by go_num, below_drewN (unhide HBF) _⟩
            case measure => simp [intOf]; omega
        refine AllReadyH.cons (by (simp only [List.getElem?_toArray, List.getElem?_cons_succ, List.getElem?_cons_zero]; rfl)) (fun K hK => ?_) AllReadyH.nil
        go_simp
        refine (islice_any va1 vn1 vc1 vts va2 vn2 vc2 vfs _ 1 1 [(k : Int)] true HOV r1 r2 HR1 HR2 _ (by omega) (by omega) (by omega) ((unhide R_v).later B4) ((unhide R_vf).later B4) (unhide N8)).mono ?_
        rintro e wc9 ⟨ka1, kc1, ka2, kc2, rfl, o1, o2, bn⟩
        have A9 := hide (o1.rw encI_len)
        have F9 := hide (o2.rw encF_len)
        clear o1 o2
        (try go_wp2_with fail)
        have B9 : Below wr.heap.size wr wc9 := B4.trans (bn.mono B4.size)
        have N8 := hide ((unhide N8).later bn)
        have N2 := hide ((unhide N2).later bn)
        have A3 := hide ((unhide A3).later bn)
        have F3 := hide ((unhide F3).later bn)
        have C4 := hide ((unhide C4).later bn)
        clear bn
        refine hK.out _ _ ?_ (fun hHeldN => ?_)
        · (try dsimp only); exact unhide HKP _ B9
        clear hK K hHeld
        have hHeld := hHeldN
        clear hHeldN
        (try simp only [Act.put, List.setIfInBounds_toArray, List.set_cons_zero, List.set_cons_succ])
        refine wpAnyH_ready (rs := [5, 10]) (by kernel_rfl) (by simp) ?_
        refine AllReadyH.cons (by (simp only [List.getElem?_toArray, List.getElem?_cons_succ, List.getElem?_cons_zero]; rfl)) (fun K hK => ?_) ?_
        · skip
          have hcv := conv6 HY1 (unhide C4)
          go_simp
          clear hcv
          refine hK.out _ _ ?_ (fun hHeldN => ?_)
          · (try dsimp only); exact unhide HKP _ B9
          clear hK K hHeld
          have hHeld := hHeldN
          clear hHeldN
          (try simp only [Act.put, List.setIfInBounds_toArray, List.set_cons_zero, List.set_cons_succ])
          refine wpAnyH_ready (rs := [10]) (by kernel_rfl) (by simp) ?_
          refine AllReadyH.cons (by (simp only [List.getElem?_toArray, List.getElem?_cons_succ, List.getElem?_cons_zero]; rfl)) (fun K hK => ?_) AllReadyH.nil
          go_simp
          refine (ibytes_any ka1 r1 kc1 (slI [(k : Int)] vts) ka2 r2 kc2 (slF [(k : Int)] vfs) true HOR _ (by omega) (by omega) (unhide A9) (unhide F9)).mono ?_
          rintro e wc10 ⟨v10, rfl, o1, bn⟩
          have C10 := hide o1
          clear o1
          (try go_wp2_with fail)
          have B10 : Below wr.heap.size wr wc10 := B9.trans (bn.mono B9.size)
          have N8 := hide ((unhide N8).later bn)
          have N2 := hide ((unhide N2).later bn)
          have A3 := hide ((unhide A3).later bn)
          have F3 := hide ((unhide F3).later bn)
          have C4 := hide ((unhide C4).later bn)
          have A9 := hide ((unhide A9).later bn)
          have F9 := hide ((unhide F9).later bn)
          clear bn
          refine hK.out _ _ ?_ (fun hHeldN => ?_)
          · (try dsimp only); exact unhide HKP _ B10
          clear hK K hHeld
          have hHeld := hHeldN
          clear hHeldN
          (try simp only [Act.put, List.setIfInBounds_toArray, List.set_cons_zero, List.set_cons_succ])
          refine wpAnyH_ready (rs := [11]) (by kernel_rfl) (by simp) ?_
          refine AllReadyH.cons (by (simp only [List.getElem?_toArray, List.getElem?_cons_succ, List.getElem?_cons_zero]; rfl)) (fun K hK => ?_) AllReadyH.nil
          have hcv := conv6 HY2 (unhide C10)
          go_simp
          clear hcv
          refine hK.out _ _ ?_ (fun hHeldN => ?_)
          · (try dsimp only); exact unhide HKP _ B10
          clear hK K hHeld
          have hHeld := hHeldN
          clear hHeldN
          (try simp only [Act.put, List.setIfInBounds_toArray, List.set_cons_zero, List.set_cons_succ])
          refine wpAnyH_take (i := 12) (v := ?v33) (by (simp only [List.getElem?_toArray, List.getElem?_cons_succ, List.getElem?_cons_zero]; rfl)) (by kernel_rfl) (by kernel_rfl) (by kernel_rfl) (fun _ _ _ h => h) (Or.inl ⟨by rfl, ?hy33⟩) (by assumption) ?rest33
          case hy33 => (intro w hSw; (try dsimp only at hSw); go_simp <;> with_reducible rfl)
          (try simp only [Act.put, List.setIfInBounds_toArray, List.set_cons_zero, List.set_cons_succ])
          refine wpAnyH_take (i := 13) (v := ?v34) (by (simp only [List.getElem?_toArray, List.getElem?_cons_succ, List.getElem?_cons_zero]; rfl)) (by kernel_rfl) (by kernel_rfl) (by kernel_rfl) (fun _ _ _ h => h) (Or.inl ⟨by rfl, ?hy34⟩) (by assumption) ?rest34
          case hy34 => (intro w hSw; (try dsimp only at hSw); go_simp <;> with_reducible rfl)
          (try simp only [Act.put, List.setIfInBounds_toArray, List.set_cons_zero, List.set_cons_succ])
          refine wpAnyH_done (by kernel_rfl) ?_ _
          refine NoPanic.normal ?_
          clear hHeld
          have HBF := hide ((unhide HB).trans (B10.mono (unhide HB).size))
          clear hyr
          cases r
          · go_wp2_with fail
            go_quiet (fail)
            go_wp2
            go_roundw
            case rel => exact ⟨k + 1, by omega, by go_num, below_drewN (unhide HBF) _⟩
            case measure => simp [intOf]; omega
          · obtain ⟨z1, xb, xo, hz1, rfl, hb1, hc1, cx⟩ := ((unhide R_X).later B10).atN (i := k) hlt
            obtain ⟨z2, yb, yo, hz2, rfl, hb2, hc2, cy⟩ := ((unhide R_Y).later B10).atN (i := k) hly
            have hne : (z1 != z2) = false := by
              rw [trL_at (unhide HOT) (by omega)] at hz1
              rw [trL_at (unhide HOV) (by omega)] at hz2
              rw [← Option.some.inj hz1, ← Option.some.inj hz2, same_sum (unhide HOT) (unhide HOV) (unhide HY1) (unhide HY2) (unhide HYR)]
              simp
            clear hz1 hz2
            obtain ⟨x0, x1, -⟩ := blk_cells2 ((B10.block _ (unhide K_x).2).trans (unhide K_x).1)
            obtain ⟨y0, yy1, -⟩ := blk_cells2 ((B10.block _ (unhide K_y).2).trans (unhide K_y).1)
            go_wp2_with fail
            go_quiet (fail)
            go_wp2
            go_roundw
            case rel => exact ⟨k + 1, by omega, by go_num, below_drewN (unhide HBF) _⟩
            case measure => simp [intOf]; omega
        refine AllReadyH.cons (by (simp only [List.getElem?_toArray, List.getElem?_cons_succ, List.getElem?_cons_zero]; rfl)) (fun K hK => ?_) AllReadyH.nil
        go_simp
        refine (ibytes_any ka1 r1 kc1 (slI [(k : Int)] vts) ka2 r2 kc2 (slF [(k : Int)] vfs) true HOR _ (by omega) (by omega) (unhide A9) (unhide F9)).mono ?_
        rintro e wc10 ⟨v10, rfl, o1, bn⟩
        have C10 := hide o1
        clear o1
        (try go_wp2_with fail)
        have B10 : Below wr.heap.size wr wc10 := B9.trans (bn.mono B9.size)
        have N8 := hide ((unhide N8).later bn)
        have N2 := hide ((unhide N2).later bn)
        have A3 := hide ((unhide A3).later bn)
        have F3 := hide ((unhide F3).later bn)
        have C4 := hide ((unhide C4).later bn)
        have A9 := hide ((unhide A9).later bn)
        have F9 := hide ((unhide F9).later bn)
        clear bn
        refine hK.out _ _ ?_ (fun hHeldN => ?_)
        · (try dsimp only); exact unhide HKP _ B10
        clear hK K hHeld
        have hHeld := hHeldN
        clear hHeldN
        (try simp only [Act.put, List.setIfInBounds_toArray, List.set_cons_zero, List.set_cons_succ])
        refine wpAnyH_ready (rs := [5, 11]) (by kernel_rfl) (by simp) ?_
        refine AllReadyH.cons (by (simp only [List.getElem?_toArray, List.getElem?_cons_succ, List.getElem?_cons_zero]; rfl)) (fun K hK => ?_) ?_
        · skip
          have hcv := conv6 HY1 (unhide C4)
          go_simp
          clear hcv
          refine hK.out _ _ ?_ (fun hHeldN => ?_)
          · (try dsimp only); exact unhide HKP _ B10
          clear hK K hHeld
          have hHeld := hHeldN
          clear hHeldN
          (try simp only [Act.put, List.setIfInBounds_toArray, List.set_cons_zero, List.set_cons_succ])
          refine wpAnyH_ready (rs := [11]) (by kernel_rfl) (by simp) ?_
          refine AllReadyH.cons (by (simp only [List.getElem?_toArray, List.getElem?_cons_succ, List.getElem?_cons_zero]; rfl)) (fun K hK => ?_) AllReadyH.nil
          have hcv := conv6 HY2 (unhide C10)
          go_simp
          clear hcv
          refine hK.out _ _ ?_ (fun hHeldN => ?_)
          · (try dsimp only); exact unhide HKP _ B10
          clear hK K hHeld
          have hHeld := hHeldN
          clear hHeldN
          (try simp only [Act.put, List.setIfInBounds_toArray, List.set_cons_zero, List.set_cons_succ])
          refine wpAnyH_take (i := 12) (v := ?v35) (by (simp only [List.getElem?_toArray, List.getElem?_cons_succ, List.getElem?_cons_zero]; rfl)) (by kernel_rfl) (by kernel_rfl) (by kernel_rfl) (fun _ _ _ h => h) (Or.inl ⟨by rfl, ?hy35⟩) (by assumption) ?rest35
          case hy35 => (intro w hSw; (try dsimp only at hSw); go_simp <;> with_reducible rfl)
          (try simp only [Act.put, List.setIfInBounds_toArray, List.set_cons_zero, List.set_cons_succ])
          refine wpAnyH_take (i := 13) (v := ?v36) (by (simp only [List.getElem?_toArray, List.getElem?_cons_succ, List.getElem?_cons_zero]; rfl)) (by kernel_rfl) (by kernel_rfl) (by kernel_rfl) (fun _ _ _ h => h) (Or.inl ⟨by rfl, ?hy36⟩) (by assumption) ?rest36
          case hy36 => (intro w hSw; (try dsimp only at hSw); go_simp <;> with_reducible rfl)
          (try simp only [Act.put, List.setIfInBounds_toArray, List.set_cons_zero, List.set_cons_succ])
          refine wpAnyH_done (by kernel_rfl) ?_ _
          refine NoPanic.normal ?_
          clear hHeld
          have HBF := hide ((unhide HB).trans (B10.mono (unhide HB).size))
          clear hyr
          cases r
          · go_wp2_with fail
            go_quiet (fail)
            go_wp2
            go_roundw
            case rel => exact ⟨k + 1, by omega, by go_num, below_drewN (unhide HBF) _⟩
            case measure => simp [intOf]; omega
          · obtain ⟨z1, xb, xo, hz1, rfl, hb1, hc1, cx⟩ := ((unhide R_X).later B10).atN (i := k) hlt
            obtain ⟨z2, yb, yo, hz2, rfl, hb2, hc2, cy⟩ := ((unhide R_Y).later B10).atN (i := k) hly
            have hne : (z1 != z2) = false := by
              rw [trL_at (unhide HOT) (by omega)] at hz1
              rw [trL_at (unhide HOV) (by omega)] at hz2
              rw [← Option.some.inj hz1, ← Option.some.inj hz2, same_sum (unhide HOT) (unhide HOV) (unhide HY1) (unhide HY2) (unhide HYR)]
              simp
            clear hz1 hz2
            obtain ⟨x0, x1, -⟩ := blk_cells2 ((B10.block _ (unhide K_x).2).trans (unhide K_x).1)
            obtain ⟨y0, yy1, -⟩ := blk_cells2 ((B10.block _ (unhide K_y).2).trans (unhide K_y).1)
            go_wp2_with fail
            go_quiet (fail)
            go_wp2
            go_roundw
            case rel => exact ⟨k + 1, by omega, by go_num, below_drewN (unhide HBF) _⟩
            case measure => simp [intOf]; omega
        refine AllReadyH.cons (by (simp only [List.getElem?_toArray, List.getElem?_cons_succ, List.getElem?_cons_zero]; rfl)) (fun K hK => ?_) AllReadyH.nil
        have hcv := conv6 HY2 (unhide C10)
        go_simp
        clear hcv
        refine hK.out _ _ ?_ (fun hHeldN => ?_)
        · (try dsimp only); exact unhide HKP _ B10
        clear hK K hHeld
        have hHeld := hHeldN
        clear hHeldN
        (try simp only [Act.put, List.setIfInBounds_toArray, List.set_cons_zero, List.set_cons_succ])
        refine wpAnyH_ready (rs := [5]) (by kernel_rfl) (by simp) ?_
        refine AllReadyH.cons (by (simp only [List.getElem?_toArray, List.getElem?_cons_succ, List.getElem?_cons_zero]; rfl)) (fun K hK => ?_) AllReadyH.nil
        have hcv := conv6 HY1 (unhide C4)
        go_simp
        clear hcv
        refine hK.out _ _ ?_ (fun hHeldN => ?_)
        · (try dsimp only); exact unhide HKP _ B10
        clear hK K hHeld
        have hHeld := hHeldN
        clear hHeldN
        (try simp only [Act.put, List.setIfInBounds_toArray, List.set_cons_zero, List.set_cons_succ])
        refine wpAnyH_take (i := 12) (v := ?v37) (by (simp only [List.getElem?_toArray, List.getElem?_cons_succ, List.getElem?_cons_zero]; rfl)) (by kernel_rfl) (by kernel_rfl) (by kernel_rfl) (fun _ _ _ h => h) (Or.inl ⟨by rfl, ?hy37⟩) (by assumption) ?rest37
        case hy37 => (intro w hSw; (try dsimp only at hSw); go_simp <;> with_reducible rfl)
        (try simp only [Act.put, List.setIfInBounds_toArray, List.set_cons_zero, List.set_cons_succ])
        refine wpAnyH_take (i := 13) (v := ?v38) (by (simp only [List.getElem?_toArray, List.getElem?_cons_succ, List.getElem?_cons_zero]; rfl)) (by kernel_rfl) (by kernel_rfl) (by kernel_rfl) (fun _ _ _ h => h) (Or.inl ⟨by rfl, ?hy38⟩) (by assumption) ?rest38
        case hy38 => (intro w hSw; (try dsimp only at hSw); go_simp <;> with_reducible rfl)
        (try simp only [Act.put, List.setIfInBounds_toArray, List.set_cons_zero, List.set_cons_succ])
        refine wpAnyH_done (by kernel_rfl) ?_ _
        refine NoPanic.normal ?_
        clear hHeld
        have HBF := hide ((unhide HB).trans (B10.mono (unhide HB).size))
        clear hyr
        cases r
        · go_wp2_with fail
          go_quiet (fail)
          go_wp2
          go_roundw
          case rel => exact ⟨k + 1, by omega, by go_num, below_drewN (unhide HBF) _⟩
          case measure => simp [intOf]; omega
        · obtain ⟨z1, xb, xo, hz1, rfl, hb1, hc1, cx⟩ := ((unhide R_X).later B10).atN (i := k) hlt
          obtain ⟨z2, yb, yo, hz2, rfl, hb2, hc2, cy⟩ := ((unhide R_Y).later B10).atN (i := k) hly
          have hne : (z1 != z2) = false := by
            rw [trL_at (unhide HOT) (by omega)] at hz1
            rw [trL_at (unhide HOV) (by omega)] at hz2
            rw [← Option.some.inj hz1, ← Option.some.inj hz2, same_sum (unhide HOT) (unhide HOV) (unhide HY1) (unhide HY2) (unhide HYR)]
            simp
          clear hz1 hz2
          obtain ⟨x0, x1, -⟩ := blk_cells2 ((B10.block _ (unhide K_x).2).trans (unhide K_x).1)
          obtain ⟨y0, yy1, -⟩ := blk_cells2 ((B10.block _ (unhide K_y).2).trans (unhide K_y).1)
          go_wp2_with fail
          go_quiet (fail)
          go_wp2
          go_roundw
          case rel => exact ⟨k + 1, by omega, by go_num, below_drewN (unhide HBF) _⟩
          case measure => simp [intOf]; omega

/-! ### THE ROW's STEP: WRITTEN OUT: LEAVE IT -/
set_option maxRecDepth 100000 in
theorem lifted (os : Os) (started : os.Started) (H : Type) (enc : TypeId × Value → H) :
    ReturnsInHanded {} Tryz.checked os 4 .any (Rows.fnSlicesSpec.pre6 enc Tryz.prog Tryz.f4 Rows.fnSlicesRow.domain false) (Rows.fnSlicesSpec.post enc Tryz.prog Tryz.f4 false true false false) := by
  refine returnsInHanded_of_change (C := Tryz.checked) own started (by kernel_rfl) Tryz.func4
    (ChangeSpec.witness6 (enc := enc) (C := Tryz.checked) false ⟨#[], #[.slice none 0 0], []⟩ 8 (by kernel_rfl) (by kernel_rfl) (by kernel_rfl) (by kernel_rfl)) ?_
  intro W base args ds gs before hval0 hW hcnd _
  have hval : ∀ (j : Nat) t v, Tryz.f4.params[j]? = some t → args[j]? = some v → Value.okWide Tryz.prog W .any base t v := hval0
  have hW' := hW
  obtain ⟨p, q, hA0, hV, rfl, hfz, hnd⟩ := hW
  have hA : DataW.TrodAll enc Tryz.prog W 0 (fun _ => true) true Tryz.f4.params.toList args.toList ds p := hA0
  rw [Tryz.params4] at hA hval
  obtain ⟨v0, vs0, d0, ds0, p0, q0, hargs, rfl, rfl, h0, r0⟩ := trodAll_cons hA
  obtain ⟨rfl, rfl, rfl⟩ := trodAll_nil r0
  obtain rfl : args = #[v0] := by cases args; simp_all
  obtain ⟨rfl, rfl⟩ := trodVars_none hV
  obtain ⟨a0, len0, cap0, rfl⟩ := okWide_slice Tryz.underlying22 (hval 0 22 v0 rfl rfl)
  have k0 := h0
  have lt0 : ∀ x ∈ p0, x.block < W.heap.size := by obtain ⟨m, hm⟩ := k0; exact DataW.trod_lt m _ _ _ hm
  obtain ⟨z0, w0⟩ : ∃ zs, IsRow .u8 W a0 len0 cap0 zs := by
    obtain ⟨fuel, hf⟩ := h0
    rcases open_ints Tryz.underlying22 Tryz.underlying5 (by kernel_rfl) hf with ⟨hcs, _⟩ | ⟨x, l, c, zs, hcs, _, hl, hm, hz, _, hcell, hwz⟩
    · simp [Value.cells] at hcs
      obtain ⟨rfl, rfl, rfl⟩ := hcs
      exact ⟨[], .inl ⟨rfl, rfl, rfl, rfl⟩⟩
    · simp [Value.cells] at hcs
      obtain ⟨rfl, rfl, rfl⟩ := hcs
      exact ⟨zs, .inr ⟨_, rfl, hl, hm, by simpa using hz, hcell, hwz⟩⟩
  clear hA0 hval0
  refine (walk a0 len0 cap0 z0 W w0).mono fun e W' ⟨he, bel⟩ => ?_
  subst he
  exact ⟨_, rfl, _, _, _, [], _, [], hW', trodAll_mk1 (shut_bool Tryz.underlying4 _), (trodAll_cons_mk (Below.trod laidOut (by kernel_rfl) (of_decide_eq_true (by kernel_rfl)) k0 bel lt0) trodAll_mk0), rfl, bel.frame _, fun h => by cases h⟩

theorem over : Rows.fnSlicesRow.holds Tryz.pinned (OpenSpec.ofChange Rows.fnSlicesSpec) :=
  OpenClaim.holds_of_wide 4 Tryz.f4 rfl rfl rfl rfl rfl rfl rfl ⟨rfl, rfl, rfl, rfl, rfl⟩ rfl rfl rfl rfl rfl (by kernel_rfl) Tryz.func4 (by kernel_rfl)
    (of_decide_eq_true (by kernel_rfl)) (by unfold Func.isWrapper; first | (rw [if_pos (by decide +kernel)]; kernel_rfl) | (rw [if_neg (by decide +kernel)]; exact ⟨rfl, rfl⟩))
    (fun os started H enc _ => lifted os started H enc)

theorem proved : Rows.FnSlicesSaid := over
#print axioms proved
end Go.Proofs.YtdpaocikmijioabGreat.fnSlices
namespace Go.Proofs.YtdpaocikmijioabGreat
theorem fnSlices_holds : Rows.FnSlicesSaid := fnSlices.proved
end Go.Proofs.YtdpaocikmijioabGreat
