/-
  A change that is logged is the last; the log keeps its bound, and its number goes up by one, at every code. No conditions but the statement’s own.
-/
import Derived.Test.YtdpaocikmijioacRows
import Derived.Test.YtdpaocikmijioacIJnP
import Derived.Test.YtdpaocikmijioacIStSame
import Derived.Test.YtdpaocikmijioacL3Q
import Derived.WalkKit
import Derived.ProofKit
import Derived.OpenShut
import Derived.ShutString
import Derived.ChangeOld
import Derived.Below
namespace Go.Proofs.Ytdpaocikmijioac.fnLogGrows
open Go.ChangeShapes Go.WideShapes Go.ChangeAt Go.RowKit
open Go.ChangeMaps (open_string shut_string)
set_option linter.unusedVariables false

theorem own : ownKnob Try.prog.godebug = none := by kernel_rfl
theorem laidOut : laidOutB Try.prog = true := by kernel_rfl

/-- WHAT THE WALK IS TOLD OF A SLICE OF INTEGERS THAT CAME IN: it is nil; or it leads to a row of 'cap' cells, the numbers 'zs' (the first 'len' are its elements, the rest its spare room), each fitting its kind. -/
def IsRow (k : IntKind) (w : World) (a : Option Addr) (len cap : Nat) (zs : List Int) : Prop :=
  (a = none ∧ len = 0 ∧ cap = 0 ∧ zs = []) ∨
  ∃ x, a = some x ∧ len ≤ cap ∧ cap ≤ maxLen ∧ zs.length = cap ∧ (∀ i, i < zs.length → w.cell? (x.add i) = some (.int k (zs.getD i 0))) ∧ ∀ n ∈ zs, (Lit.int k n).wf = true

/-! ### STEP 1: THE WALK: the Go text returns true, AND WRITES NOTHING THAT WAS THERE: 'Below w.heap.size w w'' (Derived/Below.lean: '.refl', '.alloc', '.drew', '.setCell' at a new block, '.trans'). Open each 'IsRow' by 'rcases' AHEAD of 'go_enter'; part every test ahead of the walk. -/
set_option maxRecDepth 100000 in
set_option maxHeartbeats 4000000 in
theorem walk (a0 : Option Addr) (len0 cap0 : Nat) (z0 : List Int) (w : World) (w0 : IsRow .u8 w a0 len0 cap0 z0) :
    Calls Try.prog 3 #[.slice a0 len0 cap0] w fun e w' => e = .returned (.bool true) ∧ Below w.heap.size w w' := by
  obtain ⟨xs, hxl, hseg, hbd⟩ := seg_of_row w0
  subst hxl
  by_cases hbig : 1048576 < xs.length
  · clear w0 hseg hbd
    go_enter Try.func3, Try.ntmps3
    go_wp2
    go_ret
    exact ⟨rfl, Below.refl _ _⟩
  have hlen : xs.length ≤ 1048576 := by omega
  have HS0 := hide hseg
  have HD := hide hbd
  clear hseg hbd w0
  go_enter Try.func3, Try.ntmps3
  go_wp2_with fail
  refine (big_no _ _ _ _ hbig).mono ?_
  rintro e _ ⟨rfl, rfl⟩
  go_wp2_with fail
  refine (drawlogadd_any _ xs _ hlen (unhide HD) (unhide HS0)).mono ?_
  rintro e w1 ⟨c, f, a, n, cap, ss, a1, n1, c1, a2, n2, c2, its, fls, rfl, r1, r2, r3, ln, sm, li, lf, ni, b1⟩
  have R_l := hide r1
  have R_i := hide r2
  have R_f := hide r3
  have BL := hide b1
  have HS := hide sm.sml
  have HSD := hide (nine_sml ni)
  have ht := sm.tot
  have e1 := r1.len.1
  have e2 := r2.len.1
  have e3 := r3.len.1
  have HLN := hide e1
  have HL1 := hide e2
  have HL2 := hide e3
  obtain ⟨k1, k2, k3, k4⟩ : n ≤ 6 ∧ n1 ≤ 6 ∧ n2 ≤ 6 ∧ tot ss ≤ 100 := by omega
  clear r1 r2 r3 b1 sm ni ln li lf ht e1 e2 e3
  obtain ⟨ok, hok⟩ : ∃ ok, lar c f ss (its, fls) = ok := ⟨_, rfl⟩
  obtain ⟨⟨f1, ss1⟩, hla⟩ : ∃ p, lad ok c f ss (its, fls) = p := ⟨_, rfl⟩
  obtain ⟨m, hmm⟩ : ∃ m, m = ss1.length := ⟨_, rfl⟩
  have HOK := hide hok
  have HLA := hide hla
  have HM := hide hmm
  have hne : (ok != ok) = false := by cases ok <;> rfl
  have HTT := hide (lad_tot7 hla)
  obtain ⟨hm7, ht7⟩ : m ≤ 7 ∧ tot ss1 ≤ 200 := by have h := unhide HTT; rw [← hmm] at h; have := unhide HLN; have := unhide HL1; have := unhide HL2; simp only at h; omega
  clear hok hla hmm HTT
  go_wp2_with fail
  refine (ilogadd_any c f a n cap ss a1 n1 c1 its a2 n2 c2 fls ok HOK f1 ss1 HLA m HM (unhide HS) (unhide HSD) _ (by omega) (by omega) (by omega) (by omega) (((unhide R_l).alloc _).alloc _) (((unhide R_i).alloc _).alloc _) (((unhide R_f).alloc _).alloc _)).mono ?_
  rintro e w2 ⟨g1, e1, rfl, o1, b2⟩
  have cw2 := (((Below.refl w1.heap.size w1).alloc (Nat.le_refl _) _).alloc (by simp <;> omega) _).trans (b2.mono (by simp <;> omega))
  have zw2 := cw2.size
  have K_l : Hid (w2.heap[w1.heap.size]? = some (.cells #[.int .i64 c, .int .i64 f, .slice a n cap] 26 (0, 0)) ∧ w1.heap.size < w2.heap.size) := hide ⟨(b2.block _ (by simp <;> omega)).trans (lowB2 w1 _ _), by have := b2.size; simp at this; omega⟩
  have y_l := (unhide K_l).2
  have K_d : Hid (w2.heap[w1.heap.size + 1]? = some (.cells #[.slice a1 n1 c1, .slice a2 n2 c2] 30 (0, 0)) ∧ w1.heap.size + 1 < w2.heap.size) := hide ⟨(b2.block _ (by simp <;> omega)).trans (newB2 w1 _ _), by have := b2.size; simp at this; omega⟩
  have y_d := (unhide K_d).2
  have R_l := hide ((unhide R_l).later cw2)
  have R_i := hide ((unhide R_i).later cw2)
  have R_f := hide ((unhide R_f).later cw2)
  have BL := hide ((unhide BL).trans (cw2.mono (unhide BL).size))
  have R_m := hide (o1.rw)
  clear b2 cw2
  obtain ⟨l_0, l_1, l_2, -⟩ := blk_cells3 (unhide K_l).1
  have n_l := (unhide K_l).2
  obtain ⟨d_0, d_1, -⟩ := blk_cells2 (unhide K_d).1
  have n_d := (unhide K_d).2
  clear o1
  go_wp2_with fail
  refine (slogadd_any c f a n cap ss a1 n1 c1 its a2 n2 c2 fls ok HOK f1 ss1 HLA m HM _ (by omega) (by omega) (by omega) (by omega) ((unhide R_l).alloc _) ((unhide R_i).alloc _) ((unhide R_f).alloc _)).mono ?_
  rintro e w3 ⟨h1, h2, rfl, o1, b3⟩
  clear d_0 d_1 n_d l_0 l_1 l_2 n_l
  have cw3 := ((Below.refl w2.heap.size w2).alloc (Nat.le_refl _) _).trans (b3.mono (by simp <;> omega))
  have zw3 := cw3.size
  have K_l := hide (keptblk cw3 K_l)
  have K_d := hide (keptblk cw3 K_d)
  have K_m : Hid (w3.heap[w2.heap.size]? = some (.cells #[.int .i64 c, .int .i64 f1, .slice g1 m e1] 26 (0, 0)) ∧ w2.heap.size < w3.heap.size) := hide ⟨(b3.block _ (by simp <;> omega)).trans (newB1 w2 _), by have := b3.size; simp at this; omega⟩
  have y_m := (unhide K_m).2
  have R_l := hide ((unhide R_l).later cw3)
  have R_i := hide ((unhide R_i).later cw3)
  have R_f := hide ((unhide R_f).later cw3)
  have R_m := hide ((unhide R_m).later cw3)
  have BL := hide ((unhide BL).trans (cw3.mono (unhide BL).size))
  clear b3 cw3
  obtain ⟨l_0, l_1, l_2, -⟩ := blk_cells3 (unhide K_l).1
  have n_l := (unhide K_l).2
  obtain ⟨d_0, d_1, -⟩ := blk_cells2 (unhide K_d).1
  have n_d := (unhide K_d).2
  obtain ⟨m_0, m_1, m_2, -⟩ := blk_cells3 (unhide K_m).1
  have n_m := (unhide K_m).2
  clear o1
  cases ok
  · obtain rfl : m = n := by rw [unhide HM, unhide HLN]; have h := unhide HLA; simp [lad] at h; rw [h.2]
    have hen : ((m : Int) == (m : Int)) = true := by simp
    go_wp2
    go_ret
    exact ⟨rfl, (unhide BL).alloc (unhide BL).size _⟩
  obtain ⟨L1, L2, L3, L4, L5, L6, L7⟩ := lad_true (unhide HOK) (unhide HLA)
  rw [← unhide HM, ← unhide HLN] at L4
  rw [← unhide HM] at L6 L7
  obtain ⟨⟨-, -⟩, C1, ⟨F1, F2⟩, F3, -⟩ := lok_iff.1 L2
  obtain ⟨-, -, ⟨F4, F5⟩, F6, -⟩ := lok_iff.1 L1
  rw [← unhide HM] at C1 F3
  rw [← unhide HLN] at F6
  have HLM : Hid (lok c f1 ss1 = true) := hide L2
  have HSM : Hid (lsq c f1 ss1 = f1 + (m : Int)) := hide (by rw [lsq, if_pos L2, unhide HM])
  have HSL : Hid (lsq c f ss = f + (n : Int)) := hide (by rw [lsq, if_pos L1, unhide HLN])
  have hw1 : IntKind.i64.wrap (f1 + (m : Int) - 1) = f1 + ((m - 1 : Nat) : Int) := by rw [IntKind.wrap_i64]; omega
  have HKP : Hid (kps c f1 ss1 (IntKind.i64.wrap (f1 + (m : Int) - 1)) = true) := hide (kps_iff.2 ⟨L2, by rw [hw1]; omega, by rw [hw1, ← unhide HM]; omega⟩)
  have HLS : Hid (lsn true f1 (IntKind.i64.wrap (f1 + (m : Int) - 1)) ss1 = (its, fls)) := hide (by rw [lsn, if_pos rfl, hw1, show (f1 + ((m - 1 : Nat) : Int) - f1).toNat = m - 1 by omega, L7, jnL_one L3])
  have HN1 : Hid ((lsn true f1 (IntKind.i64.wrap (f1 + (m : Int) - 1)) ss1).1.length = n1) := hide (by rw [unhide HLS]; exact (unhide HL1).symm)
  have HN2 : Hid ((lsn true f1 (IntKind.i64.wrap (f1 + (m : Int) - 1)) ss1).2.length = n2) := hide (by rw [unhide HLS]; exact (unhide HL2).symm)
  have E4 := hide L4
  clear L1 L2 L3 L4 L7 hw1
  go_upto_region 10 with fail
  obtain ⟨wz, hwz⟩ : ∃ W, W = w3.alloc (LgO c f1 (.slice h1 m h2)) := ⟨_, rfl⟩
  rw [← hwz]
  have cwz : Below w3.heap.size w3 wz := by rw [hwz]; exact (Below.refl _ _).alloc (Nat.le_refl _) _
  clear hwz
  clear d_0 d_1 n_d l_0 l_1 l_2 n_l m_0 m_1 m_2 n_m
  have zwz := cwz.size
  have K_l := hide (keptblk cwz K_l)
  have K_d := hide (keptblk cwz K_d)
  have K_m := hide (keptblk cwz K_m)
  have R_l := hide ((unhide R_l).later cwz)
  have R_i := hide ((unhide R_i).later cwz)
  have R_f := hide ((unhide R_f).later cwz)
  have R_m := hide ((unhide R_m).later cwz)
  have BL := hide ((unhide BL).trans (cwz.mono (unhide BL).size))
  clear cwz
  obtain ⟨l_0, l_1, l_2, -⟩ := blk_cells3 (unhide K_l).1
  have n_l := (unhide K_l).2
  obtain ⟨d_0, d_1, -⟩ := blk_cells2 (unhide K_d).1
  have n_d := (unhide K_d).2
  obtain ⟨m_0, m_1, m_2, -⟩ := blk_cells3 (unhide K_m).1
  have n_m := (unhide K_m).2
  clear d_0 d_1 n_d l_0 l_1 l_2 n_l m_0 m_1 m_2 n_m
  go_cut [9, 10] from 42 to 49 (fun p q wx => ∃ (g : Nat) (s1 : Option Addr) (t1 : Nat) (s2 : Option Addr) (t2 : Nat), p = .pointer (some ⟨g, 0, none⟩) ∧ q = .bool true ∧ Fin wz wx g (.slice s1 n1 t1) (.slice s2 n2 t2) its fls)
  case first =>
    go_region_held3 (fun W => Below wz.heap.size wz W ∧ W.cell? ⟨w2.heap.size, 0, none⟩ = some (.int .i64 c) ∧ W.cell? ⟨w2.heap.size, 1, none⟩ = some (.int .i64 f1) ∧ W.cell? ⟨w2.heap.size, 2, none⟩ = some (.slice g1 m e1))
      (first | (with_reducible exact keepL1 K_m (Below.refl _ _)) | (with_reducible exact keepL1 K_m ((Below.refl _ _).drew)) | (with_reducible exact keepL1 K_m (by assumption)) | (with_reducible exact keepL1 K_m (kal (Below.refl _ _))) | (with_reducible exact keepL1 K_m (kal ((Below.refl _ _).drew))) | (with_reducible exact keepL1 K_m ((kal (Below.refl _ _)).drew)) | (with_reducible exact keepL1 K_m (kal (by assumption))) | (with_reducible exact keepL1 K_m (kset (by assumption) (by assumption))))
      (first
        | (go_at_call 14; refine (ilogseq_any c f1 g1 m e1 ss1 (f1 + (m : Int)) HSM _ (by omega) (by omega) ?_).mono ?_; exact (unhide R_m).later (kb1 (by assumption)); rintro e w8 ⟨rfl, b8⟩; have b8k := kb2 (by assumption) b8; have z8 := b8k.size; (first | (with_reducible have M := hide (Bx.newD (P := wz) b8 (by omega))) | (with_reducible have M := hide (Bx.new (P := wz) b8 (by omega))) | (with_reducible have M := hide (Bx.kept M b8)) | skip); clear b8)
        | (go_at_call 13; refine (ilogsince_any c f1 g1 m e1 ss1 (IntKind.i64.wrap (f1 + (m : Int) - 1)) true HKP n1 n2 HN1 HN2 _ (by omega) (by omega) ?_).mono ?_; exact (unhide R_m).later (kb1 (by assumption)); rintro e w9 ⟨s1, t1, s2, t2, rfl, o1, o2, b9⟩; rw [unhide HLS] at o1 o2; have b9k := kb2 (by assumption) b9; have O1 := hide o1; have O2 := hide o2; clear o1 o2; (first | (with_reducible have M2 := hide (Bf.new (P := wz) b9 (by omega)); clear b9; obtain ⟨q0, q1x, qf⟩ := blk_cells2 (unhide M2).bx.blk) | (with_reducible have M2 := hide (Bf.kept M b9); clear b9; obtain ⟨q0, q1x, qf⟩ := blk_cells2 (unhide M2).bx.blk) | clear b9)))
    all_goals
      go_wp2_with fail
      go_meet
      first
        | with_reducible exact ⟨_, _, _, _, _, rfl, rfl, Fin.set b9k (by first | omega | (simp; omega)) M2 O1 O2⟩
        | with_reducible exact ⟨_, _, _, _, _, rfl, rfl, Fin.new b9k (by first | omega | (simp; omega)) O1 O2⟩
  case rest =>
    obtain ⟨gs, s1, t1, s2, t2, rfl, rfl, hfin⟩ := hcut
    have cwc := hfin.bel
    have zwc := cwc.size
    have K_s := hide (And.intro hfin.blk hfin.lt)
    have R_si := hide (hfin.o1.rw encI_len)
    have R_sf := hide (hfin.o2.rw encF_len)
    clear hfin
    have K_l := hide (keptblk cwc K_l)
    have K_d := hide (keptblk cwc K_d)
    have K_m := hide (keptblk cwc K_m)
    have R_l := hide ((unhide R_l).later cwc)
    have R_i := hide ((unhide R_i).later cwc)
    have R_f := hide ((unhide R_f).later cwc)
    have R_m := hide ((unhide R_m).later cwc)
    have BL := hide ((unhide BL).trans (cwc.mono (unhide BL).size))
    clear cwc
    obtain ⟨l_0, l_1, l_2, -⟩ := blk_cells3 (unhide K_l).1
    have n_l := (unhide K_l).2
    obtain ⟨d_0, d_1, -⟩ := blk_cells2 (unhide K_d).1
    have n_d := (unhide K_d).2
    obtain ⟨m_0, m_1, m_2, -⟩ := blk_cells3 (unhide K_m).1
    have n_m := (unhide K_m).2
    clear d_0 d_1 n_d l_0 l_1 l_2 n_l m_0 m_1 m_2 n_m
    go_upto_region 11 with fail
    obtain ⟨l_0, l_1, l_2, -⟩ := blk_cells3 (unhide K_l).1
    have ll0 := later_some (w := wc) (unhide K_l).2 l_0
    have ll1 := later_some (w := wc) (unhide K_l).2 l_1
    have ll2 := later_some (w := wc) (unhide K_l).2 l_2
    clear l_0 l_1 l_2
    obtain ⟨d_0, d_1, -⟩ := blk_cells2 (unhide K_d).1
    have ld0 := later_some (w := wc) (unhide K_d).2 d_0
    have ld1 := later_some (w := wc) (unhide K_d).2 d_1
    clear d_0 d_1
    obtain ⟨m_0, m_1, m_2, -⟩ := blk_cells3 (unhide K_m).1
    have lm0 := later_some (w := wc) (unhide K_m).2 m_0
    have lm1 := later_some (w := wc) (unhide K_m).2 m_1
    have lm2 := later_some (w := wc) (unhide K_m).2 m_2
    clear m_0 m_1 m_2
    obtain ⟨s_0, s_1, -⟩ := blk_cells2 (unhide K_s).1
    have ls0 := later_some (w := wc) (unhide K_s).2 s_0
    have ls1 := later_some (w := wc) (unhide K_s).2 s_1
    clear s_0 s_1
    have hw2 : IntKind.i64.wrap (f + (n : Int) + 1) = f + (n : Int) + 1 := by rw [IntKind.wrap_i64]; omega
    have hq1 : (f1 + (m : Int) == IntKind.i64.wrap (f + (n : Int) + 1)) = true := by rw [hw2]; have := unhide E4; simp; omega
    have hq1' : (f1 + (m : Int) == f + (n : Int) + 1) = true := by have := unhide E4; simp; omega
    have hq2 : decide ((m : Int) ≤ c) = true := by simp; omega
    have hq3 : decide (f1 ≥ f) = true := by simp; omega
    simp only [ge_iff_le] at hq3
    clear hw2
    refine wp_region_later (by kernel_rfl) (by kernel_rfl) ?_
    repeat (go_big_quiet_step (first
      | (go_at_call 15; exact Calls.later_of (isame_any s1 n1 t1 its s2 n2 t2 fls a1 n1 c1 its a2 n2 c2 fls true (hide (by simp)) _ (by omega) (by omega) (by omega) (by omega) ((unhide R_si).in_later _ _) ((unhide R_sf).in_later _ _) ((unhide R_i).in_later _ _) ((unhide R_f).in_later _ _)))
      | (go_at_call 16; exact Calls.later_of (ilogok_any c f1 g1 m e1 ss1 true HLM _ (by omega) (by omega) ((unhide R_m).later (later_below _ _ _))))
      | (go_at_call_of 14 (Value.agg #[Value.int IntKind.i64 c, Value.int IntKind.i64 f1, Value.slice g1 m e1]); exact Calls.later_of (ilogseq_any c f1 g1 m e1 ss1 (f1 + (m : Int)) HSM _ (by omega) (by omega) ((unhide R_m).later (later_below _ _ _))))
      | (go_at_call_of 14 (Value.agg #[Value.int IntKind.i64 c, Value.int IntKind.i64 f, Value.slice a n cap]); exact Calls.later_of (ilogseq_any c f a n cap ss (f + (n : Int)) HSL _ (by omega) (by omega) ((unhide R_l).later (later_below _ _ _))))))
    refine wpQuiet_nil ?_
    intro w20 hb20
    have BL := hide ((unhide BL).trans (hb20.mono (unhide BL).size))
    clear hb20
    go_wp2
    go_ret
    exact ⟨rfl, unhide BL⟩

/-! ### THE ROW's STEP: WRITTEN OUT: LEAVE IT -/
set_option maxRecDepth 100000 in
theorem lifted (os : Os) (started : os.Started) (H : Type) (enc : TypeId × Value → H) :
    ReturnsInHanded {} Try.checked os 3 .any (Rows.fnLogGrowsSpec.pre6 enc Try.prog Try.f3 Rows.fnLogGrowsRow.domain false) (Rows.fnLogGrowsSpec.post enc Try.prog Try.f3 false true false false) := by
  refine returnsInHanded_of_change (C := Try.checked) own started (by kernel_rfl) Try.func3
    (ChangeSpec.witness6 (enc := enc) (C := Try.checked) false ⟨#[], #[.slice none 0 0], []⟩ 8 (by kernel_rfl) (by kernel_rfl) (by kernel_rfl) (by kernel_rfl)) ?_
  intro W base args ds gs before hval0 hW hcnd _
  have hval : ∀ (j : Nat) t v, Try.f3.params[j]? = some t → args[j]? = some v → Value.okWide Try.prog W .any base t v := hval0
  have hW' := hW
  obtain ⟨p, q, hA0, hV, rfl, hfz, hnd⟩ := hW
  have hA : DataW.TrodAll enc Try.prog W 0 (fun _ => true) true Try.f3.params.toList args.toList ds p := hA0
  rw [Try.params3] at hA hval
  obtain ⟨v0, vs0, d0, ds0, p0, q0, hargs, rfl, rfl, h0, r0⟩ := trodAll_cons hA
  obtain ⟨rfl, rfl, rfl⟩ := trodAll_nil r0
  obtain rfl : args = #[v0] := by cases args; simp_all
  obtain ⟨rfl, rfl⟩ := trodVars_none hV
  obtain ⟨a0, len0, cap0, rfl⟩ := okWide_slice Try.underlying22 (hval 0 22 v0 rfl rfl)
  have k0 := h0
  have lt0 : ∀ x ∈ p0, x.block < W.heap.size := by obtain ⟨m, hm⟩ := k0; exact DataW.trod_lt m _ _ _ hm
  obtain ⟨z0, w0⟩ : ∃ zs, IsRow .u8 W a0 len0 cap0 zs := by
    obtain ⟨fuel, hf⟩ := h0
    rcases open_ints Try.underlying22 Try.underlying5 (by kernel_rfl) hf with ⟨hcs, _⟩ | ⟨x, l, c, zs, hcs, _, hl, hm, hz, _, hcell, hwz⟩
    · simp [Value.cells] at hcs
      obtain ⟨rfl, rfl, rfl⟩ := hcs
      exact ⟨[], .inl ⟨rfl, rfl, rfl, rfl⟩⟩
    · simp [Value.cells] at hcs
      obtain ⟨rfl, rfl, rfl⟩ := hcs
      exact ⟨zs, .inr ⟨_, rfl, hl, hm, by simpa using hz, hcell, hwz⟩⟩
  clear hA0 hval0
  refine (walk a0 len0 cap0 z0 W w0).mono fun e W' ⟨he, bel⟩ => ?_
  subst he
  exact ⟨_, rfl, _, _, _, [], _, [], hW', trodAll_mk1 (shut_bool Try.underlying4 _), (trodAll_cons_mk (Below.trod laidOut (by kernel_rfl) (of_decide_eq_true (by kernel_rfl)) k0 bel lt0) trodAll_mk0), rfl, bel.frame _, fun h => by cases h⟩

theorem over : Rows.fnLogGrowsRow.holds Try.pinned (OpenSpec.ofChange Rows.fnLogGrowsSpec) :=
  OpenClaim.holds_of_wide 3 Try.f3 rfl rfl rfl rfl rfl rfl rfl ⟨rfl, rfl, rfl, rfl, rfl⟩ rfl rfl rfl rfl rfl (by kernel_rfl) Try.func3 (by kernel_rfl)
    (of_decide_eq_true (by kernel_rfl)) (by unfold Func.isWrapper; first | (rw [if_pos (by decide +kernel)]; kernel_rfl) | (rw [if_neg (by decide +kernel)]; exact ⟨rfl, rfl⟩))
    (fun os started H enc _ => lifted os started H enc)

theorem proved : Rows.FnLogGrowsSaid := over
#print axioms proved
end Go.Proofs.Ytdpaocikmijioac.fnLogGrows
namespace Go.Proofs.Ytdpaocikmijioac
theorem fnLogGrows_holds : Rows.FnLogGrowsSaid := fnLogGrows.proved
end Go.Proofs.Ytdpaocikmijioac
