/-
  What was said since some number, joined with what was said before, is all that was said; what is not kept is told so, at every code. No conditions but the statement’s own.
-/
import Derived.Test.YtdpaocikmijioabRows
import Derived.Test.YtdpaocikmijioabIJnP
import Derived.Test.YtdpaocikmijioabIStSame
import Derived.Test.YtdpaocikmijioabL3Q
import Derived.WalkKit
import Derived.ProofKit
import Derived.OpenShut
import Derived.ShutString
import Derived.ChangeOld
import Derived.Below
namespace Go.Proofs.Ytdpaocikmijioab.fnLogged
open Go.ChangeShapes Go.WideShapes Go.ChangeAt Go.RowKit
open Go.ChangeMaps (open_string shut_string)
set_option linter.unusedVariables false

theorem own : ownKnob Try.prog.godebug = none := by kernel_rfl
theorem laidOut : laidOutB Try.prog = true := by kernel_rfl

/-- WHAT THE WALK IS TOLD OF A SLICE OF INTEGERS THAT CAME IN: it is nil; or it leads to a row of 'cap' cells, the numbers 'zs' (the first 'len' are its elements, the rest its spare room), each fitting its kind. -/
def IsRow (k : IntKind) (w : World) (a : Option Addr) (len cap : Nat) (zs : List Int) : Prop :=
  (a = none ∧ len = 0 ∧ cap = 0 ∧ zs = []) ∨
  ∃ x, a = some x ∧ len ≤ cap ∧ cap ≤ maxLen ∧ zs.length = cap ∧ (∀ i, i < zs.length → w.cell? (x.add i) = some (.int k (zs.getD i 0))) ∧ ∀ n ∈ zs, (Lit.int k n).wf = true

/-! ### STEP 1: THE WALK: the Go text returns true, AND WRITES NOTHING THAT WAS THERE: 'Below w.heap.size w w'' (Derived/Below.lean: '.refl', '.alloc', '.drew', '.setCell' at a new block, '.trans'). Open each 'IsRow' by 'rcases' AHEAD of 'go_enter'; part every test ahead of the walk. -/
set_option maxRecDepth 100000 in
set_option maxHeartbeats 4000000 in
theorem walk (a0 : Option Addr) (len0 cap0 : Nat) (z0 : List Int) (w : World) (w0 : IsRow .u8 w a0 len0 cap0 z0) :
    Calls Try.prog 5 #[.slice a0 len0 cap0] w fun e w' => e = .returned (.bool true) ∧ Below w.heap.size w w' := by
  obtain ⟨xs, hxl, hseg, hbd⟩ := seg_of_row w0
  subst hxl
  by_cases hbig : 1048576 < xs.length
  · clear w0 hseg hbd
    go_enter Try.func5, Try.ntmps5
    go_wp2
    go_ret
    exact ⟨rfl, Below.refl _ _⟩
  have hlen : xs.length ≤ 1048576 := by omega
  have HS0 := hide hseg
  have HD := hide hbd
  clear hseg hbd w0
  go_enter Try.func5, Try.ntmps5
  go_wp2_with fail
  refine (big_no _ _ _ _ hbig).mono ?_
  rintro e _ ⟨rfl, rfl⟩
  go_wp2_with fail
  refine (drawlogsince_any _ xs _ hlen (unhide HD) (unhide HS0)).mono ?_
  rintro e w1 ⟨c, f, a, n, cap, ss, seq, rfl, r1, ln, sm, b1⟩
  have R_l := hide r1
  have BL := hide b1
  have HS := hide sm.sml
  have ht := sm.tot
  have e1 := r1.len.1
  have HLN := hide e1
  obtain ⟨k1, k4⟩ : n ≤ 6 ∧ tot ss ≤ 100 := by omega
  clear r1 b1 sm ln ht e1
  obtain ⟨ok, hok⟩ : ∃ ok, kps c f ss seq = ok := ⟨_, rfl⟩
  obtain ⟨hl1, hl2⟩ : (lsn ok f seq ss).1.length ≤ 5 ∧ (lsn ok f seq ss).2.length ≤ 5 := by
    cases ok
    · simp [lsn]
    · obtain ⟨k, m, -, -, hk, hko, -⟩ := kps_parts rfl hok
      rw [lsn, if_pos rfl]
      exact (jnL_ok (okL_drop hko _)).len5
  obtain ⟨n1, hm1⟩ : ∃ n, (lsn ok f seq ss).1.length = n := ⟨_, rfl⟩
  obtain ⟨n2, hm2⟩ : ∃ n, (lsn ok f seq ss).2.length = n := ⟨_, rfl⟩
  rw [hm1] at hl1
  rw [hm2] at hl2
  have HOK := hide hok
  have HN1 := hide hm1
  have HN2 := hide hm2
  have hne : (ok != ok) = false := by cases ok <;> rfl
  clear hok hm1 hm2
  go_wp2_with fail
  refine (ilogsince_any c f a n cap ss seq ok HOK n1 n2 HN1 HN2 _ (by omega) (by omega) ((unhide R_l).alloc _)).mono ?_
  rintro e w2 ⟨s1, t1, s2, t2, rfl, o1, o2, b2⟩
  have cw2 := ((Below.refl w1.heap.size w1).alloc (Nat.le_refl _) _).trans (b2.mono (by simp <;> omega))
  have zw2 := cw2.size
  have K_l : Hid (w2.heap[w1.heap.size]? = some (.cells #[.int .i64 c, .int .i64 f, .slice a n cap] 51 (0, 0)) ∧ w1.heap.size < w2.heap.size) := hide ⟨(b2.block _ (by simp <;> omega)).trans (newB1 w1 _), by have := b2.size; simp at this; omega⟩
  have y_l := (unhide K_l).2
  have R_l := hide ((unhide R_l).later cw2)
  have BL := hide ((unhide BL).trans (cw2.mono (unhide BL).size))
  have R_S1 := hide (o1.rw encI_len)
  have R_S2 := hide (o2.rw encF_len)
  clear b2 cw2
  obtain ⟨l_0, l_1, l_2, -⟩ := blk_cells3 (unhide K_l).1
  have n_l := (unhide K_l).2
  clear o1 o2
  go_wp2_with fail
  refine (slogsince_any c f a n cap ss seq ok HOK n1 n2 HN1 HN2 _ (by omega) (by omega) ((unhide R_l).alloc _)).mono ?_
  rintro e w3 ⟨z1, y1, z2, y2, rfl, o1, o2, b3⟩
  clear l_0 l_1 l_2 n_l
  have cw3 := ((Below.refl w2.heap.size w2).alloc (Nat.le_refl _) _).trans (b3.mono (by simp <;> omega))
  have zw3 := cw3.size
  have K_l := hide (keptblk cw3 K_l)
  have K_s : Hid (w3.heap[w2.heap.size]? = some (.cells #[.slice s1 n1 t1, .slice s2 n2 t2] 27 (0, 0)) ∧ w2.heap.size < w3.heap.size) := hide ⟨(b3.block _ (by simp <;> omega)).trans (newB1 w2 _), by have := b3.size; simp at this; omega⟩
  have y_s := (unhide K_s).2
  have R_l := hide ((unhide R_l).later cw3)
  have R_S1 := hide ((unhide R_S1).later cw3)
  have R_S2 := hide ((unhide R_S2).later cw3)
  have BL := hide ((unhide BL).trans (cw3.mono (unhide BL).size))
  clear b3 cw3
  obtain ⟨l_0, l_1, l_2, -⟩ := blk_cells3 (unhide K_l).1
  have n_l := (unhide K_l).2
  obtain ⟨s_0, s_1, -⟩ := blk_cells2 (unhide K_s).1
  have n_s := (unhide K_s).2
  clear o1 o2
  cases ok
  · obtain rfl : n1 = 0 := by rw [← unhide HN1]; simp [lsn]
    have hen : (((0 : Nat) : Int) == 0) = true := by simp
    go_wp2
    go_ret
    exact ⟨rfl, (unhide BL).alloc (unhide BL).size _⟩
  obtain ⟨k, m, hk, hs, htn, hkL, h8, hf0, hf1, hf2⟩ := kps_parts (unhide HLN) (unhide HOK)
  obtain ⟨L1, L2, L3⟩ := kps_iff.1 (unhide HOK)
  rw [← unhide HLN] at L3
  obtain ⟨⟨cc1, cc2⟩, cn, -, -, -⟩ := lok_iff.1 L1
  rw [← unhide HLN] at cn
  obtain ⟨tS, htS⟩ : ∃ t, jnL (ss.drop k) = t := ⟨_, rfl⟩
  obtain ⟨tH, htH⟩ : ∃ t, jnL (ss.take k) = t := ⟨_, rfl⟩
  obtain ⟨tA, htA⟩ : ∃ t, jnL ss = t := ⟨_, rfl⟩
  have hkT := okL_take hkL k
  have hkD := okL_drop hkL k
  have oS := jnL_ok hkD
  have oH := jnL_ok hkT
  have oA := jnL_ok hkL
  have happ := jnL_app hkT hkD
  rw [List.take_append_drop, htA, htH, htS] at happ
  rw [htS] at oS
  rw [htH] at oH
  rw [htA] at oA
  have HLS : Hid (lsn true f seq ss = tS) := hide (by rw [lsn, if_pos rfl, htn, htS])
  have R_S1 := hide (show Rw encI 6 _ _ tS.1 from by have h := unhide R_S1; rw [unhide HLS] at h; exact h)
  have R_S2 := hide (show Rw encF 2 _ _ tS.2 from by have h := unhide R_S2; rw [unhide HLS] at h; exact h)
  have HF0 : Hid (kps c f ss f = true) := hide (kps_iff.2 ⟨L1, Int.le_refl _, by omega⟩)
  have HLA : Hid (lsn true f f ss = tA) := hide (by rw [lsn, if_pos rfl, show (f - f).toNat = 0 by omega, List.drop_zero, htA])
  obtain ⟨p1, hp1⟩ : ∃ p, tA.1.length = p := ⟨_, rfl⟩
  obtain ⟨p2, hp2⟩ : ∃ p, tA.2.length = p := ⟨_, rfl⟩
  have pA1 := oA.len5.1
  have pA2 := oA.len5.2
  rw [hp1] at pA1
  rw [hp2] at pA2
  have HP1 : Hid ((lsn true f f ss).1.length = p1) := hide (by rw [unhide HLA]; exact hp1)
  have HP2 : Hid ((lsn true f f ss).2.length = p2) := hide (by rw [unhide HLA]; exact hp2)
  have HLD : Hid (m = (ss.drop k).length) := hide (by rw [List.length_drop, ← unhide HLN]; omega)
  have L4 : lok c seq (ss.drop k) = true := lok_iff.2 ⟨⟨cc1, cc2⟩, by rw [← unhide HLD]; omega, ⟨by omega, by omega⟩, by rw [← unhide HLD]; omega, hkD⟩
  have HLDO : Hid (lok c seq (ss.drop k) = true) := hide L4
  have HSD : Hid (lsq c seq (ss.drop k) = f + (n : Int)) := hide (by rw [lsq, if_pos L4, ← unhide HLD]; omega)
  have HSL : Hid (lsq c f ss = f + (n : Int)) := hide (by rw [lsq, if_pos L1, unhide HLN])
  have HDR : Hid (ldr true f seq ss = (seq, ss.drop k)) := hide (by rw [ldr, if_pos rfl, htn])
  have HKD : Hid (kps c seq (ss.drop k) seq = true) := hide (kps_iff.2 ⟨L4, Int.le_refl _, by omega⟩)
  have HLG : Hid (lsn true seq seq (ss.drop k) = tS) := hide (by rw [lsn, if_pos rfl, show (seq - seq).toNat = 0 by omega, List.drop_zero, htS])
  have HG1 : Hid ((lsn true seq seq (ss.drop k)).1.length = n1) := hide (by rw [unhide HLG, ← unhide HLS]; exact unhide HN1)
  have HG2 : Hid ((lsn true seq seq (ss.drop k)).2.length = n2) := hide (by rw [unhide HLG, ← unhide HLS]; exact unhide HN2)
  have htD : tot (ss.drop k) ≤ 100 := by have h := tot_app (ss.take k) (ss.drop k); rw [List.take_append_drop] at h; omega
  have HJO : Hid ((okS tH.1 tH.2 && okS tS.1 tS.2) = true) := hide (by rw [(okS_iff _ _).2 oH, (okS_iff _ _).2 oS]; rfl)
  have HJ1 : Hid (jnI true tH.1 tH.2 tS.1 tS.2 = tA.1) := hide (by rw [happ]; rfl)
  have HJ2 : Hid (jnF true tH.2 tS.2 = tA.2) := hide (by rw [happ]; rfl)
  have HQ1 : Hid ((jnI true tH.1 tH.2 tS.1 tS.2).length = p1) := hide (by rw [unhide HJ1]; exact hp1)
  have HQ2 : Hid ((jnF true tH.2 tS.2).length = p2) := hide (by rw [unhide HJ2]; exact hp2)
  have hH1 := oH.len5.1
  have hH2 := oH.len5.2
  have HTH := hide htH
  have HKL := hide hkL
  have HTN := hide htn
  have HKK := hide hk
  have hkn : k ≤ n := by omega
  have hmn : m ≤ 6 := by omega
  clear hk htn hkL L1 L2 L3 L4 cn htS htH htA hkT hkD oS oH oA happ hp1 hp2
  go_wp2_with fail
  refine (ilogsince_any c f a n cap ss f true HF0 p1 p2 HP1 HP2 _ (by omega) (by omega) ((unhide R_l).alloc _)).mono ?_
  rintro e w4 ⟨u1, v1, u2, v2, rfl, o1, o2, b4⟩
  clear l_0 l_1 l_2 n_l s_0 s_1 n_s
  have cw4 := ((Below.refl w3.heap.size w3).alloc (Nat.le_refl _) _).trans (b4.mono (by simp <;> omega))
  have zw4 := cw4.size
  have K_l := hide (keptblk cw4 K_l)
  have K_s := hide (keptblk cw4 K_s)
  have K_z : Hid (w4.heap[w3.heap.size]? = some (.cells #[.slice z1 n1 y1, .slice z2 n2 y2] 27 (0, 0)) ∧ w3.heap.size < w4.heap.size) := hide ⟨(b4.block _ (by simp <;> omega)).trans (newB1 w3 _), by have := b4.size; simp at this; omega⟩
  have y_z := (unhide K_z).2
  have R_l := hide ((unhide R_l).later cw4)
  have R_S1 := hide ((unhide R_S1).later cw4)
  have R_S2 := hide ((unhide R_S2).later cw4)
  have BL := hide ((unhide BL).trans (cw4.mono (unhide BL).size))
  clear b4 cw4
  obtain ⟨l_0, l_1, l_2, -⟩ := blk_cells3 (unhide K_l).1
  have n_l := (unhide K_l).2
  obtain ⟨s_0, s_1, -⟩ := blk_cells2 (unhide K_s).1
  have n_s := (unhide K_s).2
  obtain ⟨z_0, z_1, -⟩ := blk_cells2 (unhide K_z).1
  have n_z := (unhide K_z).2
  rw [unhide HLA] at o1 o2
  have R_A1 := hide (o1.rw encI_len)
  have R_A2 := hide (o2.rw encF_len)
  clear o1 o2
  go_upto_region 11 with fail
  obtain ⟨wA, hwA⟩ : ∃ W, W = w4.alloc (.cells #[.slice u1 p1 v1, .slice u2 p2 v2] 27) := ⟨_, rfl⟩
  rw [← hwA]
  have cwA : Below w4.heap.size w4 wA := by rw [hwA]; exact (Below.refl _ _).alloc (Nat.le_refl _) _
  have K_A : Hid (wA.heap[w4.heap.size]? = some (.cells #[.slice u1 p1 v1, .slice u2 p2 v2] 27 (0, 0)) ∧ w4.heap.size < wA.heap.size) := hide ⟨by rw [hwA]; exact heap_alloc_new _ _, by rw [hwA]; simp⟩
  clear hwA
  clear l_0 l_1 l_2 n_l s_0 s_1 n_s z_0 z_1 n_z
  have zwA := cwA.size
  have K_l := hide (keptblk cwA K_l)
  have K_s := hide (keptblk cwA K_s)
  have K_z := hide (keptblk cwA K_z)
  have R_l := hide ((unhide R_l).later cwA)
  have R_S1 := hide ((unhide R_S1).later cwA)
  have R_S2 := hide ((unhide R_S2).later cwA)
  have R_A1 := hide ((unhide R_A1).later cwA)
  have R_A2 := hide ((unhide R_A2).later cwA)
  have BL := hide ((unhide BL).trans (cwA.mono (unhide BL).size))
  clear cwA
  obtain ⟨l_0, l_1, l_2, -⟩ := blk_cells3 (unhide K_l).1
  have n_l := (unhide K_l).2
  obtain ⟨s_0, s_1, -⟩ := blk_cells2 (unhide K_s).1
  have n_s := (unhide K_s).2
  obtain ⟨z_0, z_1, -⟩ := blk_cells2 (unhide K_z).1
  have n_z := (unhide K_z).2
  clear l_0 l_1 l_2 n_l s_0 s_1 n_s z_0 z_1 n_z
  obtain ⟨l_0, l_1, l_2, -⟩ := blk_cells3 (unhide K_l).1
  have n_l := (unhide K_l).2
  go_wp2
  clear l_0 l_1 l_2
  go_loopw [12] (fun i wr => ∃ (j : Nat) (x1 x2 : Value), j ≤ k ∧ i = .int .i64 j ∧ Below wA.heap.size wA wr ∧ wr.heap[wA.heap.size]? = some (.cells #[x1, x2] 27 (0, 0)) ∧ OwI (wA.heap.size + 1) wr x1 (jnL (ss.take j)).1 ∧ OwF (wA.heap.size + 1) wr x2 (jnL (ss.take j)).2) (fun i _ => k - (intOf i).toNat)
  case atStart => exact ⟨0, .slice none 0 0, .slice none 0 0, Nat.zero_le _, rfl, (Below.refl _ _).alloc (Nat.le_refl _) _, heap_alloc_new _ _, World.ownsRow_nil _ _ _ _, World.ownsRow_nil _ _ _ _⟩
  case round =>
    obtain ⟨j, x1, x2, hj, rfl, hb, hkh, ho1, ho2⟩ := hrel
    obtain ⟨b1, e1, rfl⟩ := ho1.form
    obtain ⟨b2, e2, rfl⟩ := ho2.form
    have hzh : wA.heap.size < wr.heap.size := (Array.getElem?_eq_some_iff.1 hkh).1
    have hJ := jnL_ok (okL_take (unhide HKL) j)
    have kl := keptblk hb K_l
    obtain ⟨l_0, l_1, l_2, -⟩ := blk_cells3 kl.1
    have n_lr := kl.2
    by_cases hlt : j < k
    · obtain ⟨xs', fs', ai, ni, ci, af, nf, cf, b, off, hx, ha0, hbw, hcap, c0, c1, rx, rf⟩ := (unhide R_l).at (show j < n by omega)
      have hjn : j < n := by omega
      subst ha0
      have d0 := (hb.cell (p := ⟨b, off + j * 2, none⟩) hbw).trans c0
      have d1 := (hb.cell (p := ⟨b, off + j * 2 + 1, none⟩) hbw).trans c1
      have hoks : okS xs' fs' = true := okL_at (unhide HKL) hx
      have hO := (okS_iff _ _).1 hoks
      have hn5 : ni ≤ 5 := by have := hO.len5.1; have := rx.len.1; omega
      have hf5 : nf ≤ 5 := by have := hO.len5.2; have := rf.len.1; omega
      have ll1 := hJ.len5.1
      have ll2 := hJ.len5.2
      have HNX := hide (jnL_next hx)
      have HJ3 : Hid ((okS (jnL (ss.take j)).1 (jnL (ss.take j)).2 && okS xs' fs') = true) := hide (by rw [hoks, (okS_iff _ _).2 hJ]; rfl)
      generalize hjt : jnL (ss.take j) = jt at *
      have hbwr : b < wr.heap.size := Nat.lt_of_lt_of_le hbw hb.size
      have RX := hide ((rx.later hb).later ((Below.refl _ _).drew))
      have RF := hide ((rf.later hb).later ((Below.refl _ _).drew))
      have HBr := hide hb
      have HKH := hide hkh
      have RI := hide ((ho1.rw encI_len).later ((Below.refl _ _).drew))
      have RG := hide ((ho2.rw encF_len).later ((Below.refl _ _).drew))
      generalize hll1 : jt.1.length = q1 at *
      generalize hll2 : jt.2.length = q2 at *
      obtain ⟨g0, g1, gf⟩ := blk_cells2 hkh
      obtain ⟨r1, hr1⟩ : ∃ r, (jnI true jt.1 jt.2 xs' fs').length = r := ⟨_, rfl⟩
      obtain ⟨r2, hr2⟩ : ∃ r, (jnF true jt.2 fs').length = r := ⟨_, rfl⟩
      have HR1 := hide hr1
      have HR2 := hide hr2
      have HLL1 := hide hll1
      have HLL2 := hide hll2
      have HJT := hide hjt
      clear c0 c1 rx rf hx hb hkh ho1 ho2 hoks hO hJ hr1 hr2 hll1 hll2 hjt kl
      go_upto_region 15 with fail
      go_region_law (go_simp; go_at_call 11; refine (ijoin_any b1 q1 e1 jt.1 b2 q2 e2 jt.2 ai ni ci xs' af nf cf fs' true HJ3 r1 r2 HR1 HR2 _ (by omega) (by omega) (by omega) (by omega) (unhide RI) (unhide RG) (unhide RX) (unhide RF)).mono ?_; rintro e w40 ⟨a5, c5, a6, c6, rfl, o5, o6, b4⟩; have b4' : Below wr.heap.size wr w40 := up0 b4; have kg4 := (b4'.block _ hzh).trans (unhide HKH); obtain ⟨t0, t1', tf⟩ := blk_cells2 kg4; have zg4 : wA.heap.size < w40.heap.size := (Array.getElem?_eq_some_iff.1 kg4).1; have HKG4 := hide kg4; have HB4 := hide ((unhide HBr).trans (b4'.mono (unhide HBr).size)); have O5 := hide (Ow.base (base' := wA.heap.size + 1) o5 (by show wA.heap.size + 1 ≤ wr.heap.size; omega)); have O6 := hide (Ow.base (base' := wA.heap.size + 1) o6 (by show wA.heap.size + 1 ≤ wr.heap.size; omega)); clear o5 o6 b4 b4' kg4)
      all_goals
        clear g0 g1 gf d0 d1 l_0 l_1 l_2 HKH HBr RX RF RI RG
        go_wp2
        go_roundw
        case rel =>
          have hqq : ∀ q, some wA.heap.size = some q → ∃ cs fz, w40.heap[q]? = some (.cells cs 27 fz) := fun q e => by cases e; exact ⟨_, _, unhide HKG4⟩
          refine ⟨j + 1, .slice a5 r1 c5, .slice a6 r2 c6, by omega, by go_num, ((unhide HB4).setCell (p := ⟨wA.heap.size, 0, none⟩) (Nat.le_refl _) _).setCell (p := ⟨wA.heap.size, 1, none⟩) (Nat.le_refl _) _, blk_set2 (unhide HKG4) _ _, ?_, ?_⟩
          · rw [unhide HNX]; exact (unhide O5).otherT hqq (by decide) (grownS _ _ _ _)
          · rw [unhide HNX]; exact (unhide O6).otherT hqq (by decide) (grownS _ _ _ _)
        case measure => simp [intOf]; omega
    · have hjk : j = k := by omega
      rw [hjk, unhide HTH] at ho1 ho2 hkh
      rw [hjk]
      have cwr := hb
      have R_H1 := hide (ho1.rw encI_len)
      have R_H2 := hide (ho2.rw encF_len)
      have eh1 := ho1.form
      have K_h := hide (And.intro hkh hzh)
      generalize hqh1 : tH.1.length = q1 at *
      generalize hqh2 : tH.2.length = q2 at *
      have zwr := cwr.size
      clear hb hkh ho1 ho2 hJ kl hlt hj hjk eh1 l_0 l_1 l_2 n_lr
      have K_l := hide (keptblk cwr K_l)
      have K_s := hide (keptblk cwr K_s)
      have K_z := hide (keptblk cwr K_z)
      have K_A := hide (keptblk cwr K_A)
      have R_l := hide ((unhide R_l).later cwr)
      have R_S1 := hide ((unhide R_S1).later cwr)
      have R_S2 := hide ((unhide R_S2).later cwr)
      have R_A1 := hide ((unhide R_A1).later cwr)
      have R_A2 := hide ((unhide R_A2).later cwr)
      have BL := hide ((unhide BL).trans (cwr.mono (unhide BL).size))
      clear cwr
      obtain ⟨l_0, l_1, l_2, -⟩ := blk_cells3 (unhide K_l).1
      have n_l := (unhide K_l).2
      obtain ⟨s_0, s_1, -⟩ := blk_cells2 (unhide K_s).1
      have n_s := (unhide K_s).2
      obtain ⟨z_0, z_1, -⟩ := blk_cells2 (unhide K_z).1
      have n_z := (unhide K_z).2
      obtain ⟨A_0, A_1, -⟩ := blk_cells2 (unhide K_A).1
      have n_A := (unhide K_A).2
      obtain ⟨h_0, h_1, -⟩ := blk_cells2 (unhide K_h).1
      have n_h := (unhide K_h).2
      go_wp2_with fail
      refine (ijoin_any b1 q1 e1 tH.1 b2 q2 e2 tH.2 s1 n1 t1 tS.1 s2 n2 t2 tS.2 true HJO p1 p2 HQ1 HQ2 _ (by omega) (by omega) (by omega) (by omega) (unhide R_H1) (unhide R_H2) (unhide R_S1) (unhide R_S2)).mono ?_
      rintro e w5 ⟨j1, i1, j2, i2, rfl, o1, o2, b5⟩
      clear A_0 A_1 n_A h_0 h_1 n_h l_0 l_1 l_2 n_l s_0 s_1 n_s z_0 z_1 n_z
      have cw5 := b5
      have zw5 := cw5.size
      have K_l := hide (keptblk cw5 K_l)
      have K_s := hide (keptblk cw5 K_s)
      have K_z := hide (keptblk cw5 K_z)
      have K_A := hide (keptblk cw5 K_A)
      have K_h := hide (keptblk cw5 K_h)
      have R_l := hide ((unhide R_l).later cw5)
      have R_S1 := hide ((unhide R_S1).later cw5)
      have R_S2 := hide ((unhide R_S2).later cw5)
      have R_A1 := hide ((unhide R_A1).later cw5)
      have R_A2 := hide ((unhide R_A2).later cw5)
      have R_H1 := hide ((unhide R_H1).later cw5)
      have R_H2 := hide ((unhide R_H2).later cw5)
      have BL := hide ((unhide BL).trans (cw5.mono (unhide BL).size))
      clear b5 cw5
      obtain ⟨l_0, l_1, l_2, -⟩ := blk_cells3 (unhide K_l).1
      have n_l := (unhide K_l).2
      obtain ⟨s_0, s_1, -⟩ := blk_cells2 (unhide K_s).1
      have n_s := (unhide K_s).2
      obtain ⟨z_0, z_1, -⟩ := blk_cells2 (unhide K_z).1
      have n_z := (unhide K_z).2
      obtain ⟨A_0, A_1, -⟩ := blk_cells2 (unhide K_A).1
      have n_A := (unhide K_A).2
      obtain ⟨h_0, h_1, -⟩ := blk_cells2 (unhide K_h).1
      have n_h := (unhide K_h).2
      rw [unhide HJ1] at o1
      rw [unhide HJ2] at o2
      have R_J1 := hide (o1.rw encI_len)
      have R_J2 := hide (o2.rw encF_len)
      clear o1 o2
      go_wp2_with fail
      refine (ilogdrop_any c f a n cap ss seq true HOK seq (ss.drop k) HDR m HLD (unhide HS) (by omega) _ (by omega) ((unhide R_l).alloc _)).mono ?_
      rintro e w6 ⟨x1, y3, rfl, o1, b6⟩
      clear A_0 A_1 n_A h_0 h_1 n_h l_0 l_1 l_2 n_l s_0 s_1 n_s z_0 z_1 n_z
      have cw6 := ((Below.refl w5.heap.size w5).alloc (Nat.le_refl _) _).trans (b6.mono (by simp <;> omega))
      have zw6 := cw6.size
      have K_l := hide (keptblk cw6 K_l)
      have K_s := hide (keptblk cw6 K_s)
      have K_z := hide (keptblk cw6 K_z)
      have K_A := hide (keptblk cw6 K_A)
      have K_h := hide (keptblk cw6 K_h)
      have K_j : Hid (w6.heap[w5.heap.size]? = some (.cells #[.slice j1 p1 i1, .slice j2 p2 i2] 27 (0, 0)) ∧ w5.heap.size < w6.heap.size) := hide ⟨(b6.block _ (by simp <;> omega)).trans (newB1 w5 _), by have := b6.size; simp at this; omega⟩
      have y_j := (unhide K_j).2
      have R_l := hide ((unhide R_l).later cw6)
      have R_S1 := hide ((unhide R_S1).later cw6)
      have R_S2 := hide ((unhide R_S2).later cw6)
      have R_A1 := hide ((unhide R_A1).later cw6)
      have R_A2 := hide ((unhide R_A2).later cw6)
      have R_H1 := hide ((unhide R_H1).later cw6)
      have R_H2 := hide ((unhide R_H2).later cw6)
      have R_J1 := hide ((unhide R_J1).later cw6)
      have R_J2 := hide ((unhide R_J2).later cw6)
      have BL := hide ((unhide BL).trans (cw6.mono (unhide BL).size))
      have R_D := hide (o1.rw)
      clear b6 cw6
      obtain ⟨l_0, l_1, l_2, -⟩ := blk_cells3 (unhide K_l).1
      have n_l := (unhide K_l).2
      obtain ⟨s_0, s_1, -⟩ := blk_cells2 (unhide K_s).1
      have n_s := (unhide K_s).2
      obtain ⟨z_0, z_1, -⟩ := blk_cells2 (unhide K_z).1
      have n_z := (unhide K_z).2
      obtain ⟨A_0, A_1, -⟩ := blk_cells2 (unhide K_A).1
      have n_A := (unhide K_A).2
      obtain ⟨h_0, h_1, -⟩ := blk_cells2 (unhide K_h).1
      have n_h := (unhide K_h).2
      obtain ⟨j_0, j_1, -⟩ := blk_cells2 (unhide K_j).1
      have n_j := (unhide K_j).2
      clear o1
      go_wp2_with fail
      refine (ilogsince_any c seq x1 m y3 (ss.drop k) seq true HKD n1 n2 HG1 HG2 _ (by omega) (by omega) ((unhide R_D).alloc _)).mono ?_
      rintro e w7 ⟨g1, h1, g2, h2, rfl, o1, o2, b7⟩
      clear A_0 A_1 n_A h_0 h_1 n_h j_0 j_1 n_j l_0 l_1 l_2 n_l s_0 s_1 n_s z_0 z_1 n_z
      have cw7 := ((Below.refl w6.heap.size w6).alloc (Nat.le_refl _) _).trans (b7.mono (by simp <;> omega))
      have zw7 := cw7.size
      have K_l := hide (keptblk cw7 K_l)
      have K_s := hide (keptblk cw7 K_s)
      have K_z := hide (keptblk cw7 K_z)
      have K_A := hide (keptblk cw7 K_A)
      have K_h := hide (keptblk cw7 K_h)
      have K_j := hide (keptblk cw7 K_j)
      have K_D : Hid (w7.heap[w6.heap.size]? = some (.cells #[.int .i64 c, .int .i64 seq, .slice x1 m y3] 51 (0, 0)) ∧ w6.heap.size < w7.heap.size) := hide ⟨(b7.block _ (by simp <;> omega)).trans (newB1 w6 _), by have := b7.size; simp at this; omega⟩
      have y_D := (unhide K_D).2
      have R_l := hide ((unhide R_l).later cw7)
      have R_S1 := hide ((unhide R_S1).later cw7)
      have R_S2 := hide ((unhide R_S2).later cw7)
      have R_A1 := hide ((unhide R_A1).later cw7)
      have R_A2 := hide ((unhide R_A2).later cw7)
      have R_H1 := hide ((unhide R_H1).later cw7)
      have R_H2 := hide ((unhide R_H2).later cw7)
      have R_J1 := hide ((unhide R_J1).later cw7)
      have R_J2 := hide ((unhide R_J2).later cw7)
      have R_D := hide ((unhide R_D).later cw7)
      have BL := hide ((unhide BL).trans (cw7.mono (unhide BL).size))
      clear b7 cw7
      obtain ⟨l_0, l_1, l_2, -⟩ := blk_cells3 (unhide K_l).1
      have n_l := (unhide K_l).2
      obtain ⟨s_0, s_1, -⟩ := blk_cells2 (unhide K_s).1
      have n_s := (unhide K_s).2
      obtain ⟨z_0, z_1, -⟩ := blk_cells2 (unhide K_z).1
      have n_z := (unhide K_z).2
      obtain ⟨A_0, A_1, -⟩ := blk_cells2 (unhide K_A).1
      have n_A := (unhide K_A).2
      obtain ⟨h_0, h_1, -⟩ := blk_cells2 (unhide K_h).1
      have n_h := (unhide K_h).2
      obtain ⟨j_0, j_1, -⟩ := blk_cells2 (unhide K_j).1
      have n_j := (unhide K_j).2
      obtain ⟨D_0, D_1, D_2, -⟩ := blk_cells3 (unhide K_D).1
      have n_D := (unhide K_D).2
      rw [unhide HLG] at o1 o2
      have R_G1 := hide (o1.rw encI_len)
      have R_G2 := hide (o2.rw encF_len)
      clear o1 o2
      go_upto_region 19 with fail
      obtain ⟨wG, hwG⟩ : ∃ W, W = w7.alloc (.cells #[.slice g1 n1 h1, .slice g2 n2 h2] 27) := ⟨_, rfl⟩
      rw [← hwG]
      have cwG : Below w7.heap.size w7 wG := by rw [hwG]; exact (Below.refl _ _).alloc (Nat.le_refl _) _
      have K_G : Hid (wG.heap[w7.heap.size]? = some (.cells #[.slice g1 n1 h1, .slice g2 n2 h2] 27 (0, 0)) ∧ w7.heap.size < wG.heap.size) := hide ⟨by rw [hwG]; exact heap_alloc_new _ _, by rw [hwG]; simp⟩
      clear hwG
      clear A_0 A_1 n_A D_0 D_1 D_2 n_D h_0 h_1 n_h j_0 j_1 n_j l_0 l_1 l_2 n_l s_0 s_1 n_s z_0 z_1 n_z
      have zwG := cwG.size
      have K_l := hide (keptblk cwG K_l)
      have K_s := hide (keptblk cwG K_s)
      have K_z := hide (keptblk cwG K_z)
      have K_A := hide (keptblk cwG K_A)
      have K_h := hide (keptblk cwG K_h)
      have K_j := hide (keptblk cwG K_j)
      have K_D := hide (keptblk cwG K_D)
      have R_l := hide ((unhide R_l).later cwG)
      have R_S1 := hide ((unhide R_S1).later cwG)
      have R_S2 := hide ((unhide R_S2).later cwG)
      have R_A1 := hide ((unhide R_A1).later cwG)
      have R_A2 := hide ((unhide R_A2).later cwG)
      have R_H1 := hide ((unhide R_H1).later cwG)
      have R_H2 := hide ((unhide R_H2).later cwG)
      have R_J1 := hide ((unhide R_J1).later cwG)
      have R_J2 := hide ((unhide R_J2).later cwG)
      have R_D := hide ((unhide R_D).later cwG)
      have R_G1 := hide ((unhide R_G1).later cwG)
      have R_G2 := hide ((unhide R_G2).later cwG)
      have BL := hide ((unhide BL).trans (cwG.mono (unhide BL).size))
      clear cwG
      obtain ⟨l_0, l_1, l_2, -⟩ := blk_cells3 (unhide K_l).1
      have n_l := (unhide K_l).2
      obtain ⟨s_0, s_1, -⟩ := blk_cells2 (unhide K_s).1
      have n_s := (unhide K_s).2
      obtain ⟨z_0, z_1, -⟩ := blk_cells2 (unhide K_z).1
      have n_z := (unhide K_z).2
      obtain ⟨A_0, A_1, -⟩ := blk_cells2 (unhide K_A).1
      have n_A := (unhide K_A).2
      obtain ⟨h_0, h_1, -⟩ := blk_cells2 (unhide K_h).1
      have n_h := (unhide K_h).2
      obtain ⟨j_0, j_1, -⟩ := blk_cells2 (unhide K_j).1
      have n_j := (unhide K_j).2
      obtain ⟨D_0, D_1, D_2, -⟩ := blk_cells3 (unhide K_D).1
      have n_D := (unhide K_D).2
      clear A_0 A_1 n_A D_0 D_1 D_2 n_D h_0 h_1 n_h j_0 j_1 n_j l_0 l_1 l_2 n_l s_0 s_1 n_s z_0 z_1 n_z
      obtain ⟨l_0, l_1, l_2, -⟩ := blk_cells3 (unhide K_l).1
      have ll0 := later_some (w := wG) (unhide K_l).2 l_0
      have ll1 := later_some (w := wG) (unhide K_l).2 l_1
      have ll2 := later_some (w := wG) (unhide K_l).2 l_2
      clear l_0 l_1 l_2
      obtain ⟨s_0, s_1, -⟩ := blk_cells2 (unhide K_s).1
      have ls0 := later_some (w := wG) (unhide K_s).2 s_0
      have ls1 := later_some (w := wG) (unhide K_s).2 s_1
      clear s_0 s_1
      obtain ⟨A_0, A_1, -⟩ := blk_cells2 (unhide K_A).1
      have lA0 := later_some (w := wG) (unhide K_A).2 A_0
      have lA1 := later_some (w := wG) (unhide K_A).2 A_1
      clear A_0 A_1
      obtain ⟨j_0, j_1, -⟩ := blk_cells2 (unhide K_j).1
      have lj0 := later_some (w := wG) (unhide K_j).2 j_0
      have lj1 := later_some (w := wG) (unhide K_j).2 j_1
      clear j_0 j_1
      obtain ⟨D_0, D_1, D_2, -⟩ := blk_cells3 (unhide K_D).1
      have lD0 := later_some (w := wG) (unhide K_D).2 D_0
      have lD1 := later_some (w := wG) (unhide K_D).2 D_1
      have lD2 := later_some (w := wG) (unhide K_D).2 D_2
      clear D_0 D_1 D_2
      obtain ⟨G_0, G_1, -⟩ := blk_cells2 (unhide K_G).1
      have lG0 := later_some (w := wG) (unhide K_G).2 G_0
      have lG1 := later_some (w := wG) (unhide K_G).2 G_1
      clear G_0 G_1
      have hq1 : (f + (n : Int) == f + (n : Int)) = true := by simp
      refine wp_region_later (by kernel_rfl) (by kernel_rfl) ?_
      repeat (go_big_quiet_step (first
        | (go_at_call_of 25 (Value.agg #[Value.slice j1 p1 i1, Value.slice j2 p2 i2]); exact Calls.later_of (isame_any j1 p1 i1 tA.1 j2 p2 i2 tA.2 u1 p1 v1 tA.1 u2 p2 v2 tA.2 true (hide (by simp)) _ (by omega) (by omega) (by omega) (by omega) ((unhide R_J1).in_later _ _) ((unhide R_J2).in_later _ _) ((unhide R_A1).in_later _ _) ((unhide R_A2).in_later _ _)))
        | (go_at_call_of 25 (Value.agg #[Value.slice g1 n1 h1, Value.slice g2 n2 h2]); exact Calls.later_of (isame_any g1 n1 h1 tS.1 g2 n2 h2 tS.2 s1 n1 t1 tS.1 s2 n2 t2 tS.2 true (hide (by simp)) _ (by omega) (by omega) (by omega) (by omega) ((unhide R_G1).in_later _ _) ((unhide R_G2).in_later _ _) ((unhide R_S1).in_later _ _) ((unhide R_S2).in_later _ _)))
        | (go_at_call_of 26 (Value.agg #[Value.int IntKind.i64 c, Value.int IntKind.i64 seq, Value.slice x1 m y3]); exact Calls.later_of (ilogseq_any c seq x1 m y3 (ss.drop k) (f + (n : Int)) HSD _ (by omega) (by omega) ((unhide R_D).later (later_below _ _ _))))
        | (go_at_call_of 26 (Value.agg #[Value.int IntKind.i64 c, Value.int IntKind.i64 f, Value.slice a n cap]); exact Calls.later_of (ilogseq_any c f a n cap ss (f + (n : Int)) HSL _ (by omega) (by omega) ((unhide R_l).later (later_below _ _ _))))
        | (go_at_call 27; exact Calls.later_of (ilogok_any c seq x1 m y3 (ss.drop k) true HLDO _ (by omega) (by omega) ((unhide R_D).later (later_below _ _ _))))))
      refine wpQuiet_nil ?_
      intro w50 hb50
      have BL := hide ((unhide BL).trans (hb50.mono (unhide BL).size))
      clear hb50
      go_wp2
      go_ret
      exact ⟨rfl, unhide BL⟩

/-! ### THE ROW's STEP: WRITTEN OUT: LEAVE IT -/
set_option maxRecDepth 100000 in
theorem lifted (os : Os) (started : os.Started) (H : Type) (enc : TypeId × Value → H) :
    ReturnsInHanded {} Try.checked os 5 .any (Rows.fnLoggedSpec.pre6 enc Try.prog Try.f5 Rows.fnLoggedRow.domain false) (Rows.fnLoggedSpec.post enc Try.prog Try.f5 false true false false) := by
  refine returnsInHanded_of_change (C := Try.checked) own started (by kernel_rfl) Try.func5
    (ChangeSpec.witness6 (enc := enc) (C := Try.checked) false ⟨#[], #[.slice none 0 0], []⟩ 8 (by kernel_rfl) (by kernel_rfl) (by kernel_rfl) (by kernel_rfl)) ?_
  intro W base args ds gs before hval0 hW hcnd _
  have hval : ∀ (j : Nat) t v, Try.f5.params[j]? = some t → args[j]? = some v → Value.okWide Try.prog W .any base t v := hval0
  have hW' := hW
  obtain ⟨p, q, hA0, hV, rfl, hfz, hnd⟩ := hW
  have hA : DataW.TrodAll enc Try.prog W 0 (fun _ => true) true Try.f5.params.toList args.toList ds p := hA0
  rw [Try.params5] at hA hval
  obtain ⟨v0, vs0, d0, ds0, p0, q0, hargs, rfl, rfl, h0, r0⟩ := trodAll_cons hA
  obtain ⟨rfl, rfl, rfl⟩ := trodAll_nil r0
  obtain rfl : args = #[v0] := by cases args; simp_all
  obtain ⟨rfl, rfl⟩ := trodVars_none hV
  obtain ⟨a0, len0, cap0, rfl⟩ := okWide_slice Try.underlying22 (hval 0 22 v0 rfl rfl)
  have k0 := h0
  have lt0 : ∀ x ∈ p0, x.block < W.heap.size := by obtain ⟨m, hm⟩ := k0; exact DataW.trod_lt m _ _ _ hm
  obtain ⟨z0, w0⟩ : ∃ zs, IsRow .u8 W a0 len0 cap0 zs := by
    obtain ⟨fuel, hf⟩ := h0
    rcases open_ints Try.underlying22 Try.underlying5 (by kernel_rfl) hf with ⟨hcs, _⟩ | ⟨x, l, c, zs, hcs, _, hl, hm, hz, _, hcell, hwz⟩
    · simp [Value.cells] at hcs
      obtain ⟨rfl, rfl, rfl⟩ := hcs
      exact ⟨[], .inl ⟨rfl, rfl, rfl, rfl⟩⟩
    · simp [Value.cells] at hcs
      obtain ⟨rfl, rfl, rfl⟩ := hcs
      exact ⟨zs, .inr ⟨_, rfl, hl, hm, by simpa using hz, hcell, hwz⟩⟩
  clear hA0 hval0
  refine (walk a0 len0 cap0 z0 W w0).mono fun e W' ⟨he, bel⟩ => ?_
  subst he
  exact ⟨_, rfl, _, _, _, [], _, [], hW', trodAll_mk1 (shut_bool Try.underlying4 _), (trodAll_cons_mk (Below.trod laidOut (by kernel_rfl) (of_decide_eq_true (by kernel_rfl)) k0 bel lt0) trodAll_mk0), rfl, bel.frame _, fun h => by cases h⟩

theorem over : Rows.fnLoggedRow.holds Try.pinned (OpenSpec.ofChange Rows.fnLoggedSpec) :=
  OpenClaim.holds_of_wide 5 Try.f5 rfl rfl rfl rfl rfl rfl rfl ⟨rfl, rfl, rfl, rfl, rfl⟩ rfl rfl rfl rfl rfl (by kernel_rfl) Try.func5 (by kernel_rfl)
    (of_decide_eq_true (by kernel_rfl)) (by unfold Func.isWrapper; first | (rw [if_pos (by decide +kernel)]; kernel_rfl) | (rw [if_neg (by decide +kernel)]; exact ⟨rfl, rfl⟩))
    (fun os started H enc _ => lifted os started H enc)

theorem proved : Rows.FnLoggedSaid := over
#print axioms proved
end Go.Proofs.Ytdpaocikmijioab.fnLogged
namespace Go.Proofs.Ytdpaocikmijioab
theorem fnLogged_holds : Rows.FnLoggedSaid := fnLogged.proved
end Go.Proofs.Ytdpaocikmijioab
