/-
  What is added to a table is there and nothing is less than it was, and what all know is no more than any knows, at every code. No conditions but the statement's own.
-/
import Derived.Test.YtighiahppjekeaaRows
import Derived.Test.YtighiahppjekeaaL9
import Derived.Test.YtighiahppjekeaaTbW
import Derived.Test.YtighiahppjekeaaOnce
import Derived.WalkKit
import Derived.ProofKit
import Derived.OpenShut
import Derived.ShutString
import Derived.ChangeOld
import Derived.Below
namespace Go.Proofs.Ytighiahppjekeaa.fnTable
open Go.ChangeShapes Go.WideShapes Go.ChangeAt Go.RowKit
open Go.ChangeMaps (open_string shut_string)
set_option linter.unusedVariables false

theorem own : ownKnob Try.prog.godebug = none := by kernel_rfl
theorem laidOut : laidOutB Try.prog = true := by kernel_rfl

/-- WHAT THE WALK IS TOLD OF A SLICE OF INTEGERS THAT CAME IN: it is nil; or it leads to a row of 'cap' cells, the numbers 'zs' (the first 'len' are its elements, the rest its spare room), each fitting its kind. -/
def IsRow (k : IntKind) (w : World) (a : Option Addr) (len cap : Nat) (zs : List Int) : Prop :=
  (a = none ∧ len = 0 ∧ cap = 0 ∧ zs = []) ∨
  ∃ x, a = some x ∧ len ≤ cap ∧ cap ≤ maxLen ∧ zs.length = cap ∧ (∀ i, i < zs.length → w.cell? (x.add i) = some (.int k (zs.getD i 0))) ∧ ∀ n ∈ zs, (Lit.int k n).wf = true

/-! ### STEP 1: THE WALK: the Go text returns true, AND WRITES NOTHING THAT WAS THERE: 'Below w.heap.size w w'' (Derived/Below.lean: '.refl', '.alloc', '.drew', '.setCell' at a new block, '.trans'). Open each 'IsRow' by 'rcases' AHEAD of 'go_enter'; part every test ahead of the walk. -/
set_option maxRecDepth 100000 in
set_option maxHeartbeats 4000000 in
theorem walk (a0 : Option Addr) (len0 cap0 : Nat) (z0 : List Int) (w : World) (w0 : IsRow .u8 w a0 len0 cap0 z0) :
    Calls Try.prog 3 #[.slice a0 len0 cap0] w fun e w' => e = .returned (.bool true) ∧ Below w.heap.size w w' := by
  obtain ⟨xs, hxl, hseg, hbd⟩ := seg_of_row w0
  subst hxl
  by_cases hbig : 1048576 < xs.length
  · clear w0 hseg hbd
    go_enter Try.func3, Try.ntmps3
    go_wp2
    go_ret
    exact ⟨rfl, Below.refl _ _⟩
  have hlen : xs.length ≤ 1048576 := by omega
  have HS0 := hide hseg
  have HD := hide hbd
  clear hseg hbd w0
  go_enter Try.func3, Try.ntmps3
  go_wp2_with fail
  refine (big_no _ _ _ _ hbig).mono ?_
  rintro e _ ⟨rfl, rfl⟩
  go_wp2_with fail
  refine (drawtableadd_any _ xs _ hlen (unhide HD) (unhide HS0)).mono ?_
  rintro e w1 ⟨a, n, c, t, k, b, m, d, ms, rfl, hn, hle, hk, hm, ot, om, b1⟩
  have HLE := hide hle
  have T_t := hide ot.rw
  have R_M := hide (om.rw encF_len)
  have BB := hide b1
  have htt : totG t ≤ 20 := by
    have h2 := tot_le5 hle
    have h1 := ot.rw.len.1
    omega
  clear hle ot om b1
  go_wp2_with fail
  refine (itableadd_any a n c t k b m d ms w1 (by omega) (by omega) (by omega) (unhide T_t) (unhide R_M)).mono ?_
  rintro e w2 ⟨ua, uc, rfl, o2, b2⟩
  have T_u := hide o2.rw
  replace T_t := hide ((unhide T_t).later b2)
  replace R_M := hide ((unhide R_M).later b2)
  replace BB := hide ((unhide BB).trans (b2.mono (unhide BB).size))
  clear o2 b2
  go_wp2_with fail
  refine (stableadd_any a n c t k b m d ms w2 (by omega) (by omega) (by omega) (unhide T_t) (unhide R_M)).mono ?_
  rintro e w3 ⟨va, vc, rfl, o3, b3⟩
  have T_v := hide o3.rw
  replace T_t := hide ((unhide T_t).later b3)
  replace T_u := hide ((unhide T_u).later b3)
  replace BB := hide ((unhide BB).trans (b3.mono (unhide BB).size))
  clear o3 b3 R_M
  have hd : ((n : Int) != (n : Int)) = false := by simp
  have HG : Hid (∀ (i : Nat) (r s : List Int), t[i]? = some r → (addT t k ms)[i]? = some s → s.length = r.length ∧ ∀ x, nAt r x ≤ nAt s x) := hide (fun i r s hr hs => addT_ge hr hs)
  have HLT : Hid (∀ (i : Nat) (q : List Int), t[i]? = some q → q.length ≤ 140737488351232) := hide (fun i q hq => by have := unhide HLE q (List.mem_of_getElem? hq); omega)
  have HLU : Hid (∀ (i : Nat) (q : List Int), (addT t k ms)[i]? = some q → q.length ≤ 5) := hide (fun i q hq => by
    have hi : i < t.length := by have := (List.getElem?_eq_some_iff.1 hq).1; rw [addT_len] at this; exact this
    have := (addT_ge (List.getElem?_eq_getElem hi) hq).1
    rw [this]
    exact unhide HLE _ (List.getElem_mem hi))
  clear htt hm
  generalize addT t k ms = u at T_u T_v HG HLU
  have HLU2 : Hid (∀ (i : Nat) (q : List Int), u[i]? = some q → q.length ≤ 140737488351232) := hide (fun i q hq => by have := unhide HLU i q hq; omega)
  go_wp2
  go_loopw [8] (fun i wr => ∃ k : Nat, k ≤ n ∧ i = .int .i64 k ∧ Below w3.heap.size w3 wr) (fun i _ => n - (intOf i).toNat)
  case atStart => exact ⟨0, Nat.zero_le _, rfl, Below.refl _ _⟩
  case round =>
    rename World => wo
    obtain ⟨i, hi, rfl, hbel⟩ := hrel
    have HBL := hide hbel
    have hsz := hbel.size
    have TU := hide ((unhide T_u).later hbel)
    have TV := hide ((unhide T_v).later hbel)
    have TT := hide ((unhide T_t).later hbel)
    clear hbel
    by_cases hlt : i < n
    · obtain ⟨s, sa, sn, sc, ub, uo, hs, rfl, hub, hucap, u0, rs, -⟩ := (unhide TU).at hlt
      obtain ⟨s2, qa, qn, qc, vb, vo, hs2, rfl, hvb, hvcap, v0, rq, -⟩ := (unhide TV).at hlt
      obtain rfl : s = s2 := by rw [hs] at hs2; exact Option.some.inj hs2
      obtain ⟨r, ra, rn, rc, tb, tof, hr, rfl, htb, htcap, t0, rr, -⟩ := (unhide TT).at hlt
      obtain rfl : qn = sn := by rw [rq.len.1, rs.len.1]
      have hg := unhide HG i r s hr hs
      obtain rfl : rn = qn := by rw [rr.len.1, rs.len.1, hg.1]
      have hl5 : rn ≤ 5 := by rw [rs.len.1]; exact unhide HLU i s hs
      have HGE := hide hg.2
      have HSI := hide hs
      have RS := hide rs
      have RR := hide rr
      have RQ := hide rq
      have hd2 : ((rn : Int) != (rn : Int)) = false := by simp
      have lu := later_some (w := wo) (b := ub) (o := uo + i) hub u0
      have lv := later_some (w := wo) (b := vb) (o := vo + i) hvb v0
      have lt := later_some (w := wo) (b := tb) (o := tof + i) htb t0
      have U0 := hide u0
      have T0 := hide t0
      clear hs hs2 hr hg rs rr rq u0 v0 t0
      go_wp2_with fail
      refine wp_region_later (by kernel_rfl) (by kernel_rfl) ?_
      repeat (go_big_quiet_step (first
        | (go_at_call 11; exact Calls.later_of (sameints_any sa rn sc qa qc s _ (by omega) ((unhide RS).later (later_below _ _ _)) ((unhide RQ).later (later_below _ _ _))))))
      refine wpQuiet_nil ?_
      intro w9 b9
      have HB9 := hide b9
      clear b9 lu lv lt
      go_wp2
      go_loopw [9] (fun x wq => ∃ k : Nat, k ≤ rn ∧ x = .int .i64 k ∧ Below wo.heap.size wo wq) (fun x _ => rn - (intOf x).toNat)
      case atStart => exact ⟨0, Nat.zero_le _, rfl, unhide HB9⟩
      case round =>
        obtain ⟨x, hx, rfl, hbel2⟩ := hrel
        have HB2 := hide hbel2
        have hsz2 := hbel2.size
        have u2 := (hbel2.cell (p := ⟨ub, uo + i, none⟩) hub).trans (unhide U0)
        have t2 := (hbel2.cell (p := ⟨tb, tof + i, none⟩) htb).trans (unhide T0)
        by_cases hlx : x < rn
        · obtain ⟨y, yb, yo, hy, rfl, hyb, hyc, cy⟩ := ((unhide RS).later hbel2).atN hlx
          obtain ⟨z, zb, zo, hz, rfl, hzb, hzc, cz⟩ := ((unhide RR).later hbel2).atN hlx
          have TU2 := hide ((unhide TU).later hbel2)
          have hge := unhide HGE x
          rw [nAt_in hy, nAt_in hz] at hge
          have hd3 : decide (y < z) = false := by simp; omega
          obtain ⟨cm, HC⟩ : ∃ q, Hid (com u (x : Int) = q) := ⟨_, hide rfl⟩
          have hcm : 0 ≤ y → cm ≤ y := fun h0 => by
            have := com_le (unhide HSI) (x := x) (by rw [nAt_in hy]; exact h0)
            rw [unhide HC, nAt_in hy] at this
            exact this
          have lu := later_some (w := wr) (b := ub) (o := uo + i) (by omega) u2
          have lt := later_some (w := wr) (b := tb) (o := tof + i) (by omega) t2
          have ly := later_some (w := wr) hyb cy
          have lz := later_some (w := wr) hzb cz
          clear hge hy hz hbel2
          obtain ⟨d1, hd1⟩ : ∃ d, decide (y < cm) = d := ⟨_, rfl⟩
          obtain ⟨d2, hd2⟩ : ∃ d, decide (0 ≤ y) = d := ⟨_, rfl⟩
          obtain ⟨d4, hd4⟩ : ∃ d, ((rn : Int) == 5) = d := ⟨_, rfl⟩
          have hdd : d1 = true → d2 = false := fun h => by
            subst h
            rw [← hd2]
            simp at hd1 ⊢
            omega
          clear hcm
          cases d1
          rotate_left
          · obtain rfl := hdd rfl
            clear hdd
            go_wp2_with fail
            refine wp_region_later (by kernel_rfl) (by kernel_rfl) ?_
            repeat (go_big_quiet_step (first
              | (go_at_call 12; exact Calls.later_of (icommon_any _ n uc u x cm HC _ (by omega) (unhide HLU2) ((unhide TU2).later (later_below _ _ _))))))
            refine wpQuiet_nil ?_
            intro w12 b12
            have HB12 := hide ((unhide HB2).trans (b12.mono hsz2))
            clear b12 u2 t2 cy cz lu lt ly lz
            go_wp2
            go_roundw
            case rel => exact ⟨x + 1, by omega, by go_num, unhide HB12⟩
            case measure => simp [intOf]; omega
          · clear hdd
            go_wp2_with fail
            refine wp_region_later (by kernel_rfl) (by kernel_rfl) ?_
            repeat (go_big_quiet_step (first
              | (go_at_call 12; exact Calls.later_of (icommon_any _ n uc u x cm HC _ (by omega) (unhide HLU2) ((unhide TU2).later (later_below _ _ _))))))
            refine wpQuiet_nil ?_
            intro w12 b12
            have HB12 := hide ((unhide HB2).trans (b12.mono hsz2))
            clear b12 u2 t2 cy cz lu lt ly lz
            go_wp2
            go_roundw
            case rel => exact ⟨x + 1, by omega, by go_num, unhide HB12⟩
            case measure => simp [intOf]; omega
        · have HB12 := hide ((unhide HBL).trans ((unhide HB2).mono hsz))
          clear hbel2
          go_wp2
          go_roundw
          case rel => exact ⟨i + 1, by omega, by go_num, unhide HB12⟩
          case measure => simp [intOf]; omega
    · have BW := hide ((unhide BB).trans ((unhide HBL).mono (unhide BB).size))
      have HTT := hide (unhide TT)
      go_wp2_with fail
      refine (drawtablenew_any _ xs _ hlen (unhide HD) ((unhide HS0).below (unhide BW) (Nat.le_refl _))).mono ?_
      rintro e w10 ⟨⟨nn, rfl, hn1, hn2⟩, b10⟩
      replace HTT := hide ((unhide HTT).later (b10.mono (Nat.le_refl _)))
      replace BW := hide ((unhide BW).trans (b10.mono (unhide BW).size))
      clear b10
      go_wp2_with fail
      refine (itablenew_any nn w10).mono ?_
      rintro e w11 ⟨na, nm, nc, rfl, o11, b11⟩
      have RN := hide o11.rw
      have hnm : nm ≤ 5 := by rw [o11.rw.len.1]; exact newT_len nn
      replace HTT := hide ((unhide HTT).later b11)
      replace BW := hide ((unhide BW).trans (b11.mono (unhide BW).size))
      clear o11 b11
      obtain ⟨q, hq⟩ : ∃ q, Hid (inB nn 1 5 = q) := ⟨_, hide rfl⟩
      have HOK : Hid (okT (newT nn) nn = q) := hide (by rw [okT_new, unhide hq])
      obtain ⟨r2, hr2⟩ : ∃ q, Hid (okT t (n : Int) = q) := ⟨_, hide rfl⟩
      have HLN : Hid (∀ (i : Nat) (q : List Int), (newT nn)[i]? = some q → q.length ≤ 140737488351232) := hide (fun i q hq => by have := fiv_new nn q (List.mem_of_getElem? hq); omega)
      go_wp2_with fail
      refine (itableok_any na nm nc (newT nn) nn q HOK w11 (by omega) (unhide HLN) (unhide RN)).mono ?_
      rintro e _ ⟨rfl, rfl⟩
      have hqq := unhide hq
      obtain ⟨e1, he1⟩ : ∃ e, decide (1 ≤ nn) = e := ⟨_, rfl⟩
      obtain ⟨e2, he2⟩ : ∃ e, decide (nn ≤ 5) = e := ⟨_, rfl⟩
      obtain rfl : (e1 && e2) = q := by rw [← hqq, ← he1, ← he2]; rfl
      clear hqq hq HOK HLN RN hnm
      have hrr : (r2 == r2) = true := by simp
      cases e1
      · go_wp2_with fail
        refine (itableok_any a n c t n r2 hr2 w11 (by omega) (unhide HLT) (unhide HTT)).mono ?_
        rintro e _ ⟨rfl, rfl⟩
        go_wp2_with fail
        refine (stableok_any a n c t n r2 hr2 w11 (by omega) (unhide HLT) (unhide HTT)).mono ?_
        rintro e _ ⟨rfl, rfl⟩
        go_wp2
        go_ret
        exact ⟨rfl, unhide BW⟩
      · cases e2
        · go_wp2_with fail
          refine (itableok_any a n c t n r2 hr2 w11 (by omega) (unhide HLT) (unhide HTT)).mono ?_
          rintro e _ ⟨rfl, rfl⟩
          go_wp2_with fail
          refine (stableok_any a n c t n r2 hr2 w11 (by omega) (unhide HLT) (unhide HTT)).mono ?_
          rintro e _ ⟨rfl, rfl⟩
          go_wp2
          go_ret
          exact ⟨rfl, unhide BW⟩
        · go_wp2_with fail
          refine (itableok_any a n c t n r2 hr2 w11 (by omega) (unhide HLT) (unhide HTT)).mono ?_
          rintro e _ ⟨rfl, rfl⟩
          go_wp2_with fail
          refine (stableok_any a n c t n r2 hr2 w11 (by omega) (unhide HLT) (unhide HTT)).mono ?_
          rintro e _ ⟨rfl, rfl⟩
          go_wp2
          go_ret
          exact ⟨rfl, unhide BW⟩

/-! ### THE ROW's STEP: WRITTEN OUT: LEAVE IT -/
set_option maxRecDepth 100000 in
theorem lifted (os : Os) (started : os.Started) (H : Type) (enc : TypeId × Value → H) :
    ReturnsInHanded {} Try.checked os 3 .any (Rows.fnTableSpec.pre6 enc Try.prog Try.f3 Rows.fnTableRow.domain false) (Rows.fnTableSpec.post enc Try.prog Try.f3 false true false false) := by
  refine returnsInHanded_of_change (C := Try.checked) own started (by kernel_rfl) Try.func3
    (ChangeSpec.witness6 (enc := enc) (C := Try.checked) false ⟨#[], #[.slice none 0 0], []⟩ 8 (by kernel_rfl) (by kernel_rfl) (by kernel_rfl) (by kernel_rfl)) ?_
  intro W base args ds gs before hval0 hW hcnd _
  have hval : ∀ (j : Nat) t v, Try.f3.params[j]? = some t → args[j]? = some v → Value.okWide Try.prog W .any base t v := hval0
  have hW' := hW
  obtain ⟨p, q, hA0, hV, rfl, hfz, hnd⟩ := hW
  have hA : DataW.TrodAll enc Try.prog W 0 (fun _ => true) true Try.f3.params.toList args.toList ds p := hA0
  rw [Try.params3] at hA hval
  obtain ⟨v0, vs0, d0, ds0, p0, q0, hargs, rfl, rfl, h0, r0⟩ := trodAll_cons hA
  obtain ⟨rfl, rfl, rfl⟩ := trodAll_nil r0
  obtain rfl : args = #[v0] := by cases args; simp_all
  obtain ⟨rfl, rfl⟩ := trodVars_none hV
  obtain ⟨a0, len0, cap0, rfl⟩ := okWide_slice Try.underlying22 (hval 0 22 v0 rfl rfl)
  have k0 := h0
  have lt0 : ∀ x ∈ p0, x.block < W.heap.size := by obtain ⟨m, hm⟩ := k0; exact DataW.trod_lt m _ _ _ hm
  obtain ⟨z0, w0⟩ : ∃ zs, IsRow .u8 W a0 len0 cap0 zs := by
    obtain ⟨fuel, hf⟩ := h0
    rcases open_ints Try.underlying22 Try.underlying5 (by kernel_rfl) hf with ⟨hcs, _⟩ | ⟨x, l, c, zs, hcs, _, hl, hm, hz, _, hcell, hwz⟩
    · simp [Value.cells] at hcs
      obtain ⟨rfl, rfl, rfl⟩ := hcs
      exact ⟨[], .inl ⟨rfl, rfl, rfl, rfl⟩⟩
    · simp [Value.cells] at hcs
      obtain ⟨rfl, rfl, rfl⟩ := hcs
      exact ⟨zs, .inr ⟨_, rfl, hl, hm, by simpa using hz, hcell, hwz⟩⟩
  clear hA0 hval0
  refine (walk a0 len0 cap0 z0 W w0).mono fun e W' ⟨he, bel⟩ => ?_
  subst he
  exact ⟨_, rfl, _, _, _, [], _, [], hW', trodAll_mk1 (shut_bool Try.underlying4 _), (trodAll_cons_mk (Below.trod laidOut (by kernel_rfl) (of_decide_eq_true (by kernel_rfl)) k0 bel lt0) trodAll_mk0), rfl, bel.frame _, fun h => by cases h⟩

theorem over : Rows.fnTableRow.holds Try.pinned (OpenSpec.ofChange Rows.fnTableSpec) :=
  OpenClaim.holds_of_wide 3 Try.f3 rfl rfl rfl rfl rfl rfl rfl ⟨rfl, rfl, rfl, rfl, rfl⟩ rfl rfl rfl rfl rfl (by kernel_rfl) Try.func3 (by kernel_rfl)
    (of_decide_eq_true (by kernel_rfl)) (by unfold Func.isWrapper; first | (rw [if_pos (by decide +kernel)]; kernel_rfl) | (rw [if_neg (by decide +kernel)]; exact ⟨rfl, rfl⟩))
    (fun os started H enc _ => lifted os started H enc)

theorem proved : Rows.FnTableSaid := over
#print axioms proved
end Go.Proofs.Ytighiahppjekeaa.fnTable
namespace Go.Proofs.Ytighiahppjekeaa
theorem fnTable_holds : Rows.FnTableSaid := fnTable.proved
end Go.Proofs.Ytighiahppjekeaa
