/-
  The greater of two vectors is no less than either, and beneath each that is, at every code. No conditions but the statement's own.
-/
import Derived.Test.YtdjoobcbnaelnaaRows
import Derived.Test.YtdjoobcbnaelnaaVcR
import Derived.Test.YtdjoobcbnaelnaaVcB
import Derived.Test.YtdjoobcbnaelnaaDrawB
import Derived.WalkKit
import Derived.ProofKit
import Derived.OpenShut
import Derived.ShutString
import Derived.ChangeOld
import Derived.Below
namespace Go.Proofs.Ytdjoobcbnaelnaa.fnVectors
open Go.ChangeShapes Go.WideShapes Go.ChangeAt Go.RowKit
open Go.ChangeMaps (open_string shut_string)
set_option linter.unusedVariables false

theorem own : ownKnob Try.prog.godebug = none := by kernel_rfl
theorem laidOut : laidOutB Try.prog = true := by kernel_rfl

/-- WHAT THE WALK IS TOLD OF A SLICE OF INTEGERS THAT CAME IN: it is nil; or it leads to a row of 'cap' cells, the numbers 'zs' (the first 'len' are its elements, the rest its spare room), each fitting its kind. -/
def IsRow (k : IntKind) (w : World) (a : Option Addr) (len cap : Nat) (zs : List Int) : Prop :=
  (a = none ∧ len = 0 ∧ cap = 0 ∧ zs = []) ∨
  ∃ x, a = some x ∧ len ≤ cap ∧ cap ≤ maxLen ∧ zs.length = cap ∧ (∀ i, i < zs.length → w.cell? (x.add i) = some (.int k (zs.getD i 0))) ∧ ∀ n ∈ zs, (Lit.int k n).wf = true

/-! ### STEP 1: THE WALK: the Go text returns true, AND WRITES NOTHING THAT WAS THERE: 'Below w.heap.size w w'' (Derived/Below.lean: '.refl', '.alloc', '.drew', '.setCell' at a new block, '.trans'). Open each 'IsRow' by 'rcases' AHEAD of 'go_enter'; part every test ahead of the walk. -/
set_option maxRecDepth 100000 in
set_option maxHeartbeats 4000000 in
theorem walk (a0 : Option Addr) (len0 cap0 : Nat) (z0 : List Int) (w : World) (w0 : IsRow .u8 w a0 len0 cap0 z0) :
    Calls Try.prog 3 #[.slice a0 len0 cap0] w fun e w' => e = .returned (.bool true) ∧ Below w.heap.size w w' := by
  obtain ⟨xs, hxl, hseg, hbd⟩ := seg_of_row w0
  subst hxl
  by_cases hbig : 1048576 < xs.length
  · clear w0 hseg hbd
    go_enter Try.func3, Try.ntmps3
    go_wp2
    go_ret
    exact ⟨rfl, Below.refl _ _⟩
  have hlen : xs.length ≤ 1048576 := by omega
  have HS0 := hide hseg
  have HD := hide hbd
  clear hseg hbd w0
  go_enter Try.func3, Try.ntmps3
  go_wp2_with fail
  refine (big_no _ _ _ _ hbig).mono ?_
  rintro e _ ⟨rfl, rfl⟩
  go_wp2_with fail
  refine (drawvecmax_any _ xs _ hlen (unhide HD) (unhide HS0)).mono ?_
  rintro e w1 ⟨aa, an, ac, as0, ba, bn, bc, bs0, rfl, han, hbn, oa, ob, b1⟩
  have OA := hide oa
  have OB := hide ob
  have BL := hide b1
  have hsz1 := b1.size
  clear oa ob b1
  obtain ⟨n1, hn1⟩ : ∃ n, n = max an bn := ⟨_, rfl⟩
  have hn6 : n1 ≤ 6 := by omega
  have HN1 : Hid ((vm as0 bs0).length = n1) := hide (by rw [vm_len, hn1, ((unhide OA).rw encN_len).len.1, ((unhide OB).rw encN_len).len.1])
  clear hn1
  go_wp2_with fail
  refine (ivecmax_any aa an ac as0 ba bn bc bs0 w1 (by omega) (by omega) ((unhide OA).rw encN_len) ((unhide OB).rw encN_len)).mono ?_
  rintro e w2 ⟨ma, mn, mc, rfl, om, b2⟩
  obtain rfl : mn = n1 := ((om.rw encN_len).len.1).trans (unhide HN1)
  have OM := hide om
  have OA := hide ((unhide OA).later b2)
  have OB := hide ((unhide OB).later b2)
  have BL := hide ((unhide BL).trans (b2.mono hsz1))
  have hsz2 := (unhide BL).size
  clear om b2
  go_wp2_with fail
  refine (svecmax_any aa an ac as0 ba bn bc bs0 w2 (by omega) (by omega) ((unhide OA).rw encN_len) ((unhide OB).rw encN_len)).mono ?_
  rintro e w3 ⟨sa, sn, sc, rfl, os0, b3⟩
  obtain rfl : sn = mn := ((os0.rw encN_len).len.1).trans (unhide HN1)
  have OM := hide ((unhide OM).later b3)
  have OA := hide ((unhide OA).later b3)
  have OB := hide ((unhide OB).later b3)
  have BL := hide ((unhide BL).trans (b3.mono hsz2))
  have hsz3 := (unhide BL).size
  have hne1 : ((sn : Int) != (sn : Int)) = false := by simp
  clear os0 b3
  go_wp2
  go_loop [6, 7] (fun l i => ∃ (k : Nat) (lo : Bool), k ≤ an ∧ i = .int .i64 k ∧ l = .bool lo) (fun _ i => an - (intOf i).toNat)
  case atStart => exact ⟨0, false, by omega, rfl, rfl⟩
  case round =>
    obtain ⟨k, lo, hk, rfl, rfl⟩ := hrel
    by_cases hlt : k < an
    · obtain ⟨z, b, off, hz, hab, hb, hc, cz⟩ := ((unhide OA).rw encN_len).atN hlt
      subst hab
      clear hz
      cases lo
      all_goals go_wp2
      all_goals go_round
      all_goals first
        | (case rel => exact ⟨k + 1, _, by omega, by go_num, rfl⟩)
        | (case measure => simp [intOf]; omega)
    · obtain rfl : an = k := by omega
      go_wp2
      go_loop [6, 8] (fun l i => ∃ (j : Nat) (lo2 : Bool), j ≤ bn ∧ i = .int .i64 j ∧ l = .bool lo2) (fun _ i => bn - (intOf i).toNat)
      case atStart => exact ⟨0, lo, by omega, rfl, rfl⟩
      case round =>
        obtain ⟨j, lo2, hj, rfl, rfl⟩ := hrel
        by_cases hlt : j < bn
        · obtain ⟨z, b, off, hz, hab, hb, hc, cz⟩ := ((unhide OB).rw encN_len).atN hlt
          subst hab
          clear hz
          cases lo2
          all_goals go_wp2
          all_goals go_round
          all_goals first
            | (case rel => exact ⟨j + 1, _, by omega, by go_num, rfl⟩)
            | (case measure => simp [intOf]; omega)
        · obtain rfl : bn = j := by omega
          cases lo2
          · go_wp2_with fail
            refine (drawvecraise_any _ xs w3 hlen (unhide HD) ((unhide HS0).below (unhide BL) (Nat.le_refl _))).mono ?_
            rintro e w4 ⟨va, vn, vc, vs, p, m, rfl, hvn, hp, hm, ov, b4⟩
            have OV := hide ov
            have OM := hide ((unhide OM).later b4)
            have OA := hide ((unhide OA).later b4)
            have OB := hide ((unhide OB).later b4)
            have BL := hide ((unhide BL).trans (b4.mono hsz3))
            have hsz4 := (unhide BL).size
            clear ov b4
            go_wp2_with fail
            refine (ivecraise_any va vn vc vs p m w4 (by omega) (unhide OV).nilok ((unhide OV).rw encN_len)).mono ?_
            rintro e w5 ⟨ra, rc, rfl, orr, b5⟩
            have OR := hide orr
            have OM := hide ((unhide OM).later b5)
            have OA := hide ((unhide OA).later b5)
            have OB := hide ((unhide OB).later b5)
            have VL := hide ((unhide OV).rw encN_len).len.1
            have BL := hide ((unhide BL).trans (b5.mono hsz4))
            have hsz5 := (unhide BL).size
            have hne2 : ((vn : Int) != (vn : Int)) = false := by simp
            clear orr b5
            by_cases hp0 : 0 ≤ p
            · obtain ⟨k, rfl⟩ := Int.eq_ofNat_of_zero_le hp0
              by_cases hkn : k < vn
              · obtain ⟨z, b, off, hz, hab, hb, hc, cz⟩ := ((unhide OR).rw encN_len).atN hkn
                subst hab
                have hzm : decide (z < m) = false := by
                  have := vr_at (by have := unhide VL; omega) hz
                  simp; omega
                clear hz
                go_wp2_with fail
                refine (ivecleq_any aa an ac as0 ma sn mc (vm as0 bs0) true (hide (vl_left _ _)) w5 (by omega) (by omega) ((unhide OA).rw encN_len) ((unhide OM).rw encN_len)).mono ?_
                rintro e _ ⟨rfl, rfl⟩
                go_wp2_with fail
                refine (ivecleq_any ba bn bc bs0 ma sn mc (vm as0 bs0) true (hide (vl_right _ _)) w5 (by omega) (by omega) ((unhide OB).rw encN_len) ((unhide OM).rw encN_len)).mono ?_
                rintro e _ ⟨rfl, rfl⟩
                go_wp2_with fail
                refine (ivecmax_any ma sn mc (vm as0 bs0) aa an ac as0 w5 (by omega) (by omega) ((unhide OM).rw encN_len) ((unhide OA).rw encN_len)).mono ?_
                rintro e w6 ⟨qa, qn, qc, rfl, oq, b6⟩
                have hqn : qn ≤ 6 := by
                  have h1 := (oq.rw encN_len).len.1
                  have h2 := unhide HN1
                  have h3 := ((unhide OA).rw encN_len).len.1
                  rw [vm_len] at h1
                  omega
                have OQ := hide oq
                have OM := hide ((unhide OM).later b6)
                have OA := hide ((unhide OA).later b6)
                have OB := hide ((unhide OB).later b6)
                have BL := hide ((unhide BL).trans (b6.mono hsz5))
                have hsz6 := (unhide BL).size
                clear oq b6
                go_wp2_with fail
                refine (ivecleq_any ma sn mc (vm as0 bs0) qa qn qc _ true (hide (vl_left _ _)) w6 (by omega) (by omega) ((unhide OM).rw encN_len) ((unhide OQ).rw encN_len)).mono ?_
                rintro e _ ⟨rfl, rfl⟩
                go_wp2_with fail
                refine (ivecmax_any ba bn bc bs0 aa an ac as0 w6 (by omega) (by omega) ((unhide OB).rw encN_len) ((unhide OA).rw encN_len)).mono ?_
                rintro e w7 ⟨ga, gn, gc, rfl, og, b7⟩
                have hgn : gn ≤ 6 := by
                  have h1 := (og.rw encN_len).len.1
                  have h2 := ((unhide OB).rw encN_len).len.1
                  have h3 := ((unhide OA).rw encN_len).len.1
                  rw [vm_len] at h1
                  omega
                have OG := hide og
                have OM := hide ((unhide OM).later b7)
                have BL := hide ((unhide BL).trans (b7.mono hsz6))
                clear og b7
                go_wp2_with fail
                refine (ivecleq_any ga gn gc _ ma sn mc (vm as0 bs0) true (hide (vl_swap _ _)) w7 (by omega) (by omega) ((unhide OG).rw encN_len) ((unhide OM).rw encN_len)).mono ?_
                rintro e _ ⟨rfl, rfl⟩
                go_wp2
                go_ret
                exact ⟨rfl, unhide BL⟩
              · have hd : decide ((k : Int) < (vn : Int)) = false := by simp; omega
                go_wp2_with fail
                refine (ivecleq_any aa an ac as0 ma sn mc (vm as0 bs0) true (hide (vl_left _ _)) w5 (by omega) (by omega) ((unhide OA).rw encN_len) ((unhide OM).rw encN_len)).mono ?_
                rintro e _ ⟨rfl, rfl⟩
                go_wp2_with fail
                refine (ivecleq_any ba bn bc bs0 ma sn mc (vm as0 bs0) true (hide (vl_right _ _)) w5 (by omega) (by omega) ((unhide OB).rw encN_len) ((unhide OM).rw encN_len)).mono ?_
                rintro e _ ⟨rfl, rfl⟩
                go_wp2_with fail
                refine (ivecmax_any ma sn mc (vm as0 bs0) aa an ac as0 w5 (by omega) (by omega) ((unhide OM).rw encN_len) ((unhide OA).rw encN_len)).mono ?_
                rintro e w6 ⟨qa, qn, qc, rfl, oq, b6⟩
                have hqn : qn ≤ 6 := by
                  have h1 := (oq.rw encN_len).len.1
                  have h2 := unhide HN1
                  have h3 := ((unhide OA).rw encN_len).len.1
                  rw [vm_len] at h1
                  omega
                have OQ := hide oq
                have OM := hide ((unhide OM).later b6)
                have OA := hide ((unhide OA).later b6)
                have OB := hide ((unhide OB).later b6)
                have BL := hide ((unhide BL).trans (b6.mono hsz5))
                have hsz6 := (unhide BL).size
                clear oq b6
                go_wp2_with fail
                refine (ivecleq_any ma sn mc (vm as0 bs0) qa qn qc _ true (hide (vl_left _ _)) w6 (by omega) (by omega) ((unhide OM).rw encN_len) ((unhide OQ).rw encN_len)).mono ?_
                rintro e _ ⟨rfl, rfl⟩
                go_wp2_with fail
                refine (ivecmax_any ba bn bc bs0 aa an ac as0 w6 (by omega) (by omega) ((unhide OB).rw encN_len) ((unhide OA).rw encN_len)).mono ?_
                rintro e w7 ⟨ga, gn, gc, rfl, og, b7⟩
                have hgn : gn ≤ 6 := by
                  have h1 := (og.rw encN_len).len.1
                  have h2 := ((unhide OB).rw encN_len).len.1
                  have h3 := ((unhide OA).rw encN_len).len.1
                  rw [vm_len] at h1
                  omega
                have OG := hide og
                have OM := hide ((unhide OM).later b7)
                have BL := hide ((unhide BL).trans (b7.mono hsz6))
                clear og b7
                go_wp2_with fail
                refine (ivecleq_any ga gn gc _ ma sn mc (vm as0 bs0) true (hide (vl_swap _ _)) w7 (by omega) (by omega) ((unhide OG).rw encN_len) ((unhide OM).rw encN_len)).mono ?_
                rintro e _ ⟨rfl, rfl⟩
                go_wp2
                go_ret
                exact ⟨rfl, unhide BL⟩
            · have hd : decide (0 ≤ p) = false := by simp; omega
              go_wp2_with fail
              refine (ivecleq_any aa an ac as0 ma sn mc (vm as0 bs0) true (hide (vl_left _ _)) w5 (by omega) (by omega) ((unhide OA).rw encN_len) ((unhide OM).rw encN_len)).mono ?_
              rintro e _ ⟨rfl, rfl⟩
              go_wp2_with fail
              refine (ivecleq_any ba bn bc bs0 ma sn mc (vm as0 bs0) true (hide (vl_right _ _)) w5 (by omega) (by omega) ((unhide OB).rw encN_len) ((unhide OM).rw encN_len)).mono ?_
              rintro e _ ⟨rfl, rfl⟩
              go_wp2_with fail
              refine (ivecmax_any ma sn mc (vm as0 bs0) aa an ac as0 w5 (by omega) (by omega) ((unhide OM).rw encN_len) ((unhide OA).rw encN_len)).mono ?_
              rintro e w6 ⟨qa, qn, qc, rfl, oq, b6⟩
              have hqn : qn ≤ 6 := by
                have h1 := (oq.rw encN_len).len.1
                have h2 := unhide HN1
                have h3 := ((unhide OA).rw encN_len).len.1
                rw [vm_len] at h1
                omega
              have OQ := hide oq
              have OM := hide ((unhide OM).later b6)
              have OA := hide ((unhide OA).later b6)
              have OB := hide ((unhide OB).later b6)
              have BL := hide ((unhide BL).trans (b6.mono hsz5))
              have hsz6 := (unhide BL).size
              clear oq b6
              go_wp2_with fail
              refine (ivecleq_any ma sn mc (vm as0 bs0) qa qn qc _ true (hide (vl_left _ _)) w6 (by omega) (by omega) ((unhide OM).rw encN_len) ((unhide OQ).rw encN_len)).mono ?_
              rintro e _ ⟨rfl, rfl⟩
              go_wp2_with fail
              refine (ivecmax_any ba bn bc bs0 aa an ac as0 w6 (by omega) (by omega) ((unhide OB).rw encN_len) ((unhide OA).rw encN_len)).mono ?_
              rintro e w7 ⟨ga, gn, gc, rfl, og, b7⟩
              have hgn : gn ≤ 6 := by
                have h1 := (og.rw encN_len).len.1
                have h2 := ((unhide OB).rw encN_len).len.1
                have h3 := ((unhide OA).rw encN_len).len.1
                rw [vm_len] at h1
                omega
              have OG := hide og
              have OM := hide ((unhide OM).later b7)
              have BL := hide ((unhide BL).trans (b7.mono hsz6))
              clear og b7
              go_wp2_with fail
              refine (ivecleq_any ga gn gc _ ma sn mc (vm as0 bs0) true (hide (vl_swap _ _)) w7 (by omega) (by omega) ((unhide OG).rw encN_len) ((unhide OM).rw encN_len)).mono ?_
              rintro e _ ⟨rfl, rfl⟩
              go_wp2
              go_ret
              exact ⟨rfl, unhide BL⟩
          · go_wp2
            go_ret
            exact ⟨rfl, unhide BL⟩

/-! ### THE ROW's STEP: WRITTEN OUT: LEAVE IT -/
set_option maxRecDepth 100000 in
theorem lifted (os : Os) (started : os.Started) (H : Type) (enc : TypeId × Value → H) :
    ReturnsInHanded {} Try.checked os 3 .any (Rows.fnVectorsSpec.pre6 enc Try.prog Try.f3 Rows.fnVectorsRow.domain false) (Rows.fnVectorsSpec.post enc Try.prog Try.f3 false true false false) := by
  refine returnsInHanded_of_change (C := Try.checked) own started (by kernel_rfl) Try.func3
    (ChangeSpec.witness6 (enc := enc) (C := Try.checked) false ⟨#[], #[.slice none 0 0], []⟩ 8 (by kernel_rfl) (by kernel_rfl) (by kernel_rfl) (by kernel_rfl)) ?_
  intro W base args ds gs before hval0 hW hcnd _
  have hval : ∀ (j : Nat) t v, Try.f3.params[j]? = some t → args[j]? = some v → Value.okWide Try.prog W .any base t v := hval0
  have hW' := hW
  obtain ⟨p, q, hA0, hV, rfl, hfz, hnd⟩ := hW
  have hA : DataW.TrodAll enc Try.prog W 0 (fun _ => true) true Try.f3.params.toList args.toList ds p := hA0
  rw [Try.params3] at hA hval
  obtain ⟨v0, vs0, d0, ds0, p0, q0, hargs, rfl, rfl, h0, r0⟩ := trodAll_cons hA
  obtain ⟨rfl, rfl, rfl⟩ := trodAll_nil r0
  obtain rfl : args = #[v0] := by cases args; simp_all
  obtain ⟨rfl, rfl⟩ := trodVars_none hV
  obtain ⟨a0, len0, cap0, rfl⟩ := okWide_slice Try.underlying22 (hval 0 22 v0 rfl rfl)
  have k0 := h0
  have lt0 : ∀ x ∈ p0, x.block < W.heap.size := by obtain ⟨m, hm⟩ := k0; exact DataW.trod_lt m _ _ _ hm
  obtain ⟨z0, w0⟩ : ∃ zs, IsRow .u8 W a0 len0 cap0 zs := by
    obtain ⟨fuel, hf⟩ := h0
    rcases open_ints Try.underlying22 Try.underlying5 (by kernel_rfl) hf with ⟨hcs, _⟩ | ⟨x, l, c, zs, hcs, _, hl, hm, hz, _, hcell, hwz⟩
    · simp [Value.cells] at hcs
      obtain ⟨rfl, rfl, rfl⟩ := hcs
      exact ⟨[], .inl ⟨rfl, rfl, rfl, rfl⟩⟩
    · simp [Value.cells] at hcs
      obtain ⟨rfl, rfl, rfl⟩ := hcs
      exact ⟨zs, .inr ⟨_, rfl, hl, hm, by simpa using hz, hcell, hwz⟩⟩
  clear hA0 hval0
  refine (walk a0 len0 cap0 z0 W w0).mono fun e W' ⟨he, bel⟩ => ?_
  subst he
  exact ⟨_, rfl, _, _, _, [], _, [], hW', trodAll_mk1 (shut_bool Try.underlying4 _), (trodAll_cons_mk (Below.trod laidOut (by kernel_rfl) (of_decide_eq_true (by kernel_rfl)) k0 bel lt0) trodAll_mk0), rfl, bel.frame _, fun h => by cases h⟩

theorem over : Rows.fnVectorsRow.holds Try.pinned (OpenSpec.ofChange Rows.fnVectorsSpec) :=
  OpenClaim.holds_of_wide 3 Try.f3 rfl rfl rfl rfl rfl rfl rfl ⟨rfl, rfl, rfl, rfl, rfl⟩ rfl rfl rfl rfl rfl (by kernel_rfl) Try.func3 (by kernel_rfl)
    (of_decide_eq_true (by kernel_rfl)) (by unfold Func.isWrapper; first | (rw [if_pos (by decide +kernel)]; kernel_rfl) | (rw [if_neg (by decide +kernel)]; exact ⟨rfl, rfl⟩))
    (fun os started H enc _ => lifted os started H enc)

theorem proved : Rows.FnVectorsSaid := over
#print axioms proved
end Go.Proofs.Ytdjoobcbnaelnaa.fnVectors
namespace Go.Proofs.Ytdjoobcbnaelnaa
theorem fnVectors_holds : Rows.FnVectorsSaid := fnVectors.proved
end Go.Proofs.Ytdjoobcbnaelnaa
