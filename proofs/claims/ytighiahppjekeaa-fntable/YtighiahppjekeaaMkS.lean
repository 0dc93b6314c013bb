/-
  Whether marks are right: the specification's, and the program's. No statement is proved here.
-/
import Derived.Test.YtighiahppjekeaaOrdP
import Derived.BigQuiet
import Derived.Deep.QuietTactic
import Derived.Test.YtighiahppjekeaaOrd
namespace Go.Proofs.Ytighiahppjekeaa
open Go.RowKit

theorem imarksok_any (a : Option Addr) (n c : Nat) (fs : List Flr) (ok : Bool) (h0 : Hid (gF (-1) fs = ok)) (w : World) (hn : n ≤ 140737488351232) (hf : Rw encF 2 w (.slice a n c) fs) :
    Calls Try.prog 25 #[.slice a n c] w fun e w' => e = .returned (.bool ok) ∧ Below w.heap.size w w' := by
  have HF := hide hf
  clear hf
  go_enter Try.func25, Try.ntmps25
  go_wp2_with fail
  refine (iordM_any a n c fs ok h0 _ hn (unhide HF)).mono ?_
  rintro e w1 ⟨rfl, b1⟩
  have HB := hide b1
  clear b1
  go_wp2
  go_ret
  exact ⟨rfl, unhide HB⟩
theorem mnode_any9 (x : Int) (b : Bool) (hb : Hid (inB x 0 4 = b)) (w : World) : Calls Try.prog 58 #[.int .i64 x] w fun e w' => e = .returned (.bool b) ∧ w = w' := by
  go_enter Try.func58, Try.ntmps58
  go_wp2_with fail
  refine (l1in_is x 0 4 b (unhide hb) _).mono ?_
  rintro e _ ⟨rfl, rfl⟩
  go_wp2
  go_ret
  exact ⟨rfl, rfl⟩
set_option maxHeartbeats 8000000 in
set_option maxRecDepth 100000 in
theorem smarksok_any (a : Option Addr) (n c : Nat) (fs : List Flr) (ok : Bool) (h0 : Hid (gF (-1) fs = ok)) (w : World) (hn : n ≤ 140737488351232) (hf : Rw encF 2 w (.slice a n c) fs) :
    Calls Try.prog 23 #[.slice a n c] w fun e w' => e = .returned (.bool ok) ∧ Below w.heap.size w w' := by
  have HX := hide hf
  clear hf
  go_enter Try.func23, Try.ntmps23
  go_wp2
  go_loopw [3] (fun i wr => ∃ k : Nat, k ≤ n ∧ i = .int .i64 k ∧ gF (prv fs k) (fs.drop k) = ok ∧ Below w.heap.size w wr) (fun i _ => n - (intOf i).toNat)
  case atStart => exact ⟨0, Nat.zero_le _, rfl, unhide h0, Below.refl _ _⟩
  case round =>
    obtain ⟨k, hk, rfl, hrec, hbel⟩ := hrel
    have HB := hide hbel
    have hsz := hbel.size
    by_cases hlt : k < n
    · obtain ⟨x, b, off, hx, rfl, hb, hcap, hc⟩ := (unhide HX).at hlt
      have l0 := later_some (w := wr) (b := b) (o := off + k * 2) (v := .int .i64 x.1) (by omega) ((hbel.cell (p := ⟨b, off + k * 2, none⟩) hb).trans (hc 0 (by omega)))
      have l1 := later_some (w := wr) (b := b) (o := off + k * 2 + 1) (v := .int .i64 x.2) (by omega) ((hbel.cell (p := ⟨b, off + k * 2 + 1, none⟩) hb).trans (hc 1 (by omega)))
      have hEq := gF_at (last := prv fs k) hx
      rw [hrec, prv_succ hx] at hEq
      have HPV := hide (prv_succ hx)
      obtain ⟨q1, hq1⟩ : ∃ q, Hid (inB x.1 0 4 = q) := ⟨_, hide rfl⟩
      obtain ⟨q3, hq3⟩ : ∃ q, Hid (inB x.2 1 1000 = q) := ⟨_, hide rfl⟩
      by_cases hk0 : 0 < k
      · obtain ⟨y, b', off', hy, hab, hb', hcap', hc'⟩ := (unhide HX).at (i := k - 1) (by omega)
        simp only [Option.some.injEq, Addr.mk.injEq] at hab
        obtain ⟨rfl, rfl, -⟩ := hab
        have m0 := later_some (w := wr) (b := b) (o := off + (k - 1) * 2) (v := .int .i64 y.1) (by omega) ((hbel.cell (p := ⟨b, off + (k - 1) * 2, none⟩) hb).trans (hc' 0 (by omega)))
        have hpv : prv fs k = y.1 := by
          obtain ⟨m, rfl⟩ : ∃ m, k = m + 1 := ⟨k - 1, by omega⟩
          exact prv_succ hy
        obtain ⟨q2, hq2⟩ : ∃ q, decide (x.1 ≤ y.1) = q := ⟨_, rfl⟩
        have HE : Hid (ok = (q1 && !q2 && q3 && gF x.1 (fs.drop (k + 1)))) := hide (by rw [← unhide hq1, ← unhide hq3, ← le_lt hq2, ← hpv]; exact hEq)
        have hkd : decide ((0 : Int) < (k : Int)) = true := by simpa using hk0
        clear hc hc' hx hy hbel hEq hpv hrec
        cases q1 <;> cases q2 <;> cases q3
        all_goals
          go_wp2_with fail
          refine wp_region_later (by kernel_rfl) (by kernel_rfl) ?_
          repeat (go_big_quiet_step (first | (go_at_call 58; exact Calls.later_same (mnode_any9 _ _ hq1 _)) | (go_at_call 42; exact Calls.later_same (l1in_is _ _ _ _ (unhide hq3) _))))
          refine wpQuiet_nil ?_
          intro w1 hb1
          have HB1 := hide ((unhide HB).trans (hb1.mono hsz))
          clear hb1 HB
          go_wp2
          first
            | (go_roundw
               case rel => exact ⟨k + 1, by omega, by go_num, by rw [unhide HPV, unhide HE]; rfl, unhide HB1⟩
               case measure => simp [intOf]; omega)
            | (obtain rfl : ok = false := by rw [unhide HE]; rfl
               go_ret
               exact ⟨rfl, unhide HB1⟩)
      · have HK0 : Hid (k = 0) := hide (by omega)
        have HE : Hid (ok = (q1 && q3 && gF x.1 (fs.drop (k + 1)))) := hide (by
          rw [hEq, unhide HK0, unhide hq3]
          show (inB x.1 0 4 && decide ((-1 : Int) < x.1) && q3 && _) = _
          rw [unhide hq1]
          cases q1
          · rfl
          · rw [in_low (unhide hq1)]; rfl)
        have hkn : (0 < k) = False := by simpa using hk0
        have hkm : ((0 : Int) < (k : Int)) = False := by simp; omega
        clear hc hx hbel hEq hk0 hrec
        cases q1 <;> cases q3
        all_goals
          go_wp2_with fail
          refine wp_region_later (by kernel_rfl) (by kernel_rfl) ?_
          repeat (go_big_quiet_step (first | (go_at_call 58; exact Calls.later_same (mnode_any9 _ _ hq1 _)) | (go_at_call 42; exact Calls.later_same (l1in_is _ _ _ _ (unhide hq3) _))))
          refine wpQuiet_nil ?_
          intro w1 hb1
          have HB1 := hide ((unhide HB).trans (hb1.mono hsz))
          clear hb1 HB hkn hkm
          go_wp2
          first
            | (go_roundw
               case rel => exact ⟨k + 1, by omega, by go_num, by rw [unhide HPV, unhide HE]; rfl, unhide HB1⟩
               case measure => simp [intOf]; omega)
            | (obtain rfl : ok = false := by rw [unhide HE]; rfl
               go_ret
               exact ⟨rfl, unhide HB1⟩)
    · have hEq : ok = true := by
        have h := hrec
        rw [drop_end (unhide HX).len.1 hk hlt] at h
        rw [← h]; rfl
      subst hEq
      clear hbel hrec
      go_wp2
      go_ret
      exact ⟨rfl, unhide HB⟩
end Go.Proofs.Ytighiahppjekeaa
