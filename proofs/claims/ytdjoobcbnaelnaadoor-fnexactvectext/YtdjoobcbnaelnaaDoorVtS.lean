/-
  The specification's VecText. No statement is proved here.
-/
import Derived.Test.YtdjoobcbnaelnaaDoorVtP
import Derived.Test.YtdjoobcbnaelnaaDoorDigits
namespace Go.Proofs.YtdjoobcbnaelnaaDoor
open Go.RowKit

set_option maxHeartbeats 4000000 in
set_option maxRecDepth 100000 in
theorem svectext_any (a : Option Addr) (n c : Nat) (ns : List Int) (t : ByteArray) (ht : Hid (vtx ns = t)) (hfit : FitNs ns) (w : World) (hn : n ≤ 1048576) (h : RwN w (.slice a n c) ns) :
    Calls Tryd.prog 4 #[.slice a n c] w fun e w' => e = .returned (.string t) ∧ Below w.heap.size w w' := by
  have HR := hide h
  have HN := hide h.len.1
  have HF := hide hfit
  clear h hfit
  go_enter Tryd.func4, Tryd.ntmps4
  go_wp2
  go_loopw [3, 4] (fun u i wr => ∃ k : Nat, k ≤ n ∧ i = .int .i64 k ∧ u = .string (vtx (ns.take k)) ∧ Below w.heap.size w wr) (fun _ i _ => n - (intOf i).toNat)
  case atStart => exact ⟨0, Nat.zero_le _, rfl, rfl, Below.refl _ _⟩
  case round =>
    obtain ⟨k, hk, rfl, rfl, hbel⟩ := hrel
    have HB := hide hbel
    have hsz := hbel.size
    by_cases hlt : k < n
    · obtain ⟨z, b, off, hz, rfl, hb, hc, cz⟩ := ((unhide HR).later hbel).atN hlt
      obtain ⟨f1, f2⟩ := unhide HF k z hz
      have HZ := hide hz
      have hs1 := vtx_bytes (ns.take k)
      have hs2 := wN_size z
      have hs3 : (ns.take k).length ≤ k := by simp; omega
      have e1 : (⟨#[44]⟩ : ByteArray).size = 1 := rfl
      clear hz hbel
      by_cases h0 : k = 0
      · have hd : decide (0 < (k : Int)) = false := by simp; omega
        have hd' : decide (0 < k) = false := by simp; omega
        have HE : Hid (vtx (ns.take (k + 1)) = vtx (ns.take k) ++ strOfNums (digs z)) := hide (by
          rw [take_next (unhide HZ), h0, List.take_zero, List.nil_append, vtx_one, vtx_nil]
          apply ba_ext8; simp [wN])
        have q1 : ∀ W : World, (Op.stringOp .add (vtx (ns.take k)) (strOfNums (digs z))).run Tryd.prog W = .ok (.string (vtx (ns.take k) ++ strOfNums (digs z))) W := fun W => run_string_add_sum W _ _ (by have := hs2; unfold wN at this; omega)
        generalize vtx (ns.take k) = s at *
        clear h0
        go_wp2_with fail
        refine (sdigits_any z _ f1 f2).mono ?_
        rintro e w2 ⟨rfl, b2⟩
        have HB2 := hide ((unhide HB).trans (b2.mono hsz))
        clear b2
        go_wp2
        go_roundw
        case rel => exact ⟨k + 1, by omega, by go_num, by rw [unhide HE], unhide HB2⟩
        case measure => simp [intOf]; omega
      · have hd : decide (0 < (k : Int)) = true := by simp; omega
        have hd' : decide (0 < k) = true := by simp; omega
        have q1 : ∀ W : World, (Op.stringOp .add (vtx (ns.take k)) ⟨#[44]⟩).run Tryd.prog W = .ok (.string (vtx (ns.take k) ++ ⟨#[44]⟩)) W := fun W => run_string_add_sum W _ _ (by omega)
        have q2 : ∀ W : World, (Op.stringOp .add (vtx (ns.take k) ++ ⟨#[44]⟩) (strOfNums (digs z))).run Tryd.prog W = .ok (.string (vtx (ns.take k) ++ ⟨#[44]⟩ ++ strOfNums (digs z))) W := fun W => run_string_add_sum W _ _ (by have := hs2; unfold wN at this; rw [ByteArray.size_append]; omega)
        have HE : Hid (vtx (ns.take (k + 1)) = vtx (ns.take k) ++ ⟨#[44]⟩ ++ strOfNums (digs z)) := hide (by rw [take_next (unhide HZ), vtx_app (take_some (unhide HZ) (by omega))]; rfl)
        generalize vtx (ns.take k) = s at *
        clear h0
        go_wp2_with fail
        refine (sdigits_any z _ f1 f2).mono ?_
        rintro e w2 ⟨rfl, b2⟩
        have HB2 := hide ((unhide HB).trans (b2.mono hsz))
        clear b2
        go_wp2
        go_roundw
        case rel => exact ⟨k + 1, by omega, by go_num, by rw [unhide HE], unhide HB2⟩
        case measure => simp [intOf]; omega
    · have HE : Hid (vtx (ns.take k) = t) := hide (by rw [List.take_of_length_le (by have := unhide HN; omega)]; exact unhide ht)
      generalize vtx (ns.take k) = s at *
      obtain rfl := unhide HE
      go_wp2
      go_ret
      exact ⟨rfl, unhide HB⟩
end Go.Proofs.YtdjoobcbnaelnaaDoor
