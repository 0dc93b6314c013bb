/-
  The specification's GetText returns what the list function 'getT' says. No statement is proved here.
-/
import Derived.Test.YtbajnnpihjmjmabMsX
import Derived.Test.YtbajnnpihjmjmabGet
import Derived.Test.YtbajnnpihjmjmabSGet
namespace Go.Proofs.Ytbajnnpihjmjmab
open Go.RowKit

set_option maxHeartbeats 2000000 in
set_option maxRecDepth 100000 in
theorem sgettext_some (v : Value) (xs : List Int) (p n q : Int) (w : World) (hlen : xs.length ≤ 140737488351232) (hbd : ∀ z ∈ xs, 0 ≤ z ∧ z ≤ 255) (hv : Seg w v xs) (hp' : p ≤ 9223372036854775807) (hg : getN xs p = some (n, q)) (hfit : n ≤ (xs.length : Int) - q) :
    Calls Try.prog 19 #[v, .int .i64 p] w fun e w' => e = .returned (.tuple #[.string (strOfNums ((xs.drop q.toNat).take n.toNat)), .int .i64 (q + n), .bool true]) ∧ w = w' := by
  have C := sgetnum_any v xs p w hlen hbd hv hp'
  rw [hg] at C
  simp only [gres] at C
  have HC := hide C
  obtain ⟨b1, b2, b3, b4⟩ := getN_bd xs p n q hbd hg
  obtain ⟨a, cap, rfl, hcap, h⟩ := hv
  have hne : xs ≠ [] := by intro he; subst he; simp at b4; omega
  rcases h with h | ⟨b, off, rfl, _, hc⟩
  · exact absurd h hne
  · obtain ⟨m, rfl⟩ := Int.eq_ofNat_of_zero_le b1
    obtain ⟨r, rfl⟩ := Int.eq_ofNat_of_zero_le (Int.le_of_lt b3)
    have hdl : decide ((xs.length : Int) - (r : Int) < (m : Int)) = false := by simp; omega
    have hm : ((xs.drop r).take m).length = m := by simp; omega
    have hcell : ∀ i, i < m → w.cell? ⟨b, off + r + i, none⟩ = some (.int .u8 (((xs.drop r).take m).getD i 0)) := by
      intro i hi
      have := hc (r + i) (by omega)
      rw [Nat.add_assoc, this]
      simp [hi]
    have hcv := run_convert_bytes_arg (P := Try.prog) w 22 5 Try.underlying22 Try.underlying5 b (off + r) m (cap - r) _ hm hcell 9 Try.underlying9
    by_cases hcr : cap = r
    · have hm0 : m = 0 := by omega
      subst hm0 hcr
      have hcw := run_convert_bytes_arg (P := Try.prog) w 22 5 Try.underlying22 Try.underlying5 b off 0 0 [] rfl (fun i hi => by omega) 9 Try.underlying9
      clear C hbd hg hc hm hcell hcv
      go_enter Try.func19, Try.ntmps19
      go_wp2_with (go_at_call 51; refine (unhide HC).mono ?_; rintro e _ ⟨rfl, rfl⟩)
      go_ret3
      exact ⟨by simp, rfl⟩
    · clear C hbd hg hc hm hcell
      generalize hL : (xs.drop (r : Int).toNat).take (m : Int).toNat = L
      simp only [Int.toNat_natCast] at hL
      rw [hL] at hcv
      clear hL
      go_enter Try.func19, Try.ntmps19
      go_wp2_with (go_at_call 51; refine (unhide HC).mono ?_; rintro e _ ⟨rfl, rfl⟩)
      go_ret3
      exact ⟨rfl, rfl⟩

set_option maxHeartbeats 2000000 in
set_option maxRecDepth 100000 in
theorem sgettext_none (v : Value) (xs : List Int) (p : Int) (w : World) (hlen : xs.length ≤ 140737488351232) (hbd : ∀ z ∈ xs, 0 ≤ z ∧ z ≤ 255) (hv : Seg w v xs) (hp' : p ≤ 9223372036854775807) (hg : getT xs p = none) :
    Calls Try.prog 19 #[v, .int .i64 p] w fun e w' => e = .returned (tres none) ∧ w = w' := by
  have C := sgetnum_any v xs p w hlen hbd hv hp'
  obtain ⟨a, cap, rfl, hcap, h⟩ := hv
  rcases hn : getN xs p with _ | ⟨n, q⟩
  · rw [hn] at C
    simp only [gres] at C
    have HC := hide C
    clear C hbd hg hn h
    go_enter Try.func19, Try.ntmps19
    go_wp2_with (go_at_call 51; refine (unhide HC).mono ?_; rintro e _ ⟨rfl, rfl⟩)
    go_ret3
    exact ⟨rfl, rfl⟩
  · rw [hn] at C
    simp only [gres] at C
    have HC := hide C
    obtain ⟨b1, b2, b3, b4⟩ := getN_bd xs p n q hbd hn
    have hbad : (xs.length : Int) - q < n := by
      unfold getT at hg
      rw [hn] at hg
      simp only at hg
      split at hg
      · assumption
      · simp at hg
    have hdl : decide ((xs.length : Int) - q < n) = true := by simpa using hbad
    clear C hbd hg hn h
    go_enter Try.func19, Try.ntmps19
    go_wp2_with (go_at_call 51; refine (unhide HC).mono ?_; rintro e _ ⟨rfl, rfl⟩)
    go_ret3
    exact ⟨rfl, rfl⟩

theorem sgettext_any (v : Value) (xs : List Int) (p : Int) (w : World) (hlen : xs.length ≤ 140737488351232) (hbd : ∀ z ∈ xs, 0 ≤ z ∧ z ≤ 255) (hv : Seg w v xs) (hp' : p ≤ 9223372036854775807) :
    Calls Try.prog 19 #[v, .int .i64 p] w fun e w' => e = .returned (tres (getT xs p)) ∧ w = w' := by
  rcases hg : getT xs p with _ | ⟨l, q⟩
  · exact sgettext_none v xs p w hlen hbd hv hp' hg
  · obtain ⟨n, r, h1, h2, rfl, rfl⟩ := getT_some xs p q l hg
    exact sgettext_some v xs p n r w hlen hbd hv hp' h1 h2

end Go.Proofs.Ytbajnnpihjmjmab
