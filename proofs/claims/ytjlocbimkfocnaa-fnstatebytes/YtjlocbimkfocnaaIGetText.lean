/-
  The program's GetNum returns what the list function 'getN' says: a panic of the reader below is recovered at its face. No statement is proved here.
  The program's GetText returns what the list function 'getT' says: a panic of the reader below is recovered at its face. No statement is proved here.
-/
import Derived.Test.YtjlocbimkfocnaaSGetText
import Derived.Defers
import Derived.Recover
import Derived.Test.YtjlocbimkfocnaaMsX
namespace Go.Proofs.Ytjlocbimkfocnaa
open Go.RowKit

theorem catch_get_panicking (u : TypeId) (pv : Value) (older : List PanicEntry) (w : World) :
    CallsD Try.prog 133 #[] (.panicking ({ v := .iface u pv, recovered := false } :: older)) w fun e u' w' =>
      e = .returned (.tuple #[]) ∧ u' = .panicking ({ v := .iface u pv, recovered := true } :: older) ∧ w = w' := by
  refine callsD_of_wpS Try.func133 rfl fun c₀ cs hu => ?_
  apply wpS_region
  simp [wpOpsS, go_sem, recoverD, hu, Try.ntmps133, bodyPostS, results, Try.results133]

theorem catch_get_idle (w : World) :
    CallsD Try.prog 133 #[] .returning w fun e u' w' => e = .returned (.tuple #[]) ∧ u' = .returning ∧ w = w' := by
  refine callsD_of_wpS Try.func133 rfl fun c₀ cs hu => ?_
  apply wpS_region
  simp [wpOpsS, go_sem, recoverD, hu, Try.ntmps133, bodyPostS, results, Try.results133]
  cases c₀
  simp_all

set_option maxHeartbeats 1000000 in
theorem igetnum_any (v : Value) (xs : List Int) (p : Int) (w : World) (hlen : xs.length ≤ 140737488351232) (hbd : ∀ z ∈ xs, 0 ≤ z ∧ z ≤ 255) (hv : Seg w v xs) (hp : -9223372036854775808 ≤ p) (hp' : p ≤ 9223372036854775807) :
    Calls Try.prog 124 #[v, .int .i64 p] w fun e w' => e = .returned (gres (getN xs p)) ∧ w = w' := by
  have hmf : ∀ (fn : Fn) (first cap : Array Value) (w : World), (Instr.makeFunc fn first cap).run Try.prog w = .ok (.func fn first cap) w := fun _ _ _ _ => rfl
  have C := readnum_any v xs p w hlen hbd hv hp hp'
  clear hv hbd
  rcases hg : getN xs p with _ | ⟨n, q⟩
  · rw [hg] at C
    simp only [rend] at C
    have HC := hide C
    clear hg C
    go_enter_defers Try.func124, Try.ntmps124
    go_wp2_with (go_at_call 134; refine (unhide HC).mono ?_; rintro e _ ⟨rfl, rfl⟩)
    refine leaves_cons (f := 133) (args := #[]) (by simp) (by simp [go_sem]) ?_
    refine (catch_get_panicking _ _ [] _).mono ?_
    rintro e u' w'' ⟨rfl, rfl, rfl⟩
    simp [Leaves, settle, results, Try.results124, go_sem, gres]
  · rw [hg] at C
    simp only [rend] at C
    have HC := hide C
    clear hg C
    go_enter_defers Try.func124, Try.ntmps124
    go_wp2_with (go_at_call 134; refine (unhide HC).mono ?_; rintro e _ ⟨rfl, rfl⟩)
    refine leaves_cons (f := 133) (args := #[]) (by simp) (by simp [go_sem]) ?_
    refine (catch_get_idle _).mono ?_
    rintro e u' w'' ⟨rfl, rfl, rfl⟩
    simp [Leaves, settle, results, Try.results124, go_sem, gres]

end Go.Proofs.Ytjlocbimkfocnaa

namespace Go.Proofs.Ytjlocbimkfocnaa
open Go.RowKit

set_option maxHeartbeats 2000000 in
set_option maxRecDepth 100000 in
theorem readtext_some (v : Value) (xs : List Int) (p n q : Int) (w : World) (hlen : xs.length ≤ 140737488351232) (hbd : ∀ z ∈ xs, 0 ≤ z ∧ z ≤ 255) (hv : Seg w v xs) (hp : -9223372036854775808 ≤ p) (hp' : p ≤ 9223372036854775807) (hg : getN xs p = some (n, q)) (hfit : n ≤ (xs.length : Int) - q) :
    Calls Try.prog 137 #[v, .int .i64 p] w fun e w' => e = .returned (.tuple #[.string (strOfNums ((xs.drop q.toNat).take n.toNat)), .int .i64 (q + n)]) ∧ w = w' := by
  have C := readnum_any v xs p w hlen hbd hv hp hp'
  rw [hg] at C
  simp only [rend] at C
  have HC := hide C
  obtain ⟨b1, b2, b3, b4⟩ := getN_bd xs p n q hbd hg
  obtain ⟨a, cap, rfl, hcap, h⟩ := hv
  have hne : xs ≠ [] := by intro he; subst he; simp at b4; omega
  rcases h with h | ⟨b, off, rfl, _, hc⟩
  · exact absurd h hne
  · obtain ⟨m, rfl⟩ := Int.eq_ofNat_of_zero_le b1
    obtain ⟨r, rfl⟩ := Int.eq_ofNat_of_zero_le (Int.le_of_lt b3)
    have hdl : decide ((xs.length : Int) - (r : Int) < (m : Int)) = false := by simp; omega
    have hm : ((xs.drop r).take m).length = m := by simp; omega
    have hcell : ∀ i, i < m → w.cell? ⟨b, off + r + i, none⟩ = some (.int .u8 (((xs.drop r).take m).getD i 0)) := by
      intro i hi
      have := hc (r + i) (by omega)
      rw [Nat.add_assoc, this]
      simp [hi]
    have hcv := run_convert_bytes_arg (P := Try.prog) w 22 5 Try.underlying22 Try.underlying5 b (off + r) m (cap - r) _ hm hcell 9 Try.underlying9
    by_cases hcr : cap = r
    · have hm0 : m = 0 := by omega
      subst hm0 hcr
      have hcw := run_convert_bytes_arg (P := Try.prog) w 22 5 Try.underlying22 Try.underlying5 b off 0 0 [] rfl (fun i hi => by omega) 9 Try.underlying9
      clear C hbd hg hc hm hcell hcv
      go_enter Try.func137, Try.ntmps137
      go_wp2_with (go_at_call 134; refine (unhide HC).mono ?_; rintro e _ ⟨rfl, rfl⟩)
      go_ret2
      exact ⟨by simp, rfl⟩
    · clear C hbd hg hc hm hcell
      generalize hL : (xs.drop (r : Int).toNat).take (m : Int).toNat = L
      simp only [Int.toNat_natCast] at hL
      rw [hL] at hcv
      clear hL
      go_enter Try.func137, Try.ntmps137
      go_wp2_with (go_at_call 134; refine (unhide HC).mono ?_; rintro e _ ⟨rfl, rfl⟩)
      go_ret2
      exact ⟨rfl, rfl⟩

set_option maxHeartbeats 2000000 in
set_option maxRecDepth 100000 in
theorem readtext_none (v : Value) (xs : List Int) (p : Int) (w : World) (hlen : xs.length ≤ 140737488351232) (hbd : ∀ z ∈ xs, 0 ≤ z ∧ z ≤ 255) (hv : Seg w v xs) (hp : -9223372036854775808 ≤ p) (hp' : p ≤ 9223372036854775807) (hg : getT xs p = none) :
    Calls Try.prog 137 #[v, .int .i64 p] w fun e w' => Panics e ∧ w = w' := by
  have C := readnum_any v xs p w hlen hbd hv hp hp'
  obtain ⟨a, cap, rfl, hcap, h⟩ := hv
  rcases hn : getN xs p with _ | ⟨n, q⟩
  · rw [hn] at C
    simp only [rend] at C
    have HC := hide C
    clear C hbd hg hn h
    go_enter Try.func137, Try.ntmps137
    go_wp2_with (go_at_call 134; refine (unhide HC).mono ?_; rintro e _ ⟨rfl, rfl⟩)
    exact ⟨rfl, ⟨_, _, rfl⟩, rfl⟩
  · rw [hn] at C
    simp only [rend] at C
    have HC := hide C
    obtain ⟨b1, b2, b3, b4⟩ := getN_bd xs p n q hbd hn
    have hbad : (xs.length : Int) - q < n := by
      unfold getT at hg
      rw [hn] at hg
      simp only at hg
      split at hg
      · assumption
      · simp at hg
    have hdl : decide ((xs.length : Int) - q < n) = true := by simpa using hbad
    clear C hbd hg hn h
    go_enter Try.func137, Try.ntmps137
    go_wp2_with (go_at_call 134; refine (unhide HC).mono ?_; rintro e _ ⟨rfl, rfl⟩)
    exact ⟨rfl, ⟨_, _, rfl⟩, rfl⟩

theorem catch_text_panicking (u : TypeId) (pv : Value) (older : List PanicEntry) (w : World) :
    CallsD Try.prog 136 #[] (.panicking ({ v := .iface u pv, recovered := false } :: older)) w fun e u' w' =>
      e = .returned (.tuple #[]) ∧ u' = .panicking ({ v := .iface u pv, recovered := true } :: older) ∧ w = w' := by
  refine callsD_of_wpS Try.func136 rfl fun c₀ cs hu => ?_
  apply wpS_region
  simp [wpOpsS, go_sem, recoverD, hu, Try.ntmps136, bodyPostS, results, Try.results136]
theorem catch_text_idle (w : World) :
    CallsD Try.prog 136 #[] .returning w fun e u' w' => e = .returned (.tuple #[]) ∧ u' = .returning ∧ w = w' := by
  refine callsD_of_wpS Try.func136 rfl fun c₀ cs hu => ?_
  apply wpS_region
  simp [wpOpsS, go_sem, recoverD, hu, Try.ntmps136, bodyPostS, results, Try.results136]
  cases c₀
  simp_all

set_option maxHeartbeats 1000000 in
theorem igettext_any (v : Value) (xs : List Int) (p : Int) (w : World) (hlen : xs.length ≤ 140737488351232) (hbd : ∀ z ∈ xs, 0 ≤ z ∧ z ≤ 255) (hv : Seg w v xs) (hp : -9223372036854775808 ≤ p) (hp' : p ≤ 9223372036854775807) :
    Calls Try.prog 135 #[v, .int .i64 p] w fun e w' => e = .returned (tres (getT xs p)) ∧ w = w' := by
  have hmf : ∀ (fn : Fn) (first cap : Array Value) (w : World), (Instr.makeFunc fn first cap).run Try.prog w = .ok (.func fn first cap) w := fun _ _ _ _ => rfl
  rcases hg : getT xs p with _ | ⟨l, q⟩
  · have HC := hide (readtext_none v xs p w hlen hbd hv hp hp' hg)
    clear hg hv hbd
    go_enter_defers Try.func135, Try.ntmps135
    go_wp2_with (go_at_call 137; refine (unhide HC).mono ?_; rintro e _ ⟨⟨t, pv, rfl⟩, rfl⟩)
    refine leaves_cons (f := 136) (args := #[]) (by simp) (by simp [go_sem]) ?_
    refine (catch_text_panicking _ _ [] _).mono ?_
    rintro e u' w'' ⟨rfl, rfl, rfl⟩
    simp [Leaves, settle, results, Try.results135, go_sem, tres]
  · obtain ⟨n, r, h1, h2, rfl, rfl⟩ := getT_some xs p q l hg
    have HC := hide (readtext_some v xs p n r w hlen hbd hv hp hp' h1 h2)
    clear hg hv hbd h1 h2
    go_enter_defers Try.func135, Try.ntmps135
    go_wp2_with (go_at_call 137; refine (unhide HC).mono ?_; rintro e _ ⟨rfl, rfl⟩)
    refine leaves_cons (f := 136) (args := #[]) (by simp) (by simp [go_sem]) ?_
    refine (catch_text_idle _).mono ?_
    rintro e u' w'' ⟨rfl, rfl, rfl⟩
    simp [Leaves, settle, results, Try.results135, go_sem, tres]
end Go.Proofs.Ytjlocbimkfocnaa
