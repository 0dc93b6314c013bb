/-
  The program's GetNum returns what the list function 'getN' says: a panic of the reader below is recovered at its face. No statement is proved here.
-/
import Derived.Test.YtbajnnpihjmjmabGet
import Derived.Defers
import Derived.Recover
namespace Go.Proofs.Ytbajnnpihjmjmab
open Go.RowKit

theorem catch_get_panicking (u : TypeId) (pv : Value) (older : List PanicEntry) (w : World) :
    CallsD Try.prog 91 #[] (.panicking ({ v := .iface u pv, recovered := false } :: older)) w fun e u' w' =>
      e = .returned (.tuple #[]) ∧ u' = .panicking ({ v := .iface u pv, recovered := true } :: older) ∧ w = w' := by
  refine callsD_of_wpS Try.func91 rfl fun c₀ cs hu => ?_
  apply wpS_region
  simp [wpOpsS, go_sem, recoverD, hu, Try.ntmps91, bodyPostS, results, Try.results91]

theorem catch_get_idle (w : World) :
    CallsD Try.prog 91 #[] .returning w fun e u' w' => e = .returned (.tuple #[]) ∧ u' = .returning ∧ w = w' := by
  refine callsD_of_wpS Try.func91 rfl fun c₀ cs hu => ?_
  apply wpS_region
  simp [wpOpsS, go_sem, recoverD, hu, Try.ntmps91, bodyPostS, results, Try.results91]
  cases c₀
  simp_all

set_option maxHeartbeats 1000000 in
theorem igetnum_any (v : Value) (xs : List Int) (p : Int) (w : World) (hlen : xs.length ≤ 140737488351232) (hbd : ∀ z ∈ xs, 0 ≤ z ∧ z ≤ 255) (hv : Seg w v xs) (hp : -9223372036854775808 ≤ p) (hp' : p ≤ 9223372036854775807) :
    Calls Try.prog 85 #[v, .int .i64 p] w fun e w' => e = .returned (gres (getN xs p)) ∧ w = w' := by
  have hmf : ∀ (fn : Fn) (first cap : Array Value) (w : World), (Instr.makeFunc fn first cap).run Try.prog w = .ok (.func fn first cap) w := fun _ _ _ _ => rfl
  have C := readnum_any v xs p w hlen hbd hv hp hp'
  clear hv hbd
  rcases hg : getN xs p with _ | ⟨n, q⟩
  · rw [hg] at C
    simp only [rend] at C
    have HC := hide C
    clear hg C
    go_enter_defers Try.func85, Try.ntmps85
    go_wp2_with (go_at_call 92; refine (unhide HC).mono ?_; rintro e _ ⟨rfl, rfl⟩)
    refine leaves_cons (f := 91) (args := #[]) (by simp) (by simp [go_sem]) ?_
    refine (catch_get_panicking _ _ [] _).mono ?_
    rintro e u' w'' ⟨rfl, rfl, rfl⟩
    simp [Leaves, settle, results, Try.results85, go_sem, gres]
  · rw [hg] at C
    simp only [rend] at C
    have HC := hide C
    clear hg C
    go_enter_defers Try.func85, Try.ntmps85
    go_wp2_with (go_at_call 92; refine (unhide HC).mono ?_; rintro e _ ⟨rfl, rfl⟩)
    refine leaves_cons (f := 91) (args := #[]) (by simp) (by simp [go_sem]) ?_
    refine (catch_get_idle _).mono ?_
    rintro e u' w'' ⟨rfl, rfl, rfl⟩
    simp [Leaves, settle, results, Try.results85, go_sem, gres]

end Go.Proofs.Ytbajnnpihjmjmab
