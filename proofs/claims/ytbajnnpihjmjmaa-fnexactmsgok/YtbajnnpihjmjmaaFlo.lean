/-
  FloorOf, the program's and the specification's. No statement is proved here.
-/
import Derived.Test.YtbajnnpihjmjmaaRw
namespace Go.Proofs.Ytbajnnpihjmjmaa
open Go.RowKit

abbrev Flr := Int × Int
def encF (x : Flr) : List Value := [.int .i64 x.1, .int .i64 x.2]
def flo (fs : List Flr) (id : Int) : Int := ((fs.find? fun x => x.1 == id).map (·.2)).getD 0

theorem find_hit {α : Type} {p : α → Bool} : ∀ {xs : List α} {k : Nat} {x : α}, xs[k]? = some x → p x = true → (∀ j y, j < k → xs[j]? = some y → p y = false) → xs.find? p = some x
  | [], _, _, h, _, _ => by simp at h
  | y :: ys, 0, x, h, hp, _ => by simp at h; subst h; simp [hp]
  | y :: ys, k + 1, x, h, hp, hn => by
    have h0 : p y = false := hn 0 y (by omega) (by simp)
    rw [List.find?_cons, h0]
    exact find_hit (by simpa using h) hp (fun j z hj hz => hn (j + 1) z (by omega) (by simpa using hz))
theorem find_miss {α : Type} {p : α → Bool} {xs : List α} (hn : ∀ (j : Nat) (y : α), j < xs.length → xs[j]? = some y → p y = false) : xs.find? p = none := by
  rw [List.find?_eq_none]
  intro x hx
  obtain ⟨j, hj, rfl⟩ := List.mem_iff_getElem.1 hx
  simp [hn j xs[j] hj (by simp [hj])]

theorem flo_hit {fs : List Flr} {id : Int} {k : Nat} {x : Flr} (hx : fs[k]? = some x) (h : (x.1 == id) = true) (hn : ∀ (j : Nat) (y : Flr), j < k → fs[j]? = some y → (y.1 == id) = false) : x.2 = flo fs id := by
  simp [flo, find_hit (p := fun x => x.1 == id) hx h hn]
theorem flo_miss {fs : List Flr} {id : Int} {n : Nat} (hl : n = fs.length) (hn : ∀ (j : Nat) (y : Flr), j < n → fs[j]? = some y → (y.1 == id) = false) : (0 : Int) = flo fs id := by
  subst hl
  unfold flo
  rw [find_miss (p := fun x : Flr => x.1 == id) hn]
  rfl
theorem step_no {α : Type} {p : α → Bool} {xs : List α} {k : Nat} {x : α} (hx : xs[k]? = some x) (h : p x = false) (hn : ∀ (j : Nat) (y : α), j < k → xs[j]? = some y → p y = false) : ∀ (j : Nat) (y : α), j < k + 1 → xs[j]? = some y → p y = false := by
  intro j y hj hy
  by_cases e : j = k
  · subst e; rw [hx] at hy; cases hy; exact h
  · exact hn j y (by omega) hy

set_option maxHeartbeats 1000000 in
theorem sfloor_any (vi : Value) (a : Option Addr) (n cap : Nat) (fs : List Flr) (id : Int) (w : World) (hn : n ≤ 140737488351232) (hf : Rw encF 2 w (.slice a n cap) fs) :
    Calls Try.prog 34 #[.agg #[vi, .slice a n cap], .int .i64 id] w fun e w' => e = .returned (.int .i64 (flo fs id)) ∧ Below w.heap.size w w' := by
  have HF := hide hf
  clear hf
  go_enter Try.func34, Try.ntmps34
  go_wp2
  go_loop [5] (fun i => ∃ k : Nat, k ≤ n ∧ i = .int .i64 k ∧ ∀ (j : Nat) (y : Flr), j < k → fs[j]? = some y → (y.1 == id) = false) (fun i => n - (intOf i).toNat)
  case atStart => exact ⟨0, Nat.zero_le _, rfl, fun j x hj => absurd hj (Nat.not_lt_zero _)⟩
  case round =>
    obtain ⟨k, hk, rfl, hno⟩ := hrel
    have HN := hide hno
    clear hno
    by_cases hlt : k < n
    · obtain ⟨x, b, off, hx, rfl, hb, hcap, hc⟩ := (unhide HF).at hlt
      have c0 : w.cell? ⟨b, off + k * 2, none⟩ = some (.int .i64 x.1) := hc 0 (by omega)
      have c1 : w.cell? ⟨b, off + k * 2 + 1, none⟩ = some (.int .i64 x.2) := hc 1 (by omega)
      have HX := hide hx
      clear hc hx
      rcases Bool.eq_false_or_eq_true (x.1 == id) with he | he
      · have HE := hide (flo_hit (unhide HX) he (unhide HN))
        go_wp2
        go_ret
        exact ⟨ret_int (unhide HE), (Below.refl _ _).alloc (Nat.le_refl _) _⟩
      · have HE := hide (step_no (p := fun y => y.1 == id) (unhide HX) he (unhide HN))
        go_wp2
        go_round
        case rel => exact ⟨k + 1, by omega, by go_num, unhide HE⟩
        case measure => simp [intOf]; omega
    · have HE := hide (flo_miss (unhide HF).len.1 (by have e : k = n := by omega
                                                      exact e ▸ unhide HN))
      go_wp2
      go_ret
      exact ⟨ret_int (unhide HE), (Below.refl _ _).alloc (Nat.le_refl _) _⟩

set_option maxHeartbeats 1000000 in
theorem ifloor_any (vi : Value) (a : Option Addr) (n cap : Nat) (fs : List Flr) (id : Int) (w : World) (hn : n ≤ 140737488351232) (hf : Rw encF 2 w (.slice a n cap) fs) :
    Calls Try.prog 89 #[.agg #[vi, .slice a n cap], .int .i64 id] w fun e w' => e = .returned (.int .i64 (flo fs id)) ∧ Below w.heap.size w w' := by
  have HF := hide hf
  clear hf
  go_enter Try.func89, Try.ntmps89
  go_wp2
  go_loopw [10] (fun i wr => ∃ k : Nat, k ≤ n ∧ i = .int .i64 k ∧ (∀ (j : Nat) (y : Flr), j < k → fs[j]? = some y → (y.1 == id) = false) ∧ Below w.heap.size w wr) (fun i _ => n - (intOf i).toNat)
  case atStart => exact ⟨0, Nat.zero_le _, rfl, fun j x hj => absurd hj (Nat.not_lt_zero _), (Below.refl _ _).alloc (Nat.le_refl _) _⟩
  case round =>
    obtain ⟨k, hk, rfl, hno, hbel⟩ := hrel
    have HN := hide hno
    have HB := hide hbel
    have hsz := hbel.size
    clear hno
    by_cases hlt : k < n
    · obtain ⟨x, b, off, hx, rfl, hb, hcap, hc⟩ := (unhide HF).at hlt
      have c0 : wr.cell? ⟨b, off + k * 2, none⟩ = some (.int .i64 x.1) := (hbel.cell (p := ⟨b, off + k * 2, none⟩) hb).trans (hc 0 (by omega))
      have c1 : wr.cell? ⟨b, off + k * 2 + 1, none⟩ = some (.int .i64 x.2) := (hbel.cell (p := ⟨b, off + k * 2 + 1, none⟩) hb).trans (hc 1 (by omega))
      have HX := hide hx
      clear hc hx hbel
      rcases Bool.eq_false_or_eq_true (x.1 == id) with he | he
      · have HE := hide (flo_hit (unhide HX) he (unhide HN))
        go_wp2
        go_ret
        exact ⟨ret_int (unhide HE), (unhide HB).alloc hsz _⟩
      · have HE := hide (step_no (p := fun y => y.1 == id) (unhide HX) he (unhide HN))
        go_wp2
        go_roundw
        case rel => exact ⟨k + 1, by omega, by go_num, unhide HE, (unhide HB).alloc hsz _⟩
        case measure => simp [intOf]; omega
    · have HE := hide (flo_miss (unhide HF).len.1 (by have e : k = n := by omega
                                                      exact e ▸ unhide HN))
      clear hbel
      go_wp2
      go_ret
      exact ⟨ret_int (unhide HE), unhide HB⟩
end Go.Proofs.Ytbajnnpihjmjmaa
