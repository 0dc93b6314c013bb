/-
  EntryOf, the program's and the specification's. No statement is proved here.
-/
import Derived.Test.YtbajnnpihjmjmaaEntMx
import Derived.Test.YtbajnnpihjmjmaaFlo
namespace Go.Proofs.Ytbajnnpihjmjmaa
open Go.RowKit

abbrev Itm := Int × Key
def encI (x : Itm) : List Value := [.int .i64 x.1, .int .i64 x.2.1, .int .i64 x.2.2.1, .int .i64 x.2.2.2.1, .int .i64 x.2.2.2.2.1, .string x.2.2.2.2.2]
def zeroK : Key := (0, 0, 0, 0, ⟨#[]⟩)
def ent (xs : List Itm) (id : Int) : Option Key := (xs.find? fun x => x.1 == id).map (·.2)
def entR (xs : List Itm) (id : Int) : Key × Bool := match ent xs id with
  | some e => (e, true)
  | none => (zeroK, false)
/-- Each text is short enough for this machine. -/
def Sml (xs : List Itm) : Prop := ∀ (k : Nat) (x : Itm), xs[k]? = some x → x.2.2.2.2.2.size ≤ 1048576

theorem entR_hit {xs : List Itm} {id : Int} {k : Nat} {x : Itm} {r : Key} {ok : Bool} (h0 : entR xs id = (r, ok)) (hx : xs[k]? = some x) (h : (x.1 == id) = true) (hn : ∀ (j : Nat) (y : Itm), j < k → xs[j]? = some y → (y.1 == id) = false) : r = x.2 ∧ ok = true := by
  have e : ent xs id = some x.2 := by simp [ent, find_hit (p := fun x : Itm => x.1 == id) hx h hn]
  simp only [entR, e, Prod.mk.injEq] at h0
  exact ⟨h0.1.symm, h0.2.symm⟩
theorem entR_miss {xs : List Itm} {id : Int} {n : Nat} {r : Key} {ok : Bool} (h0 : entR xs id = (r, ok)) (hl : n = xs.length) (hn : ∀ (j : Nat) (y : Itm), j < n → xs[j]? = some y → (y.1 == id) = false) : r = zeroK ∧ ok = false := by
  subst hl
  have e : ent xs id = none := by
    unfold ent
    rw [find_miss (p := fun x : Itm => x.1 == id) hn]
    rfl
  simp only [entR, e, Prod.mk.injEq] at h0
  exact ⟨h0.1.symm, h0.2.symm⟩
/-- The cells of an element, as the walk reads them. -/
theorem item_cells {w : World} {b off k : Nat} {x : Itm} (hc : ∀ j, j < 6 → w.cell? ⟨b, off + k * 6 + j, none⟩ = (encI x)[j]?) :
    w.cell? ⟨b, off + k * 6, none⟩ = some (.int .i64 x.1) ∧ w.cell? ⟨b, off + k * 6 + 1, none⟩ = some (.int .i64 x.2.1) ∧ w.cell? ⟨b, off + k * 6 + 1 + 1, none⟩ = some (.int .i64 x.2.2.1) ∧ w.cell? ⟨b, off + k * 6 + 1 + 2, none⟩ = some (.int .i64 x.2.2.2.1) ∧ w.cell? ⟨b, off + k * 6 + 1 + 3, none⟩ = some (.int .i64 x.2.2.2.2.1) ∧ w.cell? ⟨b, off + k * 6 + 1 + 4, none⟩ = some (.string x.2.2.2.2.2) :=
  ⟨hc 0 (by omega), hc 1 (by omega), hc 2 (by omega), hc 3 (by omega), hc 4 (by omega), hc 5 (by omega)⟩

set_option maxHeartbeats 1000000 in
theorem sentry_any (vf : Value) (a : Option Addr) (n cap : Nat) (xs : List Itm) (id : Int) (r : Key) (ok : Bool) (h0 : Hid (entR xs id = (r, ok))) (w : World) (hn : n ≤ 140737488351232) (hf : Rw encI 6 w (.slice a n cap) xs) :
    Calls Try.prog 124 #[.agg #[.slice a n cap, vf], .int .i64 id] w fun e w' => e = .returned (.tuple #[.agg #[.int .i64 r.1, .int .i64 r.2.1, .int .i64 r.2.2.1, .int .i64 r.2.2.2.1, .string r.2.2.2.2], .bool ok]) ∧ Below w.heap.size w w' := by
  have HF := hide hf
  clear hf
  go_enter Try.func124, Try.ntmps124
  go_wp2
  go_loop [6] (fun i => ∃ k : Nat, k ≤ n ∧ i = .int .i64 k ∧ ∀ (j : Nat) (y : Itm), j < k → xs[j]? = some y → (y.1 == id) = false) (fun i => n - (intOf i).toNat)
  case atStart => exact ⟨0, Nat.zero_le _, rfl, fun j x hj => absurd hj (Nat.not_lt_zero _)⟩
  case round =>
    obtain ⟨k, hk, rfl, hno⟩ := hrel
    have HN := hide hno
    clear hno
    by_cases hlt : k < n
    · obtain ⟨x, b, off, hx, rfl, hb, hcap, hc⟩ := (unhide HF).at hlt
      obtain ⟨c0, c1, c2, c3, c4, c5⟩ := item_cells hc
      have HX := hide hx
      clear hc hx
      rcases Bool.eq_false_or_eq_true (x.1 == id) with he | he
      · obtain ⟨rfl, rfl⟩ := entR_hit (unhide h0) (unhide HX) he (unhide HN)
        go_wp2
        exact bodyPost_ret (v := .tuple #[.agg #[.int .i64 x.2.1, .int .i64 x.2.2.1, .int .i64 x.2.2.2.1, .int .i64 x.2.2.2.2.1, .string x.2.2.2.2.2], .bool true]) (by simp [results, Try.results124, go_sem]) rfl ⟨rfl, ((Below.refl _ _).alloc (Nat.le_refl _) _).alloc (by simp) _⟩
      · have HE := hide (step_no (p := fun y => y.1 == id) (unhide HX) he (unhide HN))
        go_wp2
        go_round
        case rel => exact ⟨k + 1, by omega, by go_num, unhide HE⟩
        case measure => simp [intOf]; omega
    · obtain ⟨rfl, rfl⟩ := entR_miss (unhide h0) (unhide HF).len.1 (by have e : k = n := by omega
                                                                       exact e ▸ unhide HN)
      go_wp2
      exact bodyPost_ret (v := .tuple #[.agg #[.int .i64 zeroK.1, .int .i64 zeroK.2.1, .int .i64 zeroK.2.2.1, .int .i64 zeroK.2.2.2.1, .string zeroK.2.2.2.2], .bool false]) (by simp [results, Try.results124, go_sem, zeroK]) rfl ⟨rfl, ((Below.refl _ _).alloc (Nat.le_refl _) _).alloc (by simp) _⟩

end Go.Proofs.Ytbajnnpihjmjmaa
