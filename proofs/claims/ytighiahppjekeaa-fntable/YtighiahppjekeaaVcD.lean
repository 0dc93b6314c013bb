/-
  A vector that is raised at one place: the specification's and the program's. No statement is proved here.
-/
import Derived.Test.YtighiahppjekeaaVcA
import Derived.Test.YtighiahppjekeaaNmA
namespace Go.Proofs.Ytighiahppjekeaa
open Go.RowKit

theorem OwN.putN {base g n c : Nat} {W : World} {ns : List Int} (h : OwN base W (.slice (some ⟨g, 0, none⟩) n c) ns) (hn : n = ns.length) (k : Nat) (z : Int) : OwN base (W.setCell ⟨g, k, none⟩ (.int .i64 z)) (.slice (some ⟨g, 0, none⟩) n c) (ns.set k z) := by
  subst hn
  have hst := (World.ownsRow.stored (show W.ownsRow base 3 1 (.slice (some ⟨g, 0, none⟩) ns.length c) ns.length (ns.flatMap encN) from h) k (.int .i64 z)).1
  unfold OwN Ow
  rw [List.length_set, flatN, List.map_set, ← flatN]
  exact hst
theorem OwN.slot {base n c : Nat} {a : Option Addr} {W : World} {ns : List Int} (h : OwN base W (.slice a n c) ns) (hn : n = ns.length) {k : Nat} (hk : k < n) : ∃ g y, a = some ⟨g, 0, none⟩ ∧ base ≤ g ∧ n ≤ c ∧ W.cell? ⟨g, k, none⟩ = some y ∧ W.frozen? ⟨g, k, none⟩ = false := by
  subst hn
  have hc := (h.rw encN_len).len.2
  have h' : W.ownsRow base 3 1 (.slice a ns.length c) ns.length (ns.flatMap encN) := h
  rcases h'.2 with ⟨hh, h0⟩ | ⟨g, cap, cur, hh, hg, _⟩
  · omega
  · simp only [Value.slice.injEq] at hh
    obtain ⟨rfl, _, rfl⟩ := hh
    have hc2 := h'.cellAt k (by omega)
    rw [flatN] at hc2
    exact ⟨g, _, rfl, hg, hc, hc2.trans (List.getElem?_eq_getElem (by simpa using hk)), h'.frozenAt k⟩
theorem set_back8 {ns : List Int} {k : Nat} {z : Int} (h : ns[k]? = some z) : ns.set k z = ns := by
  apply List.ext_getElem?
  intro i
  rw [List.getElem?_set]
  by_cases e : k = i
  · subst e
    obtain ⟨hk, rfl⟩ := List.getElem?_eq_some_iff.1 h
    simp [hk]
  · rw [if_neg e]

end Go.Proofs.Ytighiahppjekeaa
