/-
  Rows of texts that the call itself owns. No statement is proved here.
-/
import Derived.Test.YtdjoobcbnaelnaaDoorApp2
namespace Go.Proofs.YtdjoobcbnaelnaaDoor
open Go.RowKit

def encX (s : ByteArray) : List Value := [.string s]
theorem encX_len (s : ByteArray) : (encX s).length = 1 := rfl
theorem oneX (s : ByteArray) : ∀ u ∈ encX s, u.oneCell' = true := by
  intro u hu
  simp [encX] at hu
  subst hu; rfl
abbrev OwX (base : Nat) (w : World) (v : Value) (ws : List ByteArray) : Prop := Ow encX 1 9 base w v ws
theorem Tryd.infoText : (Tryd.prog.info? 9).map (fun i => (i.zero, i.size, i.bytes)) = some (some (.string ⟨#[]⟩), 1, 16) := by kernel_rfl
/-- What lies in a row of texts: where, and cell by cell. -/
theorem OwX.spread {base : Nat} {w : World} {a : Option Addr} {n c : Nat} {ws : List ByteArray} (h : OwX base w (.slice a n c) ws) (h0 : 0 < n) :
    ∃ g, a = some ⟨g, 0, none⟩ ∧ g < w.heap.size ∧ n = ws.length ∧ n ≤ c ∧ ∀ (j : Nat) (y : ByteArray), ws[j]? = some y → w.cell? ⟨g, 0 + j, none⟩ = some (.string y) := by
  have hl := (h.rw encX_len).len
  rcases h.2 with ⟨e, _⟩ | ⟨g, cap, cur, e, _⟩
  · simp at e; omega
  · simp only [Value.slice.injEq] at e
    obtain ⟨rfl, _, rfl⟩ := e
    refine ⟨g, rfl, ?_, hl.1, hl.2, fun j y hy => ?_⟩
    · obtain ⟨x, b, off, _, e1, hb, _⟩ := (h.rw encX_len).at h0
      simp only [Option.some.injEq, Addr.mk.injEq] at e1
      rw [e1.1]; exact hb
    · have hj : j < n := by rw [hl.1]; exact (List.getElem?_eq_some_iff.1 hy).1
      obtain ⟨x, b, off, hx, e1, hb, _, hc⟩ := (h.rw encX_len).at hj
      simp only [Option.some.injEq, Addr.mk.injEq] at e1
      obtain ⟨rfl, rfl, _⟩ := e1
      rw [hx] at hy
      cases hy
      have := hc 0 (by omega)
      rw [Nat.mul_one, Nat.add_zero] at this
      rw [this]; rfl
end Go.Proofs.YtdjoobcbnaelnaaDoor
