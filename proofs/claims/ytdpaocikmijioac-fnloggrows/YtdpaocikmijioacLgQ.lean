/-
  append([]T{}, src...) of a row that is read; the rest of a row. No program here, no statement is proved here.
-/
import Derived.Test.YtdpaocikmijioacLgV
namespace Go.Proofs.Ytdpaocikmijioac
open Go.RowKit

theorem wpList_cp7 {P : Program} {α : Type} {enc : α → List Value} {k : Nat} (hk : ∀ x, (enc x).length = k) (h0 : 0 < k) {ops : Array Oper} {rest : List Oper} {o : Oper} {a : Act} {Q : Exit → Act → World → Prop}
    (E T : TypeId) (i : TypeInfo) (z : Value) (bytes : Nat) (ht : P.underlying T = some (.slice E)) (hi : P.info? E = some i) (hz : i.zero = some z) (hsize : i.size = k) (hby : i.bytes = bytes) (hzs : z.cells.size = k) (hb : bytes ≤ 1000)
    (w : World) (hgd : o.guard = none) (s xo : Operand) (ho : o.op = .call { callee := .builtin .append, args := #[s, xo], argTypes := #[T, T] })
    (ad : Addr) (hs : a.eval s = .slice (some ad) 0 0) (u : Value) (ys : List α) (n : Nat) (hn : Hid (n = ys.length)) (hx : a.eval xo = u) (hu : Rw enc k w u ys) (hlen : n ≤ 2000000)
    (h : ∀ a' c' w', Wk7 enc k E w.heap.size w' (.slice a' n c') ys → Below w.heap.size w w' → wpList P ops Q rest (a.put o.dst (.slice a' n c')) w') :
    wpList P ops Q (o :: rest) a w := by
  obtain rfl := unhide hn
  refine wpList_plain hgd fun K hK => ?_
  by_cases hm : ys.length = 0
  · have hy : ys = [] := List.eq_nil_of_length_eq_zero hm
    obtain ⟨x, c, hu'⟩ : ∃ x c, u = .slice x 0 c := by
      obtain ⟨x, n, c, e, hn⟩ := hu.form
      exact ⟨x, c, by rw [e, hn, hm]⟩
    have hrun := run_cp7_none (P := P) (w := w) T o.type E i ht hi ad x c
    unfold Oper.wp
    simp [execOp, ho, resolve, invoke, builtin, hs, hx, hu', hrun, Result.andThen]
    have := h (some ad) 0 w (.inr ⟨hy, some ad, 0, by rw [hm]⟩) (Below.refl _ _)
    rw [hm] at this
    exact hK _ _ this
  · obtain ⟨x, cap, rfl, hcap, hr⟩ := hu
    have hu : Rw enc k w (.slice x ys.length cap) ys := ⟨x, cap, rfl, hcap, hr⟩
    rcases hr with hr | ⟨b, off, rfl, hb', hc⟩
    · rw [hr] at hm; exact absurd rfl hm
    · have hcells := hu.flat hk h0
      obtain ⟨v', w', hrun, r1, r2⟩ := run_append_arg_grows (P := P) w T o.type E i z k bytes ht hi hz hsize hby hzs h0 ad 0 0 [] (by simp) (fun j u hj => by simp at hj) ⟨b, off, none⟩ ys.length cap (ys.flatMap enc) (by rw [flat_len hk]) hcells (by omega) (by unfold maxLen; omega) (by
        have : (0 + ys.length) * bytes ≤ 2000000 * 1000 := Nat.mul_le_mul (by omega) hb
        omega)
      have hO : Ow enc k E w.heap.size w' v' ys := by
        unfold Ow
        simpa using r1
      obtain ⟨a', c', rfl⟩ := hO.form
      unfold Oper.wp
      simp [execOp, ho, resolve, invoke, builtin, hs, hx, hrun, Result.andThen]
      exact hK _ _ (h a' c' w' (.inl hO) ⟨r2.os, r2.tape, r2.output, r2.size, fun q hq => r2.block q hq (by simp)⟩)

theorem Rw.drop {α : Type} {enc : α → List Value} {k : Nat} {w : World} {a : Option Addr} {n cap j m c : Nat} {xs : List α} (h : Rw enc k w (.slice a n cap) xs) (hj : n = j + m) (h0 : ¬ m = 0) (hc : m ≤ c) : Rw enc k w (.slice (a.map fun x => x.add (j * k)) m c) (xs.drop j) := by
  have hl := h.len.1
  obtain ⟨a', cap', e, hcap, hr⟩ := h
  simp only [Value.slice.injEq] at e
  obtain ⟨rfl, -, rfl⟩ := e
  have hlm : (xs.drop j).length = m := by simp; omega
  rcases hr with rfl | ⟨b, off, rfl, hb, hcell⟩
  · simp at hl; omega
  · refine ⟨some ⟨b, off + j * k, none⟩, c, ?_, by omega, .inr ⟨b, off + j * k, rfl, hb, fun i x hx l hl => ?_⟩⟩
    · rw [hlm]; simp [add_off]
    · rw [List.getElem?_drop] at hx
      rw [show off + j * k + i * k + l = off + (j + i) * k + l by rw [Nat.add_mul]; omega]
      exact hcell (j + i) x hx l hl
theorem Wn.drop {base : Nat} {w : World} {ps : List Two} {ss : List Sta} (h : Wn base w ps ss) (k : Nat) : Wn base w (ps.drop k) (ss.drop k) :=
  ⟨by simp [h.len], fun i p s hp hs => by rw [List.getElem?_drop] at hp hs; exact h.ins (k + i) p s hp hs⟩
end Go.Proofs.Ytdpaocikmijioac
