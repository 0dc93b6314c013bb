/-
  An entry that came in as an argument: its value written out. No statement is proved here.
-/
import Derived.Test.YtdpaocikmijioacBase
import Derived.ProofKit
import Derived.ChangeArms
namespace Go.Proofs.Ytdpaocikmijioac
open Go.ChangeShapes Go.WideShapes Go.ChangeAt Go.RowKit

theorem array5 {α : Type} {cs : Array α} (h : cs.size = 5) : ∃ c0 c1 c2 c3 c4, cs = #[c0, c1, c2, c3, c4] := by
  obtain ⟨l⟩ := cs
  match l, h with
  | [c0, c1, c2, c3, c4], _ => exact ⟨c0, c1, c2, c3, c4, rfl⟩

theorem cells_int : Try.prog.cellsOf 3 = 1 := by kernel_rfl
theorem cells_string : Try.prog.cellsOf 9 = 1 := by kernel_rfl
theorem cells_ent : Try.prog.cellsOf 52 = 5 := by kernel_rfl

theorem int_fits {n : Int} (h : (Lit.int .i64 n).wf = true) : -9223372036854775808 ≤ n ∧ n ≤ 9223372036854775807 := by
  simp [Lit.wf, IntKind.min, IntKind.max, IntKind.bits, IntKind.signed] at h
  omega

set_option maxRecDepth 100000 in
theorem open_ent {H : Type} {enc : TypeId × Value → H} {w : World} {base : Nat} {spare : Nat → Bool} {held : Bool} {r : Reach} {b0 : Nat} {v : Value} {d : DataW H} {p : List MemPlace}
    (hv : Value.okWide Try.prog w r b0 52 v) (h : DataW.Trod enc Try.prog w base spare held 52 v d p) :
    ∃ (ai ar ab av : Int) (ad : ByteArray), v = .agg #[.int .i64 ai, .int .i64 ar, .int .i64 ab, .int .i64 av, .string ad] ∧ ad.size ≤ maxLen ∧ (-9223372036854775808 ≤ ai ∧ ai ≤ 9223372036854775807) ∧ (-9223372036854775808 ≤ ar ∧ ar ≤ 9223372036854775807) ∧ (-9223372036854775808 ≤ ab ∧ ab ≤ 9223372036854775807) ∧ (-9223372036854775808 ≤ av ∧ av ≤ 9223372036854775807) := by
  obtain ⟨cs, rfl, hsz⟩ := okWide_struct Try.underlying52 hv
  obtain ⟨c0, c1, c2, c3, c4, rfl⟩ := array5 (hsz.trans cells_ent)
  obtain ⟨fuel, hf⟩ := h
  obtain ⟨xs, n, _, hx, hl, hlen, hfs⟩ := DataW.trod_struct Try.underlying52 hf
  have h0 : DataW.trod enc Try.prog w base spare held n 3 [c0] = xs[0]? := by
    have := hfs 0 _ rfl
    simpa [Value.cells, cells_int] using this
  have h1 : DataW.trod enc Try.prog w base spare held n 3 [c1] = xs[1]? := by
    have := hfs 1 _ rfl
    simpa [Value.cells, cells_int] using this
  have h2 : DataW.trod enc Try.prog w base spare held n 3 [c2] = xs[2]? := by
    have := hfs 2 _ rfl
    simpa [Value.cells, cells_int] using this
  have h3 : DataW.trod enc Try.prog w base spare held n 3 [c3] = xs[3]? := by
    have := hfs 3 _ rfl
    simpa [Value.cells, cells_int] using this
  have h4 : DataW.trod enc Try.prog w base spare held n 9 [c4] = xs[4]? := by
    have := hfs 4 _ rfl
    simpa [Value.cells, cells_string] using this
  match xs, hlen with
  | [y0, y1, y2, y3, y4], _ =>
    simp only [List.getElem?_cons_zero, List.getElem?_cons_succ] at h0 h1 h2 h3 h4
    obtain ⟨n0, e0, -, f0⟩ := DataW.trod_int Try.underlying3 h0
    obtain ⟨n1, e1, -, f1⟩ := DataW.trod_int Try.underlying3 h1
    obtain ⟨n2, e2, -, f2⟩ := DataW.trod_int Try.underlying3 h2
    obtain ⟨n3, e3, -, f3⟩ := DataW.trod_int Try.underlying3 h3
    obtain ⟨s, e4, -, f4⟩ := DataW.trod_string Try.underlying9 h4
    simp only [List.cons.injEq, and_true] at e0 e1 e2 e3 e4
    exact ⟨n0, n1, n2, n3, s, by rw [e0, e1, e2, e3, e4], f4, int_fits f0, int_fits f1, int_fits f2, int_fits f3⟩
end Go.Proofs.Ytdpaocikmijioac
