/-
  Two entries are equal where the order says so. No statement is proved here.
-/
import Derived.Test.YtdpaocikmijioabGreatEntP
import Derived.Laws.StructEq
namespace Go.Proofs.YtdpaocikmijioabGreat
open Go.RowKit

theorem eq_iff (ai ar ab av : Int) (ad : ByteArray) (bi br bb bv : Int) (bd : ByteArray) : cmpE ai ar ab av ad bi br bb bv bd = 0 ↔ ai = bi ∧ ar = br ∧ ab = bb ∧ av = bv ∧ ad.toList = bd.toList := by
  rw [cmpE_key, keyC_is.zero]
  simp only [Prod.mk.injEq]
  refine ⟨fun ⟨h0, h1, h2, h3, h4⟩ => ⟨h0, h1, h2, h3, by rw [h4]⟩, fun ⟨h0, h1, h2, h3, h4⟩ => ⟨h0, h1, h2, h3, ?_⟩⟩
  rw [Lib.toList_data, Lib.toList_data] at h4
  obtain ⟨⟨x⟩⟩ := ad
  obtain ⟨⟨y⟩⟩ := bd
  simp at h4
  rw [h4]
theorem eq_run (ai ar ab av : Int) (ad : ByteArray) (bi br bb bv : Int) (bd : ByteArray) (W : World) : (Op.equalIn 10000 38 (.agg #[.int .i64 ai, .int .i64 ar, .int .i64 ab, .int .i64 av, .string ad]) (.agg #[.int .i64 bi, .int .i64 br, .int .i64 bb, .int .i64 bv, .string bd])).run Tryz.prog W = .ok (decide (cmpE ai ar ab av ad bi br bb bv bd = 0)) W := by
  have e : decide (cmpE ai ar ab av ad bi br bb bv bd = 0) = decide (ai = bi ∧ ar = br ∧ ab = bb ∧ av = bv ∧ ad.toList = bd.toList) := decide_eq_decide.mpr (eq_iff ai ar ab av ad bi br bb bv bd)
  rw [e]
  go_simp
  repeat' split
  all_goals simp_all
end Go.Proofs.YtdpaocikmijioabGreat
