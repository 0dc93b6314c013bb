/-
  What the laws do with an entry: its size is taken off, and it is turned into the program's own. No statement is proved here.
-/
import Derived.Test.YtbajnnpihjmjmaaBase
namespace Go.Proofs.Ytbajnnpihjmjmaa
open Go.RowKit

set_option maxHeartbeats 1000000 in
theorem sz_any (ai ar ab av : Int) (ad : ByteArray) (n : Int) (h1 : 0 ≤ n) (h2 : n ≤ 1048576) (hs : ad.size ≤ maxLen) (w : World) :
    Calls Try.prog 129 #[.agg #[.int .i64 ai, .int .i64 ar, .int .i64 ab, .int .i64 av, .string ad], .int .i64 n] w fun e w' => e = .returned (.int .i64 (if n < ad.size then -1 else n - ad.size)) ∧ Below w.heap.size w w' ∧ w.heap.size < w'.heap.size := by
  unfold maxLen at hs
  by_cases hb : n < ad.size
  · have hd : decide (n - (ad.size : Int) < 0) = true := by simp; omega
    go_enter Try.func129, Try.ntmps129
    go_wp2
    go_ret
    exact ⟨by simp, (Below.refl _ _).alloc (Nat.le_refl _) _, by simp⟩
  · have hd : decide (n - (ad.size : Int) < 0) = false := by simp; omega
    go_enter Try.func129, Try.ntmps129
    go_wp2
    go_ret
    exact ⟨by simp, (Below.refl _ _).alloc (Nat.le_refl _) _, by simp⟩

set_option maxHeartbeats 1000000 in
theorem toentry_any (ai ar ab av : Int) (ad : ByteArray) (w : World) :
    Calls Try.prog 130 #[.agg #[.int .i64 ai, .int .i64 ar, .int .i64 ab, .int .i64 av, .string ad]] w fun e w' => e = .returned (.agg #[.int .i64 ai, .int .i64 ar, .int .i64 ab, .int .i64 av, .string ad]) ∧ Below w.heap.size w w' := by
  go_enter Try.func130, Try.ntmps130
  go_wp2
  exact bodyPost_ret (v := .agg #[.int .i64 ai, .int .i64 ar, .int .i64 ab, .int .i64 av, .string ad]) (by simp [results, Try.results130, go_sem]) rfl ⟨rfl, (((Below.refl _ _).alloc (Nat.le_refl _) _).alloc (by simp) _).alloc (by simp <;> omega) _⟩

/-- What is written below a bound of cells stays so, whatever a call makes behind it. -/
theorem bcell {W w1 : World} (hb : Below W.heap.size W w1) : (∀ b o, b < W.heap.size → w1.cell? ⟨b, o, none⟩ = W.cell? ⟨b, o, none⟩) ∧ (∀ b o, b < W.heap.size → w1.frozen? ⟨b, o, none⟩ = W.frozen? ⟨b, o, none⟩) :=
  ⟨fun b o h => hb.cell (p := ⟨b, o, none⟩) h, fun b o h => hb.frozen (p := ⟨b, o, none⟩) h⟩
end Go.Proofs.Ytbajnnpihjmjmaa
