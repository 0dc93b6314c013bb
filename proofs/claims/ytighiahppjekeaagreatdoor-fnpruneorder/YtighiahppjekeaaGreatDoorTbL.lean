/-
  Tables that a law makes of drawn states. No statement is proved here.
-/
import Derived.Test.YtighiahppjekeaaGreatDoorTbD
import Derived.Test.YtighiahppjekeaaGreatDoorTbC
import Derived.Test.YtighiahppjekeaaGreatDoorMkO
import Derived.Test.YtighiahppjekeaaGreatDoorMkQ
namespace Go.Proofs.YtighiahppjekeaaGreatDoor
open Go.RowKit

theorem new_one : Hid (newT 1 = [nulR]) := hide rfl
theorem inew_v (m : Int) (t : Tb) (ht : Hid (newT m = t)) (n : Nat) (hn : Hid (t.length = n)) (w : World) :
    Calls Tryz.prog 22 #[.int .i64 m] w fun e w' => ∃ a c, e = .returned (.slice a n c) ∧ OwG w.heap.size w'.heap.size w' (.slice a n c) t ∧ Below w.heap.size w w' := by
  refine (itablenew_any m w).mono ?_
  rintro e w1 ⟨a, m1, c, rfl, o1, b1⟩
  rw [unhide ht] at o1
  obtain rfl : m1 = n := (o1.rw.len.1).trans (unhide hn)
  exact ⟨a, c, rfl, o1, b1⟩
theorem keep2 {w5 W : World} {b : Nat} {v0 v1 : Value} (h : b < w5.heap.size) (c0 : w5.cell? ⟨b, 0, none⟩ = some v0) (c1 : w5.cell? ⟨b, 1, none⟩ = some v1) (bl : Below w5.heap.size w5 W) :
    Below w5.heap.size w5 W ∧ W.cell? ⟨b, 0, none⟩ = some v0 ∧ W.cell? ⟨b, 1, none⟩ = some v1 :=
  ⟨bl, (bl.cell (p := ⟨b, 0, none⟩) h).trans c0, (bl.cell (p := ⟨b, 1, none⟩) h).trans c1⟩
theorem addT_one {r : List Int} {ms : List Flr} (hl : 5 ≤ r.length) (hm : gF (-1) ms = true) : addT [r] 0 ms = [putMs r ms] := by
  have h := addT_row (t := [r]) (k := 0) (r := r) rfl hl hm
  simpa using h
/-- The row of one's marks, of two's. -/
theorem row_one (xs : List Itm) (fs : List Flr) {i : Nat} (hi : i < 5) : nAt (putMs nulR (mks xs fs)) i = gone xs fs i := by
  rw [mks, row_mks rfl (fun i => by rw [nul_at]; exact Int.le_refl _) _ (fun id => (gone_le xs fs id).1) hi, nul_at]
  have := gone_le xs fs i
  omega
theorem row_len (r : List Int) (ms : List Flr) (h : r.length = 5) : (putMs r ms).length = 5 := by rw [putMs_len, h]
theorem row_two (xs : List Itm) (fs : List Flr) (ys : List Itm) (gs : List Flr) {i : Nat} (hi : i < 5) : nAt (putMs (putMs nulR (mks xs fs)) (mks ys gs)) i = max (gone xs fs i) (gone ys gs i) := by
  rw [mks, mks, row_mks (row_len nulR _ rfl) (nAt_nn (fun i hi => ?_)) _ (fun id => (gone_le ys gs id).1) hi]
  · rw [← mks, row_one xs fs hi]
  · rw [row_len nulR _ rfl] at hi
    rw [← mks, row_one xs fs hi]
    exact (gone_le xs fs i).1
/-- The one row of a table. -/
theorem RwG.one {w : World} {a : Option Addr} {c : Nat} {r : List Int} (h : RwG w (.slice a 1 c) [r]) : ∃ b off ri ci, a = some ⟨b, off, none⟩ ∧ b < w.heap.size ∧ 1 ≤ c ∧ w.cell? ⟨b, off, none⟩ = some (.slice ri r.length ci) ∧ RwN w (.slice ri r.length ci) r := by
  obtain ⟨q, ri, ni, ci, b, off, hq, ha, hb, hc, c0, rq, -⟩ := h.at (i := 0) (by omega)
  simp at hq
  subst hq
  obtain rfl := rq.len.1
  exact ⟨b, off, ri, ci, ha, hb, hc, c0, rq⟩
end Go.Proofs.YtighiahppjekeaaGreatDoor
