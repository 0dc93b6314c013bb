/-
  What a state lacks of another one: the program's. No statement is proved here.
-/
import Derived.Test.YtdpaocikmijioacVwP
import Derived.Test.YtdpaocikmijioacSt3
import Derived.Test.YtdpaocikmijioacStBx
import Derived.Test.YtdpaocikmijioacRegs6
import Derived.Test.YtdpaocikmijioacApp2
import Derived.Test.YtdpaocikmijioacIStOk
import Derived.Test.YtdpaocikmijioacStT
import Derived.Test.YtdpaocikmijioacStM
namespace Go.Proofs.Ytdpaocikmijioac
open Go.RowKit

/-- While an item is copied: the argument, the result's variable. -/
structure C6 (w W : World) (x : Itm) : Prop where
  bel : Below w.heap.size w W
  k1 : W.heap[w.heap.size]? = some (.cells #[.int .i64 x.1, .int .i64 x.2.1, .int .i64 x.2.2.1, .int .i64 x.2.2.2.1, .int .i64 x.2.2.2.2.1, .string x.2.2.2.2.2] 75 (0, 0))
  k2 : W.heap[w.heap.size + 1]? = some (.cells #[.int .i64 0, .int .i64 0, .int .i64 0, .int .i64 0, .int .i64 0, .string ⟨#[]⟩] 75 (0, 0))
theorem C6.lt {w W : World} {x : Itm} (h : C6 w W x) : w.heap.size + 1 < W.heap.size := (Array.getElem?_eq_some_iff.1 h.k2).1
theorem C6.later {w W Y : World} {x : Itm} (h : C6 w W x) (b : Below W.heap.size W Y) : C6 w Y x := by
  have := h.lt
  exact ⟨h.bel.trans (b.mono h.bel.size), (b.block _ (by omega)).trans h.k1, (b.block _ h.lt).trans h.k2⟩
theorem C6.drewH {w W : World} {x : Itm} (h : Hid (C6 w W x)) : Hid (C6 w W.drew x) := hide ⟨(unhide h).bel.drew, (unhide h).k1, (unhide h).k2⟩
theorem kC6 {w W : World} {x : Itm} (h : Hid (C6 w W x)) : Below w.heap.size w W ∧ W.cell? ⟨w.heap.size, 0, none⟩ = some (.int .i64 x.1) ∧ W.cell? ⟨w.heap.size, 1, none⟩ = some (.int .i64 x.2.1) ∧ W.cell? ⟨w.heap.size, 2, none⟩ = some (.int .i64 x.2.2.1) ∧ W.cell? ⟨w.heap.size, 3, none⟩ = some (.int .i64 x.2.2.2.1) ∧ W.cell? ⟨w.heap.size, 4, none⟩ = some (.int .i64 x.2.2.2.2.1) ∧ W.cell? ⟨w.heap.size, 5, none⟩ = some (.string x.2.2.2.2.2) := by
  obtain ⟨h0, h1, h2, h3, h4, h5, -⟩ := blk_cells6 (unhide h).k1
  exact ⟨(unhide h).bel, h0, h1, h2, h3, h4, h5⟩
theorem kC6s {w W : World} {x : Itm} (h : Hid (C6 w W x)) (v0 v1 v2 v3 v4 v5 : Value) : Below w.heap.size w ((((((W.setCell ⟨w.heap.size + 1, 0, none⟩ v0).setCell ⟨w.heap.size + 1, 1, none⟩ v1).setCell ⟨w.heap.size + 1, 2, none⟩ v2).setCell ⟨w.heap.size + 1, 3, none⟩ v3).setCell ⟨w.heap.size + 1, 4, none⟩ v4).setCell ⟨w.heap.size + 1, 5, none⟩ v5) ∧ ((((((W.setCell ⟨w.heap.size + 1, 0, none⟩ v0).setCell ⟨w.heap.size + 1, 1, none⟩ v1).setCell ⟨w.heap.size + 1, 2, none⟩ v2).setCell ⟨w.heap.size + 1, 3, none⟩ v3).setCell ⟨w.heap.size + 1, 4, none⟩ v4).setCell ⟨w.heap.size + 1, 5, none⟩ v5).cell? ⟨w.heap.size, 0, none⟩ = some (.int .i64 x.1) ∧ ((((((W.setCell ⟨w.heap.size + 1, 0, none⟩ v0).setCell ⟨w.heap.size + 1, 1, none⟩ v1).setCell ⟨w.heap.size + 1, 2, none⟩ v2).setCell ⟨w.heap.size + 1, 3, none⟩ v3).setCell ⟨w.heap.size + 1, 4, none⟩ v4).setCell ⟨w.heap.size + 1, 5, none⟩ v5).cell? ⟨w.heap.size, 1, none⟩ = some (.int .i64 x.2.1) ∧ ((((((W.setCell ⟨w.heap.size + 1, 0, none⟩ v0).setCell ⟨w.heap.size + 1, 1, none⟩ v1).setCell ⟨w.heap.size + 1, 2, none⟩ v2).setCell ⟨w.heap.size + 1, 3, none⟩ v3).setCell ⟨w.heap.size + 1, 4, none⟩ v4).setCell ⟨w.heap.size + 1, 5, none⟩ v5).cell? ⟨w.heap.size, 2, none⟩ = some (.int .i64 x.2.2.1) ∧ ((((((W.setCell ⟨w.heap.size + 1, 0, none⟩ v0).setCell ⟨w.heap.size + 1, 1, none⟩ v1).setCell ⟨w.heap.size + 1, 2, none⟩ v2).setCell ⟨w.heap.size + 1, 3, none⟩ v3).setCell ⟨w.heap.size + 1, 4, none⟩ v4).setCell ⟨w.heap.size + 1, 5, none⟩ v5).cell? ⟨w.heap.size, 3, none⟩ = some (.int .i64 x.2.2.2.1) ∧ ((((((W.setCell ⟨w.heap.size + 1, 0, none⟩ v0).setCell ⟨w.heap.size + 1, 1, none⟩ v1).setCell ⟨w.heap.size + 1, 2, none⟩ v2).setCell ⟨w.heap.size + 1, 3, none⟩ v3).setCell ⟨w.heap.size + 1, 4, none⟩ v4).setCell ⟨w.heap.size + 1, 5, none⟩ v5).cell? ⟨w.heap.size, 4, none⟩ = some (.int .i64 x.2.2.2.2.1) ∧ ((((((W.setCell ⟨w.heap.size + 1, 0, none⟩ v0).setCell ⟨w.heap.size + 1, 1, none⟩ v1).setCell ⟨w.heap.size + 1, 2, none⟩ v2).setCell ⟨w.heap.size + 1, 3, none⟩ v3).setCell ⟨w.heap.size + 1, 4, none⟩ v4).setCell ⟨w.heap.size + 1, 5, none⟩ v5).cell? ⟨w.heap.size, 5, none⟩ = some (.string x.2.2.2.2.2) := by
  obtain ⟨hb, h0, h1, h2, h3, h4, h5⟩ := kC6 h
  have ne : w.heap.size ≠ w.heap.size + 1 := by omega
  exact ⟨below_set6 (by omega) hb, blk_far6 ne h0, blk_far6 ne h1, blk_far6 ne h2, blk_far6 ne h3, blk_far6 ne h4, blk_far6 ne h5⟩

set_option maxHeartbeats 4000000 in
set_option maxRecDepth 100000 in
theorem icopyI_any (x : Itm) (hd : x.2.2.2.2.2.size ≤ 281474976710656) (w : World) :
    Calls Try.prog 99 #[.agg #[.int .i64 x.1, .int .i64 x.2.1, .int .i64 x.2.2.1, .int .i64 x.2.2.2.1, .int .i64 x.2.2.2.2.1, .string x.2.2.2.2.2]] w fun e w' => e = .returned (.agg #[.int .i64 x.1, .int .i64 x.2.1, .int .i64 x.2.2.1, .int .i64 x.2.2.2.1, .int .i64 x.2.2.2.2.1, .string x.2.2.2.2.2]) ∧ Below w.heap.size w w' := by
  go_enter Try.func99, Try.ntmps99
  go_upto_region 1 with fail
  obtain ⟨V, hV⟩ : ∃ V, V = (w.alloc (.cells #[.int .i64 x.1, .int .i64 x.2.1, .int .i64 x.2.2.1, .int .i64 x.2.2.2.1, .int .i64 x.2.2.2.2.1, .string x.2.2.2.2.2] 75)).alloc (.cells #[.int .i64 0, .int .i64 0, .int .i64 0, .int .i64 0, .int .i64 0, .string ⟨#[]⟩] 75) := ⟨_, rfl⟩
  have CV := hide (show C6 w V x from by rw [hV]; exact ⟨((Below.refl w.heap.size w).alloc (Nat.le_refl _) _).alloc (by simp) _, lowB2 w _ _, newB2 w _ _⟩)
  rw [← hV]
  clear hV
  have CD := C6.drewH CV
  have z1 := (unhide CV).lt
  have z0 : w.heap.size < V.heap.size := by omega
  go_region_held3 (fun W => Below w.heap.size w W ∧ W.cell? ⟨w.heap.size, 0, none⟩ = some (.int .i64 x.1) ∧ W.cell? ⟨w.heap.size, 1, none⟩ = some (.int .i64 x.2.1) ∧ W.cell? ⟨w.heap.size, 2, none⟩ = some (.int .i64 x.2.2.1) ∧ W.cell? ⟨w.heap.size, 3, none⟩ = some (.int .i64 x.2.2.2.1) ∧ W.cell? ⟨w.heap.size, 4, none⟩ = some (.int .i64 x.2.2.2.2.1) ∧ W.cell? ⟨w.heap.size, 5, none⟩ = some (.string x.2.2.2.2.2))
    (first | (with_reducible exact kC6 CV) | (with_reducible exact kC6 CD) | (with_reducible exact kC6 CA) | (with_reducible exact kC6s CA _ _ _ _ _ _))
    (first | (go_at_call 71; refine (icopy_any x.2.1 x.2.2.1 x.2.2.2.1 x.2.2.2.2.1 x.2.2.2.2.2 hd _).mono ?_; rintro e w6 ⟨rfl, b6⟩; (first | (with_reducible have CA := hide ((unhide CD).later b6)) | (with_reducible have CA := hide ((unhide CV).later b6))); obtain ⟨q0, q1, q2, q3, q4, q5, qf⟩ := blk_cells6 (unhide CA).k2; have zA := (unhide CA).lt; clear b6))
  all_goals go_wp2
  all_goals exact bodyPost_ret (v := .agg #[.int .i64 x.1, .int .i64 x.2.1, .int .i64 x.2.2.1, .int .i64 x.2.2.2.1, .int .i64 x.2.2.2.2.1, .string x.2.2.2.2.2]) (by simp [results, Try.results99, go_sem, q0, q1, q2, q3, q4, q5]) rfl ⟨rfl, (kC6s CA _ _ _ _ _ _).1⟩
theorem lkF_pos {fs gs : List Flr} {k : Nat} {x : Flr} (hx : gs[k]? = some x) (h : lkF1 fs x = true) : lkF fs (gs.take (k + 1)) = lkF fs (gs.take k) ++ [x] := by
  rw [lkF, take_filter hx, if_pos h]; rfl
theorem lkF_neg {fs gs : List Flr} {k : Nat} {x : Flr} (hx : gs[k]? = some x) (h : lkF1 fs x = false) : lkF fs (gs.take (k + 1)) = lkF fs (gs.take k) := by
  rw [lkF, take_filter hx, if_neg (by simp [h]), List.append_nil]; rfl
theorem lkI_pos {xs ys : List Itm} {fs : List Flr} {k : Nat} {x : Itm} (hx : ys[k]? = some x) (h : lkI1 xs fs x = true) : lkI xs fs (ys.take (k + 1)) = lkI xs fs (ys.take k) ++ [x] := by
  rw [lkI, take_filter hx, if_pos h]; rfl
theorem lkI_neg {xs ys : List Itm} {fs : List Flr} {k : Nat} {x : Itm} (hx : ys[k]? = some x) (h : lkI1 xs fs x = false) : lkI xs fs (ys.take (k + 1)) = lkI xs fs (ys.take k) := by
  rw [lkI, take_filter hx, if_neg (by simp [h]), List.append_nil]; rfl
theorem lkF_k {fs gs : List Flr} {k : Nat} : (lkF fs (gs.take k)).length ≤ k := Nat.le_trans (lkF_len _ _) (by simp; omega)
theorem lkI_k {xs ys : List Itm} {fs : List Flr} {k : Nat} : (lkI xs fs (ys.take k)).length ≤ k := Nat.le_trans (lkI_len _ _ _) (by simp; omega)
theorem inewerK_v (a b : Key) (r : Bool) (h : Hid (decide (0 < cmpE a.1 a.2.1 a.2.2.1 a.2.2.2.1 a.2.2.2.2 b.1 b.2.1 b.2.2.1 b.2.2.2.1 b.2.2.2.2) = r)) (w : World) : Calls Try.prog 104 #[.agg #[.int .i64 a.1, .int .i64 a.2.1, .int .i64 a.2.2.1, .int .i64 a.2.2.2.1, .string a.2.2.2.2], .agg #[.int .i64 b.1, .int .i64 b.2.1, .int .i64 b.2.2.1, .int .i64 b.2.2.2.1, .string b.2.2.2.2]] w fun e w' => e = .returned (.bool r) ∧ Below w.heap.size w w' := by
  rw [← unhide h]; exact inewer_any _ _ _ _ _ _ _ _ _ _ w

end Go.Proofs.Ytdpaocikmijioac
