/-
  A drawn state is changed: an item or a floor is appended, an item is written. No statement is proved here.
-/
import Derived.Test.YtdpaocikmijioabGreatL3P
import Derived.Test.YtdpaocikmijioabGreatApp2
import Derived.Deep.RegionLaw
namespace Go.Proofs.YtdpaocikmijioabGreat
open Go.RowKit

/-- A call of a Go function at a step of a region that draws. -/
theorem step_call {P : Program} {ops : Array Oper} {o : Oper} {a : Act} {w : World} {K : Act → World → Prop} {Q : Exit → Act → World → Prop} {R : Prop} (hgd : o.guard = none) (f : FuncId) (args : Array Value) (hrun : (execOp a.eval o).run P w = .ok (.enter f args) w)
    (hc : Calls P f args w fun e w' => ∃ v, e = .returned v ∧ K (a.put o.dst v) w') : if Region.wanted o (yielded ops a.tmps) = true then Oper.wp P o a w K Q else R := by
  rw [if_pos (by simp [Region.wanted, hgd])]
  unfold Oper.wp
  rw [hrun, Oper.upon_enter]
  refine hc.mono fun e w'' hh => ?_
  obtain ⟨v, rfl, hh⟩ := hh
  exact hh

variable {m : Nat} {w X Y : World} {g : Nat} {v : Value} {xs : List Int} {z b : Nat} {v1 v2 : Value} {its : List Itm} {fls : List Flr}
theorem R3.turn (h : R3 m w X g v xs z b v1 v2 its fls) {row : Option Nat} (hg : X.grownBy Y row) (hr : ∀ q, row = some q → w.heap.size ≤ q ∧ q ≠ z ∧ q ≠ b) :
    w.grownBy Y (some g) ∧ Cur Y g v xs ∧ Y.heap[z]? = some (StB (.slice none 0 0) (.slice none 0 0)) ∧ Y.heap[b]? = some (StB v1 v2) := by
  have hgl := h.gl
  have hsz := h.gr.size
  have ng : ∀ k, k < w.heap.size → some k ≠ row := fun k hk q => by have := (hr k q.symm).1; omega
  have G : w.grownBy Y (some g) := ⟨hg.os.trans h.gr.os, hg.tape.trans h.gr.tape, hg.output.trans h.gr.output, Nat.le_trans h.gr.size hg.size, fun k hk hq => (hg.block k (by omega) (ng k hk)).trans (h.gr.block k hk hq)⟩
  exact ⟨G, cur_far h.c0 h.cu G (hg.block g (by omega) (ng g hgl)), (hg.block z h.zl (fun q => (hr z q.symm).2.1 rfl)).trans h.k0, (hg.block b h.bl (fun q => (hr b q.symm).2.2 rfl)).trans h.k1⟩
theorem R3.rowI (h : R3 m w X g v xs z b v1 v2 its fls) : ∀ q, v1.ownBlock = some q → w.heap.size ≤ q ∧ q ≠ z ∧ q ≠ b :=
  fun q e => ⟨(World.ownsRow.lt h.oi q e).1, fun k => own_ne h.oi h.k0 (by decide) (k ▸ e), fun k => own_ne h.oi h.k1 (by decide) (k ▸ e)⟩
theorem R3.rowF (h : R3 m w X g v xs z b v1 v2 its fls) : ∀ q, v2.ownBlock = some q → w.heap.size ≤ q ∧ q ≠ z ∧ q ≠ b :=
  fun q e => ⟨(World.ownsRow.lt h.of q e).1, fun k => own_ne h.of h.k0 (by decide) (k ▸ e), fun k => own_ne h.of h.k1 (by decide) (k ▸ e)⟩
/-- One field of the variable is written. -/
theorem far1 (c0 : Cur w g v xs) (hgl : g < w.heap.size) (hb : w.heap.size ≤ b) (G : w.grownBy Y (some g)) (c : Cur Y g v xs) (j : Nat) (u : Value) : w.grownBy (Y.setCell ⟨b, j, none⟩ u) (some g) ∧ Cur (Y.setCell ⟨b, j, none⟩ u) g v xs := by
  have G' : w.grownBy (Y.setCell ⟨b, j, none⟩ u) (some g) := grown_far G (a := ⟨b, j, none⟩) hb u
  exact ⟨G', cur_far c0 c G' (heap_setCell_other _ _ _ _ (by show g ≠ b; omega))⟩
theorem R3.appI {m' : Nat} (h : R3 m w X g v xs z b v1 v2 its fls) {u1 : Value} {is' : List Itm} (ho : OwI w.heap.size Y u1 is') (hg : X.grownBy Y v1.ownBlock) (hm : m ≤ m') (li : is'.length ≤ m') (ni : Nine is') :
    R3 m' w (Y.setCell ⟨b, 0, none⟩ u1) g v xs z b u1 v2 is' fls := by
  obtain ⟨G, c, k0, k1⟩ := h.turn hg h.rowI
  have of : OwF w.heap.size Y v2 fls := World.ownsRow.kept h.of hg (owns_apart h.of h.oi (by decide))
  have G2 := grown_set Y b 0 u1
  obtain ⟨G', c'⟩ := far1 h.c0 h.gl h.hb G c 0 u1
  exact ⟨h.c0, G', c', h.hz, h.hb, h.zb, blk_grown G2 k0 h.zb, heap_setCell_same _ _ _ _ _ _ k1, ho.other k1 (by decide) G2, of.other k1 (by decide) G2, li, Nat.le_trans h.lf hm, ni⟩
theorem R3.appF {m' : Nat} (h : R3 m w X g v xs z b v1 v2 its fls) {u2 : Value} {fs' : List Flr} (ho : OwF w.heap.size Y u2 fs') (hg : X.grownBy Y v2.ownBlock) (hm : m ≤ m') (lf : fs'.length ≤ m') :
    R3 m' w (Y.setCell ⟨b, 1, none⟩ u2) g v xs z b v1 u2 its fs' := by
  obtain ⟨G, c, k0, k1⟩ := h.turn hg h.rowF
  have oi : OwI w.heap.size Y v1 its := World.ownsRow.kept h.oi hg (owns_apart h.oi h.of (by decide))
  have G2 := grown_set Y b 1 u2
  obtain ⟨G', c'⟩ := far1 h.c0 h.gl h.hb G c 1 u2
  exact ⟨h.c0, G', c', h.hz, h.hb, h.zb, blk_grown G2 k0 h.zb, heap_setCell_same _ _ _ _ _ _ k1, oi.other k1 (by decide) G2, ho.other k1 (by decide) G2, Nat.le_trans h.li hm, lf, h.ni⟩
theorem R3.wrI {q n c : Nat} (h : R3 m w X g v xs z b (.slice (some ⟨q, 0, none⟩) n c) v2 its fls) {is' : List Itm} (ho : OwI w.heap.size Y (.slice (some ⟨q, 0, none⟩) n c) is') (hg : X.grownBy Y (some q)) (li : is'.length ≤ m) (ni : Nine is') :
    R3 m w Y g v xs z b (.slice (some ⟨q, 0, none⟩) n c) v2 is' fls := by
  obtain ⟨G, c, k0, k1⟩ := h.turn hg h.rowI
  exact ⟨h.c0, G, c, h.hz, h.hb, h.zb, k0, k1, ho, World.ownsRow.kept h.of hg (owns_apart h.of h.oi (by decide)), li, h.lf, ni⟩

theorem set_same {l : List Value} {j : Nat} {u : Value} (h : l[j]? = some u) : l.set j u = l := by
  refine List.ext_getElem? fun i => ?_
  rw [List.getElem?_set]
  split
  · subst_vars
    split
    · exact h.symm
    · rename_i hn; rw [List.getElem?_eq_none (by omega)]
  · rfl
theorem set_ent {i : Nat} {x : Itm} (hx : its[i]? = some x) (e : Key) : setL (its.flatMap encI) (i * 6 + 1) [.int .i64 e.1, .int .i64 e.2.1, .int .i64 e.2.2.1, .int .i64 e.2.2.2.1, .string e.2.2.2.2] = (its.set i (x.1, e)).flatMap encI := by
  have hi : i < its.length := (List.getElem?_eq_some_iff.1 hx).1
  rw [← setL_flat (by omega) encI_len its i hi (x.1, e)]
  have h0 := flat_at encI_len its i x 0 hx (by omega)
  show _ = setL ((its.flatMap encI).set (i * 6) (.int .i64 x.1)) (i * 6 + 1) [.int .i64 e.1, .int .i64 e.2.1, .int .i64 e.2.2.1, .int .i64 e.2.2.2.1, .string e.2.2.2.2]
  rw [set_same]
  exact h0
theorem OwI_ent {base q n c i : Nat} {x : Itm} (h : OwI base X (.slice (some ⟨q, 0, none⟩) n c) its) (hx : its[i]? = some x) (e : Key) :
    OwI base (setW X q (i * 6 + 1) [.int .i64 e.1, .int .i64 e.2.1, .int .i64 e.2.2.1, .int .i64 e.2.2.2.1, .string e.2.2.2.2]) (.slice (some ⟨q, 0, none⟩) n c) (its.set i (x.1, e)) ∧ X.grownBy (setW X q (i * 6 + 1) [.int .i64 e.1, .int .i64 e.2.1, .int .i64 e.2.2.1, .int .i64 e.2.2.2.1, .string e.2.2.2.2]) (some q) := by
  have hn : n = its.length := (h.rw encI_len).len.1
  subst hn
  obtain ⟨h1, h2⟩ := setW_own [.int .i64 e.1, .int .i64 e.2.1, .int .i64 e.2.2.1, .int .i64 e.2.2.2.1, .string e.2.2.2.2] h (i * 6 + 1)
  refine ⟨?_, h2⟩
  unfold OwI Ow
  rw [List.length_set, ← set_ent hx e]
  exact h1
theorem OwI_put {base q n c i : Nat} {x : Itm} (h : OwI base X (.slice (some ⟨q, 0, none⟩) n c) its) (hi : i < its.length) :
    OwI base (setW X q (i * 6) (encI x)) (.slice (some ⟨q, 0, none⟩) n c) (its.set i x) ∧ X.grownBy (setW X q (i * 6) (encI x)) (some q) := by
  have hn : n = its.length := (h.rw encI_len).len.1
  subst hn
  obtain ⟨h1, h2⟩ := setW_own (encI x) h (i * 6)
  refine ⟨?_, h2⟩
  unfold OwI Ow
  rw [List.length_set, ← setL_flat (by omega) encI_len its i hi x]
  exact h1
theorem nine_set {i : Nat} {x : Itm} (h : Nine its) (hx : x.2.2.2.2.2.size ≤ 9) : Nine (its.set i x) := fun y hy => by
  rcases List.mem_or_eq_of_mem_set hy with hy | rfl
  · exact h y hy
  · exact hx
theorem nine_app {x : Itm} (h : Nine its) (hx : x.2.2.2.2.2.size ≤ 9) : Nine (its ++ [x]) := fun y hy => by
  rw [List.mem_append, List.mem_singleton] at hy
  rcases hy with hy | rfl
  · exact h y hy
  · exact hx
theorem segv_grown {u : Value} {cs : List Value} (h : SegV X u cs) (hg : X.grownBy Y (some g)) (hne : ∀ a n c, u = .slice (some a) n c → a.block ≠ g) : SegV Y u cs := by
  obtain ⟨a, cap, rfl, hcap, h⟩ := h
  refine ⟨a, cap, rfl, hcap, ?_⟩
  rcases h with h | ⟨b, off, rfl, hlt, hc⟩
  · exact .inl h
  · have hb : b ≠ g := hne _ _ _ rfl
    exact .inr ⟨b, off, rfl, Nat.lt_of_lt_of_le hlt hg.size, fun i hi => (World.cell?_of_block (hg.block b hlt (by simpa using hb))).trans (hc i hi)⟩
theorem pick4 {c : Value} (h : c ∈ ([.int .i64 0, .int .i64 1, .int .i64 5, .int .i64 1001] : List Value)) : ∃ q, c = .int .i64 q := by
  simp only [List.mem_cons, List.not_mem_nil, or_false] at h
  rcases h with rfl | rfl | rfl | rfl
  all_goals exact ⟨_, rfl⟩
theorem items_cells {base q n c k : Nat} (h : OwI base X (.slice (some ⟨q, 0, none⟩) n c) its) (hk : k < n) :
    ∃ y0 y1 y2 y3 y4 y5, X.cell? ⟨q, k * 6, none⟩ = some y0 ∧ X.cell? ⟨q, k * 6 + 1, none⟩ = some y1 ∧ X.cell? ⟨q, k * 6 + 2, none⟩ = some y2 ∧ X.cell? ⟨q, k * 6 + 3, none⟩ = some y3 ∧ X.cell? ⟨q, k * 6 + 4, none⟩ = some y4 ∧ X.cell? ⟨q, k * 6 + 5, none⟩ = some y5 ∧ ∀ o, X.frozen? ⟨q, o, none⟩ = false := by
  have hn : n = its.length := (h.rw encI_len).len.1
  subst hn
  exact own_cells6 h hk
theorem at_some {n k : Nat} (hn : n = its.length) (hk : k < n) : ∃ x, its[k]? = some x := ⟨_, List.getElem?_eq_getElem (by omega)⟩
/-- The entry of item k is written. -/
theorem R3.ent {q n c k : Nat} (h : R3 m w X g v xs z b (.slice (some ⟨q, 0, none⟩) n c) v2 its fls) (hk : k < n) (e : Key) (he : e.2.2.2.2.size ≤ 9) :
    ∃ is', R3 m w (setW X q (k * 6 + 1) [.int .i64 e.1, .int .i64 e.2.1, .int .i64 e.2.2.1, .int .i64 e.2.2.2.1, .string e.2.2.2.2]) g v xs z b (.slice (some ⟨q, 0, none⟩) n c) v2 is' fls := by
  have hn : n = its.length := (h.oi.rw encI_len).len.1
  obtain ⟨x, hx⟩ := at_some hn hk
  obtain ⟨h1, h2⟩ := OwI_ent h.oi hx e
  exact ⟨_, h.wrI h1 h2 (by rw [List.length_set]; exact h.li) (nine_set h.ni he)⟩
/-- Item 0 is written over by item k. -/
theorem R3.itm {q n c : Nat} {x : Itm} (h : R3 m w X g v xs z b (.slice (some ⟨q, 0, none⟩) n c) v2 its fls) (hk : 0 < n) (hx : x ∈ its) :
    ∃ is', R3 m w (setW X q (0 * 6) (encI x)) g v xs z b (.slice (some ⟨q, 0, none⟩) n c) v2 is' fls := by
  have hn : n = its.length := (h.oi.rw encI_len).len.1
  obtain ⟨h1, h2⟩ := OwI_put (x := x) (i := 0) h.oi (by omega)
  exact ⟨_, h.wrI h1 h2 (by rw [List.length_set]; exact h.li) (nine_set h.ni (h.ni x hx))⟩
theorem R3.of_draw {O : Obj} (hO : O = StB (.slice none 0 0) (.slice none 0 0)) (hc : Cur w g v xs) (d : D3 (w.alloc O) X g v xs v1 v2 its fls) (l1 : its.length ≤ m) (l2 : fls.length ≤ m) : R3 m w (X.alloc (StB v1 v2)) g v xs w.heap.size X.heap.size v1 v2 its fls := by
  subst hO
  have hgl := cur_lt hc
  have hs := d.gr.size
  simp only [World.size_alloc] at hs
  have b0 : Below X.heap.size X (X.alloc (StB v1 v2)) := (Below.refl _ _).alloc (Nat.le_refl _) _
  refine ⟨hc, grown_later (grown_trans (grown_alloc w _ _) d.gr) b0, d.cu.later b0 (Nat.le_refl _), Nat.le_refl _, by omega, by omega, ?_, heap_alloc_new _ _, Ow.base (d.oi.later b0) (by simp), Ow.base (d.of.later b0) (by simp), l1, l2, d.ni⟩
  exact (b0.block _ (by omega)).trans (blk_grown d.gr (heap_alloc_new _ _) (by omega))
end Go.Proofs.YtdpaocikmijioabGreat
