/-
  spec.DrawStateOk, spec.DrawSingle: some state, some item, with short texts; nothing that was there turns. No statement is proved here.
-/
import Derived.Test.YtdpaocikmijioabGreatL3D
import Derived.Test.YtdpaocikmijioabGreatDrawB
namespace Go.Proofs.YtdpaocikmijioabGreat
open Go.RowKit

variable {w X Y : World} {b : Nat} {v1 v2 : Value} {its : List Itm} {fls : List Flr}
/-- A state that was drawn from a code. -/
structure T3 (w X : World) (v1 v2 : Value) (its : List Itm) (fls : List Flr) : Prop where
  bel : Below w.heap.size w X
  oi : OwI w.heap.size X v1 its
  of : OwF w.heap.size X v2 fls
  li : its.length ≤ 6
  lf : fls.length ≤ 6
  ni : Nine its
/-- A variable of the law that holds a state. -/
structure V3 (w X : World) (b : Nat) (v1 v2 : Value) (its : List Itm) (fls : List Flr) : Prop where
  ge : w.heap.size ≤ b
  k1 : X.heap[b]? = some (StB v1 v2)
  oi : OwI w.heap.size X v1 its
  of : OwF w.heap.size X v2 fls
theorem V3.lt (h : V3 w X b v1 v2 its fls) : b < X.heap.size := (Array.getElem?_eq_some_iff.1 h.k1).1
theorem V3.later (h : V3 w X b v1 v2 its fls) (bl : Below X.heap.size X Y) : V3 w Y b v1 v2 its fls := ⟨h.ge, (bl.block _ h.lt).trans h.k1, h.oi.later bl, h.of.later bl⟩
theorem V3.alloc (h : V3 w X b v1 v2 its fls) (o : Obj) : V3 w (X.alloc o) b v1 v2 its fls := h.later ((Below.refl _ _).alloc (Nat.le_refl _) o)
theorem V3.new {B : Nat} (hb : w.heap.size ≤ X.heap.size) (hB : w.heap.size ≤ B) (o1 : OwI B X v1 its) (o2 : OwF B X v2 fls) : V3 w (X.alloc (StB v1 v2)) X.heap.size v1 v2 its fls :=
  have bl : Below X.heap.size X (X.alloc (StB v1 v2)) := (Below.refl _ _).alloc (Nat.le_refl _) _
  ⟨hb, heap_alloc_new _ _, Ow.base (o1.later bl) hB, Ow.base (o2.later bl) hB⟩
theorem V3.put (h : V3 w X b v1 v2 its fls) {B : Nat} {u1 u2 : Value} {is' : List Itm} {fs' : List Flr} (hB : w.heap.size ≤ B) (o1 : OwI B X u1 is') (o2 : OwF B X u2 fs') : V3 w ((X.setCell ⟨b, 0, none⟩ u1).setCell ⟨b, 1, none⟩ u2) b u1 u2 is' fs' :=
  have hg := grown_set2 X b u1 u2
  ⟨h.ge, blk_set2 h.k1 _ _, Ow.base (o1.other h.k1 (by decide) hg) hB, Ow.base (o2.other h.k1 (by decide) hg) hB⟩
theorem V3.aside (h : V3 w X b v1 v2 its fls) {b2 : Nat} {y1 y2 u1 u2 : Value} (h2 : X.heap[b2]? = some (StB y1 y2)) (hne : b ≠ b2) : V3 w ((X.setCell ⟨b2, 0, none⟩ u1).setCell ⟨b2, 1, none⟩ u2) b v1 v2 its fls :=
  have hg := grown_set2 X b2 u1 u2
  ⟨h.ge, blk_grown hg h.k1 hne, h.oi.other h2 (by decide) hg, h.of.other h2 (by decide) hg⟩
theorem V3.bel (h : V3 w X b v1 v2 its fls) (bl : Below w.heap.size w X) (u1 u2 : Value) : Below w.heap.size w ((X.setCell ⟨b, 0, none⟩ u1).setCell ⟨b, 1, none⟩ u2) := (bl.setCell (p := ⟨b, 0, none⟩) h.ge _).setCell (p := ⟨b, 1, none⟩) h.ge _
theorem V3.cells (h : V3 w X b v1 v2 its fls) : X.cell? ⟨b, 0, none⟩ = some v1 ∧ X.cell? ⟨b, 1, none⟩ = some v2 := by
  obtain ⟨p0, p1, _⟩ := blk_cells2 h.k1
  exact ⟨p0, p1⟩
theorem V3.len {a1 : Option Addr} {n1 c1 : Nat} {a2 : Option Addr} {n2 c2 : Nat} (h : V3 w X b (.slice a1 n1 c1) (.slice a2 n2 c2) its fls) : n1 = its.length ∧ n2 = fls.length := ⟨(h.oi.rw encI_len).len.1, (h.of.rw encF_len).len.1⟩

theorem keep8 {P W : World} {b q o0 o1 o2 o3 o4 o5 : Nat} {v1 v2 y0 y1 y2 y3 y4 y5 : Value} (hb : b < P.heap.size) (hq : q < P.heap.size)
    (h : Hid (P.cell? ⟨b, 0, none⟩ = some v1 ∧ P.cell? ⟨b, 1, none⟩ = some v2 ∧ P.cell? ⟨q, o0, none⟩ = some y0 ∧ P.cell? ⟨q, o1, none⟩ = some y1 ∧ P.cell? ⟨q, o2, none⟩ = some y2 ∧ P.cell? ⟨q, o3, none⟩ = some y3 ∧ P.cell? ⟨q, o4, none⟩ = some y4 ∧ P.cell? ⟨q, o5, none⟩ = some y5)) (bl : Below P.heap.size P W) :
    Below P.heap.size P W ∧ W.cell? ⟨b, 0, none⟩ = some v1 ∧ W.cell? ⟨b, 1, none⟩ = some v2 ∧ W.cell? ⟨q, o0, none⟩ = some y0 ∧ W.cell? ⟨q, o1, none⟩ = some y1 ∧ W.cell? ⟨q, o2, none⟩ = some y2 ∧ W.cell? ⟨q, o3, none⟩ = some y3 ∧ W.cell? ⟨q, o4, none⟩ = some y4 ∧ W.cell? ⟨q, o5, none⟩ = some y5 := by
  obtain ⟨c0, c1, c2, c3, c4, c5, c6, c7⟩ := unhide h
  exact ⟨bl, kc bl hb c0, kc bl hb c1, kc bl hq c2, kc bl hq c3, kc bl hq c4, kc bl hq c5, kc bl hq c6, kc bl hq c7⟩
theorem Bf.newD {P W w1 : World} (b : Below (W.alloc StZ).drew.heap.size (W.alloc StZ).drew w1) (h : P.heap.size ≤ W.heap.size) : Bf P (W.alloc StZ).drew w1 W.heap.size := ⟨Bx.newD b h, by show W.heap.size < (W.alloc StZ).heap.size; simp⟩
theorem own_nilF (w : World) (base : Nat) : Hid (OwF base w (.slice none 0 0) []) := hide (World.ownsRow_nil w base _ _)
theorem size_allocD (W : World) (o : Obj) : W.heap.size ≤ (W.alloc o).drew.heap.size := by show W.heap.size ≤ (W.alloc o).heap.size; simp
/-- The cursor was made behind the variables of the call; the state was drawn; it is stored into the result. -/
theorem T3.of_draw {w1 w2 : World} {g : Nat} {v : Value} {xs : List Int} (h01 : Below w.heap.size w w1) (hg : w.heap.size ≤ g) (d : D3 w1 w2 g v xs v1 v2 its fls) : T3 w w2 v1 v2 its fls :=
  ⟨h01.grown d.gr h01.size (fun q hq => by simp at hq; omega), Ow.base d.oi h01.size, Ow.base d.of h01.size, d.li, d.lf, d.ni⟩

set_option maxHeartbeats 4000000 in
set_option maxRecDepth 100000 in
theorem drawsingle_any (v : Value) (xs : List Int) (w : World) (hlen : xs.length ≤ 1048576) (hbd : ∀ z ∈ xs, 0 ≤ z ∧ z ≤ 255) (hv : Seg w v xs) :
    Calls Tryz.prog 32 #[v] w fun e w' => (∃ id ai ar ab av ad, e = .returned (.tuple #[.int .i64 id, .agg #[.int .i64 ai, .int .i64 ar, .int .i64 ab, .int .i64 av, .string ad]]) ∧ ad.size ≤ 9) ∧ Below w.heap.size w w' := by
  have HD := hide hbd
  have bA : Below w.heap.size w (w.alloc (.cells #[.int .i64 0, .int .i64 0, .int .i64 0, .int .i64 0, .string ⟨#[]⟩] 38)) := (Below.refl _ _).alloc (Nat.le_refl _) _
  have HS := hide (hv.below bA (Nat.le_refl _))
  have BA := hide bA
  clear hbd hv bA
  go_enter Tryz.func32, Tryz.ntmps32
  go_wp2_with fail
  refine (new_any v xs _ hlen (unhide HD) (unhide HS)).mono ?_
  rintro e w1 ⟨rfl, c1, b1, s1⟩
  have hw0 : (w.alloc (.cells #[.int .i64 0, .int .i64 0, .int .i64 0, .int .i64 0, .string ⟨#[]⟩] 38)).heap.size = w.heap.size + 1 := by simp
  have B1 := hide ((unhide BA).trans (b1.mono (by rw [hw0]; omega)))
  have K1 := hide ((b1.block _ (by rw [hw0]; omega)).trans (heap_alloc_new w _))
  rw [hw0] at c1 s1
  have C1 := hide c1
  obtain ⟨g, hg⟩ : ∃ g, g = w.heap.size + 1 := ⟨_, rfl⟩
  rw [hw0, ← hg]
  rw [← hg] at C1
  have hgA : w.heap.size < g := by omega
  clear hg c1 b1 s1 hw0 HS BA
  go_wp2_with fail
  refine (below_any g v xs 7 _ hlen (unhide HD) (by omega) (by omega) (unhide C1)).mono ?_
  rintro e w2 ⟨⟨x, rfl, xa, xb⟩, c2, g2⟩
  have C2 := hide c2
  have B2 := hide ((unhide B1).grown g2 (unhide B1).size (fun q hq => by simp at hq; omega))
  have K2 := hide (blk_grown g2 (unhide K1) (by omega))
  clear c2 g2 C1 B1 K1
  go_wp2_with fail
  refine (draw_any g v xs _ hlen (unhide HD) (unhide C2)).mono ?_
  rintro e w3 ⟨⟨ai, ar, ab, av, ad, rfl, had⟩, c3, g3⟩
  have B3 := hide ((unhide B2).grown g3 (unhide B2).size (fun q hq => by simp at hq; omega))
  have K3 := hide (blk_grown g3 (unhide K2) (by omega))
  have HN := hide had
  clear c3 g3 C2 B2 K2 had
  obtain ⟨p0, p1, p2, p3, p4, p5⟩ := blk_cells5 (unhide K3)
  go_wp2
  exact bodyPost_ret (v := .tuple #[.int .i64 (x - 1), .agg #[.int .i64 ai, .int .i64 ar, .int .i64 ab, .int .i64 av, .string ad]]) (by simp [results, Tryz.results32, go_sem, p0, p1, p2, p3, p4]) rfl ⟨⟨_, _, _, _, _, _, rfl, unhide HN⟩, below_set5 (Nat.le_refl _) (unhide B3)⟩
end Go.Proofs.YtdpaocikmijioabGreat
