/-
  Single, the program's and the specification's. No statement is proved here.
  A variable that a drawn statement lays at some time, and stores a state of the call's own into. No program here, no statement is proved here.
  The draws of chapter 2: what is drawn are entries, with a text of at most nine bytes; nothing that was there turns but the cursor. No statement is proved here.
-/
import Derived.Test.YtighiahppjekeaaSStOk
import Derived.Test.YtighiahppjekeaaIStOk
import Derived.Test.YtighiahppjekeaaStA
import Derived.Test.YtighiahppjekeaaRegs6
import Derived.Test.YtighiahppjekeaaSt3
import Derived.Test.YtighiahppjekeaaOnce
import Derived.Test.YtighiahppjekeaaRegs
namespace Go.Proofs.Ytighiahppjekeaa
open Go.RowKit

def sgl (ok : Bool) (id : Int) (e : Key) : List Itm := match ok with
  | true => [(id, e)]
  | false => []

/-- A slice literal of one item, in a block of its own. -/
theorem own_one {w : World} {g base : Nat} (id : Int) (e : Key) (hb : base ≤ g) (h : w.heap[g]? = some (.cells #[.int .i64 id, .int .i64 e.1, .int .i64 e.2.1, .int .i64 e.2.2.1, .int .i64 e.2.2.2.1, .string e.2.2.2.2] 110 (0, 0))) : OwI base w (.slice (some ⟨g, 0, none⟩) 1 1) [(id, e)] :=
  ⟨rfl, .inr ⟨g, 1, _, rfl, hb, h, Nat.le_refl _, by unfold maxLen; simp, rfl, rfl⟩⟩
theorem own_nil (w : World) (base : Nat) : OwI base w (.slice none 0 0) [] := World.ownsRow_nil w base _ _

set_option maxHeartbeats 2000000 in
theorem ssingle_any (id : Int) (e : Key) (ok : Bool) (h0 : Hid (okS [(id, e)] [] = ok)) (n : Nat) (hn : Hid ((sgl ok id e).length = n)) (w : World) :
    Calls Try.prog 100 #[.int .i64 id, .agg #[.int .i64 e.1, .int .i64 e.2.1, .int .i64 e.2.2.1, .int .i64 e.2.2.2.1, .string e.2.2.2.2]] w fun r w' => ∃ a c, r = .returned (.tuple #[.agg #[.slice a n c, .slice none 0 0], .bool ok]) ∧ OwI w.heap.size w' (.slice a n c) (sgl ok id e) ∧ Below w.heap.size w w' := by
  go_enter Try.func100, Try.ntmps100
  go_wp2_with fail
  obtain ⟨m1, m2, m3⟩ := new4 w (.cells #[.int .i64 e.1, .int .i64 e.2.1, .int .i64 e.2.2.1, .int .i64 e.2.2.2.1, .string e.2.2.2.2] 83) (.cells #[.slice none 0 0, .slice none 0 0] 38) (.cells #[.int .i64 id, .int .i64 e.1, .int .i64 e.2.1, .int .i64 e.2.2.1, .int .i64 e.2.2.2.1, .string e.2.2.2.2] 110) (.cells #[.slice (some ⟨w.heap.size + 1 + 1, 0, none⟩) 1 1, .slice none 0 0] 38)
  have hR := (own_one (base := 0) id e (Nat.zero_le _) m2).rw encI_len
  refine (sstateok_any (some ⟨w.heap.size + 1 + 1, 0, none⟩) 1 1 [(id, e)] none 0 0 [] ok h0 _ (by omega) (by omega) hR Rw.nil).mono ?_
  rintro r w1 ⟨rfl, b1⟩
  have hz1 : w.heap.size + 3 < w1.heap.size := by have := b1.size; simp at this; omega
  obtain ⟨p0, p1, p2⟩ := blk_cells2 ((b1.block _ (by simp)).trans m1)
  obtain ⟨q0, q1, q2⟩ := blk_cells2 ((b1.block _ (by simp)).trans m3)
  have M2 := hide ((b1.block _ (by simp)).trans m2)
  have HB := hide ((((((Below.refl w.heap.size w).alloc (Nat.le_refl _) _).alloc (by simp) _).alloc (by simp; omega) _).alloc (by simp; omega) _).trans (b1.mono (by simp; omega)))
  clear m1 m2 m3 b1 hR
  cases ok
  · obtain rfl := unhide hn
    go_wp2
    exact bodyPost_ret (v := .tuple #[.agg #[.slice none 0 0, .slice none 0 0], .bool false]) (by simp [results, Try.results100, go_sem, p0, p1]) rfl ⟨none, 0, rfl, own_nil _ _, ((unhide HB).setCell (p := ⟨w.heap.size + 1, 0, none⟩) (by simp) _).setCell (p := ⟨w.heap.size + 1, 1, none⟩) (by simp) _⟩
  · obtain rfl := unhide hn
    go_wp2
    exact bodyPost_ret (v := .tuple #[.agg #[.slice (some ⟨w.heap.size + 1 + 1, 0, none⟩) 1 1, .slice none 0 0], .bool true]) (by simp [results, Try.results100, go_sem, p0, p1]) rfl ⟨some ⟨w.heap.size + 1 + 1, 0, none⟩, 1, rfl, (own_one (base := w.heap.size) id e (by omega) (by rw [heap_setCell_other _ _ _ _ (by show w.heap.size + 1 + 1 ≠ w.heap.size + 1; omega), heap_setCell_other _ _ _ _ (by show w.heap.size + 1 + 1 ≠ w.heap.size + 1; omega)]; exact unhide M2)), ((unhide HB).setCell (p := ⟨w.heap.size + 1, 0, none⟩) (by simp) _).setCell (p := ⟨w.heap.size + 1, 1, none⟩) (by simp) _⟩

end Go.Proofs.Ytighiahppjekeaa

namespace Go.Proofs.Ytighiahppjekeaa
open Go.RowKit

abbrev StZ : Obj := .cells #[.slice none 0 0, .slice none 0 0] 38
/-- The variable lies in block g, behind P, and is as it was laid. -/
structure Bx (P W : World) (g : Nat) : Prop where
  blk : W.heap[g]? = some StZ
  lt : g < W.heap.size
  ge : P.heap.size ≤ g
/-- The variable g, and where it lay ahead of the last call. -/
structure Bf (P V W : World) (g : Nat) : Prop where
  bx : Bx P W g
  lv : g < V.heap.size
theorem kal {P W : World} {o : Obj} (h : Below P.heap.size P W) : Below P.heap.size P (W.alloc o) := h.alloc h.size _
theorem Bx.new {P W w1 : World} (b : Below (W.alloc StZ).heap.size (W.alloc StZ) w1) (h : P.heap.size ≤ W.heap.size) : Bx P w1 W.heap.size := ⟨(newblk b).1, (newblk b).2, h⟩
theorem Bx.newD {P W w1 : World} (b : Below (W.alloc StZ).drew.heap.size (W.alloc StZ).drew w1) (h : P.heap.size ≤ W.heap.size) : Bx P w1 W.heap.size := ⟨(newblkD b).1, (newblkD b).2, h⟩
theorem Bx.kept {P W w1 : World} {g : Nat} (M : Hid (Bx P W g)) (b : Below W.heap.size W w1) : Bx P w1 g := ⟨(b.block _ (unhide M).lt).trans (unhide M).blk, Nat.lt_of_lt_of_le (unhide M).lt b.size, (unhide M).ge⟩
theorem Bf.new {P W w1 : World} (b : Below (W.alloc StZ).heap.size (W.alloc StZ) w1) (h : P.heap.size ≤ W.heap.size) : Bf P (W.alloc StZ) w1 W.heap.size := ⟨Bx.new b h, by simp⟩
theorem Bf.kept {P W w1 : World} {g : Nat} (M : Hid (Bx P W g)) (b : Below W.heap.size W w1) : Bf P W w1 g := ⟨Bx.kept M b, (unhide M).lt⟩
theorem kset {P V W : World} {g : Nat} {v1 v2 : Value} (b : Below P.heap.size P W) (M : Hid (Bf P V W g)) : Below P.heap.size P ((W.setCell ⟨g, 0, none⟩ v1).setCell ⟨g, 1, none⟩ v2) := (b.setCell (p := ⟨g, 0, none⟩) (unhide M).bx.ge _).setCell (p := ⟨g, 1, none⟩) (unhide M).bx.ge _
theorem Rw.later2 {α : Type} {enc : α → List Value} {k : Nat} {w w' : World} {o : Obj} {v : Value} {xs : List α} (h : Rw enc k w v xs) (b : Below (w.alloc o).heap.size (w.alloc o) w') : Rw enc k w' v xs := (h.alloc o).later b

/-- The variable holds the state of the call's own. -/
structure Fin (P W : World) (g : Nat) (v1 v2 : Value) (xs : List Itm) (fs : List Flr) : Prop where
  bel : Below P.heap.size P W
  ge : P.heap.size ≤ g
  lt : g < W.heap.size
  blk : W.heap[g]? = some (.cells #[v1, v2] 38 (0, 0))
  o1 : OwI P.heap.size W v1 xs
  o2 : OwF P.heap.size W v2 fs
theorem Fin.set {P V W : World} {g : Nat} {v1 v2 : Value} {xs : List Itm} {fs : List Flr} (b : Below P.heap.size P W) (h : P.heap.size ≤ V.heap.size) (M : Hid (Bf P V W g)) (o1 : Hid (OwI V.heap.size W v1 xs)) (o2 : Hid (OwF V.heap.size W v2 fs)) :
    Fin P ((W.setCell ⟨g, 0, none⟩ v1).setCell ⟨g, 1, none⟩ v2) g v1 v2 xs fs := by
  obtain ⟨⟨hb, hl, hg⟩, hv⟩ := unhide M
  refine ⟨(b.setCell (p := ⟨g, 0, none⟩) hg _).setCell (p := ⟨g, 1, none⟩) hg _, hg, by simpa using hl, blk_set2 hb _ _, ?_, ?_⟩
  · exact Ow.base (((unhide o1).set ⟨g, 0, none⟩ hv _).set ⟨g, 1, none⟩ hv _) h
  · exact Ow.base (((unhide o2).set ⟨g, 0, none⟩ hv _).set ⟨g, 1, none⟩ hv _) h
theorem Fin.new {P V W : World} {v1 v2 : Value} {xs : List Itm} {fs : List Flr} (b : Below P.heap.size P W) (h : P.heap.size ≤ V.heap.size) (o1 : Hid (OwI V.heap.size W v1 xs)) (o2 : Hid (OwF V.heap.size W v2 fs)) :
    Fin P (W.alloc (.cells #[v1, v2] 38)) W.heap.size v1 v2 xs fs := by
  refine ⟨kal b, b.size, by simp, heap_alloc_new _ _, ?_, ?_⟩
  · exact Ow.base (World.ownsRow.alloc (unhide o1) _) h
  · exact Ow.base (World.ownsRow.alloc (unhide o2) _) h
end Go.Proofs.Ytighiahppjekeaa

namespace Go.Proofs.Ytighiahppjekeaa
open Go.RowKit

theorem grown_alloc (w : World) (o : Obj) (r : Option Nat) : w.grownBy (w.alloc o) r := ⟨rfl, rfl, rfl, by simp, fun k hk _ => Below.heap_alloc w o k hk⟩
theorem grown_far {w W : World} {r : Option Nat} (h : w.grownBy W r) {a : Addr} (ha : w.heap.size ≤ a.block) (v : Value) : w.grownBy (W.setCell a v) r :=
  ⟨h.os, h.tape, h.output, by simpa using h.size, fun k hk hr => (Below.heap_setCell W a v k (by omega)).trans (h.block k hk hr)⟩
theorem cur_alloc {w : World} {g : Nat} {v : Value} {xs : List Int} (h : Cur w g v xs) (o : Obj) : Cur (w.alloc o) g v xs := h.later ((Below.refl w.heap.size w).alloc (Nat.le_refl _) o) (Nat.le_refl _)
theorem cur_lt {w : World} {g : Nat} {v : Value} {xs : List Int} (h : Cur w g v xs) : g < w.heap.size := by
  obtain ⟨⟨i, k, hg, _⟩, _⟩ := h
  exact (Array.getElem?_eq_some_iff.1 hg).1
/-- Another block than the cursor's is as it was. -/
theorem blk_grown {w w' : World} {g r : Nat} {o : Obj} (h : w.grownBy w' (some g)) (hr : w.heap[r]? = some o) (hne : r ≠ g) : w'.heap[r]? = some o :=
  (h.block r (Array.getElem?_eq_some_iff.1 hr).1 (by simpa using hne)).trans hr

theorem far5 {w W : World} {g : Option Nat} {r : Nat} (h : w.grownBy W g) (hr : w.heap.size ≤ r) (v0 v1 v2 v3 v4 : Value) : w.grownBy (((((W.setCell ⟨r, 0, none⟩ v0).setCell ⟨r, 1, none⟩ v1).setCell ⟨r, 2, none⟩ v2).setCell ⟨r, 3, none⟩ v3).setCell ⟨r, 4, none⟩ v4) g :=
  grown_far (grown_far (grown_far (grown_far (grown_far h (a := ⟨r, 0, none⟩) hr v0) (a := ⟨r, 1, none⟩) hr v1) (a := ⟨r, 2, none⟩) hr v2) (a := ⟨r, 3, none⟩) hr v3) (a := ⟨r, 4, none⟩) hr v4
theorem other5 {W : World} {r k : Nat} {v0 v1 v2 v3 v4 : Value} (hne : k ≠ r) : (((((W.setCell ⟨r, 0, none⟩ v0).setCell ⟨r, 1, none⟩ v1).setCell ⟨r, 2, none⟩ v2).setCell ⟨r, 3, none⟩ v3).setCell ⟨r, 4, none⟩ v4).heap[k]? = W.heap[k]? := by
  rw [heap_setCell_other _ _ _ _ hne, heap_setCell_other _ _ _ _ hne, heap_setCell_other _ _ _ _ hne, heap_setCell_other _ _ _ _ hne, heap_setCell_other _ _ _ _ hne]
theorem cur_far {w w5 W : World} {g : Nat} {v : Value} {xs : List Int} (h0 : Cur w g v xs) (h5 : Cur w5 g v xs) (hg : w.grownBy W (some g)) (he : W.heap[g]? = w5.heap[g]?) : Cur W g v xs := by
  obtain ⟨⟨i, k, e, hi⟩, _⟩ := h5
  exact ⟨⟨i, k, he.trans e, hi⟩, h0.2.1.grown hg h0.2.2, h0.2.2⟩
theorem ne_new {g k : Nat} (h : g < k) (n c : Nat) : ∀ a n' c', Value.slice (some ⟨k, 0, none⟩) n c = .slice (some a) n' c' → a.block ≠ g := by
  intro a n' c' e
  simp only [Value.slice.injEq, Option.some.injEq] at e
  rw [← e.1]
  show k ≠ g
  omega

set_option maxHeartbeats 4000000 in
set_option maxRecDepth 100000 in
theorem right_any (g : Nat) (v : Value) (xs : List Int) (w : World) (hlen : xs.length ≤ 1048576) (hbd : ∀ z ∈ xs, 0 ≤ z ∧ z ≤ 255) (hc : Cur w g v xs) :
    Calls Try.prog 101 #[.pointer (some ⟨g, 0, none⟩)] w fun e w' => (∃ ai ar ab av ad, e = .returned (.agg #[.int .i64 ai, .int .i64 ar, .int .i64 ab, .int .i64 av, .string ad]) ∧ ad.size ≤ 9) ∧ Cur w' g v xs ∧ w.grownBy w' (some g) := by
  have HD := hide hbd
  have HC := hide hc
  have hlt := cur_lt hc
  have C0 := hide (cur_alloc hc (.cells #[.int .i64 0, .int .i64 0, .int .i64 0, .int .i64 0, .string ⟨#[]⟩] 83))
  have M0 := hide (heap_alloc_new w (.cells #[.int .i64 0, .int .i64 0, .int .i64 0, .int .i64 0, .string ⟨#[]⟩] 83))
  have G0 := hide (grown_alloc w (.cells #[.int .i64 0, .int .i64 0, .int .i64 0, .int .i64 0, .string ⟨#[]⟩] 83) (some g))
  clear hbd hc
  go_enter Try.func101, Try.ntmps101
  go_wp2_with fail
  refine (below_any g v xs 3 _ hlen (unhide HD) (by omega) (by omega) (unhide C0)).mono ?_
  rintro e w1 ⟨⟨x1, rfl, x1a, x1b⟩, c1, g1⟩
  have C1 := hide c1
  have hs1 := g1.size
  simp only [World.size_alloc] at hs1
  have M1 := hide (blk_grown g1 (unhide M0) (by omega))
  have G1 := hide (grown_trans (unhide G0) g1)
  clear c1 g1 C0 M0 G0
  go_wp2_with fail
  refine (below_any g v xs 2 _ hlen (unhide HD) (by omega) (by omega) (unhide C1)).mono ?_
  rintro e w2 ⟨⟨x2, rfl, x2a, x2b⟩, c2, g2⟩
  have C2 := hide c2
  have hs2 := g2.size
  have M2 := hide (blk_grown g2 (unhide M1) (by omega))
  have G2 := hide (grown_trans (unhide G1) g2)
  clear c2 g2 C1 M1 G1
  go_wp2_with fail
  refine (below_any g v xs 3 _ hlen (unhide HD) (by omega) (by omega) (unhide C2)).mono ?_
  rintro e w3 ⟨⟨x3, rfl, x3a, x3b⟩, c3, g3⟩
  have C3 := hide c3
  have hs3 := g3.size
  have M3 := hide (blk_grown g3 (unhide M2) (by omega))
  have G3 := hide (grown_trans (unhide G2) g3)
  clear c3 g3 C2 M2 G2
  go_wp2_with fail
  refine (below_any g v xs 3 _ hlen (unhide HD) (by omega) (by omega) (unhide C3)).mono ?_
  rintro e w4 ⟨⟨x4, rfl, x4a, x4b⟩, c4, g4⟩
  have C4 := hide c4
  have hs4 := g4.size
  have M4 := hide (blk_grown g4 (unhide M3) (by omega))
  have G4 := hide (grown_trans (unhide G3) g4)
  clear c4 g4 C3 M3 G3
  go_wp2_with fail
  have SG := hide (seg_new w4 9 [.string ⟨#[]⟩, .string ⟨#[97]⟩, .string ⟨#[98]⟩, .string ⟨#[97, 98]⟩, .string ⟨#[49, 50, 51, 52, 53, 54, 55, 56]⟩] 5 rfl (by decide))
  refine (pick_any g v xs (.slice (some ⟨w4.heap.size, 0, none⟩) 5 5) [.string ⟨#[]⟩, .string ⟨#[97]⟩, .string ⟨#[98]⟩, .string ⟨#[97, 98]⟩, .string ⟨#[49, 50, 51, 52, 53, 54, 55, 56]⟩] (w4.alloc (.cells ([.string ⟨#[]⟩, .string ⟨#[97]⟩, .string ⟨#[98]⟩, .string ⟨#[97, 98]⟩, .string ⟨#[49, 50, 51, 52, 53, 54, 55, 56]⟩] : List Value).toArray 9)) hlen (unhide HD) (cur_alloc (unhide C4) _) (unhide SG) (ne_new (by omega) _ _) (by decide) (by decide)).mono ?_
  rintro e w5 ⟨⟨c, hcm, rfl⟩, c5, g5⟩
  have C5 := hide c5
  have hs5 := g5.size
  simp only [World.size_alloc] at hs5
  have M5 := hide (blk_grown g5 ((Below.heap_alloc _ _ _ (by omega)).trans (unhide M4)) (by omega))
  have G5 := hide (grown_trans (grown_trans (unhide G4) (grown_alloc _ _ _)) g5)
  clear c5 g5 C4 M4 G4 SG
  have hn : ∃ d, c = .string d ∧ d.size ≤ 9 := by
    simp only [List.mem_cons, List.not_mem_nil, or_false] at hcm
    rcases hcm with rfl | rfl | rfl | rfl | rfl
    all_goals exact ⟨_, rfl, by decide⟩
  obtain ⟨d, rfl, hd9⟩ := hn
  have HN := hide hd9
  obtain ⟨p0, p1, p2, p3, p4, p5⟩ := blk_cells5 (unhide M5)
  clear hcm hd9
  go_wp2
  have hG := far5 (unhide G5) (Nat.le_refl _) (.int .i64 (1 + x1)) (.int .i64 x2) (.int .i64 x3) (.int .i64 x4) (.string d)
  exact bodyPost_ret (v := .agg #[.int .i64 (1 + x1), .int .i64 x2, .int .i64 x3, .int .i64 x4, .string d]) (by simp [results, Try.results101, go_sem, p0, p1, p2, p3, p4]) rfl ⟨⟨_, _, _, _, _, rfl, unhide HN⟩, cur_far (unhide HC) (unhide C5) hG (other5 (by omega)), hG⟩

set_option maxHeartbeats 4000000 in
set_option maxRecDepth 100000 in
theorem draw_any (g : Nat) (v : Value) (xs : List Int) (w : World) (hlen : xs.length ≤ 1048576) (hbd : ∀ z ∈ xs, 0 ≤ z ∧ z ≤ 255) (hc : Cur w g v xs) :
    Calls Try.prog 102 #[.pointer (some ⟨g, 0, none⟩)] w fun e w' => (∃ ai ar ab av ad, e = .returned (.agg #[.int .i64 ai, .int .i64 ar, .int .i64 ab, .int .i64 av, .string ad]) ∧ ad.size ≤ 9) ∧ Cur w' g v xs ∧ w.grownBy w' (some g) := by
  have HD := hide hbd
  have HC := hide hc
  have hlt := cur_lt hc
  have C0 := hide (cur_alloc hc (.cells #[.int .i64 0, .int .i64 0, .int .i64 0, .int .i64 0, .string ⟨#[]⟩] 83))
  have M0 := hide (heap_alloc_new w (.cells #[.int .i64 0, .int .i64 0, .int .i64 0, .int .i64 0, .string ⟨#[]⟩] 83))
  have G0 := hide (grown_alloc w (.cells #[.int .i64 0, .int .i64 0, .int .i64 0, .int .i64 0, .string ⟨#[]⟩] 83) (some g))
  clear hbd hc
  go_enter Try.func102, Try.ntmps102
  go_wp2_with fail
  refine (right_any g v xs _ hlen (unhide HD) (unhide C0)).mono ?_
  rintro e w1 ⟨⟨ai, ar, ab, av, ad, rfl, hd9⟩, c1, g1⟩
  have hs1 := g1.size
  simp only [World.size_alloc] at hs1
  have HN := hide hd9
  have C1 := hide (cur_alloc c1 (.cells #[.int .i64 ai, .int .i64 ar, .int .i64 ab, .int .i64 av, .string ad] 83))
  have M1 := hide ((Below.heap_alloc w1 (.cells #[.int .i64 ai, .int .i64 ar, .int .i64 ab, .int .i64 av, .string ad] 83) _ (by omega)).trans (blk_grown g1 (unhide M0) (by omega)))
  have E1 := hide (heap_alloc_new w1 (.cells #[.int .i64 ai, .int .i64 ar, .int .i64 ab, .int .i64 av, .string ad] 83))
  have G1 := hide (grown_trans (grown_trans (unhide G0) g1) (grown_alloc w1 (.cells #[.int .i64 ai, .int .i64 ar, .int .i64 ab, .int .i64 av, .string ad] 83) (some g)))
  clear c1 g1 C0 M0 G0 hd9
  go_wp2_with fail
  refine (below_any g v xs 14 _ hlen (unhide HD) (by omega) (by omega) (unhide C1)).mono ?_
  rintro e w2 ⟨⟨x2, rfl, x2a, x2b⟩, c2, g2⟩
  have C2 := hide c2
  have hs2 := g2.size
  simp only [World.size_alloc] at hs2
  have M2 := hide (blk_grown g2 (unhide M1) (by omega))
  have E2 := hide (blk_grown g2 (unhide E1) (by omega))
  have G2 := hide (grown_trans (unhide G1) g2)
  clear c2 g2 C1 M1 E1 G1
  by_cases h0 : x2 = 0
  · subst h0
    go_wp2_with fail
    have SG := hide (seg_new w2 3 [.int .i64 0, .int .i64 1000, .int .i64 1001, .int .i64 (-1)] 4 rfl (by decide))
    refine (pickint_any g v xs (.slice (some ⟨w2.heap.size, 0, none⟩) 4 4) [.int .i64 0, .int .i64 1000, .int .i64 1001, .int .i64 (-1)] (w2.alloc (.cells ([.int .i64 0, .int .i64 1000, .int .i64 1001, .int .i64 (-1)] : List Value).toArray 3)) hlen (unhide HD) (cur_alloc (unhide C2) _) (unhide SG) (ne_new (by omega) _ _) (by decide) (by decide)).mono ?_
    rintro e w3 ⟨⟨c, hcm, rfl⟩, c3, g3⟩
    have C3 := hide c3
    have hs3 := g3.size
    simp only [World.size_alloc] at hs3
    have M3 := hide (blk_grown g3 ((Below.heap_alloc _ _ _ (by omega)).trans (unhide M2)) (by omega))
    have E3 := hide (blk_grown g3 ((Below.heap_alloc _ _ _ (by omega)).trans (unhide E2)) (by omega))
    have G3 := hide (grown_trans (grown_trans (unhide G2) (grown_alloc _ _ _)) g3)
    clear c3 g3 C2 M2 E2 G2 SG
    have hn : ∃ n, c = .int .i64 n := by
      simp only [List.mem_cons, List.not_mem_nil, or_false] at hcm
      rcases hcm with rfl | rfl | rfl | rfl
      all_goals exact ⟨_, rfl⟩
    obtain ⟨n, rfl⟩ := hn
    clear hcm
    obtain ⟨p0, p1, p2, p3, p4, p5⟩ := blk_cells5 (unhide M3)
    obtain ⟨q0, q1, q2, q3, q4, q5⟩ := blk_cells5 (unhide E3)
    go_wp2
    have hG := far5 (grown_far (unhide G3) (a := ⟨w1.heap.size, 0, none⟩) (by show w.heap.size ≤ w1.heap.size; omega) (.int .i64 n)) (Nat.le_refl _) (.int .i64 n) (.int .i64 ar) (.int .i64 ab) (.int .i64 av) (.string ad)
    exact bodyPost_ret (v := .agg #[.int .i64 n, .int .i64 ar, .int .i64 ab, .int .i64 av, .string ad]) (by simp [results, Try.results102, go_sem, p0, p1, p2, p3, p4]) rfl ⟨⟨_, _, _, _, _, rfl, unhide HN⟩, cur_far (unhide HC) (unhide C3) hG ((other5 (by omega)).trans (heap_setCell_other _ _ _ _ (by show g ≠ w1.heap.size; omega))), hG⟩
  have e0 : (x2 == 0) = false := by simpa using h0
  by_cases h1 : x2 = 1
  · subst h1
    go_wp2_with fail
    have SG := hide (seg_new w2 3 [.int .i64 (-1), .int .i64 2] 2 rfl (by decide))
    refine (pickint_any g v xs (.slice (some ⟨w2.heap.size, 0, none⟩) 2 2) [.int .i64 (-1), .int .i64 2] (w2.alloc (.cells ([.int .i64 (-1), .int .i64 2] : List Value).toArray 3)) hlen (unhide HD) (cur_alloc (unhide C2) _) (unhide SG) (ne_new (by omega) _ _) (by decide) (by decide)).mono ?_
    rintro e w3 ⟨⟨c, hcm, rfl⟩, c3, g3⟩
    have C3 := hide c3
    have hs3 := g3.size
    simp only [World.size_alloc] at hs3
    have M3 := hide (blk_grown g3 ((Below.heap_alloc _ _ _ (by omega)).trans (unhide M2)) (by omega))
    have E3 := hide (blk_grown g3 ((Below.heap_alloc _ _ _ (by omega)).trans (unhide E2)) (by omega))
    have G3 := hide (grown_trans (grown_trans (unhide G2) (grown_alloc _ _ _)) g3)
    clear c3 g3 C2 M2 E2 G2 SG
    have hn : ∃ n, c = .int .i64 n := by
      simp only [List.mem_cons, List.not_mem_nil, or_false] at hcm
      rcases hcm with rfl | rfl
      all_goals exact ⟨_, rfl⟩
    obtain ⟨n, rfl⟩ := hn
    clear hcm
    obtain ⟨p0, p1, p2, p3, p4, p5⟩ := blk_cells5 (unhide M3)
    obtain ⟨q0, q1, q2, q3, q4, q5⟩ := blk_cells5 (unhide E3)
    go_wp2
    have hG := far5 (grown_far (unhide G3) (a := ⟨w1.heap.size, 1, none⟩) (by show w.heap.size ≤ w1.heap.size; omega) (.int .i64 n)) (Nat.le_refl _) (.int .i64 ai) (.int .i64 n) (.int .i64 ab) (.int .i64 av) (.string ad)
    exact bodyPost_ret (v := .agg #[.int .i64 ai, .int .i64 n, .int .i64 ab, .int .i64 av, .string ad]) (by simp [results, Try.results102, go_sem, p0, p1, p2, p3, p4]) rfl ⟨⟨_, _, _, _, _, rfl, unhide HN⟩, cur_far (unhide HC) (unhide C3) hG ((other5 (by omega)).trans (heap_setCell_other _ _ _ _ (by show g ≠ w1.heap.size; omega))), hG⟩
  have e1 : (x2 == 1) = false := by simpa using h1
  by_cases h2 : x2 = 2
  · subst h2
    go_wp2_with fail
    have SG := hide (seg_new w2 3 [.int .i64 (-1), .int .i64 100000, .int .i64 100001] 3 rfl (by decide))
    refine (pickint_any g v xs (.slice (some ⟨w2.heap.size, 0, none⟩) 3 3) [.int .i64 (-1), .int .i64 100000, .int .i64 100001] (w2.alloc (.cells ([.int .i64 (-1), .int .i64 100000, .int .i64 100001] : List Value).toArray 3)) hlen (unhide HD) (cur_alloc (unhide C2) _) (unhide SG) (ne_new (by omega) _ _) (by decide) (by decide)).mono ?_
    rintro e w3 ⟨⟨c, hcm, rfl⟩, c3, g3⟩
    have C3 := hide c3
    have hs3 := g3.size
    simp only [World.size_alloc] at hs3
    have M3 := hide (blk_grown g3 ((Below.heap_alloc _ _ _ (by omega)).trans (unhide M2)) (by omega))
    have E3 := hide (blk_grown g3 ((Below.heap_alloc _ _ _ (by omega)).trans (unhide E2)) (by omega))
    have G3 := hide (grown_trans (grown_trans (unhide G2) (grown_alloc _ _ _)) g3)
    clear c3 g3 C2 M2 E2 G2 SG
    have hn : ∃ n, c = .int .i64 n := by
      simp only [List.mem_cons, List.not_mem_nil, or_false] at hcm
      rcases hcm with rfl | rfl | rfl
      all_goals exact ⟨_, rfl⟩
    obtain ⟨n, rfl⟩ := hn
    clear hcm
    obtain ⟨p0, p1, p2, p3, p4, p5⟩ := blk_cells5 (unhide M3)
    obtain ⟨q0, q1, q2, q3, q4, q5⟩ := blk_cells5 (unhide E3)
    go_wp2
    have hG := far5 (grown_far (unhide G3) (a := ⟨w1.heap.size, 2, none⟩) (by show w.heap.size ≤ w1.heap.size; omega) (.int .i64 n)) (Nat.le_refl _) (.int .i64 ai) (.int .i64 ar) (.int .i64 n) (.int .i64 av) (.string ad)
    exact bodyPost_ret (v := .agg #[.int .i64 ai, .int .i64 ar, .int .i64 n, .int .i64 av, .string ad]) (by simp [results, Try.results102, go_sem, p0, p1, p2, p3, p4]) rfl ⟨⟨_, _, _, _, _, rfl, unhide HN⟩, cur_far (unhide HC) (unhide C3) hG ((other5 (by omega)).trans (heap_setCell_other _ _ _ _ (by show g ≠ w1.heap.size; omega))), hG⟩
  have e2 : (x2 == 2) = false := by simpa using h2
  by_cases h3 : x2 = 3
  · subst h3
    go_wp2_with fail
    have SG := hide (seg_new w2 3 [.int .i64 (-1), .int .i64 1000, .int .i64 1001] 3 rfl (by decide))
    refine (pickint_any g v xs (.slice (some ⟨w2.heap.size, 0, none⟩) 3 3) [.int .i64 (-1), .int .i64 1000, .int .i64 1001] (w2.alloc (.cells ([.int .i64 (-1), .int .i64 1000, .int .i64 1001] : List Value).toArray 3)) hlen (unhide HD) (cur_alloc (unhide C2) _) (unhide SG) (ne_new (by omega) _ _) (by decide) (by decide)).mono ?_
    rintro e w3 ⟨⟨c, hcm, rfl⟩, c3, g3⟩
    have C3 := hide c3
    have hs3 := g3.size
    simp only [World.size_alloc] at hs3
    have M3 := hide (blk_grown g3 ((Below.heap_alloc _ _ _ (by omega)).trans (unhide M2)) (by omega))
    have E3 := hide (blk_grown g3 ((Below.heap_alloc _ _ _ (by omega)).trans (unhide E2)) (by omega))
    have G3 := hide (grown_trans (grown_trans (unhide G2) (grown_alloc _ _ _)) g3)
    clear c3 g3 C2 M2 E2 G2 SG
    have hn : ∃ n, c = .int .i64 n := by
      simp only [List.mem_cons, List.not_mem_nil, or_false] at hcm
      rcases hcm with rfl | rfl | rfl
      all_goals exact ⟨_, rfl⟩
    obtain ⟨n, rfl⟩ := hn
    clear hcm
    obtain ⟨p0, p1, p2, p3, p4, p5⟩ := blk_cells5 (unhide M3)
    obtain ⟨q0, q1, q2, q3, q4, q5⟩ := blk_cells5 (unhide E3)
    go_wp2
    have hG := far5 (grown_far (unhide G3) (a := ⟨w1.heap.size, 3, none⟩) (by show w.heap.size ≤ w1.heap.size; omega) (.int .i64 n)) (Nat.le_refl _) (.int .i64 ai) (.int .i64 ar) (.int .i64 ab) (.int .i64 n) (.string ad)
    exact bodyPost_ret (v := .agg #[.int .i64 ai, .int .i64 ar, .int .i64 ab, .int .i64 n, .string ad]) (by simp [results, Try.results102, go_sem, p0, p1, p2, p3, p4]) rfl ⟨⟨_, _, _, _, _, rfl, unhide HN⟩, cur_far (unhide HC) (unhide C3) hG ((other5 (by omega)).trans (heap_setCell_other _ _ _ _ (by show g ≠ w1.heap.size; omega))), hG⟩
  have e3 : (x2 == 3) = false := by simpa using h3
  by_cases h4 : x2 = 4
  · subst h4
    obtain ⟨p0, p1, p2, p3, p4, p5⟩ := blk_cells5 (unhide M2)
    obtain ⟨q0, q1, q2, q3, q4, q5⟩ := blk_cells5 (unhide E2)
    go_wp2
    have hG := far5 (grown_far (unhide G2) (a := ⟨w1.heap.size, 4, none⟩) (by show w.heap.size ≤ w1.heap.size; omega) (.string ⟨#[49, 50, 51, 52, 53, 54, 55, 56, 57]⟩)) (Nat.le_refl _) (.int .i64 ai) (.int .i64 ar) (.int .i64 ab) (.int .i64 av) (.string ⟨#[49, 50, 51, 52, 53, 54, 55, 56, 57]⟩)
    exact bodyPost_ret (v := .agg #[.int .i64 ai, .int .i64 ar, .int .i64 ab, .int .i64 av, .string ⟨#[49, 50, 51, 52, 53, 54, 55, 56, 57]⟩]) (by simp [results, Try.results102, go_sem, p0, p1, p2, p3, p4]) rfl ⟨⟨_, _, _, _, _, rfl, by decide⟩, cur_far (unhide HC) (unhide C2) hG ((other5 (by omega)).trans (heap_setCell_other _ _ _ _ (by show g ≠ w1.heap.size; omega))), hG⟩
  have e4 : (x2 == 4) = false := by simpa using h4
  obtain ⟨p0, p1, p2, p3, p4, p5⟩ := blk_cells5 (unhide M2)
  obtain ⟨q0, q1, q2, q3, q4, q5⟩ := blk_cells5 (unhide E2)
  go_wp2
  have hG := far5 (unhide G2) (Nat.le_refl _) (.int .i64 ai) (.int .i64 ar) (.int .i64 ab) (.int .i64 av) (.string ad)
  exact bodyPost_ret (v := .agg #[.int .i64 ai, .int .i64 ar, .int .i64 ab, .int .i64 av, .string ad]) (by simp [results, Try.results102, go_sem, p0, p1, p2, p3, p4]) rfl ⟨⟨_, _, _, _, _, rfl, unhide HN⟩, cur_far (unhide HC) (unhide C2) hG (other5 (by omega)), hG⟩

end Go.Proofs.Ytighiahppjekeaa
