/-
  StateOk of the program: it answers by 'okS'. No statement is proved here.
  Single, the program's and the specification's. No statement is proved here.
  A variable that a drawn statement lays at some time, and stores a state of the call's own into. No program here, no statement is proved here.
-/
import Derived.Test.YtighiahppjekeaaGreatDoorApp2
import Derived.Test.YtighiahppjekeaaGreatDoorOrd
import Derived.Test.YtighiahppjekeaaGreatDoorSStOk
import Derived.Test.YtighiahppjekeaaGreatDoorStM
namespace Go.Proofs.YtighiahppjekeaaGreatDoor
open Go.RowKit

theorem ifloor_v (vi : Value) (a : Option Addr) (n cap : Nat) (fs : List Flr) (id f : Int) (hid : Hid (flo fs id = f)) (w : World) (hn : n ≤ 140737488351232) (hf : Rw encF 2 w (.slice a n cap) fs) :
    Calls Tryz.prog 13 #[.agg #[vi, .slice a n cap], .int .i64 id] w fun e w' => e = .returned (.int .i64 f) ∧ Below w.heap.size w w' := by
  rw [← unhide hid]; exact ifloor_any vi a n cap fs id w hn hf

set_option maxHeartbeats 4000000 in
set_option maxRecDepth 100000 in
theorem inover_any (ai : Option Addr) (ni ci : Nat) (xs : List Itm) (af : Option Addr) (nf cf : Nat) (fs : List Flr) (ok : Bool) (h0 : Hid (novr fs xs = ok)) (w : World) (hni : ni ≤ 140737488351232) (hnf : nf ≤ 140737488351232) (hx : Rw encI 6 w (.slice ai ni ci) xs) (hf : Rw encF 2 w (.slice af nf cf) fs) :
    Calls Tryz.prog 71 #[.agg #[.slice ai ni ci, .slice af nf cf]] w fun e w' => e = .returned (.bool ok) ∧ Below w.heap.size w w' := by
  have HX := hide hx
  have HF := hide hf
  clear hx hf
  go_enter Tryz.func71, Tryz.ntmps71
  go_wp2
  go_loopw [8] (fun i wr => ∃ k : Nat, k ≤ ni ∧ i = .int .i64 k ∧ novr fs (xs.drop k) = ok ∧ Below w.heap.size w wr ∧ wr.heap[w.heap.size]? = some (.cells #[.slice ai ni ci, .slice af nf cf] 27 (0, 0))) (fun i _ => ni - (intOf i).toNat)
  case atStart => exact ⟨0, Nat.zero_le _, rfl, unhide h0, (Below.refl _ _).alloc (Nat.le_refl _) _, heap_alloc_new w _⟩
  case round =>
    obtain ⟨k, hk, rfl, hrec, hbel, hblk⟩ := hrel
    have HR := hide hrec
    have HB := hide hbel
    have HK := hide hblk
    have hsz := hbel.size
    have hz0 : w.heap.size < wr.heap.size := (Array.getElem?_eq_some_iff.mp hblk).1
    obtain ⟨p0, p1, p2⟩ := blk_cells2 hblk
    clear hrec hblk
    by_cases hlt : k < ni
    · obtain ⟨x, b, off, hx, rfl, hb, hcap, hc⟩ := (unhide HX).at hlt
      obtain ⟨c0, c1, c2, c3, c4, c5⟩ := item_cells (w := wr) (b := b) (off := off) (k := k) (x := x) (fun j hj => (hbel.cell (p := ⟨b, off + k * 6 + j, none⟩) hb).trans (hc j hj))
      have hEq := novr_at (fs := fs) hx
      rw [unhide HR] at hEq
      obtain ⟨fv, hfv⟩ : ∃ fv, flo fs x.1 = fv := ⟨_, rfl⟩
      rw [hfv] at hEq
      have HFV := hide hfv
      have HE := hide hEq
      clear hc hx hbel hEq hfv
      rcases Bool.eq_false_or_eq_true (decide (x.2.1 ≤ fv)) with hle | hle
      all_goals
        go_wp2_with fail
        obtain ⟨W, hW⟩ : ∃ W, W = wr.alloc (.cells #[.int .i64 x.1, .int .i64 x.2.1, .int .i64 x.2.2.1, .int .i64 x.2.2.2.1, .int .i64 x.2.2.2.2.1, .string x.2.2.2.2.2] 62) := ⟨_, rfl⟩
        rw [← hW]
        have hWB : Below wr.heap.size wr W := by rw [hW]; exact (Below.refl _ _).alloc (Nat.le_refl _) _
        have hWs : W.heap.size = wr.heap.size + 1 := by rw [hW]; simp
        have l0 := later_some (w := W) (b := w.heap.size) (o := 0) (by omega) ((hWB.cell (p := ⟨w.heap.size, 0, none⟩) hz0).trans p0)
        have l1 := later_some (w := W) (b := w.heap.size) (o := 1) (by omega) ((hWB.cell (p := ⟨w.heap.size, 1, none⟩) hz0).trans p1)
        have lx0 := later_some (w := W) (b := wr.heap.size) (o := 0) (v := .int .i64 x.1) (by omega) (by rw [hW]; simp)
        have lx1 := later_some (w := W) (b := wr.heap.size) (o := 1) (v := .int .i64 x.2.1) (by omega) (by rw [hW]; simp)
        have HFW := hide ((unhide HF).below (unhide HB |>.trans (hWB.mono hsz)) (Nat.le_refl _))
        have HW := hide (And.intro hWB hWs)
        clear hW hWB hWs
        refine wp_region_later (by kernel_rfl) (by kernel_rfl) ?_
        repeat (go_big_quiet_step (first | (go_at_call 13; exact Calls.later_of (ifloor_v _ _ _ _ _ _ _ HFV _ hnf ((unhide HFW).in_later _ _)))))
        refine wpQuiet_nil ?_
        intro w1 hb1
        obtain ⟨hWB, hWs⟩ := unhide HW
        have HB1 := hide (((unhide HB).trans (hWB.mono hsz)).trans (hb1.mono (by omega)))
        have HK1 := hide ((hb1.block _ (by omega)).trans ((hWB.block _ hz0).trans (unhide HK)))
        clear hb1 hWB hWs HW HB HK HFW
      · go_wp2
        go_ret
        exact ⟨by rw [unhide HE, le_lt hle]; rfl, unhide HB1⟩
      · go_wp2
        go_roundw
        case rel => exact ⟨k + 1, by omega, by go_num, by
          have h := unhide HE
          rw [le_lt hle] at h
          exact h.symm, unhide HB1, unhide HK1⟩
        case measure => simp [intOf]; omega
    · have hEq : ok = true := by
        have h := unhide HR
        rw [drop_end (unhide HX).len.1 hk hlt] at h
        rw [← h]; rfl
      subst hEq
      clear hbel
      go_wp2
      go_ret
      exact ⟨rfl, unhide HB⟩

set_option maxHeartbeats 4000000 in
theorem istateok_any (ai : Option Addr) (ni ci : Nat) (xs : List Itm) (af : Option Addr) (nf cf : Nat) (fs : List Flr) (ok : Bool) (h0 : Hid (okS xs fs = ok)) (w : World) (hni : ni ≤ 140737488351232) (hnf : nf ≤ 140737488351232) (hx : Rw encI 6 w (.slice ai ni ci) xs) (hf : Rw encF 2 w (.slice af nf cf) fs) :
    Calls Tryz.prog 42 #[.agg #[.slice ai ni ci, .slice af nf cf]] w fun e w' => e = .returned (.bool ok) ∧ Below w.heap.size w w' := by
  have HX := hide hx
  have HF := hide hf
  have hEq := unhide h0
  rw [okS_eq] at hEq
  have HE := hide hEq
  clear hx hf h0 hEq
  rcases Bool.eq_false_or_eq_true (hI (-1) xs) with h1 | h1
  rotate_left
  · have H1 := hide h1
    clear h1
    obtain rfl : ok = false := by rw [← unhide HE, unhide H1]; rfl
    go_enter Tryz.func42, Tryz.ntmps42
    go_wp2_with fail
    refine (iordX_any ai ni ci xs _ H1 _ hni ((unhide HX).alloc _)).mono ?_
    rintro e w1 ⟨rfl, b1⟩
    have HB1 := hide (((Below.refl w.heap.size w).alloc (Nat.le_refl _) _).trans (b1.mono (by simp)))
    clear b1
    go_wp2
    go_ret
    exact ⟨rfl, unhide HB1⟩
  have H1 := hide h1
  clear h1
  rcases Bool.eq_false_or_eq_true (gF (-1) fs) with h2 | h2
  rotate_left
  · have H2 := hide h2
    clear h2
    obtain rfl : ok = false := by rw [← unhide HE, unhide H1, unhide H2]; rfl
    go_enter Tryz.func42, Tryz.ntmps42
    go_wp2_with fail
    refine (iordX_any ai ni ci xs _ H1 _ hni ((unhide HX).alloc _)).mono ?_
    rintro e w1 ⟨rfl, b1⟩
    obtain ⟨hc1, hf1⟩ := bcell b1
    have hz1 : w.heap.size < w1.heap.size := by have := b1.size; simp at this; omega
    have HB1 := hide (((Below.refl w.heap.size w).alloc (Nat.le_refl _) _).trans (b1.mono (by simp)))
    clear b1
    go_wp2_with fail
    refine (iordF_any af nf cf fs _ H2 _ hnf ((unhide HF).later (unhide HB1))).mono ?_
    rintro e w2 ⟨rfl, b2⟩
    have HB2 := hide ((unhide HB1).trans (b2.mono (by omega)))
    clear b2
    go_wp2
    go_ret
    exact ⟨rfl, unhide HB2⟩
  have H2 := hide h2
  clear h2
  have H3 : Hid (novr fs xs = ok) := by
    have h := unhide HE
    rw [unhide H1, unhide H2] at h
    exact hide h
  go_enter Tryz.func42, Tryz.ntmps42
  go_wp2_with fail
  refine (iordX_any ai ni ci xs _ H1 _ hni ((unhide HX).alloc _)).mono ?_
  rintro e w1 ⟨rfl, b1⟩
  obtain ⟨p0, p1, p2⟩ := blk_cells2 ((b1.block w.heap.size (by simp)).trans (heap_alloc_new w _))
  have hz1 : w.heap.size < w1.heap.size := by have := b1.size; simp at this; omega
  have HB1 := hide (((Below.refl w.heap.size w).alloc (Nat.le_refl _) _).trans (b1.mono (by simp)))
  clear b1
  go_wp2_with fail
  refine (iordF_any af nf cf fs _ H2 _ hnf ((unhide HF).later (unhide HB1))).mono ?_
  rintro e w2 ⟨rfl, b2⟩
  have q0 := (b2.cell (p := ⟨w.heap.size, 0, none⟩) hz1).trans p0
  have q1 := (b2.cell (p := ⟨w.heap.size, 1, none⟩) hz1).trans p1
  have HB2 := hide ((unhide HB1).trans (b2.mono (by omega)))
  clear b2 p0 p1 p2
  go_wp2_with fail
  refine (inover_any ai ni ci xs af nf cf fs _ H3 _ hni hnf ((unhide HX).later (unhide HB2)) ((unhide HF).later (unhide HB2))).mono ?_
  rintro e w3 ⟨rfl, b3⟩
  have HB3 := hide ((unhide HB2).trans (b3.mono (unhide HB2).size))
  clear b3
  go_wp2
  go_ret
  exact ⟨rfl, unhide HB3⟩
end Go.Proofs.YtighiahppjekeaaGreatDoor

namespace Go.Proofs.YtighiahppjekeaaGreatDoor
open Go.RowKit

def sgl (ok : Bool) (id : Int) (e : Key) : List Itm := match ok with
  | true => [(id, e)]
  | false => []

/-- A slice literal of one item, in a block of its own. -/
theorem own_one {w : World} {g base : Nat} (id : Int) (e : Key) (hb : base ≤ g) (h : w.heap[g]? = some (.cells #[.int .i64 id, .int .i64 e.1, .int .i64 e.2.1, .int .i64 e.2.2.1, .int .i64 e.2.2.2.1, .string e.2.2.2.2] 62 (0, 0))) : OwI base w (.slice (some ⟨g, 0, none⟩) 1 1) [(id, e)] :=
  ⟨rfl, .inr ⟨g, 1, _, rfl, hb, h, Nat.le_refl _, by unfold maxLen; simp, rfl, rfl⟩⟩
theorem own_nil (w : World) (base : Nat) : OwI base w (.slice none 0 0) [] := World.ownsRow_nil w base _ _

set_option maxHeartbeats 2000000 in
theorem ssingle_any (id : Int) (e : Key) (ok : Bool) (h0 : Hid (okS [(id, e)] [] = ok)) (n : Nat) (hn : Hid ((sgl ok id e).length = n)) (w : World) :
    Calls Tryz.prog 86 #[.int .i64 id, .agg #[.int .i64 e.1, .int .i64 e.2.1, .int .i64 e.2.2.1, .int .i64 e.2.2.2.1, .string e.2.2.2.2]] w fun r w' => ∃ a c, r = .returned (.tuple #[.agg #[.slice a n c, .slice none 0 0], .bool ok]) ∧ OwI w.heap.size w' (.slice a n c) (sgl ok id e) ∧ Below w.heap.size w w' := by
  go_enter Tryz.func86, Tryz.ntmps86
  go_wp2_with fail
  obtain ⟨m1, m2, m3⟩ := new4 w (.cells #[.int .i64 e.1, .int .i64 e.2.1, .int .i64 e.2.2.1, .int .i64 e.2.2.2.1, .string e.2.2.2.2] 41) (.cells #[.slice none 0 0, .slice none 0 0] 27) (.cells #[.int .i64 id, .int .i64 e.1, .int .i64 e.2.1, .int .i64 e.2.2.1, .int .i64 e.2.2.2.1, .string e.2.2.2.2] 62) (.cells #[.slice (some ⟨w.heap.size + 1 + 1, 0, none⟩) 1 1, .slice none 0 0] 27)
  have hR := (own_one (base := 0) id e (Nat.zero_le _) m2).rw encI_len
  refine (sstateok_any (some ⟨w.heap.size + 1 + 1, 0, none⟩) 1 1 [(id, e)] none 0 0 [] ok h0 _ (by omega) (by omega) hR Rw.nil).mono ?_
  rintro r w1 ⟨rfl, b1⟩
  have hz1 : w.heap.size + 3 < w1.heap.size := by have := b1.size; simp at this; omega
  obtain ⟨p0, p1, p2⟩ := blk_cells2 ((b1.block _ (by simp)).trans m1)
  obtain ⟨q0, q1, q2⟩ := blk_cells2 ((b1.block _ (by simp)).trans m3)
  have M2 := hide ((b1.block _ (by simp)).trans m2)
  have HB := hide ((((((Below.refl w.heap.size w).alloc (Nat.le_refl _) _).alloc (by simp) _).alloc (by simp; omega) _).alloc (by simp; omega) _).trans (b1.mono (by simp; omega)))
  clear m1 m2 m3 b1 hR
  cases ok
  · obtain rfl := unhide hn
    go_wp2
    exact bodyPost_ret (v := .tuple #[.agg #[.slice none 0 0, .slice none 0 0], .bool false]) (by simp [results, Tryz.results86, go_sem, p0, p1]) rfl ⟨none, 0, rfl, own_nil _ _, ((unhide HB).setCell (p := ⟨w.heap.size + 1, 0, none⟩) (by simp) _).setCell (p := ⟨w.heap.size + 1, 1, none⟩) (by simp) _⟩
  · obtain rfl := unhide hn
    go_wp2
    exact bodyPost_ret (v := .tuple #[.agg #[.slice (some ⟨w.heap.size + 1 + 1, 0, none⟩) 1 1, .slice none 0 0], .bool true]) (by simp [results, Tryz.results86, go_sem, p0, p1]) rfl ⟨some ⟨w.heap.size + 1 + 1, 0, none⟩, 1, rfl, (own_one (base := w.heap.size) id e (by omega) (by rw [heap_setCell_other _ _ _ _ (by show w.heap.size + 1 + 1 ≠ w.heap.size + 1; omega), heap_setCell_other _ _ _ _ (by show w.heap.size + 1 + 1 ≠ w.heap.size + 1; omega)]; exact unhide M2)), ((unhide HB).setCell (p := ⟨w.heap.size + 1, 0, none⟩) (by simp) _).setCell (p := ⟨w.heap.size + 1, 1, none⟩) (by simp) _⟩

end Go.Proofs.YtighiahppjekeaaGreatDoor

namespace Go.Proofs.YtighiahppjekeaaGreatDoor
open Go.RowKit

abbrev StZ : Obj := .cells #[.slice none 0 0, .slice none 0 0] 27
/-- The variable lies in block g, behind P, and is as it was laid. -/
structure Bx (P W : World) (g : Nat) : Prop where
  blk : W.heap[g]? = some StZ
  lt : g < W.heap.size
  ge : P.heap.size ≤ g
/-- The variable g, and where it lay ahead of the last call. -/
structure Bf (P V W : World) (g : Nat) : Prop where
  bx : Bx P W g
  lv : g < V.heap.size
theorem kal {P W : World} {o : Obj} (h : Below P.heap.size P W) : Below P.heap.size P (W.alloc o) := h.alloc h.size _
theorem Bx.new {P W w1 : World} (b : Below (W.alloc StZ).heap.size (W.alloc StZ) w1) (h : P.heap.size ≤ W.heap.size) : Bx P w1 W.heap.size := ⟨(newblk b).1, (newblk b).2, h⟩
theorem Bx.newD {P W w1 : World} (b : Below (W.alloc StZ).drew.heap.size (W.alloc StZ).drew w1) (h : P.heap.size ≤ W.heap.size) : Bx P w1 W.heap.size := ⟨(newblkD b).1, (newblkD b).2, h⟩
theorem Bx.kept {P W w1 : World} {g : Nat} (M : Hid (Bx P W g)) (b : Below W.heap.size W w1) : Bx P w1 g := ⟨(b.block _ (unhide M).lt).trans (unhide M).blk, Nat.lt_of_lt_of_le (unhide M).lt b.size, (unhide M).ge⟩
theorem Bf.new {P W w1 : World} (b : Below (W.alloc StZ).heap.size (W.alloc StZ) w1) (h : P.heap.size ≤ W.heap.size) : Bf P (W.alloc StZ) w1 W.heap.size := ⟨Bx.new b h, by simp⟩
theorem Bf.kept {P W w1 : World} {g : Nat} (M : Hid (Bx P W g)) (b : Below W.heap.size W w1) : Bf P W w1 g := ⟨Bx.kept M b, (unhide M).lt⟩
theorem kset {P V W : World} {g : Nat} {v1 v2 : Value} (b : Below P.heap.size P W) (M : Hid (Bf P V W g)) : Below P.heap.size P ((W.setCell ⟨g, 0, none⟩ v1).setCell ⟨g, 1, none⟩ v2) := (b.setCell (p := ⟨g, 0, none⟩) (unhide M).bx.ge _).setCell (p := ⟨g, 1, none⟩) (unhide M).bx.ge _
theorem Rw.later2 {α : Type} {enc : α → List Value} {k : Nat} {w w' : World} {o : Obj} {v : Value} {xs : List α} (h : Rw enc k w v xs) (b : Below (w.alloc o).heap.size (w.alloc o) w') : Rw enc k w' v xs := (h.alloc o).later b

/-- The variable holds the state of the call's own. -/
structure Fin (P W : World) (g : Nat) (v1 v2 : Value) (xs : List Itm) (fs : List Flr) : Prop where
  bel : Below P.heap.size P W
  ge : P.heap.size ≤ g
  lt : g < W.heap.size
  blk : W.heap[g]? = some (.cells #[v1, v2] 27 (0, 0))
  o1 : OwI P.heap.size W v1 xs
  o2 : OwF P.heap.size W v2 fs
theorem Fin.set {P V W : World} {g : Nat} {v1 v2 : Value} {xs : List Itm} {fs : List Flr} (b : Below P.heap.size P W) (h : P.heap.size ≤ V.heap.size) (M : Hid (Bf P V W g)) (o1 : Hid (OwI V.heap.size W v1 xs)) (o2 : Hid (OwF V.heap.size W v2 fs)) :
    Fin P ((W.setCell ⟨g, 0, none⟩ v1).setCell ⟨g, 1, none⟩ v2) g v1 v2 xs fs := by
  obtain ⟨⟨hb, hl, hg⟩, hv⟩ := unhide M
  refine ⟨(b.setCell (p := ⟨g, 0, none⟩) hg _).setCell (p := ⟨g, 1, none⟩) hg _, hg, by simpa using hl, blk_set2 hb _ _, ?_, ?_⟩
  · exact Ow.base (((unhide o1).set ⟨g, 0, none⟩ hv _).set ⟨g, 1, none⟩ hv _) h
  · exact Ow.base (((unhide o2).set ⟨g, 0, none⟩ hv _).set ⟨g, 1, none⟩ hv _) h
theorem Fin.new {P V W : World} {v1 v2 : Value} {xs : List Itm} {fs : List Flr} (b : Below P.heap.size P W) (h : P.heap.size ≤ V.heap.size) (o1 : Hid (OwI V.heap.size W v1 xs)) (o2 : Hid (OwF V.heap.size W v2 fs)) :
    Fin P (W.alloc (.cells #[v1, v2] 27)) W.heap.size v1 v2 xs fs := by
  refine ⟨kal b, b.size, by simp, heap_alloc_new _ _, ?_, ?_⟩
  · exact Ow.base (World.ownsRow.alloc (unhide o1) _) h
  · exact Ow.base (World.ownsRow.alloc (unhide o2) _) h
end Go.Proofs.YtighiahppjekeaaGreatDoor
