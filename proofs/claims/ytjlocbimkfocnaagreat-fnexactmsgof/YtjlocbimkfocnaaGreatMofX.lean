/-
  spec.MsgOf: the message of which these are the bytes. No statement is proved here.
  A message of the call's own is marked list by list, and held against its marks. No statement is proved here.
  MsgOf, the specification's and the program's, said with letters; a message of the call's own behind what is marked elsewhere. No statement is proved here.
-/
import Derived.Test.YtjlocbimkfocnaaGreatMsS
import Derived.Test.YtjlocbimkfocnaaGreatMsZ
import Derived.Test.YtjlocbimkfocnaaGreatMsBx
import Derived.Test.YtjlocbimkfocnaaGreatRdO
import Derived.Test.YtjlocbimkfocnaaGreatStBx
import Derived.Test.YtjlocbimkfocnaaGreatMsL
import Derived.Test.YtjlocbimkfocnaaGreatByO
namespace Go.Proofs.YtjlocbimkfocnaaGreat
open Go.RowKit

def GotM (w w' : World) (xs : List Int) (e : Ending) : Prop := ∃ (m : Mg) (p : Mp), m = mofM xs ∧ e = .returned (.tuple #[.agg #[.int .i64 m.k, .int .i64 m.f, .int .i64 m.t, .int .i64 m.n, .int .i64 m.h, .slice p.ta p.tn p.tc, .int .i64 m.tr, .slice p.va p.vn p.vc, .slice p.la p.ln p.lc, .slice p.xa p.xn p.xc, .slice p.ya p.yn p.yc, .slice p.ka p.kn p.kc], .bool (mof xs).isSome]) ∧ SzM p 200 ∧ OwMg w.heap.size w' m p ∧ Below w.heap.size w w'
theorem GotM.mk {w w' : World} {xs : List Int} {e : Ending} (m : Mg) (p : Mp) (h1 : m = mofM xs) (h2 : e = .returned (.tuple #[.agg #[.int .i64 m.k, .int .i64 m.f, .int .i64 m.t, .int .i64 m.n, .int .i64 m.h, .slice p.ta p.tn p.tc, .int .i64 m.tr, .slice p.va p.vn p.vc, .slice p.la p.ln p.lc, .slice p.xa p.xn p.xc, .slice p.ya p.yn p.yc, .slice p.ka p.kn p.kc], .bool (mof xs).isSome])) (h3 : SzM p 200) (h4 : OwMg w.heap.size w' m p) (h5 : Below w.heap.size w w') : GotM w w' xs e := ⟨m, p, h1, h2, h3, h4, h5⟩
theorem mof_short {xs : List Int} (h : xs.length < 6) : mof xs = none := by
  refine mof_none fun m hm e => ?_
  rw [msB, if_pos ((okM_iff m).2 hm)] at e
  have := congrArg List.length e
  simp [bodyM, sumB] at this
  omega
theorem sof5z (xs : List Int) : (sofI xs).length ≤ 5 ∧ (sofF xs).length ≤ 5 := by
  cases h : sof xs with
  | none => rw [sofI, sofF, h]; simp
  | some p =>
    have := (sof_is (xs := p.1) (fs := p.2) h).1.len5
    rw [sofI, sofF, h]
    exact this
theorem ow_not {α : Type} {enc : α → List Value} {k : Nat} {E T : TypeId} {base g : Nat} {W : World} {v : Value} {xs : List α} {cs : Array Value} {fz : Nat × Nat} (h : Ow enc k E base W v xs) (hb : W.heap[g]? = some (.cells cs T fz)) (hne : E ≠ T) : ∀ i, v.ownBlock = some i → i ≠ g := by
  intro i hi e
  subst e
  rcases h.2 with ⟨hv, _⟩ | ⟨g', cap', cur, hv, _, hh, _⟩
  · rw [hv] at hi; cases hi
  · rw [hv] at hi
    cases hi
    rw [hh] at hb
    simp only [Option.some.injEq, Obj.cells.injEq] at hb
    exact hne hb.2.1
theorem finS {P V W : World} {g : Nat} {v1 v2 : Value} {xs : List Itm} {fs : List Flr} (b : Below P.heap.size P W) (M : Hid (Bf P V W g)) (o1 : Hid (OwI P.heap.size W v1 xs)) (o2 : Hid (OwF P.heap.size W v2 fs)) :
    Fin P ((W.setCell ⟨g, 0, none⟩ v1).setCell ⟨g, 1, none⟩ v2) g v1 v2 xs fs := by
  obtain ⟨hb, hl, hg⟩ := (unhide M).bx
  have G := grown_trans2 (grown_set W g 0 v1) (grown_set _ g 1 v2)
  exact ⟨(b.setCell (p := ⟨g, 0, none⟩) hg _).setCell (p := ⟨g, 1, none⟩) hg _, hg, by simpa using hl, blk_set2 hb _ _, (Trn.of_grown G).own (unhide o1) (fun i p e => ow_not (unhide o1) hb (by decide) i p (Option.some.inj e).symm), (Trn.of_grown G).own (unhide o2) (fun i p e => ow_not (unhide o2) hb (by decide) i p (Option.some.inj e).symm)⟩
theorem finN {P W : World} {v1 v2 : Value} {xs : List Itm} {fs : List Flr} (b : Below P.heap.size P W) (o1 : Hid (OwI P.heap.size W v1 xs)) (o2 : Hid (OwF P.heap.size W v2 fs)) :
    Fin P (W.alloc (.cells #[v1, v2] 30)) W.heap.size v1 v2 xs fs :=
  ⟨b.alloc b.size _, b.size, by simp, heap_alloc_new _ _, (unhide o1).later ((Below.refl _ _).alloc (Nat.le_refl _) _), (unhide o2).later ((Below.refl _ _).alloc (Nat.le_refl _) _)⟩
/-- While a message is read: the result's variable r, the cursor g, the message's variable b (its cells cs). -/
structure MO (w W : World) (r g b : Nat) (v : Value) (ys : List Int) (c : Int × Bool) (cs : Array Value) : Prop where
  sg : Seg w v ys
  bel : Below w.heap.size w W
  hr : w.heap.size ≤ r
  rg : r < g
  gb : g < b
  kr : W.heap[r]? = some (.cells #[.int .i64 0, .int .i64 0, .int .i64 0, .int .i64 0, .int .i64 0, .slice none 0 0, .int .i64 0, .slice none 0 0, .slice none 0 0, .slice none 0 0, .slice none 0 0, .slice none 0 0] 33 (0, 0))
  rd : Rd W g v ys c
  kb : W.heap[b]? = some (.cells cs 33 (0, 0))
theorem keepC2 {P W : World} {g : Nat} {v0 v1 : Value} (hg : g < P.heap.size) (c0 : P.cell? ⟨g, 0, none⟩ = some v0) (c1 : P.cell? ⟨g, 1, none⟩ = some v1) (b : Below P.heap.size P W) : Below P.heap.size P W ∧ W.cell? ⟨g, 0, none⟩ = some v0 ∧ W.cell? ⟨g, 1, none⟩ = some v1 :=
  ⟨b, (b.cell (p := ⟨g, 0, none⟩) hg).trans c0, (b.cell (p := ⟨g, 1, none⟩) hg).trans c1⟩
section
variable {w W X : World} {r g b : Nat} {v : Value} {ys : List Int} {c c' : Int × Bool} {cs : Array Value}
theorem MO.bl (h : MO w W r g b v ys c cs) : b < W.heap.size := (Array.getElem?_eq_some_iff.1 h.kb).1
theorem MO.later (h : MO w W r g b v ys c cs) (bl : Below W.heap.size W X) : MO w X r g b v ys c cs :=
  ⟨h.sg, h.bel.trans (bl.mono h.bel.size), h.hr, h.rg, h.gb, (bl.block _ (Array.getElem?_eq_some_iff.1 h.kr).1).trans h.kr, h.rd.later bl, (bl.block _ h.bl).trans h.kb⟩
/-- The cursor has gone on. -/
theorem MO.num (h : MO w W r g b v ys c cs) (rd : Rd X g v ys c') (hG : W.grownBy X (some g)) : MO w X r g b v ys c' cs := by
  have h1 := (Array.getElem?_eq_some_iff.1 h.kr).1
  have := h.hr; have := h.rg; have := h.gb
  exact ⟨h.sg, h.bel.grown hG h.bel.size (fun k hk => by simp at hk; omega), h.hr, h.rg, h.gb, (hG.block _ h1 (fun e => by simp at e; omega)).trans h.kr, rd, (hG.block _ h.bl (fun e => by simp at e; omega)).trans h.kb⟩
/-- A row behind the message's variable has grown. -/
theorem MO.grow (h : MO w W r g b v ys c cs) {u : Value} (hG : W.grownBy X u.ownBlock) (hlo : ∀ i, u.ownBlock = some i → b + 1 ≤ i) : MO w X r g b v ys c cs := by
  have h1 := (Array.getElem?_eq_some_iff.1 h.kr).1
  have := h.hr; have := h.rg; have := h.gb
  have B := h.bel.grown hG h.bel.size (fun k hk => by have := hlo k hk; omega)
  exact ⟨h.sg, B, h.hr, h.rg, h.gb, (hG.block _ h1 (fun e => by have := hlo r e.symm; omega)).trans h.kr,
    ⟨(hG.block _ h.rd.lt (fun e => by have := hlo g e.symm; omega)).trans h.rd.blk, h.sg.below B (Nat.le_refl _), h.rd.ne, h.rd.lo, h.rd.hi⟩, (hG.block _ h.bl (fun e => by have := hlo b e.symm; omega)).trans h.kb⟩
/-- The cursor is put elsewhere. -/
theorem MO.at (h : MO w W r g b v ys c cs) {q : Int} (h0 : 0 ≤ q) (h1 : q ≤ ys.length) : MO w (W.setCell ⟨g, 1, none⟩ (.int .i64 q)) r g b v ys (q, c.2) cs :=
  h.num (h.rd.at h0 h1).1 (h.rd.at h0 h1).2
/-- A field of the message is written. -/
theorem MO.put (h : MO w W r g b v ys c cs) (o : Nat) (z : Value) : MO w (W.setCell ⟨b, o, none⟩ z) r g b v ys c (cs.setIfInBounds o z) := by
  have := h.hr; have := h.rg; have := h.gb
  have B := h.bel.setCell (p := ⟨b, o, none⟩) (by show w.heap.size ≤ b; omega) z
  exact ⟨h.sg, B, h.hr, h.rg, h.gb, (heap_setCell_other _ ⟨b, o, none⟩ _ _ (by show r ≠ b; omega)).trans h.kr,
    ⟨(heap_setCell_other _ ⟨b, o, none⟩ _ _ (by show g ≠ b; omega)).trans h.rd.blk, h.sg.below B (Nat.le_refl _), h.rd.ne, h.rd.lo, h.rd.hi⟩, heap_setCell_same _ b o _ _ _ h.kb⟩
end
theorem OwMg.setK {B : Nat} {W X : World} {m : Mg} {p : Mp} (h : OwMg B W m p) {a : Option Addr} {n c : Nat} {ma : List Flr} (hO : OwKm B X (.slice a n c) ma) (hG : W.grownBy X (Value.slice p.ka p.kn p.kc).ownBlock) :
    OwMg B X ⟨m.k, m.f, m.t, m.n, m.h, m.tl, m.tr, m.ve, m.le, m.its, m.fls, ma⟩ ⟨p.ta, p.tn, p.tc, p.va, p.vn, p.vc, p.la, p.ln, p.lc, p.xa, p.xn, p.xc, p.ya, p.yn, p.yc, a, n, c⟩ :=
  ⟨h.t.aptT h.k (by decide) hG, h.v.aptT h.k (by decide) hG, h.l.aptT h.k (by decide) hG, h.x.aptT h.k (by decide) hG, h.y.aptT h.k (by decide) hG, hO, h.tv, h.tl, h.vl⟩
theorem keepQ {w P W : World} {r g b : Nat} {v : Value} {ys : List Int} {q : Int} {bb : Bool} {c0 c1 c2 c3 c4 c5 c6 c7 c8 c9 ca cb : Value} (h : Hid (MO w P r g b v ys (q, bb) #[c0, c1, c2, c3, c4, c5, c6, c7, c8, c9, ca, cb])) (bl : Below P.heap.size P W) :
    Below P.heap.size P W ∧ (W.cell? ⟨b, 0, none⟩ = some c0 ∧ W.cell? ⟨b, 1, none⟩ = some c1 ∧ W.cell? ⟨b, 2, none⟩ = some c2 ∧ W.cell? ⟨b, 3, none⟩ = some c3 ∧ W.cell? ⟨b, 4, none⟩ = some c4 ∧ W.cell? ⟨b, 5, none⟩ = some c5 ∧ W.cell? ⟨b, 6, none⟩ = some c6 ∧ W.cell? ⟨b, 7, none⟩ = some c7 ∧ W.cell? ⟨b, 8, none⟩ = some c8 ∧ W.cell? ⟨b, 9, none⟩ = some c9 ∧ W.cell? ⟨b, 10, none⟩ = some ca ∧ W.cell? ⟨b, 11, none⟩ = some cb) ∧ W.cell? ⟨g, 2, none⟩ = some (.bool bb) := by
  have h2 := (unhide h).later bl
  obtain ⟨p0, p1, p2, p3, p4, p5, p6, p7, p8, p9, pa, pb, -⟩ := msg_cells h2.kb
  obtain ⟨-, -, q2, -⟩ := h2.rd.cells
  exact ⟨bl, ⟨p0, p1, p2, p3, p4, p5, p6, p7, p8, p9, pa, pb⟩, q2⟩
set_option maxHeartbeats 16000000 in
set_option maxRecDepth 100000 in
theorem smsgof_any (v : Value) (xs : List Int) (w : World) (hlen : xs.length ≤ 1048576) (hbd : ∀ z ∈ xs, 0 ≤ z ∧ z ≤ 255) (hv : Seg w v xs) :
    Calls Tryz.prog 13 #[v] w fun e w' => GotM w w' xs e := by
  have HDD := hide hbd
  obtain ⟨a, cap, rfl, hcap, hr⟩ := hv
  have BA := hide (show Below w.heap.size w (w.alloc (.cells #[.int .i64 0, .int .i64 0, .int .i64 0, .int .i64 0, .int .i64 0, .slice none 0 0, .int .i64 0, .slice none 0 0, .slice none 0 0, .slice none 0 0, .slice none 0 0, .slice none 0 0] 33)) from (Below.refl _ _).alloc (Nat.le_refl _) _)
  have KA := hide (heap_alloc_new w (.cells #[.int .i64 0, .int .i64 0, .int .i64 0, .int .i64 0, .int .i64 0, .slice none 0 0, .int .i64 0, .slice none 0 0, .slice none 0 0, .slice none 0 0, .slice none 0 0, .slice none 0 0] 33))
  by_cases h6 : xs.length < 6
  · skip
    have hd : decide ((xs.length : Int) < 6) = true := by simp; omega
    have hno := hide (mof_short h6)
    clear hr hbd
    go_enter Tryz.func13, Tryz.ntmps13
    go_wp2_with fail
    refine wp_region_later (by kernel_rfl) (by kernel_rfl) ?_
    repeat (go_big_quiet_step (fail))
    refine wpQuiet_nil ?_
    intro w1 b1
    have KR := hide ((b1.block w.heap.size (by simp)).trans (unhide KA))
    have BL := hide ((unhide BA).trans (b1.mono (by simp)))
    have hz := (Array.getElem?_eq_some_iff.1 (unhide KR)).1
    clear b1 KA BA
    obtain ⟨r0, r1, r2, r3, r4, r5, r6, r7, r8, r9, ra, rb, rf⟩ := msg_cells (unhide KR)
    have BW := hide (unhide BL)
    have BW := hide ((unhide BW).setCell (p := ⟨w.heap.size, 0, none⟩) (Nat.le_refl _) (.int .i64 0))
    have BW := hide ((unhide BW).setCell (p := ⟨w.heap.size, 1, none⟩) (Nat.le_refl _) (.int .i64 0))
    have BW := hide ((unhide BW).setCell (p := ⟨w.heap.size, 2, none⟩) (Nat.le_refl _) (.int .i64 0))
    have BW := hide ((unhide BW).setCell (p := ⟨w.heap.size, 3, none⟩) (Nat.le_refl _) (.int .i64 0))
    have BW := hide ((unhide BW).setCell (p := ⟨w.heap.size, 4, none⟩) (Nat.le_refl _) (.int .i64 0))
    have BW := hide ((unhide BW).setCell (p := ⟨w.heap.size, 5, none⟩) (Nat.le_refl _) (.slice none 0 0))
    have BW := hide ((unhide BW).setCell (p := ⟨w.heap.size, 6, none⟩) (Nat.le_refl _) (.int .i64 0))
    have BW := hide ((unhide BW).setCell (p := ⟨w.heap.size, 7, none⟩) (Nat.le_refl _) (.slice none 0 0))
    have BW := hide ((unhide BW).setCell (p := ⟨w.heap.size, 8, none⟩) (Nat.le_refl _) (.slice none 0 0))
    have BW := hide ((unhide BW).setCell (p := ⟨w.heap.size, 9, none⟩) (Nat.le_refl _) (.slice none 0 0))
    have BW := hide ((unhide BW).setCell (p := ⟨w.heap.size, 10, none⟩) (Nat.le_refl _) (.slice none 0 0))
    have BW := hide ((unhide BW).setCell (p := ⟨w.heap.size, 11, none⟩) (Nat.le_refl _) (.slice none 0 0))
    go_wp2_with fail
    exact bodyPost_ret (v := .tuple #[.agg #[.int .i64 0, .int .i64 0, .int .i64 0, .int .i64 0, .int .i64 0, .slice none 0 0, .int .i64 0, .slice none 0 0, .slice none 0 0, .slice none 0 0, .slice none 0 0, .slice none 0 0], .bool false]) (by simp [results, Tryz.results13, go_sem, r0, r1, r2, r3, r4, r5, r6, r7, r8, r9, ra, rb]) rfl (GotM.mk zM zP (by rw [mofM, unhide hno]; rfl) (by rw [unhide hno]; rfl) ⟨Nat.zero_le _, Nat.zero_le _, Nat.zero_le _, Nat.zero_le _, Nat.zero_le _, Nat.zero_le _⟩ (owMg_nil _ _) (unhide BW))
  · skip
    obtain ⟨n, hn⟩ : ∃ n, xs.length = n + 4 := ⟨xs.length - 4, by omega⟩
    obtain ⟨g0, off, rfl, hg0, hc⟩ : ∃ g off, a = some ⟨g, off, none⟩ ∧ g < w.heap.size ∧ ∀ i, i < xs.length → w.cell? ⟨g, off + i, none⟩ = some (.int .u8 (xs.getD i 0)) := by
      rcases hr with h | ⟨g, off, h1, h2, h3⟩
      · rw [h] at h6; simp at h6
      · exact ⟨g, off, h1, h2, h3⟩
    have HC := hide (show RdC w g0 off (n + 4) cap xs from ⟨by omega, by omega, hg0, hc⟩)
    obtain ⟨ys, hys⟩ : ∃ ys, xs.take n = ys := ⟨_, rfl⟩
    have HT := hide ((unhide HC).take (k := n) (by omega))
    rw [hys] at HT
    have HDr := hide (show RdC w g0 (off + n) 4 (cap - n) (xs.drop n) from by have h := (unhide HC).drop (k := n) (by omega); rwa [show n + 4 - n = 4 by omega] at h)
    have hyl : ys.length = n := (unhide HT).len.symm
    have hb1 : ∀ z ∈ ys, 0 ≤ z ∧ z ≤ 255 := fun z hz => unhide HDD z (by rw [← hys] at hz; exact List.mem_of_mem_take hz)
    have HYB := hide hb1
    have HYS := hide hys
    rw [hn] at hcap
    have hi0 : ((n + 4 : Nat) : Int) - 4 = (n : Int) := by omega
    have hi1 : (0 : Int) ≤ (n : Int) := by omega
    have hi2 : (n : Int) ≤ ((n + 4 : Nat) : Int) := by omega
    have hi3 : (n : Int) ≤ (cap : Int) := by omega
    have hd6 : decide (((n + 4 : Nat) : Int) < 6) = false := by simp; omega
    have hd7 : decide ((n : Int) + 4 < 6) = false := by simp; omega
    have hn6 : ¬ ((n : Int) + 4 < 6) := by omega
    have hwn : IntKind.i64.wrap (n : Int) = (n : Int) := by rw [IntKind.wrap_i64] <;> omega
    have hcn : ¬ cap = n := by omega
    have hcn2 : ¬ (cap : Int) = (n : Int) := by omega
    have hcn3 : ¬ (cap : Int) - (n : Int) = 0 := by omega
    have hcn4 : ¬ cap ≤ n := by omega
    have hcn5 : (n : Int) ≤ (n : Int) + 4 := by omega
    have hcn6 : ¬ cap - n = 0 := by omega
    have hcn7 : ((n + 4 : Nat) : Int) ≤ (cap : Int) := by omega
    have hcn8 : (n : Int) + 4 ≤ (cap : Int) := by omega
    obtain ⟨rr, hrr⟩ : ∃ r, Hid (decide (sumB (crcOf ys) = xs.drop n) = r) := ⟨_, hide rfl⟩
    have HB2 := hide (fun z hz => unhide HDD z (List.mem_of_mem_drop hz) : ∀ z ∈ xs.drop n, 0 ≤ z ∧ z ≤ 255)
    have HB3 := hide (sumB_bytes (crcOf_nonneg _ hb1) (crcOf_range _ hb1))
    obtain ⟨s1, hs1⟩ : ∃ s, Hid (strOfNums (sumB (crcOf ys)) = s) := ⟨_, hide rfl⟩
    obtain ⟨s2, hs2⟩ : ∃ s, Hid (strOfNums (xs.drop n) = s) := ⟨_, hide rfl⟩
    have hsame : (s1.toList == s2.toList) = rr := by rw [← unhide hs1, ← unhide hs2, str_same (unhide HB3) (unhide HB2)]; exact unhide hrr
    have hl1 : ys.length ≤ 281474976710656 := by omega
    clear hr hbd hc hb1
    obtain ⟨wA, hwA⟩ : ∃ W, W = w.alloc (.cells #[.int .i64 0, .int .i64 0, .int .i64 0, .int .i64 0, .int .i64 0, .slice none 0 0, .int .i64 0, .slice none 0 0, .slice none 0 0, .slice none 0 0, .slice none 0 0, .slice none 0 0] 33) := ⟨_, rfl⟩
    rw [← hwA] at BA KA
    have k2 : ∀ W, Below wA.heap.size wA W → (convert 22 9 (.slice (some ⟨g0, off + n, none⟩) 4 (cap - n))).run Tryz.prog W = .ok (.string s2) W := fun W b => convR hs2 (((unhide HDr).later ((unhide BA).trans (b.mono (unhide BA).size))).rdb)
    rw [hn]
    go_enter Tryz.func13, Tryz.ntmps13
    go_wp2_with fail
    rw [← hwA]
    have hWA : wA.heap.size = w.heap.size + 1 := by rw [hwA]; simp
    have hwr : w.heap.size < wA.heap.size := by omega
    have HWA := hide hwA
    clear hwA hWA
    refine wp_region_noPanic ?_
    refine wp_region_held_drew (S := (fun W => Below wA.heap.size wA W)) (by kernel_rfl) ?_ (fun hHeld => ?_)
    · (try dsimp only); exact (Below.refl _ _).drew
    refine wpAnyH_take (i := 0) (v := ?v0) (by (simp only [List.getElem?_toArray, List.getElem?_cons_zero]; rfl)) (by kernel_rfl) (by kernel_rfl) (by kernel_rfl) (fun _ _ _ h => h) (Or.inl ⟨by rfl, ?hy0⟩) (by assumption) ?rest0
    case hy0 => (intro w hSw; (try dsimp only at hSw); go_simp <;> with_reducible rfl)
    (try simp only [Act.put, List.setIfInBounds_toArray, List.set_cons_zero, List.set_cons_succ])
    refine wpAnyH_take (i := 1) (v := ?v1) (by (simp only [List.getElem?_toArray, List.getElem?_cons_succ, List.getElem?_cons_zero]; rfl)) (by kernel_rfl) (by kernel_rfl) (by kernel_rfl) (fun _ _ _ h => h) (Or.inl ⟨by rfl, ?hy1⟩) (by assumption) ?rest1
    case hy1 => (intro w hSw; (try dsimp only at hSw); go_simp <;> with_reducible rfl)
    (try simp only [Act.put, List.setIfInBounds_toArray, List.set_cons_zero, List.set_cons_succ])
    refine wpAnyH_take (i := 2) (v := ?v2) (by (simp only [List.getElem?_toArray, List.getElem?_cons_succ, List.getElem?_cons_zero]; rfl)) (by kernel_rfl) (by kernel_rfl) (by kernel_rfl) (fun _ _ _ h => h) (Or.inl ⟨by rfl, ?hy2⟩) (by assumption) ?rest2
    case hy2 => (intro w hSw; (try dsimp only at hSw); go_simp <;> with_reducible rfl)
    (try simp only [Act.put, List.setIfInBounds_toArray, List.set_cons_zero, List.set_cons_succ])
    refine wpAnyH_take (i := 3) (v := ?v3) (by (simp only [List.getElem?_toArray, List.getElem?_cons_succ, List.getElem?_cons_zero]; rfl)) (by kernel_rfl) (by kernel_rfl) (by kernel_rfl) (fun _ _ _ h => h) (Or.inl ⟨by rfl, ?hy3⟩) (by assumption) ?rest3
    case hy3 => (intro w hSw; (try dsimp only at hSw); go_simp <;> with_reducible rfl)
    (try simp only [Act.put, List.setIfInBounds_toArray, List.set_cons_zero, List.set_cons_succ])
    refine wpAnyH_take (i := 4) (v := ?v4) (by (simp only [List.getElem?_toArray, List.getElem?_cons_succ, List.getElem?_cons_zero]; rfl)) (by kernel_rfl) (by kernel_rfl) (by kernel_rfl) (fun _ _ _ h => h) (Or.inl ⟨by rfl, ?hy4⟩) (by assumption) ?rest4
    case hy4 => (intro w hSw; (try dsimp only at hSw); go_simp <;> with_reducible rfl)
    (try simp only [Act.put, List.setIfInBounds_toArray, List.set_cons_zero, List.set_cons_succ])
    refine wpAnyH_take (i := 5) (v := ?v5) (by (simp only [List.getElem?_toArray, List.getElem?_cons_succ, List.getElem?_cons_zero]; rfl)) (by kernel_rfl) (by kernel_rfl) (by kernel_rfl) (fun _ _ _ h => h) (Or.inl ⟨by rfl, ?hy5⟩) (by assumption) ?rest5
    case hy5 => (intro w hSw; (try dsimp only at hSw); go_simp <;> with_reducible rfl)
    (try simp only [Act.put, List.setIfInBounds_toArray, List.set_cons_zero, List.set_cons_succ])
    refine wpAnyH_take (i := 6) (v := ?v6) (by (simp only [List.getElem?_toArray, List.getElem?_cons_succ, List.getElem?_cons_zero]; rfl)) (by kernel_rfl) (by kernel_rfl) (by kernel_rfl) (fun _ _ _ h => h) (Or.inl ⟨by rfl, ?hy6⟩) (by assumption) ?rest6
    case hy6 => (intro w hSw; (try dsimp only at hSw); go_simp <;> with_reducible rfl)
    (try simp only [Act.put, List.setIfInBounds_toArray, List.set_cons_zero, List.set_cons_succ])
    refine wpAnyH_take (i := 7) (v := ?v7) (by (simp only [List.getElem?_toArray, List.getElem?_cons_succ, List.getElem?_cons_zero]; rfl)) (by kernel_rfl) (by kernel_rfl) (by kernel_rfl) (fun _ _ _ h => h) (Or.inl ⟨by rfl, ?hy7⟩) (by assumption) ?rest7
    case hy7 => (intro w hSw; (try dsimp only at hSw); go_simp <;> with_reducible rfl)
    (try simp only [Act.put, List.setIfInBounds_toArray, List.set_cons_zero, List.set_cons_succ])
    refine wpAnyH_take (i := 8) (v := ?v8) (by (simp only [List.getElem?_toArray, List.getElem?_cons_succ, List.getElem?_cons_zero]; rfl)) (by kernel_rfl) (by kernel_rfl) (by kernel_rfl) (fun _ _ _ h => h) (Or.inl ⟨by rfl, ?hy8⟩) (by assumption) ?rest8
    case hy8 => (intro w hSw; (try dsimp only at hSw); go_simp <;> with_reducible rfl)
    (try simp only [Act.put, List.setIfInBounds_toArray, List.set_cons_zero, List.set_cons_succ])
    refine wpAnyH_take (i := 11) (v := ?v11) (by (simp only [List.getElem?_toArray, List.getElem?_cons_succ, List.getElem?_cons_zero]; rfl)) (by kernel_rfl) (by kernel_rfl) (by kernel_rfl) (fun _ _ _ h => h) (Or.inl ⟨by rfl, ?hy11⟩) (by assumption) ?rest11
    case hy11 => (intro w hSw; (try dsimp only at hSw); go_simp <;> with_reducible rfl)
    (try simp only [Act.put, List.setIfInBounds_toArray, List.set_cons_zero, List.set_cons_succ])
    refine wpAnyH_take (i := 12) (v := ?v12) (by (simp only [List.getElem?_toArray, List.getElem?_cons_succ, List.getElem?_cons_zero]; rfl)) (by kernel_rfl) (by kernel_rfl) (by kernel_rfl) (fun _ _ _ h => h) (Or.inl ⟨by rfl, ?hy12⟩) (by assumption) ?rest12
    case hy12 => (intro w hSw; (try dsimp only at hSw); go_simp <;> with_reducible rfl)
    (try simp only [Act.put, List.setIfInBounds_toArray, List.set_cons_zero, List.set_cons_succ])
    refine wpAnyH_take (i := 13) (v := ?v13) (by (simp only [List.getElem?_toArray, List.getElem?_cons_succ, List.getElem?_cons_zero]; rfl)) (by kernel_rfl) (by kernel_rfl) (by kernel_rfl) (fun _ _ _ h => h) (Or.inl ⟨by rfl, ?hy13⟩) (by assumption) ?rest13
    case hy13 => (intro w hSw; (try dsimp only at hSw); go_simp <;> with_reducible rfl)
    (try simp only [Act.put, List.setIfInBounds_toArray, List.set_cons_zero, List.set_cons_succ])
    refine wpAnyH_take (i := 14) (v := ?v14) (by (simp only [List.getElem?_toArray, List.getElem?_cons_succ, List.getElem?_cons_zero]; rfl)) (by kernel_rfl) (by kernel_rfl) (by kernel_rfl) (fun _ _ _ h => h) (Or.inl ⟨by rfl, ?hy14⟩) (by assumption) ?rest14
    case hy14 => (intro w hSw; (try dsimp only at hSw); go_simp <;> with_reducible rfl)
    (try simp only [Act.put, List.setIfInBounds_toArray, List.set_cons_zero, List.set_cons_succ])
    refine wpAnyH_take (i := 15) (v := ?v15) (by (simp only [List.getElem?_toArray, List.getElem?_cons_succ, List.getElem?_cons_zero]; rfl)) (by kernel_rfl) (by kernel_rfl) (by kernel_rfl) (fun _ _ _ h => h) (Or.inl ⟨by rfl, ?hy15⟩) (by assumption) ?rest15
    case hy15 => (intro w hSw; (try dsimp only at hSw); go_simp <;> with_reducible rfl)
    (try simp only [Act.put, List.setIfInBounds_toArray, List.set_cons_zero, List.set_cons_succ])
    refine wpAnyH_take (i := 16) (v := ?v16) (by (simp only [List.getElem?_toArray, List.getElem?_cons_succ, List.getElem?_cons_zero]; rfl)) (by kernel_rfl) (by kernel_rfl) (by kernel_rfl) (fun _ _ _ h => h) (Or.inl ⟨by rfl, ?hy16⟩) (by assumption) ?rest16
    case hy16 => (intro w hSw; (try dsimp only at hSw); have hk := k2 w hSw; go_simp <;> with_reducible rfl)
    (try simp only [Act.put, List.setIfInBounds_toArray, List.set_cons_zero, List.set_cons_succ])
    refine wpAnyH_ready (rs := [9]) (by kernel_rfl) (by simp) ?_
    refine AllReadyH.cons (by (simp only [List.getElem?_toArray, List.getElem?_cons_succ, List.getElem?_cons_zero]; rfl)) (fun K hK => ?_) AllReadyH.nil
    go_simp
    refine (ssum_any _ ys _ hl1 (unhide HYB) (((unhide HT).later ((unhide BA).trans (hHeld.mono (unhide BA).size))).seg)).mono ?_
    rintro e w1 ⟨u1, rfl, o1, b1⟩
    have cv1 := convO hs1 o1
    have B1 := hide (hHeld.trans (b1.mono hHeld.size))
    clear o1
    (try go_wp2_with fail)
    refine hK.out _ _ ?_ (fun hHeldN => ?_)
    · (try dsimp only); exact unhide B1
    clear hK K hHeld
    have hHeld := hHeldN; clear hHeldN
    (try simp only [Act.put, List.setIfInBounds_toArray, List.set_cons_zero, List.set_cons_succ])
    refine wpAnyH_ready (rs := [10]) (by kernel_rfl) (by simp) ?_
    refine AllReadyH.cons (by (simp only [List.getElem?_toArray, List.getElem?_cons_succ, List.getElem?_cons_zero]; rfl)) (fun K hK => ?_) AllReadyH.nil
    go_simp
    refine hK.out _ _ ?_ (fun hHeldN => ?_)
    · (try dsimp only); exact hHeld
    clear hK K hHeld
    have hHeld := hHeldN; clear hHeldN
    (try simp only [Act.put, List.setIfInBounds_toArray, List.set_cons_zero, List.set_cons_succ])
    refine wpAnyH_take (i := 17) (v := ?v17) (by (simp only [List.getElem?_toArray, List.getElem?_cons_succ, List.getElem?_cons_zero]; rfl)) (by kernel_rfl) (by kernel_rfl) (by kernel_rfl) (fun _ _ _ h => h) (Or.inl ⟨by rfl, ?hy17⟩) (by assumption) ?rest17
    case hy17 => (intro w hSw; (try dsimp only at hSw); go_simp <;> with_reducible rfl)
    (try simp only [Act.put, List.setIfInBounds_toArray, List.set_cons_zero, List.set_cons_succ])
    refine wpAnyH_take (i := 18) (v := ?v18) (by (simp only [List.getElem?_toArray, List.getElem?_cons_succ, List.getElem?_cons_zero]; rfl)) (by kernel_rfl) (by kernel_rfl) (by kernel_rfl) (fun _ _ _ h => h) (Or.inl ⟨by rfl, ?hy18⟩) (by assumption) ?rest18
    case hy18 => (intro w hSw; (try dsimp only at hSw); go_simp <;> with_reducible rfl)
    (try simp only [Act.put, List.setIfInBounds_toArray, List.set_cons_zero, List.set_cons_succ])
    refine wpAnyH_done (by kernel_rfl) ?_ _
    refine NoPanic.normal ?_
    clear hHeld
    have KR := hide (((unhide B1).block w.heap.size hwr).trans (unhide KA))
    have BL := hide ((unhide BA).trans ((unhide B1).mono (unhide BA).size))
    have hw1 : w.heap.size < w1.heap.size := Nat.lt_of_lt_of_le hwr (unhide B1).size
    clear KA BA B1 k2 cv1 b1 HB2 HB3 HDr
    cases rr
    · skip
      have hno := hide (mof_none_of (b := xs) (by
        unfold bdy
        rw [show xs.length - 4 = n by omega, if_neg]
        rintro ⟨-, q, -⟩
        have h := unhide hrr
        simp only [decide_eq_false_iff_not] at h
        exact h (by rw [q, unhide HYS])))
      obtain ⟨r0, r1, r2, r3, r4, r5, r6, r7, r8, r9, ra, rb, rf⟩ := msg_cells (unhide KR)
      have BW := hide (unhide BL)
      have BW := hide ((unhide BW).setCell (p := ⟨w.heap.size, 0, none⟩) (Nat.le_refl _) (.int .i64 0))
      have BW := hide ((unhide BW).setCell (p := ⟨w.heap.size, 1, none⟩) (Nat.le_refl _) (.int .i64 0))
      have BW := hide ((unhide BW).setCell (p := ⟨w.heap.size, 2, none⟩) (Nat.le_refl _) (.int .i64 0))
      have BW := hide ((unhide BW).setCell (p := ⟨w.heap.size, 3, none⟩) (Nat.le_refl _) (.int .i64 0))
      have BW := hide ((unhide BW).setCell (p := ⟨w.heap.size, 4, none⟩) (Nat.le_refl _) (.int .i64 0))
      have BW := hide ((unhide BW).setCell (p := ⟨w.heap.size, 5, none⟩) (Nat.le_refl _) (.slice none 0 0))
      have BW := hide ((unhide BW).setCell (p := ⟨w.heap.size, 6, none⟩) (Nat.le_refl _) (.int .i64 0))
      have BW := hide ((unhide BW).setCell (p := ⟨w.heap.size, 7, none⟩) (Nat.le_refl _) (.slice none 0 0))
      have BW := hide ((unhide BW).setCell (p := ⟨w.heap.size, 8, none⟩) (Nat.le_refl _) (.slice none 0 0))
      have BW := hide ((unhide BW).setCell (p := ⟨w.heap.size, 9, none⟩) (Nat.le_refl _) (.slice none 0 0))
      have BW := hide ((unhide BW).setCell (p := ⟨w.heap.size, 10, none⟩) (Nat.le_refl _) (.slice none 0 0))
      have BW := hide ((unhide BW).setCell (p := ⟨w.heap.size, 11, none⟩) (Nat.le_refl _) (.slice none 0 0))
      go_wp2_with fail
      exact bodyPost_ret (v := .tuple #[.agg #[.int .i64 0, .int .i64 0, .int .i64 0, .int .i64 0, .int .i64 0, .slice none 0 0, .int .i64 0, .slice none 0 0, .slice none 0 0, .slice none 0 0, .slice none 0 0, .slice none 0 0], .bool false]) (by simp [results, Tryz.results13, go_sem, r0, r1, r2, r3, r4, r5, r6, r7, r8, r9, ra, rb]) rfl (GotM.mk zM zP (by rw [mofM, unhide hno]; rfl) (by rw [unhide hno]; rfl) ⟨Nat.zero_le _, Nat.zero_le _, Nat.zero_le _, Nat.zero_le _, Nat.zero_le _, Nat.zero_le _⟩ (owMg_nil _ _) (unhide BW))
    · skip
      obtain ⟨y0, hY⟩ : ∃ W, W = (w1.alloc (.cells #[.slice (some ⟨g0, off, none⟩) n cap, .int .i64 2, .bool false] 74)).alloc (.cells #[.int .i64 0, .int .i64 0, .int .i64 0, .int .i64 0, .int .i64 0, .slice none 0 0, .int .i64 0, .slice none 0 0, .slice none 0 0, .slice none 0 0, .slice none 0 0, .slice none 0 0] 33) := ⟨_, rfl⟩
      obtain ⟨g, hg⟩ : ∃ g, g = w1.heap.size := ⟨_, rfl⟩
      obtain ⟨b, hb⟩ : ∃ b, b = w1.heap.size + 1 := ⟨_, rfl⟩
      have bY : Below w1.heap.size w1 y0 := by rw [hY]; exact ((Below.refl _ _).alloc (Nat.le_refl _) _).alloc (by simp) _
      have S := hide (show MO w y0 w.heap.size g b (.slice (some ⟨g0, off, none⟩) n cap) ys (2, false) #[.int .i64 0, .int .i64 0, .int .i64 0, .int .i64 0, .int .i64 0, .slice none 0 0, .int .i64 0, .slice none 0 0, .slice none 0 0, .slice none 0 0, .slice none 0 0, .slice none 0 0] from ⟨(unhide HT).seg, (unhide BL).trans (bY.mono (unhide BL).size), Nat.le_refl _, by omega, by omega, (bY.block _ hw1).trans (unhide KR),
        ⟨by rw [hY, hg]; exact lowB2 w1 _ _, (unhide HT).seg.below ((unhide BL).trans (bY.mono (unhide BL).size)) (Nat.le_refl _), .inr (fun a n cc e => by simp only [Value.slice.injEq, Option.some.injEq] at e; rw [← e.1]; show g0 ≠ g; omega), by simp, by simp; omega⟩,
        by rw [hY, hb]; exact newB2 w1 _ _⟩)
      have hgb : g < b := by omega
      have hrg : w.heap.size < g := by omega
      go_wp2_with fail
      rw [← hY, ← hb, ← hg]
      clear hY hg hb bY KR BL hw1
      obtain ⟨xk, d0, q0⟩ : ∃ x d, rdN ys (2, false) = (x, d) := ⟨_, _, rfl⟩
      obtain ⟨xf, d1, q1⟩ : ∃ x d, rdN ys d0 = (x, d) := ⟨_, _, rfl⟩
      obtain ⟨xt, d2, q2⟩ : ∃ x d, rdN ys d1 = (x, d) := ⟨_, _, rfl⟩
      obtain ⟨xn, d3, q3⟩ : ∃ x d, rdN ys d2 = (x, d) := ⟨_, _, rfl⟩
      obtain ⟨xh, d4, q4⟩ : ∃ x d, rdN ys d3 = (x, d) := ⟨_, _, rfl⟩
      obtain ⟨xtl, d5, q5⟩ : ∃ x d, rdL ys 1 d4 = (x, d) := ⟨_, _, rfl⟩
      obtain ⟨xtr, d6, q6⟩ : ∃ x d, rdN ys d5 = (x, d) := ⟨_, _, rfl⟩
      obtain ⟨xve, d7, q7⟩ : ∃ x d, rdL ys 1 d6 = (x, d) := ⟨_, _, rfl⟩
      obtain ⟨xle, d8, q8⟩ : ∃ x d, rdL ys 1 d7 = (x, d) := ⟨_, _, rfl⟩
      obtain ⟨xlong, d9, q9⟩ : ∃ x d, rdN ys d8 = (x, d) := ⟨_, _, rfl⟩
      have NO : Hid (∀ m', OkM m' → msB m' = xs → (xk = m'.k ∧ xf = m'.f ∧ xt = m'.t ∧ xn = m'.n ∧ xh = m'.h ∧ xtl = m'.tl ∧ xtr = m'.tr ∧ xve = m'.ve ∧ xle = m'.le) ∧ xlong = ((sb m'.its m'.fls).length : Int) ∧ ∃ q : Nat, d9 = ((q : Int), false) ∧ q + (sb m'.its m'.fls).length ≤ ys.length ∧ (ys.drop q).take (sb m'.its m'.fls).length = sb m'.its m'.fls ∧ rdL ys 2 (((q + (sb m'.its m'.fls).length : Nat) : Int), false) = (flF m'.ma, ((ys.length : Int), false))) := hide (fun m' ho e => msg_reads ho (by
        rw [msB, if_pos ((okM_iff m').2 ho)] at e
        have hl := congrArg List.length e
        rw [List.length_append, sumB_len] at hl
        rw [← unhide HYS, ← e, show n = (bodyM m').length by omega, List.take_left]) q0 q1 q2 q3 q4 q5 q6 q7 q8 q9)
      have Q0 := hide q0
      have Q1 := hide q1
      have Q2 := hide q2
      have Q3 := hide q3
      have Q4 := hide q4
      have Q5 := hide q5
      have Q6 := hide q6
      have Q7 := hide q7
      have Q8 := hide q8
      have Q9 := hide q9
      have hlong := rdN_bd (c := d8) (unhide HYB)
      rw [q9] at hlong
      simp only at hlong
      clear q0 q1 q2 q3 q4 q5 q6 q7 q8 q9
      have hb0 := (unhide S).bl
      refine (snum_any g _ ys (2, false) _ (by omega) (unhide HYB) (unhide S).rd).mono ?_
      rintro e z0 ⟨rfl, r1, g1⟩
      rw [unhide Q0] at r1
      rw [unhide Q0]
      simp only at r1
      have zs0 := g1.size
      have S := hide ((unhide S).num r1 g1)
      clear r1 g1
      obtain ⟨e0, e1, e2, e3, e4, e5, e6, e7, e8, e9, ea, eb, ef⟩ := msg_cells (unhide S).kb
      have hbz := (unhide S).bl
      obtain ⟨y1, hY⟩ : ∃ W, W = z0.setCell ⟨b, 0, none⟩ (.int .i64 xk) := ⟨_, rfl⟩
      have ys1 : y1.heap.size = z0.heap.size := by rw [hY]; simp
      have S := hide (show MO w y1 w.heap.size g b (.slice (some ⟨g0, off, none⟩) n cap) ys d0 #[.int .i64 xk, .int .i64 0, .int .i64 0, .int .i64 0, .int .i64 0, .slice none 0 0, .int .i64 0, .slice none 0 0, .slice none 0 0, .slice none 0 0, .slice none 0 0, .slice none 0 0] from by rw [hY]; exact (unhide S).put 0 _)
      go_wp2_with fail
      rw [← hY]
      clear hY hbz e0 e1 e2 e3 e4 e5 e6 e7 e8 e9 ea eb ef
      have hb1 := (unhide S).bl
      refine (snum_any g _ ys d0 _ (by omega) (unhide HYB) (unhide S).rd).mono ?_
      rintro e z1 ⟨rfl, r1, g1⟩
      rw [unhide Q1] at r1
      rw [unhide Q1]
      simp only at r1
      have zs1 := g1.size
      have S := hide ((unhide S).num r1 g1)
      clear r1 g1
      obtain ⟨e0, e1, e2, e3, e4, e5, e6, e7, e8, e9, ea, eb, ef⟩ := msg_cells (unhide S).kb
      have hbz := (unhide S).bl
      obtain ⟨y2, hY⟩ : ∃ W, W = z1.setCell ⟨b, 1, none⟩ (.int .i64 xf) := ⟨_, rfl⟩
      have ys2 : y2.heap.size = z1.heap.size := by rw [hY]; simp
      have S := hide (show MO w y2 w.heap.size g b (.slice (some ⟨g0, off, none⟩) n cap) ys d1 #[.int .i64 xk, .int .i64 xf, .int .i64 0, .int .i64 0, .int .i64 0, .slice none 0 0, .int .i64 0, .slice none 0 0, .slice none 0 0, .slice none 0 0, .slice none 0 0, .slice none 0 0] from by rw [hY]; exact (unhide S).put 1 _)
      go_wp2_with fail
      rw [← hY]
      clear hY hbz e0 e1 e2 e3 e4 e5 e6 e7 e8 e9 ea eb ef
      have hb2 := (unhide S).bl
      refine (snum_any g _ ys d1 _ (by omega) (unhide HYB) (unhide S).rd).mono ?_
      rintro e z2 ⟨rfl, r1, g1⟩
      rw [unhide Q2] at r1
      rw [unhide Q2]
      simp only at r1
      have zs2 := g1.size
      have S := hide ((unhide S).num r1 g1)
      clear r1 g1
      obtain ⟨e0, e1, e2, e3, e4, e5, e6, e7, e8, e9, ea, eb, ef⟩ := msg_cells (unhide S).kb
      have hbz := (unhide S).bl
      obtain ⟨y3, hY⟩ : ∃ W, W = z2.setCell ⟨b, 2, none⟩ (.int .i64 xt) := ⟨_, rfl⟩
      have ys3 : y3.heap.size = z2.heap.size := by rw [hY]; simp
      have S := hide (show MO w y3 w.heap.size g b (.slice (some ⟨g0, off, none⟩) n cap) ys d2 #[.int .i64 xk, .int .i64 xf, .int .i64 xt, .int .i64 0, .int .i64 0, .slice none 0 0, .int .i64 0, .slice none 0 0, .slice none 0 0, .slice none 0 0, .slice none 0 0, .slice none 0 0] from by rw [hY]; exact (unhide S).put 2 _)
      go_wp2_with fail
      rw [← hY]
      clear hY hbz e0 e1 e2 e3 e4 e5 e6 e7 e8 e9 ea eb ef
      have hb3 := (unhide S).bl
      refine (snum_any g _ ys d2 _ (by omega) (unhide HYB) (unhide S).rd).mono ?_
      rintro e z3 ⟨rfl, r1, g1⟩
      rw [unhide Q3] at r1
      rw [unhide Q3]
      simp only at r1
      have zs3 := g1.size
      have S := hide ((unhide S).num r1 g1)
      clear r1 g1
      obtain ⟨e0, e1, e2, e3, e4, e5, e6, e7, e8, e9, ea, eb, ef⟩ := msg_cells (unhide S).kb
      have hbz := (unhide S).bl
      obtain ⟨y4, hY⟩ : ∃ W, W = z3.setCell ⟨b, 3, none⟩ (.int .i64 xn) := ⟨_, rfl⟩
      have ys4 : y4.heap.size = z3.heap.size := by rw [hY]; simp
      have S := hide (show MO w y4 w.heap.size g b (.slice (some ⟨g0, off, none⟩) n cap) ys d3 #[.int .i64 xk, .int .i64 xf, .int .i64 xt, .int .i64 xn, .int .i64 0, .slice none 0 0, .int .i64 0, .slice none 0 0, .slice none 0 0, .slice none 0 0, .slice none 0 0, .slice none 0 0] from by rw [hY]; exact (unhide S).put 3 _)
      go_wp2_with fail
      rw [← hY]
      clear hY hbz e0 e1 e2 e3 e4 e5 e6 e7 e8 e9 ea eb ef
      have hb4 := (unhide S).bl
      refine (snum_any g _ ys d3 _ (by omega) (unhide HYB) (unhide S).rd).mono ?_
      rintro e z4 ⟨rfl, r1, g1⟩
      rw [unhide Q4] at r1
      rw [unhide Q4]
      simp only at r1
      have zs4 := g1.size
      have S := hide ((unhide S).num r1 g1)
      clear r1 g1
      obtain ⟨e0, e1, e2, e3, e4, e5, e6, e7, e8, e9, ea, eb, ef⟩ := msg_cells (unhide S).kb
      have hbz := (unhide S).bl
      obtain ⟨y5, hY⟩ : ∃ W, W = z4.setCell ⟨b, 4, none⟩ (.int .i64 xh) := ⟨_, rfl⟩
      have ys5 : y5.heap.size = z4.heap.size := by rw [hY]; simp
      have S := hide (show MO w y5 w.heap.size g b (.slice (some ⟨g0, off, none⟩) n cap) ys d4 #[.int .i64 xk, .int .i64 xf, .int .i64 xt, .int .i64 xn, .int .i64 xh, .slice none 0 0, .int .i64 0, .slice none 0 0, .slice none 0 0, .slice none 0 0, .slice none 0 0, .slice none 0 0] from by rw [hY]; exact (unhide S).put 4 _)
      go_wp2_with fail
      rw [← hY]
      clear hY hbz e0 e1 e2 e3 e4 e5 e6 e7 e8 e9 ea eb ef
      have hb5 := (unhide S).bl
      refine (smany1_any g _ ys d4 _ (by omega) (unhide HYB) (unhide S).rd).mono ?_
      rintro e z5 ⟨at_, nt, ct_, rfl, hnt, o1, r1, g1⟩
      rw [unhide Q5] at o1 r1
      simp only at o1 r1
      have zs5 := g1.size
      have S := hide ((unhide S).num r1 g1)
      have Ot := hide (Ow.base (base' := b + 1) o1 (by omega))
      have Lt := hide (World.ownsRow.lt o1)
      clear o1
      clear r1 g1
      obtain ⟨e0, e1, e2, e3, e4, e5, e6, e7, e8, e9, ea, eb, ef⟩ := msg_cells (unhide S).kb
      have hbz := (unhide S).bl
      obtain ⟨y6, hY⟩ : ∃ W, W = z5.setCell ⟨b, 5, none⟩ (.slice at_ nt ct_) := ⟨_, rfl⟩
      have ys6 : y6.heap.size = z5.heap.size := by rw [hY]; simp
      have S := hide (show MO w y6 w.heap.size g b (.slice (some ⟨g0, off, none⟩) n cap) ys d5 #[.int .i64 xk, .int .i64 xf, .int .i64 xt, .int .i64 xn, .int .i64 xh, .slice at_ nt ct_, .int .i64 0, .slice none 0 0, .slice none 0 0, .slice none 0 0, .slice none 0 0, .slice none 0 0] from by rw [hY]; exact (unhide S).put 5 _)
      have Ot := hide (by rw [hY]; exact Ow.set (unhide Ot) ⟨b, 5, none⟩ (by show b < b + 1; omega) (.slice at_ nt ct_) : OwN (b + 1) y6 (.slice at_ nt ct_) xtl)
      go_wp2_with fail
      rw [← hY]
      clear hY hbz e0 e1 e2 e3 e4 e5 e6 e7 e8 e9 ea eb ef
      have hb6 := (unhide S).bl
      refine (snum_any g _ ys d5 _ (by omega) (unhide HYB) (unhide S).rd).mono ?_
      rintro e z6 ⟨rfl, r1, g1⟩
      rw [unhide Q6] at r1
      rw [unhide Q6]
      simp only at r1
      have zs6 := g1.size
      have S := hide ((unhide S).num r1 g1)
      have Ot := hide (ow_far (unhide Ot) g1 (by omega))
      clear r1 g1
      obtain ⟨e0, e1, e2, e3, e4, e5, e6, e7, e8, e9, ea, eb, ef⟩ := msg_cells (unhide S).kb
      have hbz := (unhide S).bl
      obtain ⟨y7, hY⟩ : ∃ W, W = z6.setCell ⟨b, 6, none⟩ (.int .i64 xtr) := ⟨_, rfl⟩
      have ys7 : y7.heap.size = z6.heap.size := by rw [hY]; simp
      have S := hide (show MO w y7 w.heap.size g b (.slice (some ⟨g0, off, none⟩) n cap) ys d6 #[.int .i64 xk, .int .i64 xf, .int .i64 xt, .int .i64 xn, .int .i64 xh, .slice at_ nt ct_, .int .i64 xtr, .slice none 0 0, .slice none 0 0, .slice none 0 0, .slice none 0 0, .slice none 0 0] from by rw [hY]; exact (unhide S).put 6 _)
      have Ot := hide (by rw [hY]; exact Ow.set (unhide Ot) ⟨b, 6, none⟩ (by show b < b + 1; omega) (.int .i64 xtr) : OwN (b + 1) y7 (.slice at_ nt ct_) xtl)
      go_wp2_with fail
      rw [← hY]
      clear hY hbz e0 e1 e2 e3 e4 e5 e6 e7 e8 e9 ea eb ef
      have hb7 := (unhide S).bl
      refine (smany1_any g _ ys d6 _ (by omega) (unhide HYB) (unhide S).rd).mono ?_
      rintro e z7 ⟨av, nv, cv_, rfl, hnv, o1, r1, g1⟩
      rw [unhide Q7] at o1 r1
      simp only at o1 r1
      have zs7 := g1.size
      have S := hide ((unhide S).num r1 g1)
      have Ot := hide (ow_far (unhide Ot) g1 (by omega))
      have Ov := hide (Ow.base (base' := b + 1) o1 (by omega))
      have Lv := hide (World.ownsRow.lt o1)
      clear o1
      clear r1 g1
      obtain ⟨e0, e1, e2, e3, e4, e5, e6, e7, e8, e9, ea, eb, ef⟩ := msg_cells (unhide S).kb
      have hbz := (unhide S).bl
      obtain ⟨y8, hY⟩ : ∃ W, W = z7.setCell ⟨b, 7, none⟩ (.slice av nv cv_) := ⟨_, rfl⟩
      have ys8 : y8.heap.size = z7.heap.size := by rw [hY]; simp
      have S := hide (show MO w y8 w.heap.size g b (.slice (some ⟨g0, off, none⟩) n cap) ys d7 #[.int .i64 xk, .int .i64 xf, .int .i64 xt, .int .i64 xn, .int .i64 xh, .slice at_ nt ct_, .int .i64 xtr, .slice av nv cv_, .slice none 0 0, .slice none 0 0, .slice none 0 0, .slice none 0 0] from by rw [hY]; exact (unhide S).put 7 _)
      have Ot := hide (by rw [hY]; exact Ow.set (unhide Ot) ⟨b, 7, none⟩ (by show b < b + 1; omega) (.slice av nv cv_) : OwN (b + 1) y8 (.slice at_ nt ct_) xtl)
      have Ov := hide (by rw [hY]; exact Ow.set (unhide Ov) ⟨b, 7, none⟩ (by show b < b + 1; omega) (.slice av nv cv_) : OwN (b + 1) y8 (.slice av nv cv_) xve)
      go_wp2_with fail
      rw [← hY]
      clear hY hbz e0 e1 e2 e3 e4 e5 e6 e7 e8 e9 ea eb ef
      have hb8 := (unhide S).bl
      refine (smany1_any g _ ys d7 _ (by omega) (unhide HYB) (unhide S).rd).mono ?_
      rintro e z8 ⟨al, nl, cl_, rfl, hnl, o1, r1, g1⟩
      rw [unhide Q8] at o1 r1
      simp only at o1 r1
      have zs8 := g1.size
      have S := hide ((unhide S).num r1 g1)
      have Ot := hide (ow_far (unhide Ot) g1 (by omega))
      have Ov := hide (ow_far (unhide Ov) g1 (by omega))
      have Ol := hide (Ow.base (base' := b + 1) o1 (by omega))
      have Ll := hide (World.ownsRow.lt o1)
      clear o1
      clear r1 g1
      obtain ⟨e0, e1, e2, e3, e4, e5, e6, e7, e8, e9, ea, eb, ef⟩ := msg_cells (unhide S).kb
      have hbz := (unhide S).bl
      obtain ⟨y9, hY⟩ : ∃ W, W = z8.setCell ⟨b, 8, none⟩ (.slice al nl cl_) := ⟨_, rfl⟩
      have ys9 : y9.heap.size = z8.heap.size := by rw [hY]; simp
      have S := hide (show MO w y9 w.heap.size g b (.slice (some ⟨g0, off, none⟩) n cap) ys d8 #[.int .i64 xk, .int .i64 xf, .int .i64 xt, .int .i64 xn, .int .i64 xh, .slice at_ nt ct_, .int .i64 xtr, .slice av nv cv_, .slice al nl cl_, .slice none 0 0, .slice none 0 0, .slice none 0 0] from by rw [hY]; exact (unhide S).put 8 _)
      have Ot := hide (by rw [hY]; exact Ow.set (unhide Ot) ⟨b, 8, none⟩ (by show b < b + 1; omega) (.slice al nl cl_) : OwN (b + 1) y9 (.slice at_ nt ct_) xtl)
      have Ov := hide (by rw [hY]; exact Ow.set (unhide Ov) ⟨b, 8, none⟩ (by show b < b + 1; omega) (.slice al nl cl_) : OwN (b + 1) y9 (.slice av nv cv_) xve)
      have Ol := hide (by rw [hY]; exact Ow.set (unhide Ol) ⟨b, 8, none⟩ (by show b < b + 1; omega) (.slice al nl cl_) : OwN (b + 1) y9 (.slice al nl cl_) xle)
      go_wp2_with fail
      rw [← hY]
      clear hY hbz e0 e1 e2 e3 e4 e5 e6 e7 e8 e9 ea eb ef
      have hb9 := (unhide S).bl
      refine (snum_any g _ ys d8 _ (by omega) (unhide HYB) (unhide S).rd).mono ?_
      rintro e z9 ⟨rfl, r1, g1⟩
      rw [unhide Q9] at r1
      rw [unhide Q9]
      simp only at r1
      have zs9 := g1.size
      have S := hide ((unhide S).num r1 g1)
      have Ot := hide (ow_far (unhide Ot) g1 (by omega))
      have Ov := hide (ow_far (unhide Ov) g1 (by omega))
      have Ol := hide (ow_far (unhide Ol) g1 (by omega))
      clear r1 g1
      obtain ⟨p9, b9⟩ := d9
      have hp0 := (unhide S).rd.lo
      have hp1 := (unhide S).rd.hi
      simp only at hp0 hp1
      rw [hyl] at hp1
      obtain ⟨gc0, gc1, gc2, -⟩ := (unhide S).rd.cells
      simp only at gc1 gc2
      have hgl := (unhide S).rd.lt
      have lg0 := later_some (w := z9) hgl gc0
      have lg1 := later_some (w := z9) hgl gc1
      have lg2 := later_some (w := z9) hgl gc2
      simp only
      clear gc0 gc1 gc2
      cases b9
      rotate_left
      · skip
        have hno := hide (mof_none (b := xs) fun m' ho e => by
          obtain ⟨-, hl9, q9, hd9, hq9, -, -⟩ := unhide NO m' ho e
          simp only [Prod.mk.injEq] at hd9
          cases hd9.2)
        go_wp2_with fail
        refine wp_region_later (by kernel_rfl) (by kernel_rfl) ?_
        repeat (go_big_quiet_step (fail))
        refine wpQuiet_nil ?_
        intro w9 h9
        have S9 := hide ((unhide S).later h9)
        clear h9 lg0 lg1 lg2
        obtain ⟨r0, r1, r2, r3, r4, r5, r6, r7, r8, r9, ra, rb, rf⟩ := msg_cells (unhide S9).kr
        have hz := (Array.getElem?_eq_some_iff.1 (unhide S9).kr).1
        have BW := hide ((unhide S9).bel)
        have BW := hide ((unhide BW).setCell (p := ⟨w.heap.size, 0, none⟩) (Nat.le_refl _) (.int .i64 0))
        have BW := hide ((unhide BW).setCell (p := ⟨w.heap.size, 1, none⟩) (Nat.le_refl _) (.int .i64 0))
        have BW := hide ((unhide BW).setCell (p := ⟨w.heap.size, 2, none⟩) (Nat.le_refl _) (.int .i64 0))
        have BW := hide ((unhide BW).setCell (p := ⟨w.heap.size, 3, none⟩) (Nat.le_refl _) (.int .i64 0))
        have BW := hide ((unhide BW).setCell (p := ⟨w.heap.size, 4, none⟩) (Nat.le_refl _) (.int .i64 0))
        have BW := hide ((unhide BW).setCell (p := ⟨w.heap.size, 5, none⟩) (Nat.le_refl _) (.slice none 0 0))
        have BW := hide ((unhide BW).setCell (p := ⟨w.heap.size, 6, none⟩) (Nat.le_refl _) (.int .i64 0))
        have BW := hide ((unhide BW).setCell (p := ⟨w.heap.size, 7, none⟩) (Nat.le_refl _) (.slice none 0 0))
        have BW := hide ((unhide BW).setCell (p := ⟨w.heap.size, 8, none⟩) (Nat.le_refl _) (.slice none 0 0))
        have BW := hide ((unhide BW).setCell (p := ⟨w.heap.size, 9, none⟩) (Nat.le_refl _) (.slice none 0 0))
        have BW := hide ((unhide BW).setCell (p := ⟨w.heap.size, 10, none⟩) (Nat.le_refl _) (.slice none 0 0))
        have BW := hide ((unhide BW).setCell (p := ⟨w.heap.size, 11, none⟩) (Nat.le_refl _) (.slice none 0 0))
        go_wp2_with fail
        exact bodyPost_ret (v := .tuple #[.agg #[.int .i64 0, .int .i64 0, .int .i64 0, .int .i64 0, .int .i64 0, .slice none 0 0, .int .i64 0, .slice none 0 0, .slice none 0 0, .slice none 0 0, .slice none 0 0, .slice none 0 0], .bool false]) (by simp [results, Tryz.results13, go_sem, r0, r1, r2, r3, r4, r5, r6, r7, r8, r9, ra, rb]) rfl (GotM.mk zM zP (by rw [mofM, unhide hno]; rfl) (by rw [unhide hno]; rfl) ⟨Nat.zero_le _, Nat.zero_le _, Nat.zero_le _, Nat.zero_le _, Nat.zero_le _, Nat.zero_le _⟩ (owMg_nil _ _) (unhide BW))
      · skip
        have hwq : IntKind.i64.wrap ((n : Int) - p9) = (n : Int) - p9 := by rw [IntKind.wrap_i64] <;> omega
        by_cases hlo : (n : Int) - p9 < xlong
        · skip
          have hd9 : decide ((n : Int) - p9 < xlong) = true := by simp; omega
          have hno := hide (mof_none (b := xs) fun m' ho e => by
            obtain ⟨-, hl9, q9, hd9, hq9, -, -⟩ := unhide NO m' ho e
            simp only [Prod.mk.injEq] at hd9
            have := hd9.1; omega)
          go_wp2_with fail
          refine wp_region_later (by kernel_rfl) (by kernel_rfl) ?_
          repeat (go_big_quiet_step (fail))
          refine wpQuiet_nil ?_
          intro w9 h9
          have S9 := hide ((unhide S).later h9)
          clear h9 lg0 lg1 lg2
          obtain ⟨r0, r1, r2, r3, r4, r5, r6, r7, r8, r9, ra, rb, rf⟩ := msg_cells (unhide S9).kr
          have hz := (Array.getElem?_eq_some_iff.1 (unhide S9).kr).1
          have BW := hide ((unhide S9).bel)
          have BW := hide ((unhide BW).setCell (p := ⟨w.heap.size, 0, none⟩) (Nat.le_refl _) (.int .i64 0))
          have BW := hide ((unhide BW).setCell (p := ⟨w.heap.size, 1, none⟩) (Nat.le_refl _) (.int .i64 0))
          have BW := hide ((unhide BW).setCell (p := ⟨w.heap.size, 2, none⟩) (Nat.le_refl _) (.int .i64 0))
          have BW := hide ((unhide BW).setCell (p := ⟨w.heap.size, 3, none⟩) (Nat.le_refl _) (.int .i64 0))
          have BW := hide ((unhide BW).setCell (p := ⟨w.heap.size, 4, none⟩) (Nat.le_refl _) (.int .i64 0))
          have BW := hide ((unhide BW).setCell (p := ⟨w.heap.size, 5, none⟩) (Nat.le_refl _) (.slice none 0 0))
          have BW := hide ((unhide BW).setCell (p := ⟨w.heap.size, 6, none⟩) (Nat.le_refl _) (.int .i64 0))
          have BW := hide ((unhide BW).setCell (p := ⟨w.heap.size, 7, none⟩) (Nat.le_refl _) (.slice none 0 0))
          have BW := hide ((unhide BW).setCell (p := ⟨w.heap.size, 8, none⟩) (Nat.le_refl _) (.slice none 0 0))
          have BW := hide ((unhide BW).setCell (p := ⟨w.heap.size, 9, none⟩) (Nat.le_refl _) (.slice none 0 0))
          have BW := hide ((unhide BW).setCell (p := ⟨w.heap.size, 10, none⟩) (Nat.le_refl _) (.slice none 0 0))
          have BW := hide ((unhide BW).setCell (p := ⟨w.heap.size, 11, none⟩) (Nat.le_refl _) (.slice none 0 0))
          go_wp2_with fail
          exact bodyPost_ret (v := .tuple #[.agg #[.int .i64 0, .int .i64 0, .int .i64 0, .int .i64 0, .int .i64 0, .slice none 0 0, .int .i64 0, .slice none 0 0, .slice none 0 0, .slice none 0 0, .slice none 0 0, .slice none 0 0], .bool false]) (by simp [results, Tryz.results13, go_sem, r0, r1, r2, r3, r4, r5, r6, r7, r8, r9, ra, rb]) rfl (GotM.mk zM zP (by rw [mofM, unhide hno]; rfl) (by rw [unhide hno]; rfl) ⟨Nat.zero_le _, Nat.zero_le _, Nat.zero_le _, Nat.zero_le _, Nat.zero_le _, Nat.zero_le _⟩ (owMg_nil _ _) (unhide BW))
        · skip
          have hd9 : decide ((n : Int) - p9 < xlong) = false := by simp; omega
          go_wp2_with fail
          refine wp_region_later (by kernel_rfl) (by kernel_rfl) ?_
          repeat (go_big_quiet_step (fail))
          refine wpQuiet_nil ?_
          intro w9 h9
          have S9 := hide ((unhide S).later h9)
          have Ot := hide ((unhide Ot).later h9)
          have Ov := hide ((unhide Ov).later h9)
          have Ol := hide ((unhide Ol).later h9)
          clear h9 lg0 lg1 lg2 hd9
          obtain ⟨lg, rfl⟩ := Int.eq_ofNat_of_zero_le hlong.1
          obtain ⟨pn, rfl⟩ := Int.eq_ofNat_of_zero_le hp0
          have hpl : pn + lg ≤ n := by omega
          obtain ⟨zs, hzs⟩ : ∃ zs, (ys.drop pn).take lg = zs := ⟨_, rfl⟩
          have HZ := hide (((unhide HT).drop (k := pn) (by omega)).take (k := lg) (by omega))
          rw [hzs] at HZ
          have hzb : ∀ z ∈ zs, 0 ≤ z ∧ z ≤ 255 := fun z hz => unhide HYB z (by rw [← hzs] at hz; exact List.mem_of_mem_drop (List.mem_of_mem_take hz))
          have HZB := hide hzb
          have HZS := hide hzs
          have hzl : zs.length ≤ 1048576 := by rw [← hzs]; simp; omega
          obtain ⟨gc0, gc1, gc2, gcf⟩ := (unhide S9).rd.cells
          simp only at gc1 gc2
          have hgl9 := (unhide S9).rd.lt
          have hj1 : (0 : Int) ≤ (pn : Int) := by omega
          have hj2 : (pn : Int) ≤ ((pn + lg : Nat) : Int) := by omega
          have hj3 : ((pn + lg : Nat) : Int) ≤ (cap : Int) := by omega
          have hj4 : (pn : Int) ≤ (pn : Int) + (lg : Int) := by omega
          have hj5 : (pn : Int) + (lg : Int) ≤ (cap : Int) := by omega
          have hj6 : ¬ cap = pn := by omega
          have hj7 : ((pn : Int) + (lg : Int)) - (pn : Int) = (lg : Int) := by omega
          have hj8 : ¬ (cap : Int) = (pn : Int) := by omega
          have hj9 : pn + lg - pn = lg := by omega
          have hjt : ((pn : Int) + (lg : Int)).toNat - pn = lg := by omega
          have hja : IntKind.i64.wrap ((pn : Int) + (lg : Int)) = (pn : Int) + (lg : Int) := by rw [IntKind.wrap_i64] <;> omega
          clear hzb hzs hp0 hlong hd7 hwq
          go_wp2_with fail
          have HG0 := hide gc0
          have HG1 := hide gc1
          have hdz : w9.drew.heap.size = w9.heap.size := rfl
          go_cut [7, 8] from 89 to 107 (fun pp qq wx => ∃ (bp : Nat) (a1 : Option Addr) (n1 c1 : Nat) (a2 : Option Addr) (n2 c2 : Nat), pp = .pointer (some ⟨bp, 0, none⟩) ∧ qq = .bool (sof zs).isSome ∧ Fin w9 wx bp (.slice a1 n1 c1) (.slice a2 n2 c2) (sofI zs) (sofF zs))
          case first =>
            go_region_held3 (fun W => Below w9.heap.size w9 W ∧ W.cell? ⟨g, 0, none⟩ = some (.slice (some ⟨g0, off, none⟩) n cap) ∧ W.cell? ⟨g, 1, none⟩ = some (.int .i64 (pn : Int)))
              (first | (with_reducible exact keepC2 hgl9 (unhide HG0) (unhide HG1) (Below.refl _ _)) | (with_reducible exact keepC2 hgl9 (unhide HG0) (unhide HG1) ((Below.refl _ _).drew)) | (with_reducible exact keepC2 hgl9 (unhide HG0) (unhide HG1) (by assumption)) | (with_reducible exact keepC2 hgl9 (unhide HG0) (unhide HG1) (kal (Below.refl _ _))) | (with_reducible exact keepC2 hgl9 (unhide HG0) (unhide HG1) (kal ((Below.refl _ _).drew))) | (with_reducible exact keepC2 hgl9 (unhide HG0) (unhide HG1) ((kal (Below.refl _ _)).drew)) | (with_reducible exact keepC2 hgl9 (unhide HG0) (unhide HG1) (kal (by assumption))) | (with_reducible exact keepC2 hgl9 (unhide HG0) (unhide HG1) (kset (by assumption) (by assumption))))
              (first
                | (go_at_call 50; refine (sstateof_any _ zs _ hzl (unhide HZB) ?_).mono ?_; exact ((unhide HZ).later ((unhide S9).bel.trans (Below.mono (kb1 (by assumption)) (unhide S9).bel.size))).seg; rintro e u1 ⟨a1, n1, c1, a2, n2, c2, rfl, o1, o2, b1⟩; have bu1 := kb2 (by assumption) b1; (first | (have M : Hid (Bf w9 (w9.drew.alloc StZ) u1 w9.heap.size) := hide (Bf.new (P := w9) (W := w9.drew) b1 (Nat.le_refl _)); obtain ⟨m0, m1, mf⟩ := blk_cells2 (unhide M).bx.blk; have mlt := (unhide M).bx.lt) | skip); have O1 := hide (Ow.base (base' := w9.heap.size) o1 (by first | exact Nat.le_refl _ | (show w9.heap.size ≤ (w9.alloc _).heap.size; simp))); have O2 := hide (Ow.base (base' := w9.heap.size) o2 (by first | exact Nat.le_refl _ | (show w9.heap.size ≤ (w9.alloc _).heap.size; simp))); clear o1 o2 b1))
            all_goals
              go_wp2_with fail
              go_meet
              first
                | with_reducible exact ⟨_, _, _, _, _, _, _, rfl, rfl, finS bu1 M O1 O2⟩
                | with_reducible exact ⟨_, _, _, _, _, _, _, rfl, rfl, finN bu1 O1 O2⟩
          case rest =>
            obtain ⟨bp, a1, n1, c1, a2, n2, c2, rfl, rfl, hfin⟩ := hcut
            have hb9 := (unhide S9).bl
            have S10 := hide ((unhide S9).later hfin.bel)
            have Ot := hide ((unhide Ot).later hfin.bel)
            have Ov := hide ((unhide Ov).later hfin.bel)
            have Ol := hide ((unhide Ol).later hfin.bel)
            have hz1 : n1 ≤ 5 := by rw [(hfin.o1.rw encI_len).len.1]; exact (sof5z zs).1
            have hz2 : n2 ≤ 5 := by rw [(hfin.o2.rw encF_len).len.1]; exact (sof5z zs).2
            have HM := hide (show OwMg (b + 1) wc ⟨xk, xf, xt, xn, xh, xtl, xtr, xve, xle, sofI zs, sofF zs, []⟩ ⟨at_, nt, ct_, av, nv, cv_, al, nl, cl_, a1, n1, c1, a2, n2, c2, none, 0, 0⟩ from ⟨unhide Ot, unhide Ov, unhide Ol, Ow.base hfin.o1 (by omega), Ow.base hfin.o2 (by omega), World.ownsRow_nil _ _ _ _, fun i h1 h2 => by have := unhide Lt i h1; have := unhide Lv i h2; omega, fun i h1 h2 => by have := unhide Lt i h1; have := unhide Ll i h2; omega, fun i h1 h2 => by have := unhide Lv i h1; have := unhide Ll i h2; omega⟩)
            obtain ⟨pc0, pc1, -⟩ := blk_cells2 hfin.blk
            have hplt := hfin.lt
            have hpge := hfin.ge
            obtain ⟨e0, e1, e2, e3, e4, e5, e6, e7, e8, e9, ea, eb, ef⟩ := msg_cells (unhide S10).kb
            obtain ⟨gd0, gd1, gd2, gdf⟩ := (unhide S10).rd.cells
            simp only at gd1 gd2
            have hbw := (unhide S10).bl
            have hgw := (unhide S10).rd.lt
            have hng : g ≠ b := by omega
            have hnb : b ≠ g := by omega
            obtain ⟨y11, hY⟩ : ∃ W, W = ((wc.setCell ⟨b, 9, none⟩ (.slice a1 n1 c1)).setCell ⟨b, 10, none⟩ (.slice a2 n2 c2)).setCell ⟨g, 1, none⟩ (.int .i64 ((pn : Int) + (lg : Int))) := ⟨_, rfl⟩
            have S11 := hide (show MO w y11 w.heap.size g b (.slice (some ⟨g0, off, none⟩) n cap) ys ((pn : Int) + (lg : Int), false) #[.int .i64 xk, .int .i64 xf, .int .i64 xt, .int .i64 xn, .int .i64 xh, .slice at_ nt ct_, .int .i64 xtr, .slice av nv cv_, .slice al nl cl_, .slice a1 n1 c1, .slice a2 n2 c2, .slice none 0 0] from by rw [hY]; exact (((unhide S10).put 9 (.slice a1 n1 c1)).put 10 (.slice a2 n2 c2)).at (by omega) (by omega))
            have HM11 := hide (show OwMg (b + 1) y11 ⟨xk, xf, xt, xn, xh, xtl, xtr, xve, xle, sofI zs, sofF zs, []⟩ ⟨at_, nt, ct_, av, nv, cv_, al, nl, cl_, a1, n1, c1, a2, n2, c2, none, 0, 0⟩ from by rw [hY]; exact (((unhide HM).set ⟨b, 9, none⟩ (by show b < b + 1; omega) _).set ⟨b, 10, none⟩ (by show b < b + 1; omega) _).set ⟨g, 1, none⟩ (by show g < b + 1; omega) _)
            clear HM S10 Ot Ov Ol Lt Lv Ll hfin
            go_wp2_with fail
            rw [← hY]
            clear hY pc0 pc1 hplt hpge e0 e1 e2 e3 e4 e5 e6 e7 e8 e9 ea eb ef gd0 gd1 gd2 gdf hbw hgw
            obtain ⟨xma, d10, q10⟩ : ∃ x d, rdL ys 2 ((pn : Int) + (lg : Int), false) = (x, d) := ⟨_, _, rfl⟩
            have Q10 := hide q10
            clear q10
            have hb11 := (unhide S11).bl
            refine (smany2_any g _ ys ((pn : Int) + (lg : Int), false) _ (by omega) (unhide HYB) (unhide S11).rd).mono ?_
            rintro e u2 ⟨am, nm, cm, rfl, hnm, o1, r1, g1⟩
            rw [unhide Q10] at o1 r1
            simp only at o1 r1
            have S12 := hide ((unhide S11).num r1 g1)
            have HM12 := hide (OwMg.trn (unhide HM11) (Trn.of_grown g1) (fun i hi e => by simp at e; omega))
            have ON := hide (Ow.base (base' := b + 1) o1 (by omega))
            have HNM := hide (o1.rw encN_len).len.1
            clear o1 r1 g1 S11 HM11 hb11
            go_wp2_with fail
            obtain ⟨i1, gi, gz0, gz1, gz2⟩ := info_parts Tryz.infoMark
            go_loopw [10] (fun i wr => ∃ (i0 j : Nat) (ka : Option Addr) (kn kc : Nat), i = .int .i64 (i0 : Int) ∧ i0 = 2 * j ∧ j ≤ (prF2 xma).length ∧ MO w wr w.heap.size g b (.slice (some ⟨g0, off, none⟩) n cap) ys d10 #[.int .i64 xk, .int .i64 xf, .int .i64 xt, .int .i64 xn, .int .i64 xh, .slice at_ nt ct_, .int .i64 xtr, .slice av nv cv_, .slice al nl cl_, .slice a1 n1 c1, .slice a2 n2 c2, .slice ka kn kc] ∧ OwMg (b + 1) wr ⟨xk, xf, xt, xn, xh, xtl, xtr, xve, xle, sofI zs, sofF zs, ((prF2 xma).take j)⟩ ⟨at_, nt, ct_, av, nv, cv_, al, nl, cl_, a1, n1, c1, a2, n2, c2, ka, kn, kc⟩ ∧ OwN (b + 1) wr (.slice am nm cm) xma) (fun i _ => nm + 1 - (intOf i).toNat)
            case atStart => exact ⟨0, 0, none, 0, 0, rfl, rfl, Nat.zero_le _, unhide S12, unhide HM12, unhide ON⟩
            case round =>
              obtain ⟨i0, j, ka, kn, kc, rfl, hij, hj, hso, hom, hon⟩ := hrel
              clear S12 HM12 ON
              have S4 := hide hso
              have M4 := hide hom
              have O4 := hide hon
              have HIJ := hide hij
              have hpl2 := prF2_len xma
              rw [← unhide HNM] at hpl2
              have hkn := (hom.k.rw encF_len).len.1
              simp only [List.length_take] at hkn
              have hnj : kn ≤ 200 := by omega
              have HKN : Hid (kn = ((prF2 xma).take j).length) := hide ((hom.k.rw encF_len).len.1)
              have b4l := hso.bl
              clear hso hom hon
              by_cases hl2 : i0 + 1 < nm
              · skip
                have hd : decide ((i0 : Int) + 1 < (nm : Int)) = true := by simp; omega
                have hlt0 : i0 < nm := by omega
                have hbb0 : (0 : Int) ≤ (i0 : Int) + 1 := by omega
                have hbb1 : (i0 : Int) + 1 < (nm : Int) := by omega
                have hw1 : IntKind.i64.wrap ((i0 : Int) + 1) = ((i0 + 1 : Nat) : Int) := by rw [IntKind.wrap_i64] <;> omega
                obtain ⟨x, xb, xo, hx1, hfa, hxb, hxc, cx⟩ := ((unhide O4).rw encN_len).atN (i := i0) (by omega)
                obtain ⟨y, yb, yo, hy1, hfa2, hyb, hyc, cy⟩ := ((unhide O4).rw encN_len).atN (i := i0 + 1) (by omega)
                subst hfa
                simp only [Option.some.injEq, Addr.mk.injEq] at hfa2
                obtain ⟨rfl, rfl, -⟩ := hfa2
                have HT1 : Hid ((prF2 xma).take (j + 1) = (prF2 xma).take j ++ [(x, y)]) := hide (by
                  rw [hij] at hx1 hy1
                  rw [List.take_add_one, prF2_at hx1 hy1]; rfl)
                have hj1 : j + 1 ≤ (prF2 xma).length := by omega
                have hlo : ∀ i, (Value.slice ka kn kc).ownBlock = some i → b + 1 ≤ i := fun i e => (World.ownsRow.lt (unhide M4).k i e).1
                have SD := hide ((unhide S4).later (Below.refl _ _).drew)
                have MD := hide ((unhide M4).later (Below.refl _ _).drew)
                have b8d : Hid (∀ (X : World), wr.drew.grownBy X (Value.slice ka kn kc).ownBlock → X.cell? ⟨b, 11, none⟩ = some (.slice ka kn kc) ∧ X.frozen? ⟨b, 11, none⟩ = false ∧ OwN (b + 1) X (.slice (some ⟨xb, xo, none⟩) nm cm) xma) := hide (fun X hG => by
                  have e := (unhide SD).grow hG hlo
                  obtain ⟨e0, e1, e2, e3, e4, e5, e6, e7, e8, e9, ea, eb, ef⟩ := msg_cells e.kb
                  exact ⟨eb, ef 11, ((unhide O4).later ((Below.refl _ _).drew)).aptT (unhide MD).k (by decide) hG⟩)
                have hOD := hide (unhide MD).k
                have HLO := hide hlo
                obtain ⟨e0, e1, e2, e3, e4, e5, e6, e7, e8, e9, ea, eb, ef⟩ := msg_cells (unhide S4).kb
                clear hx1 hy1 hij hpl2 hj hlo hkn
                go_wp2_with fail
                go_region_law (first
                  | (refine step_app1 encF_len (by omega) oneF 80 31 i1 _ 16 Tryz.underlying31 gi gz0 gz1 gz2 rfl (by omega) wr.drew (x, y) rfl _ _ rfl (b + 1) _ _ kn HKN rfl (unhide hOD) rfl (by omega) b4l ?_; intro a8 c8 w8 hO hG; have T8 := hide ((unhide SD).grow hG (unhide HLO)); have M8 := hide (OwMg.setK (unhide MD) hO hG); obtain ⟨b80, b8f, o8⟩ := unhide b8d _ hG; have O8 := hide o8; have b8l := (unhide T8).bl; clear hO hG o8))
                all_goals
                  go_wp2
                  go_roundw
                  case rel => exact ⟨i0 + 2, j + 1, a8, kn + 1, c8, by go_num, by have := unhide HIJ; omega, hj1, (unhide T8).put 11 _, by rw [unhide HT1]; exact (unhide M8).set ⟨b, 11, none⟩ (by show b < b + 1; omega) _, Ow.set (unhide O8) ⟨b, 11, none⟩ (by show b < b + 1; omega) _⟩
                  case measure => simp [intOf]; omega
              · skip
                have hd : decide ((i0 : Int) + 1 < (nm : Int)) = false := by simp; omega
                have hbb2 : ¬ ((i0 : Int) + 1 < (nm : Int)) := by omega
                have hbb3 : i0 ≤ 200 := by omega
                have hw1 : IntKind.i64.wrap ((i0 : Int) + 1) = ((i0 + 1 : Nat) : Int) := by rw [IntKind.wrap_i64] <;> omega
                have hjl : j = (prF2 xma).length := by omega
                have M5 := hide (show OwMg (b + 1) wr ⟨xk, xf, xt, xn, xh, xtl, xtr, xve, xle, sofI zs, sofF zs, (prF2 xma)⟩ ⟨at_, nt, ct_, av, nv, cv_, al, nl, cl_, a1, n1, c1, a2, n2, c2, ka, kn, kc⟩ from by have q := unhide M4; rw [hjl, List.take_length] at q; exact q)
                clear M4 O4 hjl hpl2 hij HIJ hj HKN hkn
                go_wp2_with fail
                obtain ⟨p10, b10⟩ := d10
                obtain ⟨okp, hokp⟩ : ∃ ok, Hid ((sof zs).isSome = ok) := ⟨_, hide rfl⟩
                rw [unhide hokp]
                have NO2 : Hid (∀ m', OkM m' → msB m' = xs → okp = true ∧ b10 = false ∧ (⟨xk, xf, xt, xn, xh, xtl, xtr, xve, xle, sofI zs, sofF zs, (prF2 xma)⟩ : Mg) = m') := hide (fun m' ho e => by
                  obtain ⟨⟨h1, h2, h3, h4, h5, h6, h7, h8, h9⟩, hl9, q9, hd9, hq9, hq10, hq11⟩ := unhide NO m' ho e
                  simp only [Prod.mk.injEq, and_true] at hd9
                  have e1 : pn = q9 := by omega
                  have e2 : lg = (sb m'.its m'.fls).length := by omega
                  rw [← e1, ← e2, unhide HZS] at hq10
                  have e3 : sof zs = some (m'.its, m'.fls) := sof_some ho.st hq10.symm
                  rw [← e1, ← e2] at hq11
                  have e4 := unhide Q10
                  rw [show (pn : Int) + (lg : Int) = ((pn + lg : Nat) : Int) by omega, hq11] at e4
                  simp only [Prod.mk.injEq] at e4
                  refine ⟨by rw [← unhide hokp, e3]; rfl, e4.2.2.symm, ?_⟩
                  rw [h1, h2, h3, h4, h5, h6, h7, h8, h9, sofI, sofF, e3, ← e4.1, prF2_fl]
                  rfl)
                obtain ⟨e0, e1, e2, e3, e4, e5, e6, e7, e8, e9, ea, eb, ef⟩ := msg_cells (unhide S4).kb
                obtain ⟨-, -, gf2, -⟩ := (unhide S4).rd.cells
                simp only at gf2
                have hglr := (unhide S4).rd.lt
                have lg2 := later_some (w := wr) hglr gf2
                have lb0 := later_some (w := wr) b4l e0
                have lb1 := later_some (w := wr) b4l e1
                have lb2 := later_some (w := wr) b4l e2
                have lb3 := later_some (w := wr) b4l e3
                have lb4 := later_some (w := wr) b4l e4
                have lb5 := later_some (w := wr) b4l e5
                have lb6 := later_some (w := wr) b4l e6
                have lb7 := later_some (w := wr) b4l e7
                have lb8 := later_some (w := wr) b4l e8
                have lb9 := later_some (w := wr) b4l e9
                have lb10 := later_some (w := wr) b4l ea
                have lb11 := later_some (w := wr) b4l eb
                have hSz : SzM (⟨at_, nt, ct_, av, nv, cv_, al, nl, cl_, a1, n1, c1, a2, n2, c2, ka, kn, kc⟩ : Mp) 140737488351232 := ⟨by show nt ≤ _; omega, by show nv ≤ _; omega, by show nl ≤ _; omega, by show n1 ≤ _; omega, by show n2 ≤ _; omega, by show kn ≤ _; omega⟩
                obtain ⟨okm, hokm⟩ : ∃ ok, Hid (okM (⟨xk, xf, xt, xn, xh, xtl, xtr, xve, xle, sofI zs, sofF zs, (prF2 xma)⟩ : Mg) = ok) := ⟨_, hide rfl⟩
                clear e0 e1 e2 e3 e4 e5 e6 e7 e8 e9 ea eb ef gf2 hd hw1
                cases okp
                · skip
                  have hno := hide (mof_none (b := xs) fun m' ho e => by
                    obtain ⟨z1, z2, z3⟩ := unhide NO2 m' ho e
                    cases z1)
                  refine wp_region_later (by kernel_rfl) (by kernel_rfl) ?_
                  repeat (go_big_quiet_step (first
                    | (go_at_call 10; exact Calls.later_of (smsgok_any (⟨xk, xf, xt, xn, xh, xtl, xtr, xve, xle, sofI zs, sofF zs, (prF2 xma)⟩ : Mg) (⟨at_, nt, ct_, av, nv, cv_, al, nl, cl_, a1, n1, c1, a2, n2, c2, ka, kn, kc⟩ : Mp) okm hokm _ hSz ((unhide M5).rw.in_later _ _)))))
                  refine wpQuiet_nil ?_
                  intro w8 h8
                  have S8 := hide ((unhide S4).later h8)
                  clear h8 lg2 lb0 lb1 lb2 lb3 lb4 lb5 lb6 lb7 lb8 lb9 lb10 lb11
                  obtain ⟨r0, r1, r2, r3, r4, r5, r6, r7, r8, r9, ra, rb, rf⟩ := msg_cells (unhide S8).kr
                  have hz := (Array.getElem?_eq_some_iff.1 (unhide S8).kr).1
                  have BW := hide ((unhide S8).bel)
                  have BW := hide ((unhide BW).setCell (p := ⟨w.heap.size, 0, none⟩) (Nat.le_refl _) (.int .i64 0))
                  have BW := hide ((unhide BW).setCell (p := ⟨w.heap.size, 1, none⟩) (Nat.le_refl _) (.int .i64 0))
                  have BW := hide ((unhide BW).setCell (p := ⟨w.heap.size, 2, none⟩) (Nat.le_refl _) (.int .i64 0))
                  have BW := hide ((unhide BW).setCell (p := ⟨w.heap.size, 3, none⟩) (Nat.le_refl _) (.int .i64 0))
                  have BW := hide ((unhide BW).setCell (p := ⟨w.heap.size, 4, none⟩) (Nat.le_refl _) (.int .i64 0))
                  have BW := hide ((unhide BW).setCell (p := ⟨w.heap.size, 5, none⟩) (Nat.le_refl _) (.slice none 0 0))
                  have BW := hide ((unhide BW).setCell (p := ⟨w.heap.size, 6, none⟩) (Nat.le_refl _) (.int .i64 0))
                  have BW := hide ((unhide BW).setCell (p := ⟨w.heap.size, 7, none⟩) (Nat.le_refl _) (.slice none 0 0))
                  have BW := hide ((unhide BW).setCell (p := ⟨w.heap.size, 8, none⟩) (Nat.le_refl _) (.slice none 0 0))
                  have BW := hide ((unhide BW).setCell (p := ⟨w.heap.size, 9, none⟩) (Nat.le_refl _) (.slice none 0 0))
                  have BW := hide ((unhide BW).setCell (p := ⟨w.heap.size, 10, none⟩) (Nat.le_refl _) (.slice none 0 0))
                  have BW := hide ((unhide BW).setCell (p := ⟨w.heap.size, 11, none⟩) (Nat.le_refl _) (.slice none 0 0))
                  go_wp2_with fail
                  exact bodyPost_ret (v := .tuple #[.agg #[.int .i64 0, .int .i64 0, .int .i64 0, .int .i64 0, .int .i64 0, .slice none 0 0, .int .i64 0, .slice none 0 0, .slice none 0 0, .slice none 0 0, .slice none 0 0, .slice none 0 0], .bool false]) (by simp [results, Tryz.results13, go_sem, r0, r1, r2, r3, r4, r5, r6, r7, r8, r9, ra, rb]) rfl (GotM.mk zM zP (by rw [mofM, unhide hno]; rfl) (by rw [unhide hno]; rfl) ⟨Nat.zero_le _, Nat.zero_le _, Nat.zero_le _, Nat.zero_le _, Nat.zero_le _, Nat.zero_le _⟩ (owMg_nil _ _) (unhide BW))
                · skip
                  cases b10
                  rotate_left
                  · skip
                    have hno := hide (mof_none (b := xs) fun m' ho e => by
                      obtain ⟨z1, z2, z3⟩ := unhide NO2 m' ho e
                      cases z2)
                    refine wp_region_later (by kernel_rfl) (by kernel_rfl) ?_
                    repeat (go_big_quiet_step (first
                      | (go_at_call 10; exact Calls.later_of (smsgok_any (⟨xk, xf, xt, xn, xh, xtl, xtr, xve, xle, sofI zs, sofF zs, (prF2 xma)⟩ : Mg) (⟨at_, nt, ct_, av, nv, cv_, al, nl, cl_, a1, n1, c1, a2, n2, c2, ka, kn, kc⟩ : Mp) okm hokm _ hSz ((unhide M5).rw.in_later _ _)))))
                    refine wpQuiet_nil ?_
                    intro w8 h8
                    have S8 := hide ((unhide S4).later h8)
                    clear h8 lg2 lb0 lb1 lb2 lb3 lb4 lb5 lb6 lb7 lb8 lb9 lb10 lb11
                    obtain ⟨r0, r1, r2, r3, r4, r5, r6, r7, r8, r9, ra, rb, rf⟩ := msg_cells (unhide S8).kr
                    have hz := (Array.getElem?_eq_some_iff.1 (unhide S8).kr).1
                    have BW := hide ((unhide S8).bel)
                    have BW := hide ((unhide BW).setCell (p := ⟨w.heap.size, 0, none⟩) (Nat.le_refl _) (.int .i64 0))
                    have BW := hide ((unhide BW).setCell (p := ⟨w.heap.size, 1, none⟩) (Nat.le_refl _) (.int .i64 0))
                    have BW := hide ((unhide BW).setCell (p := ⟨w.heap.size, 2, none⟩) (Nat.le_refl _) (.int .i64 0))
                    have BW := hide ((unhide BW).setCell (p := ⟨w.heap.size, 3, none⟩) (Nat.le_refl _) (.int .i64 0))
                    have BW := hide ((unhide BW).setCell (p := ⟨w.heap.size, 4, none⟩) (Nat.le_refl _) (.int .i64 0))
                    have BW := hide ((unhide BW).setCell (p := ⟨w.heap.size, 5, none⟩) (Nat.le_refl _) (.slice none 0 0))
                    have BW := hide ((unhide BW).setCell (p := ⟨w.heap.size, 6, none⟩) (Nat.le_refl _) (.int .i64 0))
                    have BW := hide ((unhide BW).setCell (p := ⟨w.heap.size, 7, none⟩) (Nat.le_refl _) (.slice none 0 0))
                    have BW := hide ((unhide BW).setCell (p := ⟨w.heap.size, 8, none⟩) (Nat.le_refl _) (.slice none 0 0))
                    have BW := hide ((unhide BW).setCell (p := ⟨w.heap.size, 9, none⟩) (Nat.le_refl _) (.slice none 0 0))
                    have BW := hide ((unhide BW).setCell (p := ⟨w.heap.size, 10, none⟩) (Nat.le_refl _) (.slice none 0 0))
                    have BW := hide ((unhide BW).setCell (p := ⟨w.heap.size, 11, none⟩) (Nat.le_refl _) (.slice none 0 0))
                    go_wp2_with fail
                    exact bodyPost_ret (v := .tuple #[.agg #[.int .i64 0, .int .i64 0, .int .i64 0, .int .i64 0, .int .i64 0, .slice none 0 0, .int .i64 0, .slice none 0 0, .slice none 0 0, .slice none 0 0, .slice none 0 0, .slice none 0 0], .bool false]) (by simp [results, Tryz.results13, go_sem, r0, r1, r2, r3, r4, r5, r6, r7, r8, r9, ra, rb]) rfl (GotM.mk zM zP (by rw [mofM, unhide hno]; rfl) (by rw [unhide hno]; rfl) ⟨Nat.zero_le _, Nat.zero_le _, Nat.zero_le _, Nat.zero_le _, Nat.zero_le _, Nat.zero_le _⟩ (owMg_nil _ _) (unhide BW))
                  · skip
                    cases okm
                    · skip
                      have hno := hide (mof_none (b := xs) fun m' ho e => by
                        obtain ⟨z1, z2, z3⟩ := unhide NO2 m' ho e
                        have q := unhide hokm; rw [z3, (okM_iff m').2 ho] at q; cases q)
                      refine wp_region_later (by kernel_rfl) (by kernel_rfl) ?_
                      repeat (go_big_quiet_step (first
                        | (go_at_call 10; exact Calls.later_of (smsgok_any (⟨xk, xf, xt, xn, xh, xtl, xtr, xve, xle, sofI zs, sofF zs, (prF2 xma)⟩ : Mg) (⟨at_, nt, ct_, av, nv, cv_, al, nl, cl_, a1, n1, c1, a2, n2, c2, ka, kn, kc⟩ : Mp) false hokm _ hSz ((unhide M5).rw.in_later _ _)))))
                      refine wpQuiet_nil ?_
                      intro w8 h8
                      have S8 := hide ((unhide S4).later h8)
                      clear h8 lg2 lb0 lb1 lb2 lb3 lb4 lb5 lb6 lb7 lb8 lb9 lb10 lb11
                      obtain ⟨r0, r1, r2, r3, r4, r5, r6, r7, r8, r9, ra, rb, rf⟩ := msg_cells (unhide S8).kr
                      have hz := (Array.getElem?_eq_some_iff.1 (unhide S8).kr).1
                      have BW := hide ((unhide S8).bel)
                      have BW := hide ((unhide BW).setCell (p := ⟨w.heap.size, 0, none⟩) (Nat.le_refl _) (.int .i64 0))
                      have BW := hide ((unhide BW).setCell (p := ⟨w.heap.size, 1, none⟩) (Nat.le_refl _) (.int .i64 0))
                      have BW := hide ((unhide BW).setCell (p := ⟨w.heap.size, 2, none⟩) (Nat.le_refl _) (.int .i64 0))
                      have BW := hide ((unhide BW).setCell (p := ⟨w.heap.size, 3, none⟩) (Nat.le_refl _) (.int .i64 0))
                      have BW := hide ((unhide BW).setCell (p := ⟨w.heap.size, 4, none⟩) (Nat.le_refl _) (.int .i64 0))
                      have BW := hide ((unhide BW).setCell (p := ⟨w.heap.size, 5, none⟩) (Nat.le_refl _) (.slice none 0 0))
                      have BW := hide ((unhide BW).setCell (p := ⟨w.heap.size, 6, none⟩) (Nat.le_refl _) (.int .i64 0))
                      have BW := hide ((unhide BW).setCell (p := ⟨w.heap.size, 7, none⟩) (Nat.le_refl _) (.slice none 0 0))
                      have BW := hide ((unhide BW).setCell (p := ⟨w.heap.size, 8, none⟩) (Nat.le_refl _) (.slice none 0 0))
                      have BW := hide ((unhide BW).setCell (p := ⟨w.heap.size, 9, none⟩) (Nat.le_refl _) (.slice none 0 0))
                      have BW := hide ((unhide BW).setCell (p := ⟨w.heap.size, 10, none⟩) (Nat.le_refl _) (.slice none 0 0))
                      have BW := hide ((unhide BW).setCell (p := ⟨w.heap.size, 11, none⟩) (Nat.le_refl _) (.slice none 0 0))
                      go_wp2_with fail
                      exact bodyPost_ret (v := .tuple #[.agg #[.int .i64 0, .int .i64 0, .int .i64 0, .int .i64 0, .int .i64 0, .slice none 0 0, .int .i64 0, .slice none 0 0, .slice none 0 0, .slice none 0 0, .slice none 0 0, .slice none 0 0], .bool false]) (by simp [results, Tryz.results13, go_sem, r0, r1, r2, r3, r4, r5, r6, r7, r8, r9, ra, rb]) rfl (GotM.mk zM zP (by rw [mofM, unhide hno]; rfl) (by rw [unhide hno]; rfl) ⟨Nat.zero_le _, Nat.zero_le _, Nat.zero_le _, Nat.zero_le _, Nat.zero_le _, Nat.zero_le _⟩ (owMg_nil _ _) (unhide BW))
                    · skip
                      obtain ⟨y, hy⟩ : ∃ y, Hid (strOfNums (msB (⟨xk, xf, xt, xn, xh, xtl, xtr, xve, xle, sofI zs, sofF zs, (prF2 xma)⟩ : Mg)) = y) := ⟨_, hide rfl⟩
                      obtain ⟨z, hz⟩ : ∃ z, Hid (strOfNums xs = z) := ⟨_, hide rfl⟩
                      obtain ⟨q5, hq5⟩ : ∃ q, Hid (decide (msB (⟨xk, xf, xt, xn, xh, xtl, xtr, xve, xle, sofI zs, sofF zs, (prF2 xma)⟩ : Mg) = xs) = q) := ⟨_, hide rfl⟩
                      have hsame5 : (y.toList == z.toList) = q5 := by rw [← unhide hy, ← unhide hz, str_same (msB_bytes _) (unhide HDD)]; exact unhide hq5
                      have k3 : ∀ W, Below wr.heap.size wr W → (convert 22 9 (.slice (some ⟨g0, off, none⟩) (n + 4) cap)).run Tryz.prog W = .ok (.string z) W := fun W bb => convR hz (((unhide HC).later ((unhide S4).bel.trans (bb.mono (unhide S4).bel.size))).rdb)
                      clear lg2 lb0 lb1 lb2 lb3 lb4 lb5 lb6 lb7 lb8 lb9 lb10 lb11
                      refine wp_region_noPanic ?_
                      refine wp_region_held_drew (S := (fun W => Below wr.heap.size wr W ∧ (W.cell? ⟨b, 0, none⟩ = some (.int .i64 xk) ∧ W.cell? ⟨b, 1, none⟩ = some (.int .i64 xf) ∧ W.cell? ⟨b, 2, none⟩ = some (.int .i64 xt) ∧ W.cell? ⟨b, 3, none⟩ = some (.int .i64 xn) ∧ W.cell? ⟨b, 4, none⟩ = some (.int .i64 xh) ∧ W.cell? ⟨b, 5, none⟩ = some (.slice at_ nt ct_) ∧ W.cell? ⟨b, 6, none⟩ = some (.int .i64 xtr) ∧ W.cell? ⟨b, 7, none⟩ = some (.slice av nv cv_) ∧ W.cell? ⟨b, 8, none⟩ = some (.slice al nl cl_) ∧ W.cell? ⟨b, 9, none⟩ = some (.slice a1 n1 c1) ∧ W.cell? ⟨b, 10, none⟩ = some (.slice a2 n2 c2) ∧ W.cell? ⟨b, 11, none⟩ = some (.slice ka kn kc)) ∧ W.cell? ⟨g, 2, none⟩ = some (.bool false))) (by kernel_rfl) ?_ (fun hHeld => ?_)
                      · (try dsimp only); exact keepQ S4 ((Below.refl _ _).drew)
                      refine wpAnyH_take (i := 0) (v := ?vq0) (by (simp only [List.getElem?_toArray, List.getElem?_cons_zero]; rfl)) (by kernel_rfl) (by kernel_rfl) (by kernel_rfl) (fun _ _ _ h => h) (Or.inl ⟨by rfl, ?hyq0⟩) (by assumption) ?restq0
                      case hyq0 => (intro w hSw; (try dsimp only at hSw); go_simp <;> with_reducible rfl)
                      (try simp only [Act.put, List.setIfInBounds_toArray, List.set_cons_zero, List.set_cons_succ])
                      refine wpAnyH_take (i := 1) (v := ?vq1) (by (simp only [List.getElem?_toArray, List.getElem?_cons_succ, List.getElem?_cons_zero]; rfl)) (by kernel_rfl) (by kernel_rfl) (by kernel_rfl) (fun _ _ _ h => h) (Or.inl ⟨by rfl, ?hyq1⟩) (by assumption) ?restq1
                      case hyq1 => (intro w hSw; (try dsimp only at hSw); go_simp <;> with_reducible rfl)
                      (try simp only [Act.put, List.setIfInBounds_toArray, List.set_cons_zero, List.set_cons_succ])
                      refine wpAnyH_take (i := 2) (v := ?vq2) (by (simp only [List.getElem?_toArray, List.getElem?_cons_succ, List.getElem?_cons_zero]; rfl)) (by kernel_rfl) (by kernel_rfl) (by kernel_rfl) (fun _ _ _ h => h) (Or.inl ⟨by rfl, ?hyq2⟩) (by assumption) ?restq2
                      case hyq2 => (intro w hSw; (try dsimp only at hSw); go_simp <;> with_reducible rfl)
                      (try simp only [Act.put, List.setIfInBounds_toArray, List.set_cons_zero, List.set_cons_succ])
                      refine wpAnyH_take (i := 3) (v := ?vq3) (by (simp only [List.getElem?_toArray, List.getElem?_cons_succ, List.getElem?_cons_zero]; rfl)) (by kernel_rfl) (by kernel_rfl) (by kernel_rfl) (fun _ _ _ h => h) (Or.inl ⟨by rfl, ?hyq3⟩) (by assumption) ?restq3
                      case hyq3 => (intro w hSw; (try dsimp only at hSw); go_simp <;> with_reducible rfl)
                      (try simp only [Act.put, List.setIfInBounds_toArray, List.set_cons_zero, List.set_cons_succ])
                      refine wpAnyH_take (i := 4) (v := ?vq4) (by (simp only [List.getElem?_toArray, List.getElem?_cons_succ, List.getElem?_cons_zero]; rfl)) (by kernel_rfl) (by kernel_rfl) (by kernel_rfl) (fun _ _ _ h => h) (Or.inl ⟨by rfl, ?hyq4⟩) (by assumption) ?restq4
                      case hyq4 => (intro w hSw; (try dsimp only at hSw); go_simp <;> with_reducible rfl)
                      (try simp only [Act.put, List.setIfInBounds_toArray, List.set_cons_zero, List.set_cons_succ])
                      refine wpAnyH_take (i := 5) (v := ?vq5) (by (simp only [List.getElem?_toArray, List.getElem?_cons_succ, List.getElem?_cons_zero]; rfl)) (by kernel_rfl) (by kernel_rfl) (by kernel_rfl) (fun _ _ _ h => h) (Or.inl ⟨by rfl, ?hyq5⟩) (by assumption) ?restq5
                      case hyq5 => (intro w hSw; (try dsimp only at hSw); go_simp <;> with_reducible rfl)
                      (try simp only [Act.put, List.setIfInBounds_toArray, List.set_cons_zero, List.set_cons_succ])
                      refine wpAnyH_take (i := 6) (v := ?vq6) (by (simp only [List.getElem?_toArray, List.getElem?_cons_succ, List.getElem?_cons_zero]; rfl)) (by kernel_rfl) (by kernel_rfl) (by kernel_rfl) (fun _ _ _ h => h) (Or.inl ⟨by rfl, ?hyq6⟩) (by assumption) ?restq6
                      case hyq6 => (intro w hSw; (try dsimp only at hSw); go_simp <;> with_reducible rfl)
                      (try simp only [Act.put, List.setIfInBounds_toArray, List.set_cons_zero, List.set_cons_succ])
                      refine wpAnyH_take (i := 7) (v := ?vq7) (by (simp only [List.getElem?_toArray, List.getElem?_cons_succ, List.getElem?_cons_zero]; rfl)) (by kernel_rfl) (by kernel_rfl) (by kernel_rfl) (fun _ _ _ h => h) (Or.inl ⟨by rfl, ?hyq7⟩) (by assumption) ?restq7
                      case hyq7 => (intro w hSw; (try dsimp only at hSw); go_simp <;> with_reducible rfl)
                      (try simp only [Act.put, List.setIfInBounds_toArray, List.set_cons_zero, List.set_cons_succ])
                      refine wpAnyH_take (i := 8) (v := ?vq8) (by (simp only [List.getElem?_toArray, List.getElem?_cons_succ, List.getElem?_cons_zero]; rfl)) (by kernel_rfl) (by kernel_rfl) (by kernel_rfl) (fun _ _ _ h => h) (Or.inl ⟨by rfl, ?hyq8⟩) (by assumption) ?restq8
                      case hyq8 => (intro w hSw; (try dsimp only at hSw); go_simp <;> with_reducible rfl)
                      (try simp only [Act.put, List.setIfInBounds_toArray, List.set_cons_zero, List.set_cons_succ])
                      refine wpAnyH_take (i := 9) (v := ?vq9) (by (simp only [List.getElem?_toArray, List.getElem?_cons_succ, List.getElem?_cons_zero]; rfl)) (by kernel_rfl) (by kernel_rfl) (by kernel_rfl) (fun _ _ _ h => h) (Or.inl ⟨by rfl, ?hyq9⟩) (by assumption) ?restq9
                      case hyq9 => (intro w hSw; (try dsimp only at hSw); go_simp <;> with_reducible rfl)
                      (try simp only [Act.put, List.setIfInBounds_toArray, List.set_cons_zero, List.set_cons_succ])
                      refine wpAnyH_ready (rs := [10]) (by kernel_rfl) (by simp) ?_
                      refine AllReadyH.cons (by (simp only [List.getElem?_toArray, List.getElem?_cons_succ, List.getElem?_cons_zero]; rfl)) (fun K hK => ?_) AllReadyH.nil
                      go_simp
                      refine (smsgok_any (⟨xk, xf, xt, xn, xh, xtl, xtr, xve, xle, sofI zs, sofF zs, (prF2 xma)⟩ : Mg) (⟨at_, nt, ct_, av, nv, cv_, al, nl, cl_, a1, n1, c1, a2, n2, c2, ka, kn, kc⟩ : Mp) true hokm _ hSz ((unhide M5).rw.later hHeld.1)).mono ?_
                      rintro e v1 ⟨rfl, b1⟩
                      have BB1 := hide (hHeld.1.trans (b1.mono hHeld.1.size))
                      (try go_wp2_with fail)
                      refine hK.out _ _ ?_ (fun hHeldN => ?_)
                      · (try dsimp only); exact keepQ S4 (unhide BB1)
                      clear hK K hHeld
                      have hHeld := hHeldN; clear hHeldN
                      (try simp only [Act.put, List.setIfInBounds_toArray, List.set_cons_zero, List.set_cons_succ])
                      refine wpAnyH_take (i := 11) (v := ?vq11) (by (simp only [List.getElem?_toArray, List.getElem?_cons_succ, List.getElem?_cons_zero]; rfl)) (by kernel_rfl) (by kernel_rfl) (by kernel_rfl) (fun _ _ _ h => h) (Or.inl ⟨by rfl, ?hyq11⟩) (by assumption) ?restq11
                      case hyq11 => (intro w hSw; (try dsimp only at hSw); go_simp <;> with_reducible rfl)
                      (try simp only [Act.put, List.setIfInBounds_toArray, List.set_cons_zero, List.set_cons_succ])
                      refine wpAnyH_take (i := 12) (v := ?vq12) (by (simp only [List.getElem?_toArray, List.getElem?_cons_succ, List.getElem?_cons_zero]; rfl)) (by kernel_rfl) (by kernel_rfl) (by kernel_rfl) (fun _ _ _ h => h) (Or.inl ⟨by rfl, ?hyq12⟩) (by assumption) ?restq12
                      case hyq12 => (intro w hSw; (try dsimp only at hSw); go_simp <;> with_reducible rfl)
                      (try simp only [Act.put, List.setIfInBounds_toArray, List.set_cons_zero, List.set_cons_succ])
                      refine wpAnyH_take (i := 13) (v := ?vq13) (by (simp only [List.getElem?_toArray, List.getElem?_cons_succ, List.getElem?_cons_zero]; rfl)) (by kernel_rfl) (by kernel_rfl) (by kernel_rfl) (fun _ _ _ h => h) (Or.inl ⟨by rfl, ?hyq13⟩) (by assumption) ?restq13
                      case hyq13 => (intro w hSw; (try dsimp only at hSw); go_simp <;> with_reducible rfl)
                      (try simp only [Act.put, List.setIfInBounds_toArray, List.set_cons_zero, List.set_cons_succ])
                      refine wpAnyH_take (i := 14) (v := ?vq14) (by (simp only [List.getElem?_toArray, List.getElem?_cons_succ, List.getElem?_cons_zero]; rfl)) (by kernel_rfl) (by kernel_rfl) (by kernel_rfl) (fun _ _ _ h => h) (Or.inl ⟨by rfl, ?hyq14⟩) (by assumption) ?restq14
                      case hyq14 => (intro w hSw; (try dsimp only at hSw); go_simp <;> with_reducible rfl)
                      (try simp only [Act.put, List.setIfInBounds_toArray, List.set_cons_zero, List.set_cons_succ])
                      refine wpAnyH_take (i := 17) (v := ?vq17) (by (simp only [List.getElem?_toArray, List.getElem?_cons_succ, List.getElem?_cons_zero]; rfl)) (by kernel_rfl) (by kernel_rfl) (by kernel_rfl) (fun _ _ _ h => h) (Or.inl ⟨by rfl, ?hyq17⟩) (by assumption) ?restq17
                      case hyq17 => (intro w hSw; (try dsimp only at hSw); go_simp <;> with_reducible rfl)
                      (try simp only [Act.put, List.setIfInBounds_toArray, List.set_cons_zero, List.set_cons_succ])
                      refine wpAnyH_take (i := 18) (v := ?vq18) (by (simp only [List.getElem?_toArray, List.getElem?_cons_succ, List.getElem?_cons_zero]; rfl)) (by kernel_rfl) (by kernel_rfl) (by kernel_rfl) (fun _ _ _ h => h) (Or.inl ⟨by rfl, ?hyq18⟩) (by assumption) ?restq18
                      case hyq18 => (intro w hSw; (try dsimp only at hSw); have hk := k3 w hSw.1; go_simp <;> with_reducible rfl)
                      (try simp only [Act.put, List.setIfInBounds_toArray, List.set_cons_zero, List.set_cons_succ])
                      refine wpAnyH_ready (rs := [15]) (by kernel_rfl) (by simp) ?_
                      refine AllReadyH.cons (by (simp only [List.getElem?_toArray, List.getElem?_cons_succ, List.getElem?_cons_zero]; rfl)) (fun K hK => ?_) AllReadyH.nil
                      go_simp
                      refine (smsgbytes_any (⟨xk, xf, xt, xn, xh, xtl, xtr, xve, xle, sofI zs, sofF zs, (prF2 xma)⟩ : Mg) (⟨at_, nt, ct_, av, nv, cv_, al, nl, cl_, a1, n1, c1, a2, n2, c2, ka, kn, kc⟩ : Mp) true hokm _ hSz ((unhide M5).rw.later hHeld.1)).mono ?_
                      rintro e v2 ⟨t2, rfl, o2, b2⟩
                      have BB2 := hide (hHeld.1.trans (b2.mono hHeld.1.size))
                      have cv2 := convO hy o2
                      clear o2
                      (try go_wp2_with fail)
                      refine hK.out _ _ ?_ (fun hHeldN => ?_)
                      · (try dsimp only); exact keepQ S4 (unhide BB2)
                      clear hK K hHeld
                      have hHeld := hHeldN; clear hHeldN
                      (try simp only [Act.put, List.setIfInBounds_toArray, List.set_cons_zero, List.set_cons_succ])
                      refine wpAnyH_ready (rs := [16]) (by kernel_rfl) (by simp) ?_
                      refine AllReadyH.cons (by (simp only [List.getElem?_toArray, List.getElem?_cons_succ, List.getElem?_cons_zero]; rfl)) (fun K hK => ?_) AllReadyH.nil
                      go_simp
                      refine hK.out _ _ ?_ (fun hHeldN => ?_)
                      · (try dsimp only); exact hHeld
                      clear hK K hHeld
                      have hHeld := hHeldN; clear hHeldN
                      (try simp only [Act.put, List.setIfInBounds_toArray, List.set_cons_zero, List.set_cons_succ])
                      refine wpAnyH_take (i := 19) (v := ?vq19) (by (simp only [List.getElem?_toArray, List.getElem?_cons_succ, List.getElem?_cons_zero]; rfl)) (by kernel_rfl) (by kernel_rfl) (by kernel_rfl) (fun _ _ _ h => h) (Or.inl ⟨by rfl, ?hyq19⟩) (by assumption) ?restq19
                      case hyq19 => (intro w hSw; (try dsimp only at hSw); go_simp <;> with_reducible rfl)
                      (try simp only [Act.put, List.setIfInBounds_toArray, List.set_cons_zero, List.set_cons_succ])
                      refine wpAnyH_take (i := 20) (v := ?vq20) (by (simp only [List.getElem?_toArray, List.getElem?_cons_succ, List.getElem?_cons_zero]; rfl)) (by kernel_rfl) (by kernel_rfl) (by kernel_rfl) (fun _ _ _ h => h) (Or.inl ⟨by rfl, ?hyq20⟩) (by assumption) ?restq20
                      case hyq20 => (intro w hSw; (try dsimp only at hSw); go_simp <;> with_reducible rfl)
                      (try simp only [Act.put, List.setIfInBounds_toArray, List.set_cons_zero, List.set_cons_succ])
                      refine wpAnyH_done (by kernel_rfl) ?_ _
                      refine NoPanic.normal ?_
                      clear hHeld
                      have S8 := hide ((unhide S4).later (unhide BB2))
                      have M8 := hide ((unhide M5).later (unhide BB2))
                      clear k3 cv2 b1 b2 BB1 BB2 S4 M5
                      obtain ⟨r0, r1, r2, r3, r4, r5, r6, r7, r8, r9, ra, rb, rf⟩ := msg_cells (unhide S8).kr
                      obtain ⟨e0, e1, e2, e3, e4, e5, e6, e7, e8, e9, ea, eb, ef⟩ := msg_cells (unhide S8).kb
                      have hz := (Array.getElem?_eq_some_iff.1 (unhide S8).kr).1
                      have hzb := (unhide S8).bl
                      cases q5
                      · skip
                        have hno := hide (mof_none (b := xs) fun m' ho e => by
                          obtain ⟨-, -, z3⟩ := unhide NO2 m' ho e
                          have q := unhide hq5
                          simp only [decide_eq_false_iff_not] at q
                          exact q (by rw [z3]; exact e))
                        have BW := hide ((unhide S8).bel)
                        have BW := hide ((unhide BW).setCell (p := ⟨w.heap.size, 0, none⟩) (Nat.le_refl _) (.int .i64 0))
                        have BW := hide ((unhide BW).setCell (p := ⟨w.heap.size, 1, none⟩) (Nat.le_refl _) (.int .i64 0))
                        have BW := hide ((unhide BW).setCell (p := ⟨w.heap.size, 2, none⟩) (Nat.le_refl _) (.int .i64 0))
                        have BW := hide ((unhide BW).setCell (p := ⟨w.heap.size, 3, none⟩) (Nat.le_refl _) (.int .i64 0))
                        have BW := hide ((unhide BW).setCell (p := ⟨w.heap.size, 4, none⟩) (Nat.le_refl _) (.int .i64 0))
                        have BW := hide ((unhide BW).setCell (p := ⟨w.heap.size, 5, none⟩) (Nat.le_refl _) (.slice none 0 0))
                        have BW := hide ((unhide BW).setCell (p := ⟨w.heap.size, 6, none⟩) (Nat.le_refl _) (.int .i64 0))
                        have BW := hide ((unhide BW).setCell (p := ⟨w.heap.size, 7, none⟩) (Nat.le_refl _) (.slice none 0 0))
                        have BW := hide ((unhide BW).setCell (p := ⟨w.heap.size, 8, none⟩) (Nat.le_refl _) (.slice none 0 0))
                        have BW := hide ((unhide BW).setCell (p := ⟨w.heap.size, 9, none⟩) (Nat.le_refl _) (.slice none 0 0))
                        have BW := hide ((unhide BW).setCell (p := ⟨w.heap.size, 10, none⟩) (Nat.le_refl _) (.slice none 0 0))
                        have BW := hide ((unhide BW).setCell (p := ⟨w.heap.size, 11, none⟩) (Nat.le_refl _) (.slice none 0 0))
                        go_wp2_with fail
                        exact bodyPost_ret (v := .tuple #[.agg #[.int .i64 0, .int .i64 0, .int .i64 0, .int .i64 0, .int .i64 0, .slice none 0 0, .int .i64 0, .slice none 0 0, .slice none 0 0, .slice none 0 0, .slice none 0 0, .slice none 0 0], .bool false]) (by simp [results, Tryz.results13, go_sem, r0, r1, r2, r3, r4, r5, r6, r7, r8, r9, ra, rb]) rfl (GotM.mk zM zP (by rw [mofM, unhide hno]; rfl) (by rw [unhide hno]; rfl) ⟨Nat.zero_le _, Nat.zero_le _, Nat.zero_le _, Nat.zero_le _, Nat.zero_le _, Nat.zero_le _⟩ (owMg_nil _ _) (unhide BW))
                      · skip
                        have hso : Hid (mof xs = some (⟨xk, xf, xt, xn, xh, xtl, xtr, xve, xle, sofI zs, sofF zs, (prF2 xma)⟩ : Mg)) := hide (mof_some ((okM_iff _).1 (unhide hokm)) (by have q := unhide hq5; simpa using q))
                        have BW := hide (unhide S8).bel
                        have MW := M8
                        have BW := hide ((unhide BW).setCell (p := ⟨w.heap.size, 0, none⟩) (Nat.le_refl _) (.int .i64 xk))
                        have MW := hide ((unhide MW).set ⟨w.heap.size, 0, none⟩ (by show w.heap.size < _; omega) (.int .i64 xk))
                        have BW := hide ((unhide BW).setCell (p := ⟨w.heap.size, 1, none⟩) (Nat.le_refl _) (.int .i64 xf))
                        have MW := hide ((unhide MW).set ⟨w.heap.size, 1, none⟩ (by show w.heap.size < _; omega) (.int .i64 xf))
                        have BW := hide ((unhide BW).setCell (p := ⟨w.heap.size, 2, none⟩) (Nat.le_refl _) (.int .i64 xt))
                        have MW := hide ((unhide MW).set ⟨w.heap.size, 2, none⟩ (by show w.heap.size < _; omega) (.int .i64 xt))
                        have BW := hide ((unhide BW).setCell (p := ⟨w.heap.size, 3, none⟩) (Nat.le_refl _) (.int .i64 xn))
                        have MW := hide ((unhide MW).set ⟨w.heap.size, 3, none⟩ (by show w.heap.size < _; omega) (.int .i64 xn))
                        have BW := hide ((unhide BW).setCell (p := ⟨w.heap.size, 4, none⟩) (Nat.le_refl _) (.int .i64 xh))
                        have MW := hide ((unhide MW).set ⟨w.heap.size, 4, none⟩ (by show w.heap.size < _; omega) (.int .i64 xh))
                        have BW := hide ((unhide BW).setCell (p := ⟨w.heap.size, 5, none⟩) (Nat.le_refl _) (.slice at_ nt ct_))
                        have MW := hide ((unhide MW).set ⟨w.heap.size, 5, none⟩ (by show w.heap.size < _; omega) (.slice at_ nt ct_))
                        have BW := hide ((unhide BW).setCell (p := ⟨w.heap.size, 6, none⟩) (Nat.le_refl _) (.int .i64 xtr))
                        have MW := hide ((unhide MW).set ⟨w.heap.size, 6, none⟩ (by show w.heap.size < _; omega) (.int .i64 xtr))
                        have BW := hide ((unhide BW).setCell (p := ⟨w.heap.size, 7, none⟩) (Nat.le_refl _) (.slice av nv cv_))
                        have MW := hide ((unhide MW).set ⟨w.heap.size, 7, none⟩ (by show w.heap.size < _; omega) (.slice av nv cv_))
                        have BW := hide ((unhide BW).setCell (p := ⟨w.heap.size, 8, none⟩) (Nat.le_refl _) (.slice al nl cl_))
                        have MW := hide ((unhide MW).set ⟨w.heap.size, 8, none⟩ (by show w.heap.size < _; omega) (.slice al nl cl_))
                        have BW := hide ((unhide BW).setCell (p := ⟨w.heap.size, 9, none⟩) (Nat.le_refl _) (.slice a1 n1 c1))
                        have MW := hide ((unhide MW).set ⟨w.heap.size, 9, none⟩ (by show w.heap.size < _; omega) (.slice a1 n1 c1))
                        have BW := hide ((unhide BW).setCell (p := ⟨w.heap.size, 10, none⟩) (Nat.le_refl _) (.slice a2 n2 c2))
                        have MW := hide ((unhide MW).set ⟨w.heap.size, 10, none⟩ (by show w.heap.size < _; omega) (.slice a2 n2 c2))
                        have BW := hide ((unhide BW).setCell (p := ⟨w.heap.size, 11, none⟩) (Nat.le_refl _) (.slice ka kn kc))
                        have MW := hide ((unhide MW).set ⟨w.heap.size, 11, none⟩ (by show w.heap.size < _; omega) (.slice ka kn kc))
                        go_wp2_with fail
                        exact bodyPost_ret (v := .tuple #[.agg #[.int .i64 xk, .int .i64 xf, .int .i64 xt, .int .i64 xn, .int .i64 xh, .slice at_ nt ct_, .int .i64 xtr, .slice av nv cv_, .slice al nl cl_, .slice a1 n1 c1, .slice a2 n2 c2, .slice ka kn kc], .bool true]) (by simp [results, Tryz.results13, go_sem, r0, r1, r2, r3, r4, r5, r6, r7, r8, r9, ra, rb]) rfl (GotM.mk (⟨xk, xf, xt, xn, xh, xtl, xtr, xve, xle, sofI zs, sofF zs, (prF2 xma)⟩ : Mg) (⟨at_, nt, ct_, av, nv, cv_, al, nl, cl_, a1, n1, c1, a2, n2, c2, ka, kn, kc⟩ : Mp) (by rw [mofM, unhide hso]; rfl) (by rw [unhide hso]; rfl) ⟨by show nt ≤ _; omega, by show nv ≤ _; omega, by show nl ≤ _; omega, by show n1 ≤ _; omega, by show n2 ≤ _; omega, by show kn ≤ _; omega⟩ ((unhide MW).base (by omega)) (unhide BW))
end Go.Proofs.YtjlocbimkfocnaaGreat

namespace Go.Proofs.YtjlocbimkfocnaaGreat
open Go.ChangeShapes Go.WideShapes Go.ChangeAt Go.RowKit

/-- The blocks of a message's own lists. -/
def MgB (p : Mp) (i : Nat) : Prop := (Value.slice p.ta p.tn p.tc).ownBlock = some i ∨ (Value.slice p.va p.vn p.vc).ownBlock = some i ∨ (Value.slice p.la p.ln p.lc).ownBlock = some i ∨ (Value.slice p.xa p.xn p.xc).ownBlock = some i ∨ (Value.slice p.ya p.yn p.yc).ownBlock = some i ∨ (Value.slice p.ka p.kn p.kc).ownBlock = some i
theorem OwMg.blocks {B : Nat} {w : World} {m : Mg} {p : Mp} (h : OwMg B w m p) : ∀ i, MgB p i → B ≤ i ∧ i < w.heap.size := by
  intro i q
  rcases q with q | q | q | q | q | q
  · exact World.ownsRow.lt h.t i q
  · exact World.ownsRow.lt h.v i q
  · exact World.ownsRow.lt h.l i q
  · exact World.ownsRow.lt h.x i q
  · exact World.ownsRow.lt h.y i q
  · exact World.ownsRow.lt h.k i q
/-- A message whose lists are marked from k on. -/
def mkM (m : Mg) (p : Mp) (k : Int) : Mg := ⟨m.k, m.f, m.t, m.n, m.h, markN k p.tn, m.tr, markN (k + p.tn) p.vn, markN (k + p.tn + p.vn) p.ln, mkIs (k + p.tn + p.vn + p.ln) p.xn, mkFs (k + p.tn + p.vn + p.ln + 6 * p.xn) p.yn, mkFs (k + p.tn + p.vn + p.ln + 6 * p.xn + 2 * p.yn) p.kn⟩
theorem Ow.aptS {α β γ : Type} {enc : α → List Value} {e1 : β → List Value} {e2 : γ → List Value} {k k1 k2 : Nat} {E F G : TypeId} {B B1 B2 : Nat} {w w' : World} {v u1 u2 : Value} {xs : List α} {ys : List β} {zs : List γ} (h : Ow enc k E B w v xs) (o1 : Ow e1 k1 F B1 w u1 ys) (o2 : Ow e2 k2 G B2 w u2 zs) (n1 : E ≠ F) (n2 : E ≠ G) (t : Trn (fun i => u1.ownBlock = some i ∨ u2.ownBlock = some i) w w') : Ow enc k E B w' v xs :=
  t.own h (fun i hi q => by
    rcases q with q | q
    · rcases owns_apart h o1 n1 with z | z
      · rw [z] at hi; cases hi
      · exact z (hi.trans q.symm)
    · rcases owns_apart h o2 n2 with z | z
      · rw [z] at hi; cases hi
      · exact z (hi.trans q.symm))
set_option maxHeartbeats 4000000 in
set_option maxRecDepth 100000 in
theorem markmsg_any (B : Nat) (m : Mg) (p : Mp) (k : Int) (h1 : 0 ≤ k) (h2 : k ≤ 1000000) (w : World) (hp : SzM p 1048576) (hm : OwMg B w m p) :
    Calls Tryz.prog 20 #[.agg #[.int .i64 m.k, .int .i64 m.f, .int .i64 m.t, .int .i64 m.n, .int .i64 m.h, .slice p.ta p.tn p.tc, .int .i64 m.tr, .slice p.va p.vn p.vc, .slice p.la p.ln p.lc, .slice p.xa p.xn p.xc, .slice p.ya p.yn p.yc, .slice p.ka p.kn p.kc], .int .i64 k] w fun e w' => e = .returned (.int .i64 (k + p.tn + p.vn + p.ln + 6 * p.xn + 2 * p.yn + 2 * p.kn)) ∧ OwMg B w' (mkM m p k) p ∧ Trn (MgB p) w w' := by
  have s1 := hp.t
  have s2 := hp.v
  have s3 := hp.l
  have s4 := hp.x
  have s5 := hp.y
  have s6 := hp.k
  have HB := hide hm.blocks
  have b0 : Below w.heap.size w (w.alloc (.cells #[.int .i64 m.k, .int .i64 m.f, .int .i64 m.t, .int .i64 m.n, .int .i64 m.h, .slice p.ta p.tn p.tc, .int .i64 m.tr, .slice p.va p.vn p.vc, .slice p.la p.ln p.lc, .slice p.xa p.xn p.xc, .slice p.ya p.yn p.yc, .slice p.ka p.kn p.kc] 33)) := (Below.refl w.heap.size w).alloc (Nat.le_refl _) _
  have M0 := hide (hm.later b0)
  have T0 : Hid (Trn (MgB p) w (w.alloc (.cells #[.int .i64 m.k, .int .i64 m.f, .int .i64 m.t, .int .i64 m.n, .int .i64 m.h, .slice p.ta p.tn p.tc, .int .i64 m.tr, .slice p.va p.vn p.vc, .slice p.la p.ln p.lc, .slice p.xa p.xn p.xc, .slice p.ya p.yn p.yc, .slice p.ka p.kn p.kc] 33))) := hide (Trn.of_below b0)
  have K0 : Hid ((w.alloc (.cells #[.int .i64 m.k, .int .i64 m.f, .int .i64 m.t, .int .i64 m.n, .int .i64 m.h, .slice p.ta p.tn p.tc, .int .i64 m.tr, .slice p.va p.vn p.vc, .slice p.la p.ln p.lc, .slice p.xa p.xn p.xc, .slice p.ya p.yn p.yc, .slice p.ka p.kn p.kc] 33)).heap[w.heap.size]? = some (.cells #[.int .i64 m.k, .int .i64 m.f, .int .i64 m.t, .int .i64 m.n, .int .i64 m.h, .slice p.ta p.tn p.tc, .int .i64 m.tr, .slice p.va p.vn p.vc, .slice p.la p.ln p.lc, .slice p.xa p.xn p.xc, .slice p.ya p.yn p.yc, .slice p.ka p.kn p.kc] 33 (0, 0)) ∧ w.heap.size < (w.alloc (.cells #[.int .i64 m.k, .int .i64 m.f, .int .i64 m.t, .int .i64 m.n, .int .i64 m.h, .slice p.ta p.tn p.tc, .int .i64 m.tr, .slice p.va p.vn p.vc, .slice p.la p.ln p.lc, .slice p.xa p.xn p.xc, .slice p.ya p.yn p.yc, .slice p.ka p.kn p.kc] 33)).heap.size) := hide ⟨heap_alloc_new w _, by simp⟩
  clear hm b0
  go_enter Tryz.func20, Tryz.ntmps20
  obtain ⟨c0, c1, c2, c3, c4, c5, c6, c7, c8, c9, ca, cb, -⟩ := msg_cells (unhide K0).1
  go_wp2_with fail
  refine (marktree_v B p.ta p.tn p.tc m.tl m.tr k _ (by omega) h1 (by omega) (unhide M0).t).mono ?_
  rintro e w1 ⟨rfl, o1, g1⟩
  have t1 := (Trn.of_grown g1).mono (T := MgB p) (fun i h => .inl h)
  have M1 : Hid (OwMg B w1 ⟨m.k, m.f, m.t, m.n, m.h, markN k p.tn, m.tr, m.ve, m.le, m.its, m.fls, m.ma⟩ p) := hide (have h := unhide M0; ⟨o1, h.v.aptB (fun g hv ht => h.tv g ht hv) g1, h.l.aptB (fun g hv ht => h.tl g ht hv) g1, h.x.aptT h.t (by decide) g1, h.y.aptT h.t (by decide) g1, h.k.aptT h.t (by decide) g1, h.tv, h.tl, h.vl⟩)
  have T1 := hide ((unhide T0).trans t1)
  have K1 := hide (t1.kept K0 (fun q => by have := unhide HB _ q; omega))
  clear o1 g1 t1 T0 K0 M0 c0 c1 c2 c3 c4 c5 c6 c7 c8 c9 ca cb
  obtain ⟨c0, c1, c2, c3, c4, c5, c6, c7, c8, c9, ca, cb, -⟩ := msg_cells (unhide K1).1
  have z1 := (unhide K1).2
  go_wp2_with fail
  refine (markints_v B p.va p.vn p.vc m.ve (k + p.tn) _ (by omega) (by omega) (by omega) (unhide M1).v).mono ?_
  rintro e w2 ⟨rfl, o1, g1⟩
  have t1 := (Trn.of_grown g1).mono (T := MgB p) (fun i h => .inr (.inl h))
  have M2 : Hid (OwMg B w2 ⟨m.k, m.f, m.t, m.n, m.h, markN k p.tn, m.tr, markN (k + p.tn) p.vn, m.le, m.its, m.fls, m.ma⟩ p) := hide (have h := unhide M1; ⟨h.t.aptB (fun g hv ht => h.tv g hv ht) g1, o1, h.l.aptB (fun g hv ht => h.vl g ht hv) g1, h.x.aptT h.v (by decide) g1, h.y.aptT h.v (by decide) g1, h.k.aptT h.v (by decide) g1, h.tv, h.tl, h.vl⟩)
  have T2 := hide ((unhide T1).trans t1)
  have K2 := hide (t1.kept K1 (fun q => by have := unhide HB _ q; omega))
  clear o1 g1 t1 T1 K1 M1 c0 c1 c2 c3 c4 c5 c6 c7 c8 c9 ca cb
  obtain ⟨c0, c1, c2, c3, c4, c5, c6, c7, c8, c9, ca, cb, -⟩ := msg_cells (unhide K2).1
  have z2 := (unhide K2).2
  go_wp2_with fail
  refine (markints_v B p.la p.ln p.lc m.le (k + p.tn + p.vn) _ (by omega) (by omega) (by omega) (unhide M2).l).mono ?_
  rintro e w3 ⟨rfl, o1, g1⟩
  have t1 := (Trn.of_grown g1).mono (T := MgB p) (fun i h => .inr (.inr (.inl h)))
  have M3 : Hid (OwMg B w3 ⟨m.k, m.f, m.t, m.n, m.h, markN k p.tn, m.tr, markN (k + p.tn) p.vn, markN (k + p.tn + p.vn) p.ln, m.its, m.fls, m.ma⟩ p) := hide (have h := unhide M2; ⟨h.t.aptB (fun g hv ht => h.tl g hv ht) g1, h.v.aptB (fun g hv ht => h.vl g hv ht) g1, o1, h.x.aptT h.l (by decide) g1, h.y.aptT h.l (by decide) g1, h.k.aptT h.l (by decide) g1, h.tv, h.tl, h.vl⟩)
  have T3 := hide ((unhide T2).trans t1)
  have K3 := hide (t1.kept K2 (fun q => by have := unhide HB _ q; omega))
  clear o1 g1 t1 T2 K2 M2 c0 c1 c2 c3 c4 c5 c6 c7 c8 c9 ca cb
  obtain ⟨c0, c1, c2, c3, c4, c5, c6, c7, c8, c9, ca, cb, -⟩ := msg_cells (unhide K3).1
  have z3 := (unhide K3).2
  go_wp2_with fail
  refine (markS_any B p.xa p.xn p.xc m.its p.ya p.yn p.yc m.fls (k + p.tn + p.vn + p.ln) (by omega) (by omega) _ (by omega) (by omega) (unhide M3).x (unhide M3).y).mono ?_
  rintro e w4 ⟨rfl, o1, o2, t0⟩
  have t1 := t0.mono (T := MgB p) (fun i h => by rcases h with h | h; exact .inr (.inr (.inr (.inl h))); exact .inr (.inr (.inr (.inr (.inl h)))))
  have M4 : Hid (OwMg B w4 ⟨m.k, m.f, m.t, m.n, m.h, markN k p.tn, m.tr, markN (k + p.tn) p.vn, markN (k + p.tn + p.vn) p.ln, mkIs (k + p.tn + p.vn + p.ln) p.xn, mkFs (k + p.tn + p.vn + p.ln + 6 * p.xn) p.yn, m.ma⟩ p) := hide (have h := unhide M3; ⟨h.t.aptS h.x h.y (by decide) (by decide) t0, h.v.aptS h.x h.y (by decide) (by decide) t0, h.l.aptS h.x h.y (by decide) (by decide) t0, o1, o2, h.k.aptS h.x h.y (by decide) (by decide) t0, h.tv, h.tl, h.vl⟩)
  clear t0
  have T4 := hide ((unhide T3).trans t1)
  have K4 := hide (t1.kept K3 (fun q => by have := unhide HB _ q; omega))
  clear o1 o2 t1 T3 K3 M3 c0 c1 c2 c3 c4 c5 c6 c7 c8 c9 ca cb
  obtain ⟨c0, c1, c2, c3, c4, c5, c6, c7, c8, c9, ca, cb, -⟩ := msg_cells (unhide K4).1
  have z4 := (unhide K4).2
  go_wp2_with fail
  refine (markM_any B p.ka p.kn p.kc m.ma (k + p.tn + p.vn + p.ln + 6 * p.xn + 2 * p.yn) (by omega) (by omega) _ (by omega) (unhide M4).k).mono ?_
  rintro e w5 ⟨rfl, o1, g1⟩
  have t1 := (Trn.of_grown g1).mono (T := MgB p) (fun i h => .inr (.inr (.inr (.inr (.inr h)))))
  have M5 : Hid (OwMg B w5 (mkM m p k) p) := hide (have h := unhide M4; ⟨h.t.aptT h.k (by decide) g1, h.v.aptT h.k (by decide) g1, h.l.aptT h.k (by decide) g1, h.x.aptT h.k (by decide) g1, h.y.aptT h.k (by decide) g1, o1, h.tv, h.tl, h.vl⟩)
  have T5 := hide ((unhide T4).trans t1)
  clear o1 g1 t1 T4 K4 M4 c0 c1 c2 c3 c4 c5 c6 c7 c8 c9 ca cb
  go_wp2
  go_ret
  exact ⟨rfl, unhide M5, unhide T5⟩
set_option maxHeartbeats 4000000 in
set_option maxRecDepth 100000 in
theorem heldmsg_any (m : Mg) (p : Mp) (k : Int) (h1 : 0 ≤ k) (h2 : k ≤ 1000000) (w : World) (hp : SzM p 1048576) (hm : RwM w (mkM m p k) p) :
    Calls Tryz.prog 21 #[.agg #[.int .i64 m.k, .int .i64 m.f, .int .i64 m.t, .int .i64 m.n, .int .i64 m.h, .slice p.ta p.tn p.tc, .int .i64 m.tr, .slice p.va p.vn p.vc, .slice p.la p.ln p.lc, .slice p.xa p.xn p.xc, .slice p.ya p.yn p.yc, .slice p.ka p.kn p.kc], .int .i64 k] w fun e w' => e = .returned (.int .i64 (k + p.tn + p.vn + p.ln + 6 * p.xn + 2 * p.yn + 2 * p.kn)) ∧ Below w.heap.size w w' := by
  have s1 := hp.t
  have s2 := hp.v
  have s3 := hp.l
  have s4 := hp.x
  have s5 := hp.y
  have s6 := hp.k
  have HM := hide hm
  have d1 : decide (k + (p.tn : Int) < 0) = false := by simp; omega
  have d2 : decide (k + (p.tn : Int) + p.vn < 0) = false := by simp; omega
  have d3 : decide (k + (p.tn : Int) + p.vn + p.ln < 0) = false := by simp; omega
  have d4 : decide (k + (p.tn : Int) + p.vn + p.ln + 6 * p.xn + 2 * p.yn < 0) = false := by simp; omega
  have d5 : decide (k + (p.tn : Int) + p.vn + p.ln + 6 * p.xn + 2 * p.yn + 2 * p.kn < 0) = false := by simp; omega
  clear hm
  go_enter Tryz.func21, Tryz.ntmps21
  have B0 := hide (bm_new w #[.int .i64 m.k, .int .i64 m.f, .int .i64 m.t, .int .i64 m.n, .int .i64 m.h, .slice p.ta p.tn p.tc, .int .i64 m.tr, .slice p.va p.vn p.vc, .slice p.la p.ln p.lc, .slice p.xa p.xn p.xc, .slice p.ya p.yn p.yc, .slice p.ka p.kn p.kc] 33)
  go_wp2_with fail
  refine (heldtree_v p.ta p.tn p.tc m.tr k _ (by omega) h1 (by omega) ((unhide HM).later (unhide B0).bel).t).mono ?_
  rintro e w1 ⟨rfl, b1⟩
  have B1 := hide ((unhide B0).later b1)
  clear b1 B0
  obtain ⟨c0, c1, c2, c3, c4, c5, c6, c7, c8, c9, ca, cb, -⟩ := msg_cells (unhide B1).blk
  have z1 := (unhide B1).lt
  go_wp2_with fail
  refine (heldints_v p.va p.vn p.vc (k + p.tn) _ (by omega) (by omega) (by omega) ((unhide HM).later (unhide B1).bel).v).mono ?_
  rintro e _ ⟨rfl, rfl⟩
  go_wp2_with fail
  refine (heldints_v p.la p.ln p.lc (k + p.tn + p.vn) _ (by omega) (by omega) (by omega) ((unhide HM).later (unhide B1).bel).l).mono ?_
  rintro e _ ⟨rfl, rfl⟩
  go_wp2_with fail
  refine (heldS_any p.xa p.xn p.xc p.ya p.yn p.yc (k + p.tn + p.vn + p.ln) (by omega) (by omega) _ (by omega) (by omega) ((unhide HM).later (unhide B1).bel).x ((unhide HM).later (unhide B1).bel).y).mono ?_
  rintro e w2 ⟨rfl, b2⟩
  have B2 := hide ((unhide B1).later b2)
  clear b2 B1 z1 c0 c1 c2 c3 c4 c5 c6 c7 c8 c9 ca cb
  obtain ⟨c0, c1, c2, c3, c4, c5, c6, c7, c8, c9, ca, cb, -⟩ := msg_cells (unhide B2).blk
  have z1 := (unhide B2).lt
  go_wp2_with fail
  refine (heldM_any p.ka p.kn p.kc (k + p.tn + p.vn + p.ln + 6 * p.xn + 2 * p.yn) (by omega) (by omega) _ (by omega) ((unhide HM).later (unhide B2).bel).k).mono ?_
  rintro e w3 ⟨rfl, b3⟩
  have B3 := hide ((unhide B2).later b3)
  clear b3 B2 z1 c0 c1 c2 c3 c4 c5 c6 c7 c8 c9 ca cb
  go_wp2
  go_ret
  exact ⟨rfl, (unhide B3).bel⟩
end Go.Proofs.YtjlocbimkfocnaaGreat

namespace Go.Proofs.YtjlocbimkfocnaaGreat
open Go.RowKit

theorem OwMg.trn2 {S : Nat → Prop} {B : Nat} {w W : World} {m : Mg} {p : Mp} (h : OwMg B w m p) (k : Trn S w W) (hs : ∀ i, MgB p i → ¬ S i) : OwMg B W m p :=
  ⟨k.own h.t (fun i e => hs i (.inl e)), k.own h.v (fun i e => hs i (.inr (.inl e))), k.own h.l (fun i e => hs i (.inr (.inr (.inl e)))), k.own h.x (fun i e => hs i (.inr (.inr (.inr (.inl e))))), k.own h.y (fun i e => hs i (.inr (.inr (.inr (.inr (.inl e)))))), k.own h.k (fun i e => hs i (.inr (.inr (.inr (.inr (.inr e)))))), h.tv, h.tl, h.vl⟩
theorem imsgof_v (v : Value) (xs : List Int) (n : Nat) (ok : Bool) (mm : Mg) (hn : Hid (xs.length = n)) (hok : Hid ((mof xs).isSome = ok)) (hmm : Hid (mofM xs = mm)) (w : World) (hlen : n ≤ 1048576) (hbd : ∀ z ∈ xs, 0 ≤ z ∧ z ≤ 255) (hv : Seg w v xs) :
    Calls Tryz.prog 9 #[v] w fun e w' => ∃ q, e = .returned (.tuple #[.agg #[.int .i64 mm.k, .int .i64 mm.f, .int .i64 mm.t, .int .i64 mm.n, .int .i64 mm.h, .slice q.ta q.tn q.tc, .int .i64 mm.tr, .slice q.va q.vn q.vc, .slice q.la q.ln q.lc, .slice q.xa q.xn q.xc, .slice q.ya q.yn q.yc, .slice q.ka q.kn q.kc], .bool ok]) ∧ SzM q 200 ∧ OwMg w.heap.size w' mm q ∧ Below w.heap.size w w' := by
  have hn := unhide hn
  refine (imsgof_any v xs w (by omega) hbd hv).mono ?_
  rintro e w1 ⟨m, p, hm, rfl, s, o, b⟩
  obtain rfl : m = mm := by rw [hm, unhide hmm]
  exact ⟨p, by rw [unhide hok], ⟨by have := s.t; omega, by have := s.v; omega, by have := s.l; omega, by have := s.x; omega, by have := s.y; omega, by have := s.k; omega⟩, o, b⟩
theorem smsgof_v (v : Value) (xs : List Int) (n : Nat) (ok : Bool) (mm : Mg) (hn : Hid (xs.length = n)) (hok : Hid ((mof xs).isSome = ok)) (hmm : Hid (mofM xs = mm)) (w : World) (hlen : n ≤ 1048576) (hbd : ∀ z ∈ xs, 0 ≤ z ∧ z ≤ 255) (hv : Seg w v xs) :
    Calls Tryz.prog 13 #[v] w fun e w' => ∃ q, e = .returned (.tuple #[.agg #[.int .i64 mm.k, .int .i64 mm.f, .int .i64 mm.t, .int .i64 mm.n, .int .i64 mm.h, .slice q.ta q.tn q.tc, .int .i64 mm.tr, .slice q.va q.vn q.vc, .slice q.la q.ln q.lc, .slice q.xa q.xn q.xc, .slice q.ya q.yn q.yc, .slice q.ka q.kn q.kc], .bool ok]) ∧ SzM q 200 ∧ OwMg w.heap.size w' mm q ∧ Below w.heap.size w w' := by
  have hn := unhide hn
  refine (smsgof_any v xs w (by omega) hbd hv).mono ?_
  rintro e w1 ⟨m, p, hm, rfl, s, o, b⟩
  obtain rfl : m = mm := by rw [hm, unhide hmm]
  exact ⟨p, by rw [unhide hok], s, o, b⟩
end Go.Proofs.YtjlocbimkfocnaaGreat
