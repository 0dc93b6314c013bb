/-
  spec.StateOf: the state of which these are the bytes. No statement is proved here.
-/
import Derived.Test.YtjlocbimkfocnaaMsC
import Derived.Test.YtjlocbimkfocnaaSGetText
import Derived.Test.YtjlocbimkfocnaaSStOk
import Derived.Test.YtjlocbimkfocnaaTrBS
import Derived.Test.YtjlocbimkfocnaaMsCv
import Derived.Test.YtjlocbimkfocnaaGrM
import Derived.Test.YtjlocbimkfocnaaStT
import Derived.Deep.RegionHeld3
import Derived.Deep.DeepCutAuto
import Derived.Deep.CutBlock
namespace Go.Proofs.Ytjlocbimkfocnaa
open Go.RowKit

abbrev StS (v1 v2 : Value) : Obj := .cells #[v1, v2] 27 (0, 0)
/-- While a state is read: the result's variable r, the cursor g, the state's variable b, and its rows behind b. -/
structure SO (w W : World) (r g b : Nat) (v : Value) (xs : List Int) (c : Int × Bool) (iv fv : Value) (its : List Itm) (fls : List Flr) : Prop where
  bel : Below w.heap.size w W
  sg : Seg w v xs
  hr : w.heap.size ≤ r
  hg : w.heap.size ≤ g
  hb : w.heap.size ≤ b
  rg : r ≠ g
  gb : g < b
  rb : r < b
  kr : W.heap[r]? = some (StS (.slice none 0 0) (.slice none 0 0))
  rd : Rd W g v xs c
  kb : W.heap[b]? = some (StS iv fv)
  oi : OwI (b + 1) W iv its
  of : OwF (b + 1) W fv fls
theorem res_cells {W : World} {r : Nat} {v1 v2 : Value} (h : W.heap[r]? = some (StS v1 v2)) : W.cell? ⟨r, 0, none⟩ = some v1 ∧ W.cell? ⟨r, 1, none⟩ = some v2 ∧ (∀ o, W.frozen? ⟨r, o, none⟩ = false) ∧ r < W.heap.size := by
  refine ⟨?_, ?_, ?_, (Array.getElem?_eq_some_iff.1 h).1⟩ <;> simp [World.cell?, World.frozen?, h]
theorem getT_bd {xs l : List Int} {p q : Int} (hbd : ∀ z ∈ xs, 0 ≤ z ∧ z ≤ 255) (h : getT xs p = some (l, q)) : 0 ≤ q ∧ q ≤ xs.length := by
  obtain ⟨n, r, h1, h2, -, h4⟩ := getT_some xs p q l h
  have := getN_bd xs p n r hbd h1
  omega
theorem rdIs_len {xs : List Int} {d : Int × Bool} : ∀ {k : Nat} {its : List Itm} {c : Int × Bool}, rdIs xs k d = some (its, c) → its.length = k
  | 0, its, c, h => by simp [rdIs] at h; rw [h.1]; rfl
  | k + 1, its, c, h => by
    rw [rdIs] at h
    split at h
    · cases h
    · rename_i l e he
      split at h
      · cases h
      · simp only [Option.some.injEq, Prod.mk.injEq] at h
        rw [← h.1, List.length_append, rdIs_len he]
        rfl
/-- Of what is not read there is no state. -/
theorem stof_no {xs : List Int} {m : Nat} {d : Int × Bool} (hmd : rdN xs (0, false) = ((m : Int), d)) {j : Nat} (h : rdIs xs j d = none) (hj : j ≤ m) : sof xs = none := by
  refine sof_none fun ys gs ho e => ?_
  obtain ⟨h1, h2, -⟩ := sb_reads ho e
  rw [hmd] at h1
  simp only [Prod.mk.injEq] at h1
  have hm : m = ys.length := by omega
  have := h2 j (by omega)
  rw [← h1.2, h] at this
  cases this
/-- What is told of a state's bytes where the first loop is left. -/
theorem stof_of {xs : List Int} {m k : Nat} {d c : Int × Bool} {its : List Itm} (hmd : rdN xs (0, false) = ((m : Int), d)) (hrd : rdIs xs k d = some (its, c)) (hk : k ≤ m) (hx : k < m → c.2 = true ∨ 100 < m) {ys : List Itm} {gs : List Flr} (ho : OkS ys gs) (e : sb ys gs = xs) : its = ys ∧ rdL xs 2 c = (flF gs, ((xs.length : Int), false)) ∧ m ≤ 100 := by
  obtain ⟨h1, h2, h3⟩ := sb_reads ho e
  rw [hmd] at h1
  simp only [Prod.mk.injEq] at h1
  have hm : m = ys.length := by omega
  have h5 := ho.len5.1
  have q := h2 k (by omega)
  rw [← h1.2, hrd] at q
  simp only [Option.some.injEq, Prod.mk.injEq] at q
  have hkm : k = m := by
    by_cases z : k < m
    · rcases hx z with z | z
      · rw [q.2] at z; cases z
      · omega
    · omega
  have e1 : ys.take k = ys := by rw [hkm, hm, List.take_length]
  rw [e1] at q
  exact ⟨q.1, by rw [q.2]; exact h3, by omega⟩
theorem rdN_nil (c : Int × Bool) : (rdN [] c).2.2 = true := by
  unfold rdN
  split
  · rfl
  · split
    · rename_i n q h
      have := getN_bd [] _ _ _ (by simp) h
      simp at this
      omega
    · rfl
theorem rdI_bad {xs : List Int} {c : Int × Bool} (h : c.2 = true) : ∀ i, (rdI xs i c).2.2 = true
  | 0 => h
  | i + 1 => by rw [rdI, if_pos (rdI_bad h i)]; exact rdI_bad h i
/-- Out of nothing no list is read. -/
theorem rdL_nil (t : Nat) (c : Int × Bool) : (rdL [] t c).2.2 = true := by
  unfold rdL
  split
  · rfl
  · exact rdI_bad (rdN_nil c) _
section
variable {w W X : World} {r g b : Nat} {v : Value} {xs : List Int} {c c' : Int × Bool} {iv fv : Value} {its : List Itm} {fls : List Flr}
theorem SO.later (h : SO w W r g b v xs c iv fv its fls) (bl : Below W.heap.size W X) : SO w X r g b v xs c iv fv its fls := by
  have h1 := (Array.getElem?_eq_some_iff.1 h.kr).1
  have h2 := (Array.getElem?_eq_some_iff.1 h.kb).1
  exact ⟨h.bel.trans (bl.mono h.bel.size), h.sg, h.hr, h.hg, h.hb, h.rg, h.gb, h.rb, (bl.block _ h1).trans h.kr, h.rd.later bl, (bl.block _ h2).trans h.kb, h.oi.later bl, h.of.later bl⟩
/-- The cursor has gone on. -/
theorem SO.num (h : SO w W r g b v xs c iv fv its fls) (rd : Rd X g v xs c') (hG : W.grownBy X (some g)) : SO w X r g b v xs c' iv fv its fls := by
  have h1 := (Array.getElem?_eq_some_iff.1 h.kr).1
  have h2 := (Array.getElem?_eq_some_iff.1 h.kb).1
  have hg := h.hg
  have hgb := h.gb
  exact ⟨h.bel.grown hG h.bel.size (fun k hk => by simp at hk; omega), h.sg, h.hr, h.hg, h.hb, h.rg, h.gb, h.rb, (hG.block _ h1 (fun e => h.rg (by simpa using e))).trans h.kr, rd, (hG.block _ h2 (fun e => by simp at e; omega)).trans h.kb, ow_far h.oi hG (by omega), ow_far h.of hG (by omega)⟩
/-- Another variable of this call is written. -/
theorem SO.far (h : SO w W r g b v xs c iv fv its fls) {q o : Nat} (hq : w.heap.size ≤ q) (q1 : q ≠ r) (q2 : q ≠ g) (q3 : q ≠ b) (hi : ∀ i, iv.ownBlock = some i → i ≠ q) (hf : ∀ i, fv.ownBlock = some i → i ≠ q) (z : Value) : SO w (W.setCell ⟨q, o, none⟩ z) r g b v xs c iv fv its fls := by
  have G := grown_set W q o z
  have B := h.bel.setCell (p := ⟨q, o, none⟩) hq z
  exact ⟨B, h.sg, h.hr, h.hg, h.hb, h.rg, h.gb, h.rb, (heap_setCell_other _ ⟨q, o, none⟩ _ _ (by show r ≠ q; omega)).trans h.kr,
    ⟨(heap_setCell_other _ ⟨q, o, none⟩ _ _ (by show g ≠ q; omega)).trans h.rd.blk, h.sg.below B (Nat.le_refl _), h.rd.ne, h.rd.lo, h.rd.hi⟩,
    (heap_setCell_other _ ⟨q, o, none⟩ _ _ (by show b ≠ q; omega)).trans h.kb, (Trn.of_grown G).own h.oi (fun i p e => hi i p (by cases e; rfl)), (Trn.of_grown G).own h.of (fun i p e => hf i p (by cases e; rfl))⟩
/-- An item is put behind the others. -/
theorem SO.item (h : SO w W r g b v xs c iv fv its fls) {iv' : Value} {its' : List Itm} (hO : OwI (b + 1) X iv' its') (hG : W.grownBy X iv.ownBlock) : SO w (X.setCell ⟨b, 0, none⟩ iv') r g b v xs c iv' fv its' fls := by
  have hlo : ∀ i, iv.ownBlock = some i → b + 1 ≤ i := fun i e => (World.ownsRow.lt h.oi i e).1
  have h1 := (Array.getElem?_eq_some_iff.1 h.kr).1
  have h2 := (Array.getElem?_eq_some_iff.1 h.kb).1
  have hb := h.hb; have hgb := h.gb; have hrb := h.rb
  have B := h.bel.grown hG h.bel.size (fun k hk => by have := hlo k hk; omega)
  have B2 := B.setCell (p := ⟨b, 0, none⟩) h.hb iv'
  have kb := (hG.block b h2 (fun e => by have := hlo b e.symm; omega)).trans h.kb
  refine ⟨B2, h.sg, h.hr, h.hg, h.hb, h.rg, h.gb, h.rb, (heap_setCell_other _ ⟨b, 0, none⟩ _ _ (by show r ≠ b; omega)).trans ((hG.block r h1 (fun e => by have := hlo r e.symm; omega)).trans h.kr),
    ⟨(heap_setCell_other _ ⟨b, 0, none⟩ _ _ (by show g ≠ b; omega)).trans ((hG.block g h.rd.lt (fun e => by have := hlo g e.symm; omega)).trans h.rd.blk), h.sg.below B2 (Nat.le_refl _), h.rd.ne, h.rd.lo, h.rd.hi⟩,
    heap_setCell_same _ b 0 _ _ _ kb, Ow.set hO ⟨b, 0, none⟩ (by show b < b + 1; omega) _, Ow.set (h.of.apartT h.oi.blkT (by decide) hG) ⟨b, 0, none⟩ (by show b < b + 1; omega) _⟩
/-- A floor is put behind the others. -/
theorem SO.floor (h : SO w W r g b v xs c iv fv its fls) {fv' : Value} {fls' : List Flr} (hO : OwF (b + 1) X fv' fls') (hG : W.grownBy X fv.ownBlock) : SO w (X.setCell ⟨b, 1, none⟩ fv') r g b v xs c iv fv' its fls' := by
  have hlo : ∀ i, fv.ownBlock = some i → b + 1 ≤ i := fun i e => (World.ownsRow.lt h.of i e).1
  have h1 := (Array.getElem?_eq_some_iff.1 h.kr).1
  have h2 := (Array.getElem?_eq_some_iff.1 h.kb).1
  have hb := h.hb; have hgb := h.gb; have hrb := h.rb
  have B := h.bel.grown hG h.bel.size (fun k hk => by have := hlo k hk; omega)
  have B2 := B.setCell (p := ⟨b, 1, none⟩) h.hb fv'
  have kb := (hG.block b h2 (fun e => by have := hlo b e.symm; omega)).trans h.kb
  refine ⟨B2, h.sg, h.hr, h.hg, h.hb, h.rg, h.gb, h.rb, (heap_setCell_other _ ⟨b, 1, none⟩ _ _ (by show r ≠ b; omega)).trans ((hG.block r h1 (fun e => by have := hlo r e.symm; omega)).trans h.kr),
    ⟨(heap_setCell_other _ ⟨b, 1, none⟩ _ _ (by show g ≠ b; omega)).trans ((hG.block g h.rd.lt (fun e => by have := hlo g e.symm; omega)).trans h.rd.blk), h.sg.below B2 (Nat.le_refl _), h.rd.ne, h.rd.lo, h.rd.hi⟩,
    heap_setCell_same _ b 1 _ _ _ kb, Ow.set (h.oi.apartT h.of.blkT (by decide) hG) ⟨b, 1, none⟩ (by show b < b + 1; omega) _, Ow.set hO ⟨b, 1, none⟩ (by show b < b + 1; omega) _⟩
theorem it_cells {W : World} {x : Nat} {T : TypeId} {v0 v1 v2 v3 v4 v5 : Value} (h : W.heap[x]? = some (.cells #[v0, v1, v2, v3, v4, v5] T (0, 0))) : W.cell? ⟨x, 0, none⟩ = some v0 ∧ W.cell? ⟨x, 1, none⟩ = some v1 ∧ W.cell? ⟨x, 2, none⟩ = some v2 ∧ W.cell? ⟨x, 3, none⟩ = some v3 ∧ W.cell? ⟨x, 4, none⟩ = some v4 ∧ W.cell? ⟨x, 5, none⟩ = some v5 ∧ ∀ o, W.frozen? ⟨x, o, none⟩ = false := by
  simp [World.cell?, World.frozen?, h]
theorem SO.cells (h : SO w W r g b v xs c iv fv its fls) : W.cell? ⟨b, 0, none⟩ = some iv ∧ W.cell? ⟨b, 1, none⟩ = some fv ∧ (∀ o, W.frozen? ⟨b, o, none⟩ = false) ∧ b < W.heap.size := by
  have h2 := (Array.getElem?_eq_some_iff.1 h.kb).1
  refine ⟨?_, ?_, ?_, h2⟩ <;> simp [World.cell?, World.frozen?, h.kb]
theorem kSO {a : Option Addr} {cap : Nat} {q : Int} {bb : Bool} {z : ByteArray} (hz : Hid (strOfNums xs = z)) (hne : xs ≠ []) (h : Hid (SO w W r g b (.slice a xs.length cap) xs (q, bb) iv fv its fls)) : W.cell? ⟨b, 0, none⟩ = some iv ∧ W.cell? ⟨b, 1, none⟩ = some fv ∧ W.cell? ⟨g, 2, none⟩ = some (.bool bb) ∧ (convert 22 9 (.slice a xs.length cap)).run Try.prog W = .ok (.string z) W := by
  obtain ⟨h0, h1, -, -⟩ := (unhide h).cells
  obtain ⟨-, -, g2, -⟩ := (unhide h).rd.cells
  exact ⟨h0, h1, g2, convS hz hne ((unhide h).sg.below (unhide h).bel (Nat.le_refl _))⟩
end
set_option maxHeartbeats 4000000 in
set_option maxRecDepth 100000 in
theorem sstateof_any (v : Value) (xs : List Int) (w : World) (hlen : xs.length ≤ 1048576) (hbd : ∀ z ∈ xs, 0 ≤ z ∧ z ≤ 255) (hv : Seg w v xs) :
    Calls Try.prog 12 #[v] w fun e w' => ∃ a1 n1 c1 a2 n2 c2, e = .returned (.tuple #[.agg #[.slice a1 n1 c1, .slice a2 n2 c2], .bool (sof xs).isSome]) ∧ OwI w.heap.size w' (.slice a1 n1 c1) (sofI xs) ∧ OwF w.heap.size w' (.slice a2 n2 c2) (sofF xs) ∧ Below w.heap.size w w' := by
  obtain ⟨i0, hi, hz0, hz1, hz2⟩ := info_parts Try.infoItem
  obtain ⟨i1, gi, gz0, gz1, gz2⟩ := info_parts Try.infoFloor
  have HD := hide hbd
  have HS := hide hv
  obtain ⟨a, cap, rfl, hcap, hr0⟩ := hv
  have HNE : Hid (xs = [] ∨ ∀ (x : Addr) n cc, Value.slice a xs.length cap = .slice (some x) n cc → x.block < w.heap.size) := hide (by
    rcases hr0 with h | ⟨bb, off, rfl, hlt, -⟩
    · exact .inl h
    · exact .inr (fun x n cc e => by simp only [Value.slice.injEq, Option.some.injEq] at e; rw [← e.1]; exact hlt))
  clear hbd hcap hr0
  obtain ⟨v, hvv⟩ : ∃ v, Hid (v = Value.slice a xs.length cap) := ⟨_, hide rfl⟩
  obtain ⟨wA, hwA⟩ : ∃ W, W = (((w.alloc (StS (.slice none 0 0) (.slice none 0 0))).alloc (.cells #[.slice a xs.length cap, .int .i64 0, .bool false] 80)).alloc (StS (.slice none 0 0) (.slice none 0 0))) := ⟨_, rfl⟩
  have bA : Below w.heap.size w wA := by rw [hwA]; exact (((Below.refl _ _).alloc (Nat.le_refl _) _).alloc (by simp) _).alloc (by simp; omega) _
  have S0 : Hid (SO w wA w.heap.size (w.heap.size + 1) (w.heap.size + 1 + 1) (.slice a xs.length cap) xs (0, false) (.slice none 0 0) (.slice none 0 0) [] []) := hide ⟨bA, unhide HS, Nat.le_refl _, by omega, by omega, by omega, by omega, by omega,
    by rw [hwA, Below.heap_alloc _ _ _ (by simp; omega), Below.heap_alloc _ _ _ (by simp)]; exact heap_alloc_new w _,
    ⟨by rw [hwA, Below.heap_alloc _ _ _ (by simp)]; have := heap_alloc_new (w.alloc (StS (.slice none 0 0) (.slice none 0 0))) (.cells #[.slice a xs.length cap, .int .i64 0, .bool false] 80); simpa using this,
     (unhide HS).below bA (Nat.le_refl _), (unhide HNE).imp id (fun h x n cc e => by have := h x n cc e; omega), by omega, by simp⟩,
    by rw [hwA]; have := heap_alloc_new ((w.alloc (StS (.slice none 0 0) (.slice none 0 0))).alloc (.cells #[.slice a xs.length cap, .int .i64 0, .bool false] 80)) (StS (.slice none 0 0) (.slice none 0 0)); simpa using this,
    World.ownsRow_nil _ _ _ _, World.ownsRow_nil _ _ _ _⟩
  clear bA
  go_enter Try.func12, Try.ntmps12
  go_wp2_with fail
  rw [← hwA]
  clear hwA
  obtain ⟨r, hr⟩ : ∃ r, r = w.heap.size := ⟨_, rfl⟩
  obtain ⟨g, hg⟩ : ∃ g, g = w.heap.size + 1 := ⟨_, rfl⟩
  obtain ⟨b, hb⟩ : ∃ b, b = w.heap.size + 1 + 1 := ⟨_, rfl⟩
  rw [← hb, ← hg, ← hr] at S0
  rw [← hb, ← hg, ← hr]
  clear hr hg hb
  obtain ⟨m, d, hmd⟩ : ∃ m d, rdN xs (0, false) = (m, d) := ⟨_, _, rfl⟩
  have hm0 := rdN_bd (c := (0, false)) (unhide HD)
  rw [hmd] at hm0
  simp only at hm0
  have HMD := hide hmd
  clear hmd
  refine (snum_any g _ xs (0, false) wA (by omega) (unhide HD) (unhide S0).rd).mono ?_
  rintro e w1 ⟨rfl, r1, g1⟩
  rw [unhide HMD] at r1
  rw [unhide HMD]
  simp only at r1
  have S1 := hide ((unhide S0).num r1 g1)
  clear r1 g1 S0
  obtain ⟨m, rfl⟩ := Int.eq_ofNat_of_zero_le hm0.1
  go_upto_block 0 with fail
  go_cut [3, 7, 8, 9, 10, 11] (fun _ _ _ _ _ _ wx => ∃ (k : Nat) (iv : Value) (its : List Itm) (c : Int × Bool), k ≤ m ∧ (k < m → c.2 = true ∨ 100 < m) ∧ rdIs xs k d = some (its, c) ∧ SO w wx r g b (.slice a xs.length cap) xs c iv (.slice none 0 0) its [])
  case first =>
    go_wp2_with fail
    go_loopw [7] (fun i wr => ∃ (k : Nat) (iv : Value) (its : List Itm) (c : Int × Bool), i = .int .i64 k ∧ k ≤ m ∧ (k = 0 ∨ m ≤ 100) ∧ rdIs xs k d = some (its, c) ∧ SO w wr r g b (.slice a xs.length cap) xs c iv (.slice none 0 0) its []) (fun i _ => m - (intOf i).toNat)
    case atStart => exact ⟨0, _, [], d, rfl, Nat.zero_le _, .inl rfl, rfl, unhide S1⟩
    case round =>
      obtain ⟨k, iv, its, c, rfl, hkm, hk0, hrd, hso⟩ := hrel
      clear S1
      have HRD := hide hrd
      have S2 := hide hso
      obtain ⟨-, -, q2, -⟩ := hso.rd.cells
      have hgl := hso.rd.lt
      obtain ⟨p, bd⟩ := c
      simp only at q2
      clear hrd hso
      by_cases hlt : k < m
      · cases bd
        · by_cases hm : m ≤ 100
          · skip
            obtain ⟨ia, ic, hiv⟩ := (unhide S2).oi.form
            obtain ⟨ni, hni⟩ : ∃ n, Hid (n = its.length) := ⟨_, hide rfl⟩
            rw [← unhide hni] at hiv
            subst hiv
            have hnk : ni ≤ k := by rw [unhide hni]; exact Nat.le_of_eq (rdIs_len (unhide HRD))
            have hI : ∀ i, (Value.slice ia ni ic).ownBlock = some i → i < wr.heap.size := fun i e => (World.ownsRow.lt (unhide S2).oi i e).2
            have hbw : b < wr.heap.size := (unhide S2).cells.2.2.2
            have hrw : r < wr.heap.size := (Array.getElem?_eq_some_iff.1 (unhide S2).kr).1
            have hww := (unhide S2).bel.size
            obtain ⟨ox, hox⟩ : ∃ o, o = wr.heap.size := ⟨_, rfl⟩
            obtain ⟨y0, hy0⟩ : ∃ W, W = wr.alloc (.cells #[.int .i64 0, .int .i64 0, .int .i64 0, .int .i64 0, .int .i64 0, .string ⟨#[]⟩] 64) := ⟨_, rfl⟩
            have by0 : Below wr.heap.size wr y0 := by rw [hy0]; exact (Below.refl _ _).alloc (Nat.le_refl _) _
            have T0 := hide ((unhide S2).later by0)
            have K0 : Hid (y0.heap[ox]? = some (.cells #[.int .i64 0, .int .i64 0, .int .i64 0, .int .i64 0, .int .i64 0, .string ⟨#[]⟩] 64 (0, 0))) := hide (by rw [hy0, hox]; exact heap_alloc_new _ _)
            have hIx : Hid (∀ i, (Value.slice ia ni ic).ownBlock = some i → i ≠ ox) := hide (fun i e => by have := hI i e; omega)
            have hxr : ox ≠ r := by omega
            have hxg : ox ≠ g := by omega
            have hxb : ox ≠ b := by omega
            have hxw : w.heap.size ≤ ox := by omega
            clear by0 S2
            go_wp2_with fail
            rw [← hy0, ← hox]
            clear hy0 q2 hox hI hbw hrw hww
            obtain ⟨n0, c0, hn0⟩ : ∃ n c, rdN xs (p, false) = (n, c) := ⟨_, _, rfl⟩
            have HN0 := hide hn0
            clear hn0
            refine (snum_any g _ xs (p, false) y0 (by omega) (unhide HD) (unhide T0).rd).mono ?_
            rintro e z0 ⟨rfl, r1, g1⟩
            rw [unhide HN0] at r1
            rw [unhide HN0]
            simp only at r1
            have M0 := hide ((unhide T0).num r1 g1)
            have L0 := hide ((g1.block ox (Array.getElem?_eq_some_iff.1 (unhide K0)).1 (by simp; exact hxg)).trans (unhide K0))
            clear r1 g1 T0 K0
            obtain ⟨x0, x1, x2, x3, x4, x5, xf⟩ := it_cells (unhide L0)
            obtain ⟨y1, hY⟩ : ∃ W, W = z0.setCell ⟨ox, 0, none⟩ (.int .i64 n0) := ⟨_, rfl⟩
            have T1 := hide (show SO w y1 r g b (.slice a xs.length cap) xs c0 (.slice ia ni ic) (.slice none 0 0) its [] from by rw [hY]; exact (unhide M0).far hxw hxr hxg hxb (unhide hIx) (fun i e => by cases e) _)
            have K1 : Hid (y1.heap[ox]? = some (.cells #[.int .i64 n0, .int .i64 0, .int .i64 0, .int .i64 0, .int .i64 0, .string ⟨#[]⟩] 64 (0, 0))) := hide (by rw [hY]; exact heap_setCell_same _ ox 0 _ _ _ (unhide L0))
            go_wp2_with fail
            rw [← hY]
            clear hY x0 x1 x2 x3 x4 x5 xf M0 L0
            obtain ⟨n1, c1, hn1⟩ : ∃ n c, rdN xs c0 = (n, c) := ⟨_, _, rfl⟩
            have HN1 := hide hn1
            clear hn1
            refine (snum_any g _ xs c0 y1 (by omega) (unhide HD) (unhide T1).rd).mono ?_
            rintro e z1 ⟨rfl, r1, g1⟩
            rw [unhide HN1] at r1
            rw [unhide HN1]
            simp only at r1
            have M1 := hide ((unhide T1).num r1 g1)
            have L1 := hide ((g1.block ox (Array.getElem?_eq_some_iff.1 (unhide K1)).1 (by simp; exact hxg)).trans (unhide K1))
            clear r1 g1 T1 K1
            obtain ⟨x0, x1, x2, x3, x4, x5, xf⟩ := it_cells (unhide L1)
            obtain ⟨y2, hY⟩ : ∃ W, W = z1.setCell ⟨ox, 1, none⟩ (.int .i64 n1) := ⟨_, rfl⟩
            have T2 := hide (show SO w y2 r g b (.slice a xs.length cap) xs c1 (.slice ia ni ic) (.slice none 0 0) its [] from by rw [hY]; exact (unhide M1).far hxw hxr hxg hxb (unhide hIx) (fun i e => by cases e) _)
            have K2 : Hid (y2.heap[ox]? = some (.cells #[.int .i64 n0, .int .i64 n1, .int .i64 0, .int .i64 0, .int .i64 0, .string ⟨#[]⟩] 64 (0, 0))) := hide (by rw [hY]; exact heap_setCell_same _ ox 1 _ _ _ (unhide L1))
            go_wp2_with fail
            rw [← hY]
            clear hY x0 x1 x2 x3 x4 x5 xf M1 L1
            obtain ⟨n2, c2, hn2⟩ : ∃ n c, rdN xs c1 = (n, c) := ⟨_, _, rfl⟩
            have HN2 := hide hn2
            clear hn2
            refine (snum_any g _ xs c1 y2 (by omega) (unhide HD) (unhide T2).rd).mono ?_
            rintro e z2 ⟨rfl, r1, g1⟩
            rw [unhide HN2] at r1
            rw [unhide HN2]
            simp only at r1
            have M2 := hide ((unhide T2).num r1 g1)
            have L2 := hide ((g1.block ox (Array.getElem?_eq_some_iff.1 (unhide K2)).1 (by simp; exact hxg)).trans (unhide K2))
            clear r1 g1 T2 K2
            obtain ⟨x0, x1, x2, x3, x4, x5, xf⟩ := it_cells (unhide L2)
            obtain ⟨y3, hY⟩ : ∃ W, W = z2.setCell ⟨ox, 2, none⟩ (.int .i64 n2) := ⟨_, rfl⟩
            have T3 := hide (show SO w y3 r g b (.slice a xs.length cap) xs c2 (.slice ia ni ic) (.slice none 0 0) its [] from by rw [hY]; exact (unhide M2).far hxw hxr hxg hxb (unhide hIx) (fun i e => by cases e) _)
            have K3 : Hid (y3.heap[ox]? = some (.cells #[.int .i64 n0, .int .i64 n1, .int .i64 n2, .int .i64 0, .int .i64 0, .string ⟨#[]⟩] 64 (0, 0))) := hide (by rw [hY]; exact heap_setCell_same _ ox 2 _ _ _ (unhide L2))
            go_wp2_with fail
            rw [← hY]
            clear hY x0 x1 x2 x3 x4 x5 xf M2 L2
            obtain ⟨n3, c3, hn3⟩ : ∃ n c, rdN xs c2 = (n, c) := ⟨_, _, rfl⟩
            have HN3 := hide hn3
            clear hn3
            refine (snum_any g _ xs c2 y3 (by omega) (unhide HD) (unhide T3).rd).mono ?_
            rintro e z3 ⟨rfl, r1, g1⟩
            rw [unhide HN3] at r1
            rw [unhide HN3]
            simp only at r1
            have M3 := hide ((unhide T3).num r1 g1)
            have L3 := hide ((g1.block ox (Array.getElem?_eq_some_iff.1 (unhide K3)).1 (by simp; exact hxg)).trans (unhide K3))
            clear r1 g1 T3 K3
            obtain ⟨x0, x1, x2, x3, x4, x5, xf⟩ := it_cells (unhide L3)
            obtain ⟨y4, hY⟩ : ∃ W, W = z3.setCell ⟨ox, 3, none⟩ (.int .i64 n3) := ⟨_, rfl⟩
            have T4 := hide (show SO w y4 r g b (.slice a xs.length cap) xs c3 (.slice ia ni ic) (.slice none 0 0) its [] from by rw [hY]; exact (unhide M3).far hxw hxr hxg hxb (unhide hIx) (fun i e => by cases e) _)
            have K4 : Hid (y4.heap[ox]? = some (.cells #[.int .i64 n0, .int .i64 n1, .int .i64 n2, .int .i64 n3, .int .i64 0, .string ⟨#[]⟩] 64 (0, 0))) := hide (by rw [hY]; exact heap_setCell_same _ ox 3 _ _ _ (unhide L3))
            go_wp2_with fail
            rw [← hY]
            clear hY x0 x1 x2 x3 x4 x5 xf M3 L3
            obtain ⟨n4, c4, hn4⟩ : ∃ n c, rdN xs c3 = (n, c) := ⟨_, _, rfl⟩
            have HN4 := hide hn4
            clear hn4
            refine (snum_any g _ xs c3 y4 (by omega) (unhide HD) (unhide T4).rd).mono ?_
            rintro e z4 ⟨rfl, r1, g1⟩
            rw [unhide HN4] at r1
            rw [unhide HN4]
            simp only at r1
            have M4 := hide ((unhide T4).num r1 g1)
            have L4 := hide ((g1.block ox (Array.getElem?_eq_some_iff.1 (unhide K4)).1 (by simp; exact hxg)).trans (unhide K4))
            clear r1 g1 T4 K4
            obtain ⟨x0, x1, x2, x3, x4, x5, xf⟩ := it_cells (unhide L4)
            obtain ⟨y5, hY⟩ : ∃ W, W = z4.setCell ⟨ox, 4, none⟩ (.int .i64 n4) := ⟨_, rfl⟩
            have T5 := hide (show SO w y5 r g b (.slice a xs.length cap) xs c4 (.slice ia ni ic) (.slice none 0 0) its [] from by rw [hY]; exact (unhide M4).far hxw hxr hxg hxb (unhide hIx) (fun i e => by cases e) _)
            have K5 : Hid (y5.heap[ox]? = some (.cells #[.int .i64 n0, .int .i64 n1, .int .i64 n2, .int .i64 n3, .int .i64 n4, .string ⟨#[]⟩] 64 (0, 0))) := hide (by rw [hY]; exact heap_setCell_same _ ox 4 _ _ _ (unhide L4))
            obtain ⟨pt, bt⟩ := c4
            obtain ⟨-, q1, q2, -⟩ := (unhide T5).rd.cells
            have hpt := (unhide T5).rd.hi
            simp only at q1 q2 hpt
            rw [hY] at q1 q2
            obtain ⟨gx, hgx⟩ : ∃ gx, getT xs pt = gx := ⟨_, rfl⟩
            have HGT := hide hgx
            clear hgx
            go_wp2_with fail
            rw [← hY]
            rw [← hY] at q1 q2
            clear hY x0 x1 x2 x3 x4 x5 xf M4 L4
            refine (sgettext_any _ xs pt y5 (by omega) (unhide HD) ((unhide T5).rd.seg) (by omega)).mono ?_
            rintro e _ ⟨rfl, rfl⟩
            rw [unhide HGT]
            have HT : Hid (rdT xs (p, false) = if bt = true then none else match gx with
                | none => none
                | some (l, q) => some ((n0, (n1, n2, n3, n4, strOfNums l)), (q, false))) := hide (by
              unfold rdT
              rw [unhide HN0]; simp only
              rw [unhide HN1]; simp only
              rw [unhide HN2]; simp only
              rw [unhide HN3]; simp only
              rw [unhide HN4]; simp only
              rw [unhide HGT]
              cases bt <;> rcases gx with _ | ⟨l, q⟩ <;> rfl)
            clear HN0 HN1 HN2 HN3 HN4 c0 c1 c2 c3
            have NOW : Hid (rdT xs (p, false) = none → sof xs = none) := hide (fun e => stof_no (unhide HMD) (j := k + 1) (by rw [rdIs, unhide HRD]; simp only; rw [e]) (by omega))
            obtain ⟨r0, r1, rf, rl⟩ := res_cells (unhide T5).kr
            have BW := hide (((unhide T5).bel.setCell (p := ⟨r, 0, none⟩) (unhide T5).hr (.slice none 0 0)).setCell (p := ⟨r, 1, none⟩) (unhide T5).hr (.slice none 0 0))
            rcases gx with _ | ⟨l, q⟩
            · have hno := hide (unhide NOW (by rw [unhide HT]; simp))
              simp only [tres]
              cases bt
              · go_wp2_with fail
                exact bodyPost_ret (v := .tuple #[.agg #[.slice none 0 0, .slice none 0 0], .bool false]) (by simp [results, Try.results12, go_sem, r0, r1]) rfl ⟨_, _, _, _, _, _, by rw [unhide hno]; rfl, by rw [sofI, unhide hno]; exact World.ownsRow_nil _ _ _ _, by rw [sofF, unhide hno]; exact World.ownsRow_nil _ _ _ _, unhide BW⟩
              · go_wp2_with fail
                exact bodyPost_ret (v := .tuple #[.agg #[.slice none 0 0, .slice none 0 0], .bool false]) (by simp [results, Try.results12, go_sem, r0, r1]) rfl ⟨_, _, _, _, _, _, by rw [unhide hno]; rfl, by rw [sofI, unhide hno]; exact World.ownsRow_nil _ _ _ _, by rw [sofF, unhide hno]; exact World.ownsRow_nil _ _ _ _, unhide BW⟩
            · simp only [tres]
              cases bt
              rotate_left
              · have hno := hide (unhide NOW (by rw [unhide HT]; simp))
                go_wp2_with fail
                exact bodyPost_ret (v := .tuple #[.agg #[.slice none 0 0, .slice none 0 0], .bool false]) (by simp [results, Try.results12, go_sem, r0, r1]) rfl ⟨_, _, _, _, _, _, by rw [unhide hno]; rfl, by rw [sofI, unhide hno]; exact World.ownsRow_nil _ _ _ _, by rw [sofF, unhide hno]; exact World.ownsRow_nil _ _ _ _, unhide BW⟩
              · clear NOW BW r0 r1 rf rl
                have HX : Hid (rdIs xs (k + 1) d = some (its ++ [(n0, (n1, n2, n3, n4, strOfNums l))], (q, false))) := hide (by rw [rdIs, unhide HRD]; simp only; rw [unhide HT]; rfl)
                obtain ⟨hq0, hq1⟩ := getT_bd (unhide HD) (unhide HGT)
                obtain ⟨x0, x1, x2, x3, x4, x5, xf⟩ := it_cells (unhide K5)
                obtain ⟨y6, hY6⟩ : ∃ W, W = y5.setCell ⟨ox, 5, none⟩ (.string (strOfNums l)) := ⟨_, rfl⟩
                have T6 := hide (show SO w y6 r g b (.slice a xs.length cap) xs (pt, false) (.slice ia ni ic) (.slice none 0 0) its [] from by rw [hY6]; exact (unhide T5).far hxw hxr hxg hxb (unhide hIx) (fun i e => by cases e) _)
                have K6 : Hid (y6.heap[ox]? = some (.cells #[.int .i64 n0, .int .i64 n1, .int .i64 n2, .int .i64 n3, .int .i64 n4, .string (strOfNums l)] 64 (0, 0))) := hide (by rw [hY6]; exact heap_setCell_same _ ox 5 _ _ _ (unhide K5))
                obtain ⟨y7, hY7⟩ : ∃ W, W = y6.setCell ⟨g, 1, none⟩ (.int .i64 q) := ⟨_, rfl⟩
                have A7 := hide ((unhide T6).rd.at hq0 hq1)
                have T7 := hide (show SO w y7 r g b (.slice a xs.length cap) xs (q, false) (.slice ia ni ic) (.slice none 0 0) its [] from by rw [hY7]; exact (unhide T6).num (unhide A7).1 (unhide A7).2)
                have K7 : Hid (y7.heap[ox]? = some (.cells #[.int .i64 n0, .int .i64 n1, .int .i64 n2, .int .i64 n3, .int .i64 n4, .string (strOfNums l)] 64 (0, 0))) := hide (by rw [hY7]; exact (heap_setCell_other _ ⟨g, 1, none⟩ _ _ (by show ox ≠ g; exact hxg)).trans (unhide K6))
                have g6 := (unhide T6).rd.cells
                rw [hY6] at g6
                obtain ⟨-, g61, g62, g6f⟩ := g6
                obtain ⟨b70, b71, b7f, b7l⟩ := (unhide T7).cells
                obtain ⟨x70, x71, x72, x73, x74, x75, x7f⟩ := it_cells (unhide K7)
                simp only at g61 g62
                go_upto_region 18 with fail
                rw [← hY6, ← hY7]
                clear hY6 hY7 g61 g62 g6f x0 x1 x2 x3 x4 x5 xf q1 q2 T6 K6 A7 T5 K5
                have hOI := hide (unhide T7).oi
                have b8w : Hid (∀ (X : World), y7.grownBy X (Value.slice ia ni ic).ownBlock → X.cell? ⟨b, 0, none⟩ = some (.slice ia ni ic) ∧ X.frozen? ⟨b, 0, none⟩ = false) := hide (fun X hG => by
                  have e := hG.block b b7l (fun e => by have := (World.ownsRow.lt (unhide T7).oi b e.symm).1; omega)
                  have k := e.trans (unhide T7).kb
                  exact ⟨(res_cells k).1, (res_cells k).2.2.1 0⟩)
                go_wp2_with (first | (at_builtin; refine wpList_app1 encI_len (by omega) oneI 64 24 i0 _ 56 Try.underlying24 hi hz0 hz1 hz2 rfl (by omega) y7 (n0, (n1, n2, n3, n4, strOfNums l)) rfl _ _ rfl (b + 1) _ its ni hni rfl (unhide hOI) rfl (by omega) b7l ?_; intro a8 c8 w8 hO hG; have T8 := hide ((unhide T7).item hO hG); obtain ⟨b80, b8f⟩ := unhide b8w _ hG; clear hO hG))
                go_roundw
                case rel => exact ⟨k + 1, .slice a8 (ni + 1) c8, its ++ [(n0, (n1, n2, n3, n4, strOfNums l))], (q, false), by go_num, by omega, .inr hm, unhide HX, unhide T8⟩
                case measure => simp [intOf]; omega
          · have hdm : decide ((m : Int) ≤ 100) = false := by simp; omega
            go_wp2_with fail
            go_meet
            exact ⟨k, iv, its, (p, false), hkm, fun _ => .inr (by omega), unhide HRD, unhide S2⟩
        · go_wp2_with fail
          go_meet
          exact ⟨k, iv, its, (p, true), hkm, fun _ => .inl rfl, unhide HRD, unhide S2⟩
      · have hdk : decide ((k : Int) < m) = false := by simp; omega
        go_wp2_with fail
        go_meet
        exact ⟨k, iv, its, (p, bd), hkm, fun h => absurd h hlt, unhide HRD, unhide S2⟩
  case rest =>
    obtain ⟨k, iv, its, ⟨p, bd⟩, hkm, hx0, hrd, hso⟩ := hcut
    have hx := hide hx0
    have HRD := hide hrd
    have S2 := hide hso
    clear S1 hx0 hrd hso
    obtain ⟨ia, ic, hiv⟩ := (unhide S2).oi.form
    obtain ⟨ni, hni⟩ : ∃ n, Hid (n = its.length) := ⟨_, hide rfl⟩
    rw [← unhide hni] at hiv
    subst hiv
    have hnk : ni ≤ k := by rw [unhide hni]; exact Nat.le_of_eq (rdIs_len (unhide HRD))
    have hbw : b < wc.heap.size := (unhide S2).cells.2.2.2
    go_wp2_with fail
    obtain ⟨ns, c9, hnc⟩ : ∃ ns c9, rdL xs 2 (p, bd) = (ns, c9) := ⟨_, _, rfl⟩
    have HNC := hide hnc
    clear hnc
    refine (smany2_any g _ xs (p, bd) wc (by omega) (unhide HD) (unhide S2).rd).mono ?_
    rintro e u1 ⟨fa, fn, fc, rfl, hfn, of1, rd1, g1⟩
    rw [unhide HNC] at of1 rd1
    simp only at of1 rd1
    have S3 := hide ((unhide S2).num rd1 g1)
    have ON := hide (Ow.base of1 (show b + 1 ≤ wc.heap.size by omega))
    have HFN := hide (of1.rw encN_len).len.1
    clear of1 rd1 g1 S2 hbw
    go_wp2
    go_loopw [13] (fun i wr => ∃ (i0 j : Nat) (fv : Value), i = .int .i64 (i0 : Int) ∧ i0 = 2 * j ∧ j ≤ (prF2 ns).length ∧ SO w wr r g b (.slice a xs.length cap) xs c9 (.slice ia ni ic) fv its ((prF2 ns).take j) ∧ OwN (b + 1) wr (.slice fa fn fc) ns) (fun i _ => fn - (intOf i).toNat)
    case atStart => exact ⟨0, 0, _, rfl, rfl, Nat.zero_le _, unhide S3, unhide ON⟩
    case round =>
      obtain ⟨i0, j, fv, rfl, hij, hj, hso, hon⟩ := hrel
      clear S3 ON
      have S4 := hide hso
      have O4 := hide hon
      have HIJ := hide hij
      have hpl := prF2_len ns
      rw [← unhide HFN] at hpl
      clear hso hon
      obtain ⟨va, vc, hva⟩ := (unhide S4).of.form
      obtain ⟨nf, hnf⟩ : ∃ n, Hid (n = ((prF2 ns).take j).length) := ⟨_, hide rfl⟩
      rw [← unhide hnf] at hva
      subst hva
      have hnj : nf ≤ 200 := by rw [unhide hnf]; simp; omega
      obtain ⟨b40, b41, b4f, b4l⟩ := (unhide S4).cells
      by_cases hl2 : i0 + 1 < fn
      · have hd : decide ((i0 : Int) + 1 < (fn : Int)) = true := by simp; omega
        have hlt0 : i0 < fn := by omega
        have hb0 : (0 : Int) ≤ (i0 : Int) + 1 := by omega
        have hb1 : (i0 : Int) + 1 < (fn : Int) := by omega
        have hw1 : IntKind.i64.wrap ((i0 : Int) + 1) = ((i0 + 1 : Nat) : Int) := by rw [IntKind.wrap_i64] <;> omega
        obtain ⟨x, xb, xo, hx1, hfa, hxb, hxc, cx⟩ := ((unhide O4).rw encN_len).atN (i := i0) (by omega)
        obtain ⟨y, yb, yo, hy1, hfa2, hyb, hyc, cy⟩ := ((unhide O4).rw encN_len).atN (i := i0 + 1) (by omega)
        subst hfa
        simp only [Option.some.injEq, Addr.mk.injEq] at hfa2
        obtain ⟨rfl, rfl, -⟩ := hfa2
        have HT1 : Hid ((prF2 ns).take (j + 1) = (prF2 ns).take j ++ [(x, y)]) := hide (by
          rw [hij] at hx1 hy1
          rw [List.take_add_one, prF2_at hx1 hy1]; rfl)
        have hj1 : j + 1 ≤ (prF2 ns).length := by omega
        have b8w : Hid (∀ (X : World), wr.grownBy X (Value.slice va nf vc).ownBlock → X.cell? ⟨b, 1, none⟩ = some (.slice va nf vc) ∧ X.frozen? ⟨b, 1, none⟩ = false ∧ OwN (b + 1) X (.slice (some ⟨xb, xo, none⟩) fn fc) ns) := hide (fun X hG => by
          have e := hG.block b b4l (fun e => by have := (World.ownsRow.lt (unhide S4).of b e.symm).1; omega)
          have k := e.trans (unhide S4).kb
          exact ⟨(res_cells k).2.1, (res_cells k).2.2.1 1, (unhide O4).apartT (unhide S4).of.blkT (by decide) hG⟩)
        have hOF := hide (unhide S4).of
        clear hx1 hy1 hij hpl hj
        have SD := hide ((unhide S4).later (Below.refl _ _).drew)
        have b8d : Hid (∀ (X : World), wr.drew.grownBy X (Value.slice va nf vc).ownBlock → X.cell? ⟨b, 1, none⟩ = some (.slice va nf vc) ∧ X.frozen? ⟨b, 1, none⟩ = false ∧ OwN (b + 1) X (.slice (some ⟨xb, xo, none⟩) fn fc) ns) := hide (fun X hG => unhide b8w X ⟨hG.os, hG.tape, hG.output, hG.size, hG.block⟩)
        have hOD := hide (unhide SD).of
        clear b8w hOF
        go_wp2_with fail
        go_region_law (first
          | (refine step_app1 encF_len (by omega) oneF 67 25 i1 _ 16 Try.underlying25 gi gz0 gz1 gz2 rfl (by omega) wr.drew (x, y) rfl _ _ rfl (b + 1) _ _ nf hnf rfl (unhide hOD) rfl (by omega) b4l ?_; intro a8 c8 w8 hO hG; have T8 := hide ((unhide SD).floor hO hG); obtain ⟨b80, b8f, o8⟩ := unhide b8d _ hG; have O8 := hide o8; clear hO hG o8))
        all_goals
          go_wp2
          go_roundw
          case rel => exact ⟨i0 + 2, j + 1, .slice a8 (nf + 1) c8, by go_num, by have := unhide HIJ; omega, hj1, by rw [unhide HT1]; exact unhide T8, Ow.set (unhide O8) ⟨b, 1, none⟩ (by show b < b + 1; omega) _⟩
          case measure => simp [intOf]; omega
      · have hd : decide ((i0 : Int) + 1 < (fn : Int)) = false := by simp; omega
        have hb2 : ¬ ((i0 : Int) + 1 < (fn : Int)) := by omega
        have hb3 : i0 ≤ 200 := by omega
        have hw1 : IntKind.i64.wrap ((i0 : Int) + 1) = ((i0 + 1 : Nat) : Int) := by rw [IntKind.wrap_i64] <;> omega
        have hjl : j = (prF2 ns).length := by omega
        have S5 := hide (show SO w wr r g b (.slice a xs.length cap) xs c9 (.slice ia ni ic) (.slice va nf vc) its (prF2 ns) from by have q := unhide S4; rw [hjl, List.take_length] at q; exact q)
        clear S4 O4 hjl hpl hij HIJ hj
        go_wp2_with fail
        obtain ⟨p9, b9⟩ := c9
        obtain ⟨b50, b51, b5f, b5l⟩ := (unhide S5).cells
        obtain ⟨-, -, g52, -⟩ := (unhide S5).rd.cells
        have g5l := (unhide S5).rd.lt
        simp only at g52
        have lb0 := later_some (w := wr) b5l b50
        have lb1 := later_some (w := wr) b5l b51
        have lg2 := later_some (w := wr) g5l g52
        have NO : Hid (∀ ys gs, OkS ys gs → sb ys gs = xs → b9 = false ∧ m ≤ 100 ∧ its = ys ∧ prF2 ns = gs) := hide (fun ys gs ho e => by
          obtain ⟨h1, h2, h3⟩ := stof_of (unhide HMD) (unhide HRD) hkm (unhide hx) ho e
          rw [unhide HNC] at h2
          simp only [Prod.mk.injEq] at h2
          exact ⟨h2.2.2, h3, h1, by rw [h2.1]; exact prF2_fl gs⟩)
        obtain ⟨ok, hok⟩ : ∃ ok, okS its (prF2 ns) = ok := ⟨_, rfl⟩
        have HOK := hide hok
        clear hok
        clear b40 b41 b4f b4l b50 b51 b5f g52
        cases b9
        rotate_left
        · have hno := hide (sof_none (b := xs) fun ys gs ho e => by have := (unhide NO ys gs ho e).1; cases this)
          refine wp_region_later (by kernel_rfl) (by kernel_rfl) ?_
          repeat (go_big_quiet_step (first
            | (go_at_call 9; exact Calls.later_of (sstateok_any ia ni ic its va nf vc (prF2 ns) false HOK _ (by omega) (by omega) (((unhide S5).oi.rw encI_len).in_later _ _) (((unhide S5).of.rw encF_len).in_later _ _)))))
          refine wpQuiet_nil ?_
          intro w9 h9
          have S9 := hide ((unhide S5).later h9)
          clear h9 lb0 lb1 lg2
          obtain ⟨r0, r1, rf, rl⟩ := res_cells (unhide S9).kr
          have BW := hide (((unhide S9).bel.setCell (p := ⟨r, 0, none⟩) (unhide S9).hr (.slice none 0 0)).setCell (p := ⟨r, 1, none⟩) (unhide S9).hr (.slice none 0 0))
          go_wp2_with fail
          exact bodyPost_ret (v := .tuple #[.agg #[.slice none 0 0, .slice none 0 0], .bool false]) (by simp [results, Try.results12, go_sem, r0, r1]) rfl ⟨_, _, _, _, _, _, by rw [unhide hno]; rfl, by rw [sofI, unhide hno]; exact World.ownsRow_nil _ _ _ _, by rw [sofF, unhide hno]; exact World.ownsRow_nil _ _ _ _, unhide BW⟩
        · by_cases hm : m ≤ 100
          rotate_left
          · have hd6 : decide ((100 : Int) < m) = true := by simp; omega
            have hno := hide (sof_none fun ys gs ho e => by have := (unhide NO ys gs ho e).2.1; omega)
            refine wp_region_later (by kernel_rfl) (by kernel_rfl) ?_
            repeat (go_big_quiet_step (first
              | (go_at_call 9; exact Calls.later_of (sstateok_any ia ni ic its va nf vc (prF2 ns) false HOK _ (by omega) (by omega) (((unhide S5).oi.rw encI_len).in_later _ _) (((unhide S5).of.rw encF_len).in_later _ _)))))
            refine wpQuiet_nil ?_
            intro w9 h9
            have S9 := hide ((unhide S5).later h9)
            clear h9 lb0 lb1 lg2
            obtain ⟨r0, r1, rf, rl⟩ := res_cells (unhide S9).kr
            have BW := hide (((unhide S9).bel.setCell (p := ⟨r, 0, none⟩) (unhide S9).hr (.slice none 0 0)).setCell (p := ⟨r, 1, none⟩) (unhide S9).hr (.slice none 0 0))
            go_wp2_with fail
            exact bodyPost_ret (v := .tuple #[.agg #[.slice none 0 0, .slice none 0 0], .bool false]) (by simp [results, Try.results12, go_sem, r0, r1]) rfl ⟨_, _, _, _, _, _, by rw [unhide hno]; rfl, by rw [sofI, unhide hno]; exact World.ownsRow_nil _ _ _ _, by rw [sofF, unhide hno]; exact World.ownsRow_nil _ _ _ _, unhide BW⟩
          · have hd6 : decide ((100 : Int) < m) = false := by simp; omega
            cases ok
            · have hno := hide (sof_none fun ys gs ho e => by have q := unhide NO ys gs ho e; have h := unhide HOK; rw [q.2.2.1, q.2.2.2, (okS_iff _ _).2 ho] at h; cases h)
              refine wp_region_later (by kernel_rfl) (by kernel_rfl) ?_
              repeat (go_big_quiet_step (first
                | (go_at_call 9; exact Calls.later_of (sstateok_any ia ni ic its va nf vc (prF2 ns) false HOK _ (by omega) (by omega) (((unhide S5).oi.rw encI_len).in_later _ _) (((unhide S5).of.rw encF_len).in_later _ _)))))
              refine wpQuiet_nil ?_
              intro w9 h9
              have S9 := hide ((unhide S5).later h9)
              clear h9 lb0 lb1 lg2
              obtain ⟨r0, r1, rf, rl⟩ := res_cells (unhide S9).kr
              have BW := hide (((unhide S9).bel.setCell (p := ⟨r, 0, none⟩) (unhide S9).hr (.slice none 0 0)).setCell (p := ⟨r, 1, none⟩) (unhide S9).hr (.slice none 0 0))
              go_wp2_with fail
              exact bodyPost_ret (v := .tuple #[.agg #[.slice none 0 0, .slice none 0 0], .bool false]) (by simp [results, Try.results12, go_sem, r0, r1]) rfl ⟨_, _, _, _, _, _, by rw [unhide hno]; rfl, by rw [sofI, unhide hno]; exact World.ownsRow_nil _ _ _ _, by rw [sofF, unhide hno]; exact World.ownsRow_nil _ _ _ _, unhide BW⟩
            · have HA := hide ((okS_iff _ _).1 (unhide HOK))
              have hxne : xs ≠ [] := fun e => by have q := rdL_nil 2 (p, bd); rw [← e, unhide HNC] at q; cases q
              obtain ⟨y, hy⟩ : ∃ y, Hid (strOfNums (sb its (prF2 ns)) = y) := ⟨_, hide rfl⟩
              obtain ⟨z, hz⟩ : ∃ z, Hid (strOfNums xs = z) := ⟨_, hide rfl⟩
              obtain ⟨q, hq⟩ : ∃ q, q = (y.toList == z.toList) := ⟨_, rfl⟩
              have HQ : Hid (q = true → sb its (prF2 ns) = xs) := hide (fun e => by
                rw [hq, ← unhide hy, ← unhide hz, str_eq _ _ (fun c hc => sb_bytes _ _ c hc), bl_str _ (unhide HD)] at e
                exact of_decide_eq_true e)
              have HQ2 : Hid (sb its (prF2 ns) = xs → q = true) := hide (fun e => by
                rw [hq, ← unhide hy, ← unhide hz, e]; simp)
              have SD := hide ((unhide S5).later (Below.refl _ _).drew)
              clear lb0 lb1 lg2
              obtain ⟨b50, b51, g52, cv5⟩ := kSO hz hxne S5
              obtain ⟨d50, d51, d52, dv5⟩ := kSO hz hxne SD
              go_region_law (first
                | (go_simp; go_at_call 9; refine (sstateok_any ia ni ic its va nf vc (prF2 ns) true HOK _ (by omega) (by omega) ((unhide SD).oi.rw encI_len) ((unhide SD).of.rw encF_len)).mono ?_; rintro e w8 ⟨rfl, b8⟩; have S8 := hide ((unhide SD).later b8); obtain ⟨d80, d81, d82, dv8⟩ := kSO hz hxne S8; clear b8)
                | (go_simp; go_at_call 39; refine (l6bytes_any ia ni ic its va nf vc (prF2 ns) HA _ ((unhide S8).oi.rw encI_len) ((unhide S8).of.rw encF_len)).mono ?_; rintro e w9 ⟨v9, rfl, o9, b9⟩; have S9 := hide ((unhide S8).later b9); obtain ⟨d90, d91, d92, dv9⟩ := kSO hz hxne S9; have cv9 := convO hy o9; clear o9 b9))
              all_goals
                obtain ⟨r0, r1, rf, rl⟩ := res_cells (unhide S9).kr
                obtain ⟨e90, e91, -, -⟩ := kSO hz hxne S9
                cases q
                · have hno := hide (show sof xs = none from sof_none fun ys gs ho e => by
                    obtain ⟨-, -, h1, h2⟩ := unhide NO ys gs ho e
                    have q := unhide HQ2 (by rw [h1, h2]; exact e)
                    cases q)
                  have BW := hide (((unhide S9).bel.setCell (p := ⟨r, 0, none⟩) (unhide S9).hr (.slice none 0 0)).setCell (p := ⟨r, 1, none⟩) (unhide S9).hr (.slice none 0 0))
                  rw [← hq]
                  clear hq
                  simp only [Bool.not_false]
                  go_wp2_with fail
                  exact bodyPost_ret (v := .tuple #[.agg #[.slice none 0 0, .slice none 0 0], .bool false]) (by simp [results, Try.results12, go_sem, r0, r1]) rfl ⟨_, _, _, _, _, _, by rw [unhide hno]; rfl, by rw [sofI, unhide hno]; exact World.ownsRow_nil _ _ _ _, by rw [sofF, unhide hno]; exact World.ownsRow_nil _ _ _ _, unhide BW⟩
                · have hso := hide (sof_some (unhide HA) (unhide HQ rfl))
                  have BW := hide (((unhide S9).bel.setCell (p := ⟨r, 0, none⟩) (unhide S9).hr (.slice ia ni ic)).setCell (p := ⟨r, 1, none⟩) (unhide S9).hr (.slice va nf vc))
                  have hrb := (unhide S9).rb
                  have hbb := (unhide S9).hb
                  have OI9 := hide (Ow.base (((unhide S9).oi.set ⟨r, 0, none⟩ (by show r < b + 1; omega) (.slice ia ni ic)).set ⟨r, 1, none⟩ (by show r < b + 1; omega) (.slice va nf vc)) (show w.heap.size ≤ b + 1 by omega))
                  have OF9 := hide (Ow.base (((unhide S9).of.set ⟨r, 0, none⟩ (by show r < b + 1; omega) (.slice ia ni ic)).set ⟨r, 1, none⟩ (by show r < b + 1; omega) (.slice va nf vc)) (show w.heap.size ≤ b + 1 by omega))
                  rw [← hq]
                  clear hq
                  simp only [Bool.not_true]
                  go_wp2_with fail
                  exact bodyPost_ret (v := .tuple #[.agg #[.slice ia ni ic, .slice va nf vc], .bool true]) (by simp [results, Try.results12, go_sem, r0, r1]) rfl ⟨_, _, _, _, _, _, by rw [unhide hso]; rfl, by rw [sofI, unhide hso]; exact unhide OI9, by rw [sofF, unhide hso]; exact unhide OF9, unhide BW⟩
end Go.Proofs.Ytjlocbimkfocnaa
