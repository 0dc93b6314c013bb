/-
  The specification's cursor over bytes: a number, and a list of numbers, are read. No statement is proved here.
-/
import Derived.Test.YtjlocbimkfocnaaMsX
import Derived.Test.YtjlocbimkfocnaaSGetText
import Derived.Test.YtjlocbimkfocnaaNmA
import Derived.Test.YtjlocbimkfocnaaIntS
import Derived.Test.YtjlocbimkfocnaaTrn
import Derived.Test.YtjlocbimkfocnaaApp2
import Derived.Test.YtjlocbimkfocnaaDrP
namespace Go.Proofs.Ytjlocbimkfocnaa
open Go.RowKit

/-- A cursor: its variable lies in block g; what it reads is a row of bytes. -/
structure Rd (W : World) (g : Nat) (v : Value) (xs : List Int) (c : Int × Bool) : Prop where
  blk : W.heap[g]? = some (.cells #[v, .int .i64 c.1, .bool c.2] 80 (0, 0))
  seg : Seg W v xs
  ne : xs = [] ∨ ∀ a n cc, v = .slice (some a) n cc → a.block ≠ g
  lo : 0 ≤ c.1
  hi : c.1 ≤ xs.length
section
variable {w W X : World} {g : Nat} {v : Value} {xs : List Int} {c : Int × Bool}
theorem Rd.lt (h : Rd W g v xs c) : g < W.heap.size := (Array.getElem?_eq_some_iff.1 h.blk).1
theorem Rd.cells (h : Rd W g v xs c) : W.cell? ⟨g, 0, none⟩ = some v ∧ W.cell? ⟨g, 1, none⟩ = some (.int .i64 c.1) ∧ W.cell? ⟨g, 2, none⟩ = some (.bool c.2) ∧ ∀ o, W.frozen? ⟨g, o, none⟩ = false := by
  simp [World.cell?, World.frozen?, h.blk]
theorem Rd.later (h : Rd W g v xs c) (b : Below W.heap.size W X) : Rd X g v xs c :=
  ⟨(b.block g h.lt).trans h.blk, h.seg.below b (Nat.le_refl _), h.ne, h.lo, h.hi⟩
theorem Rd.at (h : Rd W g v xs c) {q : Int} (h0 : 0 ≤ q) (h1 : q ≤ xs.length) : Rd (W.setCell ⟨g, 1, none⟩ (.int .i64 q)) g v xs (q, c.2) ∧ W.grownBy (W.setCell ⟨g, 1, none⟩ (.int .i64 q)) (some g) :=
  have G := grown_set W g 1 (.int .i64 q)
  ⟨⟨heap_setCell_same _ g 1 _ _ _ h.blk, h.seg.grown G h.ne, h.ne, h0, h1⟩, G⟩
theorem Rd.bad (h : Rd W g v xs c) (b : Bool) : Rd (W.setCell ⟨g, 2, none⟩ (.bool b)) g v xs (c.1, b) ∧ W.grownBy (W.setCell ⟨g, 2, none⟩ (.bool b)) (some g) :=
  have G := grown_set W g 2 (.bool b)
  ⟨⟨heap_setCell_same _ g 2 _ _ _ h.blk, h.seg.grown G h.ne, h.ne, h.lo, h.hi⟩, G⟩
end
theorem rdN_bd {xs : List Int} {c : Int × Bool} (hbd : ∀ z ∈ xs, 0 ≤ z ∧ z ≤ 255) : 0 ≤ (rdN xs c).1 ∧ (rdN xs c).1 ≤ 2147483647 := by
  unfold rdN
  split
  · exact ⟨by omega, by omega⟩
  · split
    · rename_i n q h
      have := getN_bd xs c.1 n q hbd h
      exact ⟨this.1, this.2.1⟩
    · exact ⟨by omega, by omega⟩
theorem rdN_zero {xs : List Int} {c : Int × Bool} (h : (rdN xs c).2.2 = true) : (rdN xs c).1 = 0 := by
  unfold rdN at h ⊢
  split
  · rfl
  · rename_i q
    rw [if_neg q] at h
    split
    · rename_i e
      rw [e] at h
      cases h
    · rfl
theorem rdN_none {xs : List Int} {p : Int} {b : Bool} (h : getN xs p = none) : rdN xs (p, b) = (0, (p, true)) := by
  unfold rdN
  cases b
  · rw [if_neg (by simp), show getN xs (p, false).1 = none from h]
  · rw [if_pos rfl]
theorem rdN_some {xs : List Int} {p n q : Int} (h : getN xs p = some (n, q)) : rdN xs (p, false) = (n, (q, false)) := by
  unfold rdN
  rw [if_neg (by simp), show getN xs (p, false).1 = some (n, q) from h]
theorem rdN_bad {xs : List Int} {p : Int} : rdN xs (p, true) = (0, (p, true)) := by
  unfold rdN
  rw [if_pos rfl]
theorem grown_of9 {w X Y : World} {g : Nat} (b : Below w.heap.size w X) (h : X.grownBy Y (some g)) : w.grownBy Y (some g) :=
  grown_trans ⟨b.os, b.tape, b.output, b.size, fun k hk _ => b.block k hk⟩ h
set_option maxHeartbeats 2000000 in
theorem snum_any (g : Nat) (v : Value) (xs : List Int) (c : Int × Bool) (w : World) (hlen : xs.length ≤ 140737488351232) (hbd : ∀ z ∈ xs, 0 ≤ z ∧ z ≤ 255) (h : Rd w g v xs c) :
    Calls Try.prog 36 #[.pointer (some ⟨g, 0, none⟩)] w fun e w' => e = .returned (.int .i64 (rdN xs c).1) ∧ Rd w' g v xs (rdN xs c).2 ∧ w.grownBy w' (some g) := by
  obtain ⟨p, b⟩ := c
  have HR := hide h
  have HD := hide hbd
  obtain ⟨c0, c1, c2, cf⟩ := h.cells
  have hlo : 0 ≤ p := h.lo
  have hhi : p ≤ xs.length := h.hi
  simp only at c1 c2
  have hgl := h.lt
  have l0 := later_some (w := w) hgl c0
  have l1 := later_some (w := w) hgl c1
  have l2 := later_some (w := w) hgl c2
  obtain ⟨gx, hgx⟩ : ∃ gx, getN xs p = gx := ⟨_, rfl⟩
  have HG := hide hgx
  have HC : Hid (∀ W, Seg W v xs → Calls Try.prog 76 #[v, .int .i64 p] W fun e w' => e = .returned (gres gx) ∧ W = w') := hide (fun W hs => by
    have := sgetnum_any v xs p W hlen hbd hs (by omega)
    rw [hgx] at this
    exact this)
  clear h hbd hgx c0 c1 c2 cf
  rcases gx with _ | ⟨n, q⟩
  · simp only [gres] at HC
    rw [rdN_none (unhide HG)]
    cases b
    · go_enter Try.func36, Try.ntmps36
      go_wp2_with fail
      refine wp_region_later (by kernel_rfl) (by kernel_rfl) ?_
      repeat (go_big_quiet_step (first
        | (go_at_call 76; exact Calls.later_same (unhide HC _ ((unhide HR).seg.below (later_below _ _ _) (Nat.le_refl _))))))
      refine wpQuiet_nil ?_
      intro w1 b1
      have HB := hide b1
      have HR1 := hide ((unhide HR).later b1)
      have HP := hide ((unhide HR1).bad true)
      obtain ⟨c0, c1, c2, cf⟩ := (unhide HR1).cells
      simp only at c1 c2
      clear b1 l0 l1 l2
      go_wp2_with fail
      go_ret
      exact ⟨rfl, (unhide HP).1, grown_of9 (unhide HB) (unhide HP).2⟩
    · go_enter Try.func36, Try.ntmps36
      go_wp2_with fail
      refine wp_region_later (by kernel_rfl) (by kernel_rfl) ?_
      repeat (go_big_quiet_step (first
        | (go_at_call 76; exact Calls.later_same (unhide HC _ ((unhide HR).seg.below (later_below _ _ _) (Nat.le_refl _))))))
      refine wpQuiet_nil ?_
      intro w1 b1
      have HB := hide b1
      have HR1 := hide ((unhide HR).later b1)
      have HP := hide ((unhide HR1).bad true)
      obtain ⟨c0, c1, c2, cf⟩ := (unhide HR1).cells
      simp only at c1 c2
      clear b1 l0 l1 l2
      go_wp2_with fail
      go_ret
      exact ⟨rfl, (unhide HP).1, grown_of9 (unhide HB) (unhide HP).2⟩
  · simp only [gres] at HC
    have hq := getN_bd xs p n q (unhide HD) (unhide HG)
    cases b
    · rw [rdN_some (unhide HG)]
      go_enter Try.func36, Try.ntmps36
      go_wp2_with fail
      refine wp_region_later (by kernel_rfl) (by kernel_rfl) ?_
      repeat (go_big_quiet_step (first
        | (go_at_call 76; exact Calls.later_same (unhide HC _ ((unhide HR).seg.below (later_below _ _ _) (Nat.le_refl _))))))
      refine wpQuiet_nil ?_
      intro w1 b1
      have HB := hide b1
      have HR1 := hide ((unhide HR).later b1)
      have HP := hide ((unhide HR1).at (q := q) (by omega) (by omega))
      obtain ⟨c0, c1, c2, cf⟩ := (unhide HR1).cells
      simp only at c1 c2
      clear b1 l0 l1 l2
      go_wp2_with fail
      go_ret
      exact ⟨rfl, (unhide HP).1, grown_of9 (unhide HB) (unhide HP).2⟩
    · rw [rdN_bad]
      go_enter Try.func36, Try.ntmps36
      go_wp2_with fail
      refine wp_region_later (by kernel_rfl) (by kernel_rfl) ?_
      repeat (go_big_quiet_step (first
        | (go_at_call 76; exact Calls.later_same (unhide HC _ ((unhide HR).seg.below (later_below _ _ _) (Nat.le_refl _))))))
      refine wpQuiet_nil ?_
      intro w1 b1
      have HB := hide b1
      have HR1 := hide ((unhide HR).later b1)
      have HP := hide ((unhide HR1).bad true)
      obtain ⟨c0, c1, c2, cf⟩ := (unhide HR1).cells
      simp only at c1 c2
      clear b1 l0 l1 l2
      go_wp2_with fail
      go_ret
      exact ⟨rfl, (unhide HP).1, grown_of9 (unhide HB) (unhide HP).2⟩
theorem ow_far {base g : Nat} {w W : World} {E : TypeId} {k : Nat} {α : Type} {enc : α → List Value} {v : Value} {ms : List α} (h : Ow enc k E base w v ms) (hg : w.grownBy W (some g)) (hb : g < base) : Ow enc k E base W v ms :=
  (Trn.of_grown hg).own h (fun i q e => by cases e; have := (World.ownsRow.lt h _ q).1; omega)
theorem Rd.row {w X Y : World} {g : Nat} {v u : Value} {xs : List Int} {c0 c : Int × Bool} {E : TypeId} {k : Nat} {α : Type} {enc : α → List Value} {ms : List α} (h0 : Rd w g v xs c0) (hg : w.grownBy X (some g)) (h : Rd X g v xs c) (ho : Ow enc k E w.heap.size X u ms) (hG : X.grownBy Y u.ownBlock) : Rd Y g v xs c ∧ w.grownBy Y (some g) := by
  have hY : w.grownBy Y (some g) := ⟨hG.os.trans hg.os, hG.tape.trans hg.tape, hG.output.trans hg.output, Nat.le_trans hg.size hG.size, fun i hi hne => (hG.block i (Nat.lt_of_lt_of_le hi hg.size) (fun q => by have := (World.ownsRow.lt ho i q.symm).1; omega)).trans (hg.block i hi hne)⟩
  have hl := h0.lt
  exact ⟨⟨(hG.block g h.lt (fun q => by have := (World.ownsRow.lt ho g q.symm).1; omega)).trans h.blk, h0.seg.grown hY h.ne, h.ne, h.lo, h.hi⟩, hY⟩
theorem rdI_len (xs : List Int) (c : Int × Bool) : ∀ i, (rdI xs i c).1.length ≤ i ∧ ((rdI xs i c).2.2 = false → (rdI xs i c).1.length = i)
  | 0 => by simp [rdI]
  | i + 1 => by
    have ih := rdI_len xs c i
    rw [rdI]
    split
    · rename_i h
      exact ⟨by omega, fun q => by rw [h] at q; cases q⟩
    · rename_i h
      have e := ih.2 (by simpa using h)
      simp only [List.length_append, List.length_cons, List.length_nil]
      exact ⟨by omega, fun _ => by omega⟩
theorem rdI_stop {xs : List Int} {c : Int × Bool} {i : Nat} (h : (rdI xs i c).2.2 = true) : ∀ m, i ≤ m → rdI xs m c = rdI xs i c
  | 0, hm => by obtain rfl := Nat.le_zero.1 hm; rfl
  | m + 1, hm => by
    by_cases q : i = m + 1
    · rw [q]
    · have ih := rdI_stop h m (by omega)
      rw [rdI, ih, if_pos h]
set_option maxHeartbeats 4000000 in
set_option maxRecDepth 100000 in
theorem smany1_any (g : Nat) (v : Value) (xs : List Int) (c : Int × Bool) (w : World) (hlen : xs.length ≤ 140737488351232) (hbd : ∀ z ∈ xs, 0 ≤ z ∧ z ≤ 255) (h : Rd w g v xs c) :
    Calls Try.prog 38 #[.pointer (some ⟨g, 0, none⟩), .int .i64 1] w fun e w' => ∃ a n cap, e = .returned (.slice a n cap) ∧ n ≤ 200 ∧ OwN w.heap.size w' (.slice a n cap) (rdL xs 1 c).1 ∧ Rd w' g v xs (rdL xs 1 c).2 ∧ w.grownBy w' (some g) := by
  obtain ⟨i0, hi, hz0, hz1, hz2⟩ := info_parts Try.infoInt
  have H0 := hide h
  have HD := hide hbd
  have hgl := h.lt
  obtain ⟨m, d, hmd⟩ : ∃ m d, rdN xs c = (m, d) := ⟨_, _, rfl⟩
  have hm0 := rdN_bd (c := c) hbd
  rw [hmd] at hm0
  simp only at hm0
  have HL : Hid (rdL xs 1 c = if 100 < m then ([], (d.1, true)) else rdI xs (m.toNat * 1) d) := hide (by unfold rdL; rw [hmd])
  have HMD := hide hmd
  clear h hbd hmd
  obtain ⟨m, rfl⟩ := Int.eq_ofNat_of_zero_le hm0.1
  go_enter Try.func38, Try.ntmps38
  go_wp2_with fail
  refine (snum_any g v xs c w hlen (unhide HD) (unhide H0)).mono ?_
  rintro e w1 ⟨rfl, r1, g1⟩
  rw [unhide HMD] at r1
  rw [unhide HMD]
  simp only at r1
  have HR1 := hide r1
  have G1 := hide g1
  have hs1 := g1.size
  obtain ⟨wA, hwA⟩ : ∃ W, W = w1.alloc (.cells #[] 3) := ⟨_, rfl⟩
  have bA : Below w1.heap.size w1 wA := by rw [hwA]; exact (Below.refl _ _).alloc (Nat.le_refl _) _
  have OA := hide (show OwN w.heap.size wA (.slice (some ⟨w1.heap.size, 0, none⟩) 0 0) [] from madeN hs1 (by rw [hwA]; exact heap_alloc_new w1 _))
  have RA := hide ((unhide HR1).later bA)
  have GA := hide (grown_trans (unhide G1) (⟨bA.os, bA.tape, bA.output, bA.size, fun k hk _ => bA.block k hk⟩ : w1.grownBy wA (some g)))
  clear r1 g1 bA HR1 G1
  go_wp2_with fail
  rw [← hwA]
  clear hwA
  go_loopw [6, 7] (fun u i wr => ∃ (k : Nat) (a : Option Addr) (n cap : Nat), i = .int .i64 k ∧ u = .slice a n cap ∧ n ≤ k ∧ k ≤ m * 1 ∧ (k = 0 ∨ m ≤ 100) ∧ OwN w.heap.size wr (.slice a n cap) (rdI xs k d).1 ∧ Rd wr g v xs (rdI xs k d).2 ∧ w.grownBy wr (some g)) (fun _ i _ => m * 1 - (intOf i).toNat)
  case atStart => exact ⟨0, _, 0, 0, rfl, rfl, Nat.le_refl _, Nat.zero_le _, .inl rfl, unhide OA, unhide RA, unhide GA⟩
  case round =>
    obtain ⟨k, a, n, cap, rfl, rfl, hnk, hkm, hk0, hown, hrd, hgr⟩ := hrel
    clear OA RA GA
    have HO := hide hown
    have HR := hide hrd
    have HG := hide hgr
    have hn1 : Hid (n = (rdI xs k d).1.length) := hide (hown.rw encN_len).len.1
    have hsz := hgr.size
    have hgw := hrd.lt
    obtain ⟨c0, c1, c2, cf⟩ := hrd.cells
    obtain ⟨bd, hbd2⟩ : ∃ b, (rdI xs k d).2.2 = b := ⟨_, rfl⟩
    rw [hbd2] at c2
    have HBD := hide hbd2
    clear hown hrd hgr hbd2 c0 c1
    by_cases hlt : k < m * 1
    · have hd1 : decide ((k : Int) < (m : Int) * 1) = true := by simp; omega
      cases bd
      · by_cases hm : m ≤ 100
        · have hd2 : decide ((m : Int) ≤ 100) = true := by simp; omega
          have l2 := later_some (w := wr) hgw c2
          go_wp2_with fail
          refine (snum_any g v xs _ wr hlen (unhide HD) (unhide HR)).mono ?_
          rintro e w2 ⟨rfl, r2, g2⟩
          have O2 := hide (ow_far (unhide HO) g2 hgl)
          have HR2 := hide r2
          have G2 := hide (grown_trans (unhide HG) g2)
          have hs2 : w.heap.size ≤ w2.heap.size := (unhide G2).size
          have e1 : Hid (rdI xs (k + 1) d = ((rdI xs k d).1 ++ [(rdN xs (rdI xs k d).2).1], (rdN xs (rdI xs k d).2).2)) := hide (by rw [rdI, if_neg (by rw [unhide HBD]; simp)])
          clear r2 g2 HO HR HG l2 c2 cf
          go_wp2_with (first | (at_builtin; refine wpList_app1 encN_len (by omega) oneN 3 35 i0 _ 8 Try.underlying35 hi hz0 hz1 hz2 rfl (by omega) w2 (rdN xs (rdI xs k d).2).1 rfl _ _ rfl w.heap.size _ _ n hn1 rfl (unhide O2) rfl (by omega) hs2 ?_; intro a8 c8 w4 hO hG; have HO4 := hide hO; have bA4 : Below w2.heap.size w2 (w2.alloc (.cells (encN (rdN xs (rdI xs k d).2).1).toArray 3)) := (Below.refl _ _).alloc (Nat.le_refl _) _; have R4 := hide ((unhide H0).row (unhide G2) (unhide HR2) (unhide O2) hG); clear hO hG))
          go_roundw
          case rel => exact ⟨k + 1, a8, n + 1, c8, by go_num, rfl, by omega, by omega, .inr hm, by rw [unhide e1]; exact unhide HO4, by rw [unhide e1]; exact (unhide R4).1, (unhide R4).2⟩
          case measure => simp [intOf]; omega
        · obtain rfl : k = 0 := by omega
          have hd2 : decide ((m : Int) ≤ 100) = false := by simp; omega
          have hd3 : decide ((100 : Int) < m) = true := by simp; omega
          have HE : Hid (rdL xs 1 c = ([], (d.1, true))) := hide (by rw [unhide HL, if_pos (by omega)])
          have HF := hide ((unhide HR).bad true)
          have HOF := hide (ow_far (unhide HO) (unhide HF).2 hgl)
          go_wp2
          go_ret
          exact ⟨a, n, cap, rfl, by omega, by rw [unhide HE]; exact unhide HOF, by rw [unhide HE]; exact (unhide HF).1, grown_trans (unhide HG) (unhide HF).2⟩
      · have hm : m ≤ 100 := by
          rcases hk0 with rfl | hm
          · have hz := rdN_zero (xs := xs) (c := c) (by rw [unhide HMD]; exact unhide HBD)
            rw [unhide HMD] at hz
            simp only at hz
            omega
          · exact hm
        have HE : Hid (rdL xs 1 c = rdI xs k d) := hide (by rw [unhide HL, if_neg (by omega)]; exact rdI_stop (unhide HBD) _ (by simp; omega))
        have HF := hide (show Rd (wr.setCell ⟨g, 2, none⟩ (.bool true)) g v xs (rdI xs k d).2 ∧ wr.grownBy (wr.setCell ⟨g, 2, none⟩ (.bool true)) (some g) from by
          have q := (unhide HR).bad true
          exact ⟨by rw [show (rdI xs k d).2 = ((rdI xs k d).2.1, true) from by rw [← unhide HBD]]; exact q.1, q.2⟩)
        have HOF := hide (ow_far (unhide HO) (unhide HF).2 hgl)
        go_wp2
        go_ret
        exact ⟨a, n, cap, rfl, by omega, by rw [unhide HE]; exact unhide HOF, by rw [unhide HE]; exact (unhide HF).1, grown_trans (unhide HG) (unhide HF).2⟩
    · have hd1 : decide ((k : Int) < (m : Int) * 1) = false := by simp; omega
      have hm : m ≤ 100 := by omega
      have hd3 : decide ((100 : Int) < m) = false := by simp; omega
      have HE : Hid (rdL xs 1 c = rdI xs k d) := hide (by rw [unhide HL, if_neg (by omega), Int.toNat_natCast, show m * 1 = k by omega])
      have HF := hide (show Rd (wr.setCell ⟨g, 2, none⟩ (.bool bd)) g v xs (rdI xs k d).2 ∧ wr.grownBy (wr.setCell ⟨g, 2, none⟩ (.bool bd)) (some g) from by
        have q := (unhide HR).bad bd
        exact ⟨by rw [show (rdI xs k d).2 = ((rdI xs k d).2.1, bd) from by rw [← unhide HBD]]; exact q.1, q.2⟩)
      have HOF := hide (ow_far (unhide HO) (unhide HF).2 hgl)
      cases bd
      · go_wp2
        go_ret
        exact ⟨a, n, cap, rfl, by omega, by rw [unhide HE]; exact unhide HOF, by rw [unhide HE]; exact (unhide HF).1, grown_trans (unhide HG) (unhide HF).2⟩
      · go_wp2
        go_ret
        exact ⟨a, n, cap, rfl, by omega, by rw [unhide HE]; exact unhide HOF, by rw [unhide HE]; exact (unhide HF).1, grown_trans (unhide HG) (unhide HF).2⟩
set_option maxHeartbeats 4000000 in
set_option maxRecDepth 100000 in
theorem smany2_any (g : Nat) (v : Value) (xs : List Int) (c : Int × Bool) (w : World) (hlen : xs.length ≤ 140737488351232) (hbd : ∀ z ∈ xs, 0 ≤ z ∧ z ≤ 255) (h : Rd w g v xs c) :
    Calls Try.prog 38 #[.pointer (some ⟨g, 0, none⟩), .int .i64 2] w fun e w' => ∃ a n cap, e = .returned (.slice a n cap) ∧ n ≤ 200 ∧ OwN w.heap.size w' (.slice a n cap) (rdL xs 2 c).1 ∧ Rd w' g v xs (rdL xs 2 c).2 ∧ w.grownBy w' (some g) := by
  obtain ⟨i0, hi, hz0, hz1, hz2⟩ := info_parts Try.infoInt
  have H0 := hide h
  have HD := hide hbd
  have hgl := h.lt
  obtain ⟨m, d, hmd⟩ : ∃ m d, rdN xs c = (m, d) := ⟨_, _, rfl⟩
  have hm0 := rdN_bd (c := c) hbd
  rw [hmd] at hm0
  simp only at hm0
  have HL : Hid (rdL xs 2 c = if 100 < m then ([], (d.1, true)) else rdI xs (m.toNat * 2) d) := hide (by unfold rdL; rw [hmd])
  have HMD := hide hmd
  clear h hbd hmd
  obtain ⟨m, rfl⟩ := Int.eq_ofNat_of_zero_le hm0.1
  go_enter Try.func38, Try.ntmps38
  go_wp2_with fail
  refine (snum_any g v xs c w hlen (unhide HD) (unhide H0)).mono ?_
  rintro e w1 ⟨rfl, r1, g1⟩
  rw [unhide HMD] at r1
  rw [unhide HMD]
  simp only at r1
  have HR1 := hide r1
  have G1 := hide g1
  have hs1 := g1.size
  obtain ⟨wA, hwA⟩ : ∃ W, W = w1.alloc (.cells #[] 3) := ⟨_, rfl⟩
  have bA : Below w1.heap.size w1 wA := by rw [hwA]; exact (Below.refl _ _).alloc (Nat.le_refl _) _
  have OA := hide (show OwN w.heap.size wA (.slice (some ⟨w1.heap.size, 0, none⟩) 0 0) [] from madeN hs1 (by rw [hwA]; exact heap_alloc_new w1 _))
  have RA := hide ((unhide HR1).later bA)
  have GA := hide (grown_trans (unhide G1) (⟨bA.os, bA.tape, bA.output, bA.size, fun k hk _ => bA.block k hk⟩ : w1.grownBy wA (some g)))
  clear r1 g1 bA HR1 G1
  go_wp2_with fail
  rw [← hwA]
  clear hwA
  go_loopw [6, 7] (fun u i wr => ∃ (k : Nat) (a : Option Addr) (n cap : Nat), i = .int .i64 k ∧ u = .slice a n cap ∧ n ≤ k ∧ k ≤ m * 2 ∧ (k = 0 ∨ m ≤ 100) ∧ OwN w.heap.size wr (.slice a n cap) (rdI xs k d).1 ∧ Rd wr g v xs (rdI xs k d).2 ∧ w.grownBy wr (some g)) (fun _ i _ => m * 2 - (intOf i).toNat)
  case atStart => exact ⟨0, _, 0, 0, rfl, rfl, Nat.le_refl _, Nat.zero_le _, .inl rfl, unhide OA, unhide RA, unhide GA⟩
  case round =>
    obtain ⟨k, a, n, cap, rfl, rfl, hnk, hkm, hk0, hown, hrd, hgr⟩ := hrel
    clear OA RA GA
    have HO := hide hown
    have HR := hide hrd
    have HG := hide hgr
    have hn1 : Hid (n = (rdI xs k d).1.length) := hide (hown.rw encN_len).len.1
    have hsz := hgr.size
    have hgw := hrd.lt
    obtain ⟨c0, c1, c2, cf⟩ := hrd.cells
    obtain ⟨bd, hbd2⟩ : ∃ b, (rdI xs k d).2.2 = b := ⟨_, rfl⟩
    rw [hbd2] at c2
    have HBD := hide hbd2
    clear hown hrd hgr hbd2 c0 c1
    by_cases hlt : k < m * 2
    · have hd1 : decide ((k : Int) < (m : Int) * 2) = true := by simp; omega
      cases bd
      · by_cases hm : m ≤ 100
        · have hd2 : decide ((m : Int) ≤ 100) = true := by simp; omega
          have l2 := later_some (w := wr) hgw c2
          go_wp2_with fail
          refine (snum_any g v xs _ wr hlen (unhide HD) (unhide HR)).mono ?_
          rintro e w2 ⟨rfl, r2, g2⟩
          have O2 := hide (ow_far (unhide HO) g2 hgl)
          have HR2 := hide r2
          have G2 := hide (grown_trans (unhide HG) g2)
          have hs2 : w.heap.size ≤ w2.heap.size := (unhide G2).size
          have e1 : Hid (rdI xs (k + 1) d = ((rdI xs k d).1 ++ [(rdN xs (rdI xs k d).2).1], (rdN xs (rdI xs k d).2).2)) := hide (by rw [rdI, if_neg (by rw [unhide HBD]; simp)])
          clear r2 g2 HO HR HG l2 c2 cf
          go_wp2_with (first | (at_builtin; refine wpList_app1 encN_len (by omega) oneN 3 35 i0 _ 8 Try.underlying35 hi hz0 hz1 hz2 rfl (by omega) w2 (rdN xs (rdI xs k d).2).1 rfl _ _ rfl w.heap.size _ _ n hn1 rfl (unhide O2) rfl (by omega) hs2 ?_; intro a8 c8 w4 hO hG; have HO4 := hide hO; have bA4 : Below w2.heap.size w2 (w2.alloc (.cells (encN (rdN xs (rdI xs k d).2).1).toArray 3)) := (Below.refl _ _).alloc (Nat.le_refl _) _; have R4 := hide ((unhide H0).row (unhide G2) (unhide HR2) (unhide O2) hG); clear hO hG))
          go_roundw
          case rel => exact ⟨k + 1, a8, n + 1, c8, by go_num, rfl, by omega, by omega, .inr hm, by rw [unhide e1]; exact unhide HO4, by rw [unhide e1]; exact (unhide R4).1, (unhide R4).2⟩
          case measure => simp [intOf]; omega
        · obtain rfl : k = 0 := by omega
          have hd2 : decide ((m : Int) ≤ 100) = false := by simp; omega
          have hd3 : decide ((100 : Int) < m) = true := by simp; omega
          have HE : Hid (rdL xs 2 c = ([], (d.1, true))) := hide (by rw [unhide HL, if_pos (by omega)])
          have HF := hide ((unhide HR).bad true)
          have HOF := hide (ow_far (unhide HO) (unhide HF).2 hgl)
          go_wp2
          go_ret
          exact ⟨a, n, cap, rfl, by omega, by rw [unhide HE]; exact unhide HOF, by rw [unhide HE]; exact (unhide HF).1, grown_trans (unhide HG) (unhide HF).2⟩
      · have hm : m ≤ 100 := by
          rcases hk0 with rfl | hm
          · have hz := rdN_zero (xs := xs) (c := c) (by rw [unhide HMD]; exact unhide HBD)
            rw [unhide HMD] at hz
            simp only at hz
            omega
          · exact hm
        have HE : Hid (rdL xs 2 c = rdI xs k d) := hide (by rw [unhide HL, if_neg (by omega)]; exact rdI_stop (unhide HBD) _ (by simp; omega))
        have HF := hide (show Rd (wr.setCell ⟨g, 2, none⟩ (.bool true)) g v xs (rdI xs k d).2 ∧ wr.grownBy (wr.setCell ⟨g, 2, none⟩ (.bool true)) (some g) from by
          have q := (unhide HR).bad true
          exact ⟨by rw [show (rdI xs k d).2 = ((rdI xs k d).2.1, true) from by rw [← unhide HBD]]; exact q.1, q.2⟩)
        have HOF := hide (ow_far (unhide HO) (unhide HF).2 hgl)
        go_wp2
        go_ret
        exact ⟨a, n, cap, rfl, by omega, by rw [unhide HE]; exact unhide HOF, by rw [unhide HE]; exact (unhide HF).1, grown_trans (unhide HG) (unhide HF).2⟩
    · have hd1 : decide ((k : Int) < (m : Int) * 2) = false := by simp; omega
      have hm : m ≤ 100 := by omega
      have hd3 : decide ((100 : Int) < m) = false := by simp; omega
      have HE : Hid (rdL xs 2 c = rdI xs k d) := hide (by rw [unhide HL, if_neg (by omega), Int.toNat_natCast, show m * 2 = k by omega])
      have HF := hide (show Rd (wr.setCell ⟨g, 2, none⟩ (.bool bd)) g v xs (rdI xs k d).2 ∧ wr.grownBy (wr.setCell ⟨g, 2, none⟩ (.bool bd)) (some g) from by
        have q := (unhide HR).bad bd
        exact ⟨by rw [show (rdI xs k d).2 = ((rdI xs k d).2.1, bd) from by rw [← unhide HBD]]; exact q.1, q.2⟩)
      have HOF := hide (ow_far (unhide HO) (unhide HF).2 hgl)
      cases bd
      · go_wp2
        go_ret
        exact ⟨a, n, cap, rfl, by omega, by rw [unhide HE]; exact unhide HOF, by rw [unhide HE]; exact (unhide HF).1, grown_trans (unhide HG) (unhide HF).2⟩
      · go_wp2
        go_ret
        exact ⟨a, n, cap, rfl, by omega, by rw [unhide HE]; exact unhide HOF, by rw [unhide HE]; exact (unhide HF).1, grown_trans (unhide HG) (unhide HF).2⟩
end Go.Proofs.Ytjlocbimkfocnaa
