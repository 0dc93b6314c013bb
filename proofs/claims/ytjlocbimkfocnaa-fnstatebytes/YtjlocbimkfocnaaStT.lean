/-
  The laws' 'toState': a state's own copy. No statement is proved here.
-/
import Derived.Test.YtjlocbimkfocnaaStA
import Derived.Test.YtjlocbimkfocnaaApp2
import Derived.WalkLawsBesides
namespace Go.Proofs.Ytjlocbimkfocnaa
open Go.RowKit

theorem Try.infoItem : (Try.prog.info? 64).map (fun i => (i.zero, i.size, i.bytes)) = some (some (.agg #[.int .i64 0, .int .i64 0, .int .i64 0, .int .i64 0, .int .i64 0, .string ⟨#[]⟩]), 6, 56) := by kernel_rfl
theorem Try.infoFloor : (Try.prog.info? 67).map (fun i => (i.zero, i.size, i.bytes)) = some (some (.agg #[.int .i64 0, .int .i64 0]), 2, 16) := by kernel_rfl
def zeroI : Itm := (0, zeroK)
def zeroF : Flr := (0, 0)

set_option maxHeartbeats 1000000 in
theorem toitem_any (x : Itm) (w : World) :
    Calls Try.prog 110 #[.agg #[.int .i64 x.1, .int .i64 x.2.1, .int .i64 x.2.2.1, .int .i64 x.2.2.2.1, .int .i64 x.2.2.2.2.1, .string x.2.2.2.2.2]] w fun e w' => e = .returned (.agg #[.int .i64 x.1, .int .i64 x.2.1, .int .i64 x.2.2.1, .int .i64 x.2.2.2.1, .int .i64 x.2.2.2.2.1, .string x.2.2.2.2.2]) ∧ Below w.heap.size w w' := by
  go_enter Try.func110, Try.ntmps110
  go_wp2_with fail
  refine (toentry_any x.2.1 x.2.2.1 x.2.2.2.1 x.2.2.2.2.1 x.2.2.2.2.2 _).mono ?_
  rintro e w1 ⟨rfl, b1⟩
  obtain ⟨p0, p1, p2, p3, p4, p5, p6⟩ := blk_cells6 ((b1.block _ (by simp)).trans (midB3 w _ _ _))
  obtain ⟨q0, q1, q2, q3, q4, q5, q6⟩ := blk_cells6 ((b1.block _ (by simp)).trans (newB3 w _ _ _))
  have HB := hide (((((Below.refl w.heap.size w).alloc (Nat.le_refl _) _).alloc (by simp) _).alloc (by simp; omega) _).trans (b1.mono (by simp; omega)))
  clear b1
  go_wp2
  exact bodyPost_ret (v := .agg #[.int .i64 x.1, .int .i64 x.2.1, .int .i64 x.2.2.1, .int .i64 x.2.2.2.1, .int .i64 x.2.2.2.2.1, .string x.2.2.2.2.2]) (by simp [results, Try.results110, go_sem, p0, p1, p2, p3, p4, p5]) rfl ⟨rfl, setW_below (g := w.heap.size + 1) (by omega) [_, _, _, _, _, _] (setW_below (g := w.heap.size + 1 + 1) (by omega) [_, _, _, _, _] (unhide HB) 1) 0⟩

set_option maxHeartbeats 1000000 in
theorem tofloor_any (x : Flr) (w : World) :
    Calls Try.prog 111 #[.agg #[.int .i64 x.1, .int .i64 x.2]] w fun e w' => e = .returned (.agg #[.int .i64 x.1, .int .i64 x.2]) ∧ Below w.heap.size w w' := by
  go_enter Try.func111, Try.ntmps111
  go_wp2
  exact bodyPost_ret (v := .agg #[.int .i64 x.1, .int .i64 x.2]) (by simp [results, Try.results111, go_sem]) rfl ⟨rfl, (((Below.refl _ _).alloc (Nat.le_refl _) _).alloc (by simp) _).alloc (by simp <;> omega) _⟩

set_option maxHeartbeats 2000000 in
theorem toitems_any (a : Option Addr) (n cap : Nat) (xs : List Itm) (w : World) (hn : n ≤ 1048576) (hx : Rw encI 6 w (.slice a n cap) xs) :
    Calls Try.prog 88 #[.slice a n cap] w fun e w' => ∃ a' c', e = .returned (.slice a' n c') ∧ Ow encI 6 64 w.heap.size w' (.slice a' n c') xs ∧ Below w.heap.size w w' := by
  obtain ⟨i0, hi, hz0, hz1, hz2⟩ := info_parts Try.infoItem
  have hb2 : i0.bytes * n ≤ 281474976710656 := by rw [hz2]; omega
  have hml : n ≤ maxLen := by unfold maxLen; omega
  have HZ2 := hide hz2
  have HX := hide hx
  clear hz2 hx
  go_enter Try.func88, Try.ntmps88
  go_wp2_with (first | (at_make; refine wpList_make_full _ rfl _ _ 24 rfl w.heap.size 64 i0 (.agg #[.int .i64 0, .int .i64 0, .int .i64 0, .int .i64 0, .int .i64 0, .string ⟨#[]⟩]) 6 Try.underlying24 hi hz0 hz1 .i64 .i64 _ _ n rfl rfl rfl rfl hb2 hml (Nat.le_refl _) ?_))
  intro w1 hown hgrow
  have hbel : Below w.heap.size w w1 := (Below.refl _ _).grown hgrow (Nat.le_refl _) (fun k hk => by cases hk)
  have hlen := (unhide HX).len.1
  have hown0 : Ow encI 6 64 w.heap.size w1 (.slice (some ⟨w.heap.size, 0, none⟩) n n) (xs.take 0 ++ List.replicate (xs.length - 0) zeroI) := by
    rw [made_flat (enc := encI) (by omega) encI_len #[.int .i64 0, .int .i64 0, .int .i64 0, .int .i64 0, .int .i64 0, .string ⟨#[]⟩] zeroI rfl n] at hown
    unfold Ow
    rw [fill_len _ _ _ (by omega)]
    simpa [hlen] using hown
  have HL := hide hlen
  clear hown hgrow hlen
  go_wp2
  go_loopw [4] (fun i wr => ∃ k : Nat, k ≤ n ∧ i = .int .i64 k ∧ Ow encI 6 64 w.heap.size wr (.slice (some ⟨w.heap.size, 0, none⟩) n n) (xs.take k ++ List.replicate (xs.length - k) zeroI) ∧ Below w.heap.size w wr) (fun i _ => n - (intOf i).toNat)
  case atStart => exact ⟨0, Nat.zero_le _, rfl, hown0, hbel⟩
  case round =>
    obtain ⟨k, hk, rfl, hown, hb⟩ := hrel
    clear hown0 hbel
    by_cases hlt : k < n
    · obtain ⟨x, b, off, hx, rfl, hbw, hcap, hc⟩ := (unhide HX).at hlt
      obtain ⟨c0, c1, c2, c3, c4, c5⟩ := item_cells (w := wr) (b := b) (off := off) (k := k) (x := x) (fun j hj => (hb.cell (p := ⟨b, off + k * 6 + j, none⟩) hbw).trans (hc j hj))
      have HO := hide hown
      have HB := hide hb
      have hsz := hb.size
      have HX1 := hide hx
      clear hc hx hown hb
      go_wp2_with fail
      refine (toitem_any x _).mono ?_
      rintro e w2 ⟨rfl, b2⟩
      have hown2 := (unhide HO).later b2
      have hb3 := (unhide HB).trans (b2.mono hsz)
      have hfl : (xs.take k ++ List.replicate (xs.length - k) zeroI).length = n := by rw [fill_len _ _ _ (by have := unhide HL; omega)]; exact (unhide HL).symm
      obtain ⟨y0, y1, y2, y3, y4, y5, z0, z1, z2, z3, z4, z5, zf⟩ := own_cells6 (show w2.ownsRow w.heap.size 64 6 (.slice (some ⟨w.heap.size, 0, none⟩) n n) n _ from by have h := hown2; unfold Ow at h; rw [hfl] at h; exact h) hlt
      have R1 := hown2.put (by omega) encI_len hfl.symm k hlt x
      rw [fill_set xs zeroI k x (unhide HX1)] at R1
      have HR1 := hide R1
      have HR2 := hide (setW_below (g := w.heap.size) (Nat.le_refl _) (encI x) hb3 (k * 6))
      clear hown2 hb3 b2 R1 HO HB HX1 hfl
      go_wp2
      go_roundw
      case rel => exact ⟨k + 1, by omega, by go_num, unhide HR1, unhide HR2⟩
      case measure => simp [intOf]; omega
    · have HO : Hid (Ow encI 6 64 w.heap.size wr (.slice (some ⟨w.heap.size, 0, none⟩) n n) xs) := by
        have h := hown
        rw [List.take_of_length_le (by have := unhide HL; omega), show xs.length - k = 0 by have := unhide HL; omega] at h
        simpa using hide h
      have HB := hide hb
      clear hown hb
      go_wp2
      go_ret
      exact ⟨_, _, rfl, unhide HO, unhide HB⟩

set_option maxHeartbeats 2000000 in
theorem tofloors_any (a : Option Addr) (n cap : Nat) (xs : List Flr) (w : World) (hn : n ≤ 1048576) (hx : Rw encF 2 w (.slice a n cap) xs) :
    Calls Try.prog 89 #[.slice a n cap] w fun e w' => ∃ a' c', e = .returned (.slice a' n c') ∧ Ow encF 2 67 w.heap.size w' (.slice a' n c') xs ∧ Below w.heap.size w w' := by
  obtain ⟨i0, hi, hz0, hz1, hz2⟩ := info_parts Try.infoFloor
  have hb2 : i0.bytes * n ≤ 281474976710656 := by rw [hz2]; omega
  have hml : n ≤ maxLen := by unfold maxLen; omega
  have HZ2 := hide hz2
  have HX := hide hx
  clear hz2 hx
  go_enter Try.func89, Try.ntmps89
  go_wp2_with (first | (at_make; refine wpList_make_full _ rfl _ _ 25 rfl w.heap.size 67 i0 (.agg #[.int .i64 0, .int .i64 0]) 2 Try.underlying25 hi hz0 hz1 .i64 .i64 _ _ n rfl rfl rfl rfl hb2 hml (Nat.le_refl _) ?_))
  intro w1 hown hgrow
  have hbel : Below w.heap.size w w1 := (Below.refl _ _).grown hgrow (Nat.le_refl _) (fun k hk => by cases hk)
  have hlen := (unhide HX).len.1
  have hown0 : Ow encF 2 67 w.heap.size w1 (.slice (some ⟨w.heap.size, 0, none⟩) n n) (xs.take 0 ++ List.replicate (xs.length - 0) zeroF) := by
    rw [made_flat (enc := encF) (by omega) encF_len #[.int .i64 0, .int .i64 0] zeroF rfl n] at hown
    unfold Ow
    rw [fill_len _ _ _ (by omega)]
    simpa [hlen] using hown
  have HL := hide hlen
  clear hown hgrow hlen
  go_wp2
  go_loopw [4] (fun i wr => ∃ k : Nat, k ≤ n ∧ i = .int .i64 k ∧ Ow encF 2 67 w.heap.size wr (.slice (some ⟨w.heap.size, 0, none⟩) n n) (xs.take k ++ List.replicate (xs.length - k) zeroF) ∧ Below w.heap.size w wr) (fun i _ => n - (intOf i).toNat)
  case atStart => exact ⟨0, Nat.zero_le _, rfl, hown0, hbel⟩
  case round =>
    obtain ⟨k, hk, rfl, hown, hb⟩ := hrel
    clear hown0 hbel
    by_cases hlt : k < n
    · obtain ⟨x, b, off, hx, rfl, hbw, hcap, hc⟩ := (unhide HX).at hlt
      have c0 : wr.cell? ⟨b, off + k * 2, none⟩ = some (.int .i64 x.1) := (hb.cell (p := ⟨b, off + k * 2, none⟩) hbw).trans (hc 0 (by omega))
      have c1 : wr.cell? ⟨b, off + k * 2 + 1, none⟩ = some (.int .i64 x.2) := (hb.cell (p := ⟨b, off + k * 2 + 1, none⟩) hbw).trans (hc 1 (by omega))
      have HO := hide hown
      have HB := hide hb
      have hsz := hb.size
      have HX1 := hide hx
      clear hc hx hown hb
      go_wp2_with fail
      refine (tofloor_any x _).mono ?_
      rintro e w2 ⟨rfl, b2⟩
      have hown2 := (unhide HO).later b2
      have hb3 := (unhide HB).trans (b2.mono hsz)
      have hfl : (xs.take k ++ List.replicate (xs.length - k) zeroF).length = n := by rw [fill_len _ _ _ (by have := unhide HL; omega)]; exact (unhide HL).symm
      obtain ⟨y0, y1, z0, z1, zf⟩ := own_cells2 (show w2.ownsRow w.heap.size 67 2 (.slice (some ⟨w.heap.size, 0, none⟩) n n) n _ from by have h := hown2; unfold Ow at h; rw [hfl] at h; exact h) hlt
      have R1 := hown2.put (by omega) encF_len hfl.symm k hlt x
      rw [fill_set xs zeroF k x (unhide HX1)] at R1
      have HR1 := hide R1
      have HR2 := hide (setW_below (g := w.heap.size) (Nat.le_refl _) (encF x) hb3 (k * 2))
      clear hown2 hb3 b2 R1 HO HB HX1 hfl
      go_wp2
      go_roundw
      case rel => exact ⟨k + 1, by omega, by go_num, unhide HR1, unhide HR2⟩
      case measure => simp [intOf]; omega
    · have HO : Hid (Ow encF 2 67 w.heap.size wr (.slice (some ⟨w.heap.size, 0, none⟩) n n) xs) := by
        have h := hown
        rw [List.take_of_length_le (by have := unhide HL; omega), show xs.length - k = 0 by have := unhide HL; omega] at h
        simpa using hide h
      have HB := hide hb
      clear hown hb
      go_wp2
      go_ret
      exact ⟨_, _, rfl, unhide HO, unhide HB⟩

set_option maxHeartbeats 2000000 in
theorem tostate_any (ai : Option Addr) (ni ci : Nat) (xs : List Itm) (af : Option Addr) (nf cf : Nat) (fs : List Flr) (w : World) (hni : ni ≤ 1048576) (hnf : nf ≤ 1048576) (hx : Rw encI 6 w (.slice ai ni ci) xs) (hf : Rw encF 2 w (.slice af nf cf) fs) :
    Calls Try.prog 52 #[.agg #[.slice ai ni ci, .slice af nf cf]] w fun e w' => ∃ a1 c1 a2 c2, e = .returned (.agg #[.slice a1 ni c1, .slice a2 nf c2]) ∧ OwI w.heap.size w' (.slice a1 ni c1) xs ∧ OwF w.heap.size w' (.slice a2 nf c2) fs ∧ Below w.heap.size w w' := by
  have HX := hide hx
  have HF := hide hf
  clear hx hf
  go_enter Try.func52, Try.ntmps52
  go_wp2_with fail
  refine (toitems_any ai ni ci xs _ hni (((((unhide HX).alloc _).alloc _).alloc _))).mono ?_
  rintro e w1 ⟨a1, c1, rfl, hown1, b1⟩
  have hz1 : w.heap.size + 1 + 1 < w1.heap.size := by have := b1.size; simp at this; omega
  obtain ⟨o0, o1, o2⟩ := blk_cells2 ((b1.block _ (by simp; omega)).trans (lowB3 w _ _ _))
  have M1 := hide ((b1.block _ (by simp)).trans (midB3 w _ _ _))
  have M2 := hide ((b1.block _ (by simp)).trans (newB3 w _ _ _))
  obtain ⟨q0, q1, q2⟩ := blk_cells2 (unhide M2)
  have HB := hide (((((Below.refl w.heap.size w).alloc (Nat.le_refl _) _).alloc (by simp) _).alloc (by simp; omega) _).trans (b1.mono (by simp; omega)))
  have HO1 := hide (Ow.base (base' := w.heap.size + 1 + 1 + 1) hown1 (by simp))
  clear hown1 b1
  go_wp2_with fail
  obtain ⟨X, hX⟩ : ∃ X, X = w1.setCell ⟨w.heap.size + 1 + 1, 0, none⟩ (.slice a1 ni c1) := ⟨_, rfl⟩
  rw [← hX]
  have HBX : Hid (Below w.heap.size w X) := by rw [hX]; exact (unhide HB).setCell (p := ⟨w.heap.size + 1 + 1, 0, none⟩) (by simp; omega) _
  have HOX : Hid (OwI (w.heap.size + 1 + 1 + 1) X (.slice a1 ni c1) xs) := by rw [hX]; exact (unhide HO1).set ⟨w.heap.size + 1 + 1, 0, none⟩ (by simp) _
  have X1 : Hid (X.heap[w.heap.size + 1]? = some (.cells #[.slice none 0 0, .slice none 0 0] 27 (0, 0))) := by rw [hX, heap_setCell_other _ _ _ _ (by show w.heap.size + 1 ≠ w.heap.size + 1 + 1; omega)]; exact unhide M1
  have X2 : Hid (X.heap[w.heap.size + 1 + 1]? = some (.cells #[.slice a1 ni c1, .slice none 0 0] 27 (0, 0))) := by rw [hX]; exact heap_setCell_same _ _ _ _ _ _ (unhide M2)
  have hzX : w.heap.size + 1 + 1 < X.heap.size := by rw [hX]; simpa using hz1
  clear hX M1 M2 HB HO1 q0 q1 q2 o0 o1 o2
  refine (tofloors_any af nf cf fs X hnf ((unhide HF).later (unhide HBX))).mono ?_
  rintro e w2 ⟨a2, c2, rfl, hown2, b2⟩
  obtain ⟨p0, p1, p2⟩ := blk_cells2 ((b2.block _ (by omega)).trans (unhide X1))
  obtain ⟨q0, q1, q2⟩ := blk_cells2 ((b2.block _ (by omega)).trans (unhide X2))
  have HB2 := hide ((unhide HBX).trans (b2.mono (by omega)))
  have HI2 := hide ((unhide HOX).later b2)
  have HF2 := hide (Ow.base (base' := w.heap.size + 1 + 1 + 1) hown2 (by omega))
  clear hown2 b2 HBX HOX X1 X2
  go_wp2
  exact bodyPost_ret (v := .agg #[.slice a1 ni c1, .slice a2 nf c2]) (by simp [results, Try.results52, go_sem, p0, p1]) rfl ⟨a1, c1, a2, c2, rfl, Ow.base ((((unhide HI2).set ⟨w.heap.size + 1 + 1, 1, none⟩ (by simp) _).set ⟨w.heap.size + 1, 0, none⟩ (by simp) _).set ⟨w.heap.size + 1, 1, none⟩ (by simp) _) (by omega), Ow.base ((((unhide HF2).set ⟨w.heap.size + 1 + 1, 1, none⟩ (by simp) _).set ⟨w.heap.size + 1, 0, none⟩ (by simp) _).set ⟨w.heap.size + 1, 1, none⟩ (by simp) _) (by omega), (((unhide HB2).setCell (p := ⟨w.heap.size + 1 + 1, 1, none⟩) (by simp; omega) _).setCell (p := ⟨w.heap.size + 1, 0, none⟩) (by simp) _).setCell (p := ⟨w.heap.size + 1, 1, none⟩) (by simp) _⟩
end Go.Proofs.Ytjlocbimkfocnaa
