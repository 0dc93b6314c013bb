/-
  StateText of the specification. No statement is proved here.
-/
import Derived.Test.YtdpaocikmijioadDoorStTxP
import Derived.Test.YtdpaocikmijioadDoorRegs6
namespace Go.Proofs.YtdpaocikmijioadDoor
open Go.RowKit

theorem stextK_any (e : Key) (h : FitK e) (hd : e.2.2.2.2.size ≤ 1048576) (w : World) : Calls Tryd.prog 21 #[.agg #[.int .i64 e.1, .int .i64 e.2.1, .int .i64 e.2.2.1, .int .i64 e.2.2.2.1, .string e.2.2.2.2]] w fun r w' => r = .returned (.string (textE e.1 e.2.1 e.2.2.1 e.2.2.2.1 e.2.2.2.2)) ∧ Below w.heap.size w w' :=
  stext_any _ _ _ _ _ h.1.1 h.1.2 h.2.2.1.1 h.2.2.1.2 h.2.2.2.1 h.2.2.2.2 hd w
theorem sep_ways (s : ByteArray) : (s.toList.isEmpty = true ∧ sep s = s) ∨ (s.toList.isEmpty = false ∧ sep s = s ++ ⟨#[32]⟩) := by
  have e : ∀ s : ByteArray, s.toList = s.data.toList := Lib.toList_data
  by_cases h : s.size = 0
  · have hd : s.data.toList = [] := List.eq_nil_of_length_eq_zero h
    exact .inl ⟨by rw [e, hd]; rfl, by rw [sep, if_pos h]⟩
  · have hd : s.data.toList ≠ [] := fun q => h (by show s.data.size = 0; rw [← Array.length_toList, q]; rfl)
    exact .inr ⟨by rw [e]; simpa using hd, by rw [sep, if_neg h]⟩

theorem addI {P : Program} (t : ByteArray) (x : Itm) (ht : t.size ≤ 4398046511104) (hx : x.2.2.2.2.2.size ≤ 1048576) :
    (∀ W : World, (Op.stringOp .add t (strOfNums (digs x.1))).run P W = .ok (.string (t ++ strOfNums (digs x.1))) W) ∧ (∀ W : World, (Op.stringOp .add (t ++ strOfNums (digs x.1)) ⟨#[61]⟩).run P W = .ok (.string (t ++ strOfNums (digs x.1) ++ ⟨#[61]⟩)) W) ∧
      (∀ W : World, (Op.stringOp .add (t ++ strOfNums (digs x.1) ++ ⟨#[61]⟩) (textE x.2.1 x.2.2.1 x.2.2.2.1 x.2.2.2.2.1 x.2.2.2.2.2)).run P W = .ok (.string (t ++ strOfNums (digs x.1) ++ ⟨#[61]⟩ ++ textE x.2.1 x.2.2.1 x.2.2.2.1 x.2.2.2.2.1 x.2.2.2.2.2)) W) := by
  have e1 : (⟨#[61]⟩ : ByteArray).size = 1 := rfl
  have e2 := digs_size x.1
  have e3 := textE_size x.2.1 x.2.2.1 x.2.2.2.1 x.2.2.2.2.1 x.2.2.2.2.2
  refine ⟨?_, ?_, ?_⟩
  all_goals
    intro W
    exact run_string_add_sum W _ _ (by (try simp only [ByteArray.size_append]); omega)
theorem addF {P : Program} (t : ByteArray) (x : Flr) (ht : t.size ≤ 4398046511104) :
    (∀ W : World, (Op.stringOp .add t ⟨#[45]⟩).run P W = .ok (.string (t ++ ⟨#[45]⟩)) W) ∧ (∀ W : World, (Op.stringOp .add (t ++ ⟨#[45]⟩) (strOfNums (digs x.1))).run P W = .ok (.string (t ++ ⟨#[45]⟩ ++ strOfNums (digs x.1))) W) ∧
      (∀ W : World, (Op.stringOp .add (t ++ ⟨#[45]⟩ ++ strOfNums (digs x.1)) ⟨#[60]⟩).run P W = .ok (.string (t ++ ⟨#[45]⟩ ++ strOfNums (digs x.1) ++ ⟨#[60]⟩)) W) ∧
      (∀ W : World, (Op.stringOp .add (t ++ ⟨#[45]⟩ ++ strOfNums (digs x.1) ++ ⟨#[60]⟩) (strOfNums (digs x.2))).run P W = .ok (.string (t ++ ⟨#[45]⟩ ++ strOfNums (digs x.1) ++ ⟨#[60]⟩ ++ strOfNums (digs x.2))) W) := by
  have e1 : (⟨#[45]⟩ : ByteArray).size = 1 := rfl
  have e4 : (⟨#[60]⟩ : ByteArray).size = 1 := rfl
  have e2 := digs_size x.1
  have e3 := digs_size x.2
  refine ⟨?_, ?_, ?_, ?_⟩
  all_goals
    intro W
    exact run_string_add_sum W _ _ (by (try simp only [ByteArray.size_append]); omega)
theorem catI (t : ByteArray) (x : Itm) : t ++ strOfNums (digs x.1) ++ ⟨#[61]⟩ ++ textE x.2.1 x.2.2.1 x.2.2.2.1 x.2.2.2.2.1 x.2.2.2.2.2 = t ++ wI x := by
  unfold wI; rw [ByteArray.append_assoc, ByteArray.append_assoc, ByteArray.append_assoc]
theorem catF (t : ByteArray) (x : Flr) : t ++ ⟨#[45]⟩ ++ strOfNums (digs x.1) ++ ⟨#[60]⟩ ++ strOfNums (digs x.2) = t ++ wF x := by
  unfold wF; rw [ByteArray.append_assoc, ByteArray.append_assoc, ByteArray.append_assoc, ByteArray.append_assoc, ByteArray.append_assoc]

set_option maxHeartbeats 8000000 in
set_option maxRecDepth 100000 in
theorem stx_any (ai : Option Addr) (ni ci : Nat) (xs : List Itm) (af : Option Addr) (nf cf : Nat) (fs : List Flr) (hfi : FitI xs) (hff : FitF fs) (hs : Sml xs) (w : World) (hni : ni ≤ 1048576) (hnf : nf ≤ 1048576) (hx : Rw encI 6 w (.slice ai ni ci) xs) (hf : Rw encF 2 w (.slice af nf cf) fs) :
    Calls Tryd.prog 11 #[.agg #[.slice ai ni ci, .slice af nf cf]] w fun e w' => e = .returned (.string (tx (xs.map wI ++ fs.map wF))) ∧ Below w.heap.size w w' := by
  have HX := hide hx
  have HF := hide hf
  have HFI := hide hfi
  have HFF := hide hff
  have HS := hide hs
  clear hx hf hfi hff hs
  go_enter Tryd.func11, Tryd.ntmps11
  go_wp2
  go_loopw [3, 4] (fun s i wr => ∃ k : Nat, k ≤ ni ∧ i = .int .i64 k ∧ s = .string (tx ((xs.take k).map wI)) ∧ Below w.heap.size w wr ∧ wr.heap[w.heap.size]? = some (.cells #[.slice ai ni ci, .slice af nf cf] 31 (0, 0))) (fun _ i _ => ni - (intOf i).toNat)
  case atStart => exact ⟨0, Nat.zero_le _, rfl, by simp [tx_nil], (Below.refl _ _).alloc (Nat.le_refl _) _, heap_alloc_new w _⟩
  case round =>
    obtain ⟨k, hk, rfl, rfl, hbel, hblk⟩ := hrel
    have HB := hide hbel
    have HK := hide hblk
    have hsz := hbel.size
    have hz0 : w.heap.size < wr.heap.size := (Array.getElem?_eq_some_iff.mp hblk).1
    obtain ⟨p0, p1, p2⟩ := blk_cells2 hblk
    clear hblk
    by_cases hlt : k < ni
    · obtain ⟨x, b, off, hx, rfl, hb, hcap, hc⟩ := (unhide HX).at hlt
      obtain ⟨c0, c1, c2, c3, c4, c5⟩ := item_cells (w := wr) (b := b) (off := off) (k := k) (x := x) (fun j hj => (hbel.cell (p := ⟨b, off + k * 6 + j, none⟩) hb).trans (hc j hj))
      obtain ⟨hxn, hxk⟩ := unhide HFI k x hx
      have hxs := unhide HS k x hx
      have hxk1 := hide hxk
      have HT := hide (tx_app ((xs.take k).map wI) (wI x))
      rw [← take_map_succ wI hx] at HT
      have hss := txI_size (unhide HS) k (by omega)
      generalize tx ((xs.take k).map wI) = s at HT hss ⊢
      have hz1 : b < wr.heap.size := Nat.lt_of_lt_of_le hb hsz
      have l0 := later_some (w := wr) (b := w.heap.size) (o := 0) hz0 p0
      have l1 := later_some (w := wr) (b := w.heap.size) (o := 1) hz0 p1
      have m0 := later_some (w := wr) (b := b) (o := off + k * 6) hz1 c0
      have m1 := later_some (w := wr) (b := b) (o := off + k * 6 + 1) hz1 c1
      have m2 := later_some (w := wr) (b := b) (o := off + k * 6 + 2) hz1 c2
      have m3 := later_some (w := wr) (b := b) (o := off + k * 6 + 3) hz1 c3
      have m4 := later_some (w := wr) (b := b) (o := off + k * 6 + 4) hz1 c4
      have m5 := later_some (w := wr) (b := b) (o := off + k * 6 + 5) hz1 c5
      have hn1 := hxn.1
      have hn2 := hxn.2
      clear hc hx hbel hxk hxn
--@round
      rcases sep_ways s with ⟨hq, he⟩ | ⟨hq, he⟩
      · have HE := hide he
        clear he
        have ht : s.size ≤ 4398046511104 := by omega
        go_upto_region 7 with fail
        obtain ⟨a1, a2, a3⟩ := addI (P := Tryd.prog) s x ht hxs
        refine wp_region_later (by kernel_rfl) (by kernel_rfl) ?_
        repeat (go_big_quiet_step (first
          | (go_at_call 20; exact Calls.later_of (sdigits_any x.1 _ hn1 hn2))
          | (go_at_call 21; exact Calls.later_of (stextK_any x.2 (unhide hxk1) hxs _))))
        refine wpQuiet_nil ?_
        intro w1 hb1
        have HB1 := hide ((unhide HB).trans (hb1.mono hsz))
        have HK1 := hide ((hb1.block _ hz0).trans (unhide HK))
        clear hb1 HB HK
        go_wp2
        go_roundw
        case rel => exact ⟨k + 1, by omega, by go_num, by rw [unhide HT, acc, unhide HE]; exact congrArg Value.string (catI _ _), unhide HB1, unhide HK1⟩
        case measure => simp [intOf]; omega
      · have HE := hide he
        clear he
        have ht : (s ++ ⟨#[32]⟩).size ≤ 4398046511104 := by rw [ByteArray.size_append]; have : (⟨#[32]⟩ : ByteArray).size = 1 := rfl; omega
        have ab : ∀ W : World, (Op.stringOp .add s ⟨#[32]⟩).run Tryd.prog W = .ok (.string (s ++ ⟨#[32]⟩)) W := fun W => run_string_add_sum W _ _ (by have : (⟨#[32]⟩ : ByteArray).size = 1 := rfl; omega)
        go_upto_region 7 with fail
        clear ab
        generalize s ++ ⟨#[32]⟩ = t at HE ht ⊢
        obtain ⟨a1, a2, a3⟩ := addI (P := Tryd.prog) t x ht hxs
        refine wp_region_later (by kernel_rfl) (by kernel_rfl) ?_
        repeat (go_big_quiet_step (first
          | (go_at_call 20; exact Calls.later_of (sdigits_any x.1 _ hn1 hn2))
          | (go_at_call 21; exact Calls.later_of (stextK_any x.2 (unhide hxk1) hxs _))))
        refine wpQuiet_nil ?_
        intro w1 hb1
        have HB1 := hide ((unhide HB).trans (hb1.mono hsz))
        have HK1 := hide ((hb1.block _ hz0).trans (unhide HK))
        clear hb1 HB HK
        go_wp2
        go_roundw
        case rel => exact ⟨k + 1, by omega, by go_num, by rw [unhide HT, acc, unhide HE]; exact congrArg Value.string (catI _ _), unhide HB1, unhide HK1⟩
        case measure => simp [intOf]; omega
    · have HE : Hid (tx ((xs.take k).map wI) = tx (xs.map wI)) := by
        have e : xs.take k = xs := List.take_of_length_le (by have := (unhide HX).len.1; omega)
        rw [e]; exact rfl
      clear hbel
      go_wp2
      go_loopw [3, 5] (fun s i wr => ∃ k : Nat, k ≤ nf ∧ i = .int .i64 k ∧ s = .string (tx (xs.map wI ++ (fs.take k).map wF)) ∧ Below w.heap.size w wr ∧ wr.heap[w.heap.size]? = some (.cells #[.slice ai ni ci, .slice af nf cf] 31 (0, 0))) (fun _ i _ => nf - (intOf i).toNat)
      case atStart => exact ⟨0, Nat.zero_le _, rfl, by rw [unhide HE]; simp, unhide HB, unhide HK⟩
      case round =>
        clear p0 p1 p2 HB HK HE hsz hz0
        obtain ⟨k, hk, rfl, rfl, hbel, hblk⟩ := hrel
        have HB := hide hbel
        have HK := hide hblk
        have hsz := hbel.size
        have hz0 : w.heap.size < wr.heap.size := (Array.getElem?_eq_some_iff.mp hblk).1
        obtain ⟨p0, p1, p2⟩ := blk_cells2 hblk
        clear hblk
        by_cases hlt : k < nf
        · obtain ⟨x, b, off, hx, rfl, hb, hcap, hc⟩ := (unhide HF).at hlt
          have c0 : wr.cell? ⟨b, off + k * 2, none⟩ = some (.int .i64 x.1) := (hbel.cell (p := ⟨b, off + k * 2 + 0, none⟩) hb).trans (hc 0 (by omega))
          have c1 : wr.cell? ⟨b, off + k * 2 + 1, none⟩ = some (.int .i64 x.2) := (hbel.cell (p := ⟨b, off + k * 2 + 1, none⟩) hb).trans (hc 1 (by omega))
          obtain ⟨⟨hn1, hn2⟩, hn3, hn4⟩ := unhide HFF k x hx
          have HT := hide (tx_app (xs.map wI ++ (fs.take k).map wF) (wF x))
          rw [List.append_assoc, ← take_map_succ wF hx] at HT
          have hss := txF_size (fs := fs) (unhide HS) k (by have := (unhide HX).len.1; omega) (by omega)
          generalize tx (xs.map wI ++ (fs.take k).map wF) = s at HT hss ⊢
          have hz1 : b < wr.heap.size := Nat.lt_of_lt_of_le hb hsz
          have l0 := later_some (w := wr) (b := w.heap.size) (o := 0) hz0 p0
          have l1 := later_some (w := wr) (b := w.heap.size) (o := 1) hz0 p1
          have m0 := later_some (w := wr) (b := b) (o := off + k * 2) hz1 c0
          have m1 := later_some (w := wr) (b := b) (o := off + k * 2 + 1) hz1 c1
          clear hc hx hbel
          rcases sep_ways s with ⟨hq, he⟩ | ⟨hq, he⟩
          · have HE := hide he
            clear he
            have ht : s.size ≤ 4398046511104 := by omega
            go_upto_region 13 with fail
            obtain ⟨a1, a2, a3, a4⟩ := addF (P := Tryd.prog) s x ht
            refine wp_region_later (by kernel_rfl) (by kernel_rfl) ?_
            repeat (go_big_quiet_step (first
              | (go_at_call_of 20 (Value.int IntKind.i64 x.1); exact Calls.later_of (sdigits_any x.1 _ hn1 hn2))
              | (go_at_call_of 20 (Value.int IntKind.i64 x.2); exact Calls.later_of (sdigits_any x.2 _ hn3 hn4))))
            refine wpQuiet_nil ?_
            intro w1 hb1
            have HB1 := hide ((unhide HB).trans (hb1.mono hsz))
            have HK1 := hide ((hb1.block _ hz0).trans (unhide HK))
            clear hb1 HB HK
            go_wp2
            go_roundw
            case rel => exact ⟨k + 1, by omega, by go_num, by rw [unhide HT, acc, unhide HE]; exact congrArg Value.string (catF _ _), unhide HB1, unhide HK1⟩
            case measure => simp [intOf]; omega
          · have HE := hide he
            clear he
            have ht : (s ++ ⟨#[32]⟩).size ≤ 4398046511104 := by rw [ByteArray.size_append]; have : (⟨#[32]⟩ : ByteArray).size = 1 := rfl; omega
            have ab : ∀ W : World, (Op.stringOp .add s ⟨#[32]⟩).run Tryd.prog W = .ok (.string (s ++ ⟨#[32]⟩)) W := fun W => run_string_add_sum W _ _ (by have : (⟨#[32]⟩ : ByteArray).size = 1 := rfl; omega)
            go_upto_region 13 with fail
            clear ab
            generalize s ++ ⟨#[32]⟩ = t at HE ht ⊢
            obtain ⟨a1, a2, a3, a4⟩ := addF (P := Tryd.prog) t x ht
            refine wp_region_later (by kernel_rfl) (by kernel_rfl) ?_
            repeat (go_big_quiet_step (first
              | (go_at_call_of 20 (Value.int IntKind.i64 x.1); exact Calls.later_of (sdigits_any x.1 _ hn1 hn2))
              | (go_at_call_of 20 (Value.int IntKind.i64 x.2); exact Calls.later_of (sdigits_any x.2 _ hn3 hn4))))
            refine wpQuiet_nil ?_
            intro w1 hb1
            have HB1 := hide ((unhide HB).trans (hb1.mono hsz))
            have HK1 := hide ((hb1.block _ hz0).trans (unhide HK))
            clear hb1 HB HK
            go_wp2
            go_roundw
            case rel => exact ⟨k + 1, by omega, by go_num, by rw [unhide HT, acc, unhide HE]; exact congrArg Value.string (catF _ _), unhide HB1, unhide HK1⟩
            case measure => simp [intOf]; omega
        · have HE : Hid (tx (xs.map wI ++ (fs.take k).map wF) = tx (xs.map wI ++ fs.map wF)) := by
            have e : fs.take k = fs := List.take_of_length_le (by have := (unhide HF).len.1; omega)
            rw [e]; exact rfl
          clear hbel
          go_wp2
          go_ret
          exact ⟨congrArg (fun t => Ending.returned (Value.string t)) (unhide HE), unhide HB⟩
end Go.Proofs.YtdpaocikmijioadDoor
