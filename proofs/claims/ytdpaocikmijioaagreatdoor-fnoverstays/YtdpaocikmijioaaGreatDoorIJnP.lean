/-
  StateText of the specification. No statement is proved here.
  The program's StateText. No statement is proved here.
  StateText of both, the text a letter. No statement is proved here.
  ViewText of both. No statement is proved here.
  The program's joinFloors. No statement is proved here.
  A map from nodes to entries, as a function. No statement is proved here.
  The program's joinItems and dropOver: what they do to the map. No statement is proved here.
  What the map holds behind both states' items and the floors: the joined items. No program here, no statement is proved here.
-/
import Derived.Test.YtdpaocikmijioaaGreatDoorStTxP
import Derived.Test.YtdpaocikmijioaaGreatDoorRegs6
import Derived.Test.YtdpaocikmijioaaGreatDoorApp2
import Derived.Test.YtdpaocikmijioaaGreatDoorStT
import Derived.Test.YtdpaocikmijioaaGreatDoorVwV
import Derived.Test.YtdpaocikmijioaaGreatDoorStJP
import Derived.Test.YtdpaocikmijioaaGreatDoorIStOk
import Derived.Test.YtdpaocikmijioaaGreatDoorStM
import Derived.Maps.RangeWalk
import Derived.Maps.OwnSet
import Derived.Maps.OwnOps
import Derived.Maps.Ext
import Derived.Test.YtdpaocikmijioaaGreatDoorSt3
import Derived.Deep.RegionHeld3
import Derived.Test.YtdpaocikmijioaaGreatDoorVwP
namespace Go.Proofs.YtdpaocikmijioaaGreatDoor
open Go.RowKit

theorem stextK_any (e : Key) (h : FitK e) (hd : e.2.2.2.2.size ≤ 1048576) (w : World) : Calls Tryz.prog 54 #[.agg #[.int .i64 e.1, .int .i64 e.2.1, .int .i64 e.2.2.1, .int .i64 e.2.2.2.1, .string e.2.2.2.2]] w fun r w' => r = .returned (.string (textE e.1 e.2.1 e.2.2.1 e.2.2.2.1 e.2.2.2.2)) ∧ Below w.heap.size w w' :=
  stext_any _ _ _ _ _ h.1.1 h.1.2 h.2.2.1.1 h.2.2.1.2 h.2.2.2.1 h.2.2.2.2 hd w
theorem sep_ways (s : ByteArray) : (s.toList.isEmpty = true ∧ sep s = s) ∨ (s.toList.isEmpty = false ∧ sep s = s ++ ⟨#[32]⟩) := by
  have e : ∀ s : ByteArray, s.toList = s.data.toList := Lib.toList_data
  by_cases h : s.size = 0
  · have hd : s.data.toList = [] := List.eq_nil_of_length_eq_zero h
    exact .inl ⟨by rw [e, hd]; rfl, by rw [sep, if_pos h]⟩
  · have hd : s.data.toList ≠ [] := fun q => h (by show s.data.size = 0; rw [← Array.length_toList, q]; rfl)
    exact .inr ⟨by rw [e]; simpa using hd, by rw [sep, if_neg h]⟩

theorem addI {P : Program} (t : ByteArray) (x : Itm) (ht : t.size ≤ 4398046511104) (hx : x.2.2.2.2.2.size ≤ 1048576) :
    (∀ W : World, (Op.stringOp .add t (strOfNums (digs x.1))).run P W = .ok (.string (t ++ strOfNums (digs x.1))) W) ∧ (∀ W : World, (Op.stringOp .add (t ++ strOfNums (digs x.1)) ⟨#[61]⟩).run P W = .ok (.string (t ++ strOfNums (digs x.1) ++ ⟨#[61]⟩)) W) ∧
      (∀ W : World, (Op.stringOp .add (t ++ strOfNums (digs x.1) ++ ⟨#[61]⟩) (textE x.2.1 x.2.2.1 x.2.2.2.1 x.2.2.2.2.1 x.2.2.2.2.2)).run P W = .ok (.string (t ++ strOfNums (digs x.1) ++ ⟨#[61]⟩ ++ textE x.2.1 x.2.2.1 x.2.2.2.1 x.2.2.2.2.1 x.2.2.2.2.2)) W) := by
  have e1 : (⟨#[61]⟩ : ByteArray).size = 1 := rfl
  have e2 := digs_size x.1
  have e3 := textE_size x.2.1 x.2.2.1 x.2.2.2.1 x.2.2.2.2.1 x.2.2.2.2.2
  refine ⟨?_, ?_, ?_⟩
  all_goals
    intro W
    exact run_string_add_sum W _ _ (by (try simp only [ByteArray.size_append]); omega)
theorem addF {P : Program} (t : ByteArray) (x : Flr) (ht : t.size ≤ 4398046511104) :
    (∀ W : World, (Op.stringOp .add t ⟨#[45]⟩).run P W = .ok (.string (t ++ ⟨#[45]⟩)) W) ∧ (∀ W : World, (Op.stringOp .add (t ++ ⟨#[45]⟩) (strOfNums (digs x.1))).run P W = .ok (.string (t ++ ⟨#[45]⟩ ++ strOfNums (digs x.1))) W) ∧
      (∀ W : World, (Op.stringOp .add (t ++ ⟨#[45]⟩ ++ strOfNums (digs x.1)) ⟨#[60]⟩).run P W = .ok (.string (t ++ ⟨#[45]⟩ ++ strOfNums (digs x.1) ++ ⟨#[60]⟩)) W) ∧
      (∀ W : World, (Op.stringOp .add (t ++ ⟨#[45]⟩ ++ strOfNums (digs x.1) ++ ⟨#[60]⟩) (strOfNums (digs x.2))).run P W = .ok (.string (t ++ ⟨#[45]⟩ ++ strOfNums (digs x.1) ++ ⟨#[60]⟩ ++ strOfNums (digs x.2))) W) := by
  have e1 : (⟨#[45]⟩ : ByteArray).size = 1 := rfl
  have e4 : (⟨#[60]⟩ : ByteArray).size = 1 := rfl
  have e2 := digs_size x.1
  have e3 := digs_size x.2
  refine ⟨?_, ?_, ?_, ?_⟩
  all_goals
    intro W
    exact run_string_add_sum W _ _ (by (try simp only [ByteArray.size_append]); omega)
theorem catI (t : ByteArray) (x : Itm) : t ++ strOfNums (digs x.1) ++ ⟨#[61]⟩ ++ textE x.2.1 x.2.2.1 x.2.2.2.1 x.2.2.2.2.1 x.2.2.2.2.2 = t ++ wI x := by
  unfold wI; rw [ByteArray.append_assoc, ByteArray.append_assoc, ByteArray.append_assoc]
theorem catF (t : ByteArray) (x : Flr) : t ++ ⟨#[45]⟩ ++ strOfNums (digs x.1) ++ ⟨#[60]⟩ ++ strOfNums (digs x.2) = t ++ wF x := by
  unfold wF; rw [ByteArray.append_assoc, ByteArray.append_assoc, ByteArray.append_assoc, ByteArray.append_assoc, ByteArray.append_assoc]

set_option maxHeartbeats 8000000 in
set_option maxRecDepth 100000 in
theorem stx_any (ai : Option Addr) (ni ci : Nat) (xs : List Itm) (af : Option Addr) (nf cf : Nat) (fs : List Flr) (hfi : FitI xs) (hff : FitF fs) (hs : Sml xs) (w : World) (hni : ni ≤ 1048576) (hnf : nf ≤ 1048576) (hx : Rw encI 6 w (.slice ai ni ci) xs) (hf : Rw encF 2 w (.slice af nf cf) fs) :
    Calls Tryz.prog 26 #[.agg #[.slice ai ni ci, .slice af nf cf]] w fun e w' => e = .returned (.string (tx (xs.map wI ++ fs.map wF))) ∧ Below w.heap.size w w' := by
  have HX := hide hx
  have HF := hide hf
  have HFI := hide hfi
  have HFF := hide hff
  have HS := hide hs
  clear hx hf hfi hff hs
  go_enter Tryz.func26, Tryz.ntmps26
  go_wp2
  go_loopw [3, 4] (fun s i wr => ∃ k : Nat, k ≤ ni ∧ i = .int .i64 k ∧ s = .string (tx ((xs.take k).map wI)) ∧ Below w.heap.size w wr ∧ wr.heap[w.heap.size]? = some (.cells #[.slice ai ni ci, .slice af nf cf] 27 (0, 0))) (fun _ i _ => ni - (intOf i).toNat)
  case atStart => exact ⟨0, Nat.zero_le _, rfl, by simp [tx_nil], (Below.refl _ _).alloc (Nat.le_refl _) _, heap_alloc_new w _⟩
  case round =>
    obtain ⟨k, hk, rfl, rfl, hbel, hblk⟩ := hrel
    have HB := hide hbel
    have HK := hide hblk
    have hsz := hbel.size
    have hz0 : w.heap.size < wr.heap.size := (Array.getElem?_eq_some_iff.mp hblk).1
    obtain ⟨p0, p1, p2⟩ := blk_cells2 hblk
    clear hblk
    by_cases hlt : k < ni
    · obtain ⟨x, b, off, hx, rfl, hb, hcap, hc⟩ := (unhide HX).at hlt
      obtain ⟨c0, c1, c2, c3, c4, c5⟩ := item_cells (w := wr) (b := b) (off := off) (k := k) (x := x) (fun j hj => (hbel.cell (p := ⟨b, off + k * 6 + j, none⟩) hb).trans (hc j hj))
      obtain ⟨hxn, hxk⟩ := unhide HFI k x hx
      have hxs := unhide HS k x hx
      have hxk1 := hide hxk
      have HT := hide (tx_app ((xs.take k).map wI) (wI x))
      rw [← take_map_succ wI hx] at HT
      have hss := txI_size (unhide HS) k (by omega)
      generalize tx ((xs.take k).map wI) = s at HT hss ⊢
      have hz1 : b < wr.heap.size := Nat.lt_of_lt_of_le hb hsz
      have l0 := later_some (w := wr) (b := w.heap.size) (o := 0) hz0 p0
      have l1 := later_some (w := wr) (b := w.heap.size) (o := 1) hz0 p1
      have m0 := later_some (w := wr) (b := b) (o := off + k * 6) hz1 c0
      have m1 := later_some (w := wr) (b := b) (o := off + k * 6 + 1) hz1 c1
      have m2 := later_some (w := wr) (b := b) (o := off + k * 6 + 2) hz1 c2
      have m3 := later_some (w := wr) (b := b) (o := off + k * 6 + 3) hz1 c3
      have m4 := later_some (w := wr) (b := b) (o := off + k * 6 + 4) hz1 c4
      have m5 := later_some (w := wr) (b := b) (o := off + k * 6 + 5) hz1 c5
      have hn1 := hxn.1
      have hn2 := hxn.2
      clear hc hx hbel hxk hxn
--@round
      rcases sep_ways s with ⟨hq, he⟩ | ⟨hq, he⟩
      · have HE := hide he
        clear he
        have ht : s.size ≤ 4398046511104 := by omega
        go_upto_region 7 with fail
        obtain ⟨a1, a2, a3⟩ := addI (P := Tryz.prog) s x ht hxs
        refine wp_region_later (by kernel_rfl) (by kernel_rfl) ?_
        repeat (go_big_quiet_step (first
          | (go_at_call 53; exact Calls.later_of (sdigits_any x.1 _ hn1 hn2))
          | (go_at_call 54; exact Calls.later_of (stextK_any x.2 (unhide hxk1) hxs _))))
        refine wpQuiet_nil ?_
        intro w1 hb1
        have HB1 := hide ((unhide HB).trans (hb1.mono hsz))
        have HK1 := hide ((hb1.block _ hz0).trans (unhide HK))
        clear hb1 HB HK
        go_wp2
        go_roundw
        case rel => exact ⟨k + 1, by omega, by go_num, by rw [unhide HT, acc, unhide HE]; exact congrArg Value.string (catI _ _), unhide HB1, unhide HK1⟩
        case measure => simp [intOf]; omega
      · have HE := hide he
        clear he
        have ht : (s ++ ⟨#[32]⟩).size ≤ 4398046511104 := by rw [ByteArray.size_append]; have : (⟨#[32]⟩ : ByteArray).size = 1 := rfl; omega
        have ab : ∀ W : World, (Op.stringOp .add s ⟨#[32]⟩).run Tryz.prog W = .ok (.string (s ++ ⟨#[32]⟩)) W := fun W => run_string_add_sum W _ _ (by have : (⟨#[32]⟩ : ByteArray).size = 1 := rfl; omega)
        go_upto_region 7 with fail
        clear ab
        generalize s ++ ⟨#[32]⟩ = t at HE ht ⊢
        obtain ⟨a1, a2, a3⟩ := addI (P := Tryz.prog) t x ht hxs
        refine wp_region_later (by kernel_rfl) (by kernel_rfl) ?_
        repeat (go_big_quiet_step (first
          | (go_at_call 53; exact Calls.later_of (sdigits_any x.1 _ hn1 hn2))
          | (go_at_call 54; exact Calls.later_of (stextK_any x.2 (unhide hxk1) hxs _))))
        refine wpQuiet_nil ?_
        intro w1 hb1
        have HB1 := hide ((unhide HB).trans (hb1.mono hsz))
        have HK1 := hide ((hb1.block _ hz0).trans (unhide HK))
        clear hb1 HB HK
        go_wp2
        go_roundw
        case rel => exact ⟨k + 1, by omega, by go_num, by rw [unhide HT, acc, unhide HE]; exact congrArg Value.string (catI _ _), unhide HB1, unhide HK1⟩
        case measure => simp [intOf]; omega
    · have HE : Hid (tx ((xs.take k).map wI) = tx (xs.map wI)) := by
        have e : xs.take k = xs := List.take_of_length_le (by have := (unhide HX).len.1; omega)
        rw [e]; exact rfl
      clear hbel
      go_wp2
      go_loopw [3, 5] (fun s i wr => ∃ k : Nat, k ≤ nf ∧ i = .int .i64 k ∧ s = .string (tx (xs.map wI ++ (fs.take k).map wF)) ∧ Below w.heap.size w wr ∧ wr.heap[w.heap.size]? = some (.cells #[.slice ai ni ci, .slice af nf cf] 27 (0, 0))) (fun _ i _ => nf - (intOf i).toNat)
      case atStart => exact ⟨0, Nat.zero_le _, rfl, by rw [unhide HE]; simp, unhide HB, unhide HK⟩
      case round =>
        clear p0 p1 p2 HB HK HE hsz hz0
        obtain ⟨k, hk, rfl, rfl, hbel, hblk⟩ := hrel
        have HB := hide hbel
        have HK := hide hblk
        have hsz := hbel.size
        have hz0 : w.heap.size < wr.heap.size := (Array.getElem?_eq_some_iff.mp hblk).1
        obtain ⟨p0, p1, p2⟩ := blk_cells2 hblk
        clear hblk
        by_cases hlt : k < nf
        · obtain ⟨x, b, off, hx, rfl, hb, hcap, hc⟩ := (unhide HF).at hlt
          have c0 : wr.cell? ⟨b, off + k * 2, none⟩ = some (.int .i64 x.1) := (hbel.cell (p := ⟨b, off + k * 2 + 0, none⟩) hb).trans (hc 0 (by omega))
          have c1 : wr.cell? ⟨b, off + k * 2 + 1, none⟩ = some (.int .i64 x.2) := (hbel.cell (p := ⟨b, off + k * 2 + 1, none⟩) hb).trans (hc 1 (by omega))
          obtain ⟨⟨hn1, hn2⟩, hn3, hn4⟩ := unhide HFF k x hx
          have HT := hide (tx_app (xs.map wI ++ (fs.take k).map wF) (wF x))
          rw [List.append_assoc, ← take_map_succ wF hx] at HT
          have hss := txF_size (fs := fs) (unhide HS) k (by have := (unhide HX).len.1; omega) (by omega)
          generalize tx (xs.map wI ++ (fs.take k).map wF) = s at HT hss ⊢
          have hz1 : b < wr.heap.size := Nat.lt_of_lt_of_le hb hsz
          have l0 := later_some (w := wr) (b := w.heap.size) (o := 0) hz0 p0
          have l1 := later_some (w := wr) (b := w.heap.size) (o := 1) hz0 p1
          have m0 := later_some (w := wr) (b := b) (o := off + k * 2) hz1 c0
          have m1 := later_some (w := wr) (b := b) (o := off + k * 2 + 1) hz1 c1
          clear hc hx hbel
          rcases sep_ways s with ⟨hq, he⟩ | ⟨hq, he⟩
          · have HE := hide he
            clear he
            have ht : s.size ≤ 4398046511104 := by omega
            go_upto_region 13 with fail
            obtain ⟨a1, a2, a3, a4⟩ := addF (P := Tryz.prog) s x ht
            refine wp_region_later (by kernel_rfl) (by kernel_rfl) ?_
            repeat (go_big_quiet_step (first
              | (go_at_call_of 53 (Value.int IntKind.i64 x.1); exact Calls.later_of (sdigits_any x.1 _ hn1 hn2))
              | (go_at_call_of 53 (Value.int IntKind.i64 x.2); exact Calls.later_of (sdigits_any x.2 _ hn3 hn4))))
            refine wpQuiet_nil ?_
            intro w1 hb1
            have HB1 := hide ((unhide HB).trans (hb1.mono hsz))
            have HK1 := hide ((hb1.block _ hz0).trans (unhide HK))
            clear hb1 HB HK
            go_wp2
            go_roundw
            case rel => exact ⟨k + 1, by omega, by go_num, by rw [unhide HT, acc, unhide HE]; exact congrArg Value.string (catF _ _), unhide HB1, unhide HK1⟩
            case measure => simp [intOf]; omega
          · have HE := hide he
            clear he
            have ht : (s ++ ⟨#[32]⟩).size ≤ 4398046511104 := by rw [ByteArray.size_append]; have : (⟨#[32]⟩ : ByteArray).size = 1 := rfl; omega
            have ab : ∀ W : World, (Op.stringOp .add s ⟨#[32]⟩).run Tryz.prog W = .ok (.string (s ++ ⟨#[32]⟩)) W := fun W => run_string_add_sum W _ _ (by have : (⟨#[32]⟩ : ByteArray).size = 1 := rfl; omega)
            go_upto_region 13 with fail
            clear ab
            generalize s ++ ⟨#[32]⟩ = t at HE ht ⊢
            obtain ⟨a1, a2, a3, a4⟩ := addF (P := Tryz.prog) t x ht
            refine wp_region_later (by kernel_rfl) (by kernel_rfl) ?_
            repeat (go_big_quiet_step (first
              | (go_at_call_of 53 (Value.int IntKind.i64 x.1); exact Calls.later_of (sdigits_any x.1 _ hn1 hn2))
              | (go_at_call_of 53 (Value.int IntKind.i64 x.2); exact Calls.later_of (sdigits_any x.2 _ hn3 hn4))))
            refine wpQuiet_nil ?_
            intro w1 hb1
            have HB1 := hide ((unhide HB).trans (hb1.mono hsz))
            have HK1 := hide ((hb1.block _ hz0).trans (unhide HK))
            clear hb1 HB HK
            go_wp2
            go_roundw
            case rel => exact ⟨k + 1, by omega, by go_num, by rw [unhide HT, acc, unhide HE]; exact congrArg Value.string (catF _ _), unhide HB1, unhide HK1⟩
            case measure => simp [intOf]; omega
        · have HE : Hid (tx (xs.map wI ++ (fs.take k).map wF) = tx (xs.map wI ++ fs.map wF)) := by
            have e : fs.take k = fs := List.take_of_length_le (by have := (unhide HF).len.1; omega)
            rw [e]; exact rfl
          clear hbel
          go_wp2
          go_ret
          exact ⟨congrArg (fun t => Ending.returned (Value.string t)) (unhide HE), unhide HB⟩
end Go.Proofs.YtdpaocikmijioaaGreatDoor

namespace Go.Proofs.YtdpaocikmijioaaGreatDoor
open Go.RowKit

def encZ (s : ByteArray) : List Value := [.string s]
theorem encZ_len (s : ByteArray) : (encZ s).length = 1 := rfl
theorem oneZ (s : ByteArray) : ∀ u ∈ encZ s, u.oneCell' = true := by
  intro u hu
  simp [encZ] at hu
  subst hu; rfl
abbrev OwZ (base : Nat) (w : World) (v : Value) (ws : List ByteArray) : Prop := Ow encZ 1 9 base w v ws
theorem Tryz.infoTxt : (Tryz.prog.info? 9).map (fun i => (i.zero, i.size, i.bytes)) = some (some (.string ⟨#[]⟩), 1, 16) := by kernel_rfl
theorem grown_low {B : Nat} {w0 W W' : World} {row : Option Nat} (hb : Below B w0 W) (h : W.grownBy W' row) (hB : B ≤ W.heap.size) (hs : ∀ i, row = some i → B ≤ i) : Below B w0 W' :=
  ⟨h.os.trans hb.os, h.tape.trans hb.tape, h.output.trans hb.output, Nat.le_trans hb.size h.size, fun i hi => (h.block i (Nat.lt_of_lt_of_le hi hB) (fun q => by have := hs i q.symm; omega)).trans (hb.block i hi)⟩
theorem kSI {w V : World} {g : Nat} {T : TypeId} {c0 c1 c2 c3 c4 c5 : Value} (b : Hid (Below w.heap.size w V)) (k : Hid (V.heap[g]? = some (.cells #[c0, c1, c2, c3, c4, c5] T (0, 0)) ∧ g < V.heap.size)) :
    Below w.heap.size w V ∧ V.cell? ⟨g, 0, none⟩ = some c0 ∧ V.cell? ⟨g, 1, none⟩ = some c1 ∧ V.cell? ⟨g, 2, none⟩ = some c2 ∧ V.cell? ⟨g, 3, none⟩ = some c3 ∧ V.cell? ⟨g, 4, none⟩ = some c4 ∧ V.cell? ⟨g, 5, none⟩ = some c5 := by
  obtain ⟨h0, h1, h2, h3, h4, h5, -⟩ := blk_cells6 (unhide k).1
  exact ⟨unhide b, h0, h1, h2, h3, h4, h5⟩
theorem kSF {w V : World} {g : Nat} {T : TypeId} {c0 c1 : Value} (b : Hid (Below w.heap.size w V)) (k : Hid (V.heap[g]? = some (.cells #[c0, c1] T (0, 0)) ∧ g < V.heap.size)) :
    Below w.heap.size w V ∧ V.cell? ⟨g, 0, none⟩ = some c0 ∧ V.cell? ⟨g, 1, none⟩ = some c1 := by
  obtain ⟨h0, h1, -⟩ := blk_cells2 (unhide k).1
  exact ⟨unhide b, h0, h1⟩
theorem kalB {w V : World} {o : Obj} (b : Hid (Below w.heap.size w V)) : Hid (Below w.heap.size w (V.alloc o)) := hide ((unhide b).alloc (unhide b).size _)
theorem kalK {V : World} {g : Nat} {o O : Obj} (k : Hid (V.heap[g]? = some O ∧ g < V.heap.size)) : Hid ((V.alloc o).heap[g]? = some O ∧ g < (V.alloc o).heap.size) := hide ⟨(Below.heap_alloc V o g (unhide k).2).trans (unhide k).1, by have := (unhide k).2; simp; omega⟩
theorem below_same {V W w1 : World} (h : Below V.heap.size V w1) (e : V.heap = W.heap ∧ V.os = W.os ∧ V.tape = W.tape ∧ V.output = W.output) : Below W.heap.size W w1 := by
  obtain ⟨e1, e2, e3, e4⟩ := e
  exact ⟨h.os.trans e2, h.tape.trans e3, h.output.trans e4, e1 ▸ h.size, fun k hk => (h.block k (e1 ▸ hk)).trans (by rw [e1])⟩
theorem itextK_any (e : Key) (h : FitK e) (hd : e.2.2.2.2.size ≤ 1048576) (w : World) (hT : Lib.TabIs Tryz.prog w "internal/strconv.uint64pow10" .u64 Lib.pow10Tab) : Calls Tryz.prog 51 #[.agg #[.int .i64 e.1, .int .i64 e.2.1, .int .i64 e.2.2.1, .int .i64 e.2.2.2.1, .string e.2.2.2.2]] w fun r w' => r = .returned (.string (textE e.1 e.2.1 e.2.2.1 e.2.2.2.1 e.2.2.2.2)) ∧ Below w.heap.size w w' :=
  itext_any _ _ _ _ _ h.1.1 h.1.2 h.2.2.1.1 h.2.2.1.2 h.2.2.2.1 h.2.2.2.2 hd w hT
theorem catsI {P : Program} (x : Itm) (hx : x.2.2.2.2.2.size ≤ 1048576) :
    (∀ W : World, (Op.stringOp .add (strOfNums (digs x.1)) ⟨#[61]⟩).run P W = .ok (.string (strOfNums (digs x.1) ++ ⟨#[61]⟩)) W) ∧ (∀ W : World, (Op.stringOp .add (strOfNums (digs x.1) ++ ⟨#[61]⟩) (textE x.2.1 x.2.2.1 x.2.2.2.1 x.2.2.2.2.1 x.2.2.2.2.2)).run P W = .ok (.string (strOfNums (digs x.1) ++ ⟨#[61]⟩ ++ textE x.2.1 x.2.2.1 x.2.2.2.1 x.2.2.2.2.1 x.2.2.2.2.2)) W) := by
  have e1 : (⟨#[61]⟩ : ByteArray).size = 1 := rfl
  have e2 := digs_size x.1
  have e3 := textE_size x.2.1 x.2.2.1 x.2.2.2.1 x.2.2.2.2.1 x.2.2.2.2.2
  refine ⟨?_, ?_⟩
  all_goals
    intro W
    exact run_string_add_sum W _ _ (by (try simp only [ByteArray.size_append]); omega)
theorem catsF {P : Program} (x : Flr) :
    (∀ W : World, (Op.stringOp .add ⟨#[45]⟩ (strOfNums (digs x.1))).run P W = .ok (.string (⟨#[45]⟩ ++ strOfNums (digs x.1))) W) ∧ (∀ W : World, (Op.stringOp .add (⟨#[45]⟩ ++ strOfNums (digs x.1)) ⟨#[60]⟩).run P W = .ok (.string (⟨#[45]⟩ ++ strOfNums (digs x.1) ++ ⟨#[60]⟩)) W) ∧
      (∀ W : World, (Op.stringOp .add (⟨#[45]⟩ ++ strOfNums (digs x.1) ++ ⟨#[60]⟩) (strOfNums (digs x.2))).run P W = .ok (.string (⟨#[45]⟩ ++ strOfNums (digs x.1) ++ ⟨#[60]⟩ ++ strOfNums (digs x.2))) W) := by
  have e1 : (⟨#[45]⟩ : ByteArray).size = 1 := rfl
  have e4 : (⟨#[60]⟩ : ByteArray).size = 1 := rfl
  have e2 := digs_size x.1
  have e3 := digs_size x.2
  refine ⟨?_, ?_, ?_⟩
  all_goals
    intro W
    exact run_string_add_sum W _ _ (by (try simp only [ByteArray.size_append]); omega)

theorem joinnone_any (a : Option Addr) (c : Nat) (w : World) : Calls Tryz.prog 52 #[.slice a 0 c, .string ⟨#[32]⟩] w fun e w' => e = .returned (.string ⟨#[]⟩) ∧ w = w' :=
  (Any.strings_Join_none Tryz.lays156 Tryz.Builder_Extra_156 a c ⟨#[32]⟩ w).mono fun _ _ ⟨h1, h2⟩ => ⟨h1, h2.symm⟩
theorem joinsome_any (g c : Nat) (ws : List ByteArray) (w : World) (hc : ∀ (j : Nat) (y : ByteArray), ws[j]? = some y → w.cell? ⟨g, 0 + j, none⟩ = some (.string y)) (hg : g < w.heap.size) (hN : ws.length ≤ 140737488355328) (hcap : ws.length ≤ c) (hlen : (Lib.join (ws.map (·.data.toList)) [32]).length ≤ 140737488355328) :
    Calls Tryz.prog 52 #[.slice (some ⟨g, 0, none⟩) ws.length c, .string ⟨#[32]⟩] w fun e w' => e = .returned (.string ⟨(Lib.join (ws.map (·.data.toList)) [32]).toArray⟩) ∧ Below w.heap.size w w' :=
  Tryz.strings_Join g 0 c ws ⟨#[32]⟩ w hc hg hN hcap hlen

set_option maxHeartbeats 8000000 in
set_option maxRecDepth 100000 in
theorem itx_any (ai : Option Addr) (ni ci : Nat) (xs : List Itm) (af : Option Addr) (nf cf : Nat) (fs : List Flr) (hfi : FitI xs) (hff : FitF fs) (hs : Sml xs) (w : World) (hT : Lib.TabIs Tryz.prog w "internal/strconv.uint64pow10" .u64 Lib.pow10Tab) (hni : ni ≤ 1048576) (hnf : nf ≤ 1048576) (hx : Rw encI 6 w (.slice ai ni ci) xs) (hf : Rw encF 2 w (.slice af nf cf) fs) :
    Calls Tryz.prog 25 #[.agg #[.slice ai ni ci, .slice af nf cf]] w fun e w' => e = .returned (.string (tx (xs.map wI ++ fs.map wF))) ∧ Below w.heap.size w w' := by
  obtain ⟨i1, gi, gz0, gz1, gz2⟩ := info_parts Tryz.infoTxt
  have HX := hide hx
  have HF := hide hf
  have HFI := hide hfi
  have HFF := hide hff
  have HS := hide hs
  have HT := hide hT
  clear hx hf hfi hff hs hT
  go_enter Tryz.func25, Tryz.ntmps25
  go_wp2
  go_loopw [3, 11] (fun v i wr => ∃ (k : Nat) (a2 : Option Addr) (n2 c2 : Nat), k ≤ ni ∧ i = .int .i64 k ∧ v = .slice a2 n2 c2 ∧ OwZ w.heap.size wr (.slice a2 n2 c2) ((xs.take k).map wI) ∧ Below w.heap.size w wr ∧ wr.heap[w.heap.size]? = some (.cells #[.slice ai ni ci, .slice af nf cf] 27 (0, 0))) (fun _ i _ => ni - (intOf i).toNat)
  case atStart => exact ⟨0, none, 0, 0, Nat.zero_le _, rfl, rfl, World.ownsRow_nil _ _ _ _, (Below.refl _ _).alloc (Nat.le_refl _) _, heap_alloc_new w _⟩
  case round =>
    obtain ⟨k, a2, n2, c2, hk, rfl, rfl, hown, hbel, hblk⟩ := hrel
    have HO := hide hown
    have HB := hide hbel
    have HK := hide hblk
    have hsz := hbel.size
    have hz0 : w.heap.size < wr.heap.size := (Array.getElem?_eq_some_iff.mp hblk).1
    have hn2 : Hid (n2 = ((xs.take k).map wI).length) := hide (hown.rw encZ_len).len.1
    have hn2l : n2 ≤ 1048576 := by have := unhide hn2; simp at this; omega
    obtain ⟨p0, p1, p2⟩ := blk_cells2 hblk
    clear hblk hown
    by_cases hlt : k < ni
    · obtain ⟨x, b, off, hx, rfl, hb, hcap, hc⟩ := (unhide HX).at hlt
      obtain ⟨c0, c1, c2', c3, c4, c5⟩ := item_cells (w := wr) (b := b) (off := off) (k := k) (x := x) (fun j hj => (hbel.cell (p := ⟨b, off + k * 6 + j, none⟩) hb).trans (hc j hj))
      obtain ⟨hxn, hxk⟩ := unhide HFI k x hx
      have hxs := unhide HS k x hx
      have hxk1 := hide hxk
      have HTK := hide (take_map_succ wI hx)
      have hn1 := hxn.1
      have hn3 := hxn.2
      obtain ⟨q1, q2⟩ := catsI (P := Tryz.prog) x hxs
      have hne := own_ne (unhide HO) (unhide HK) (by decide)
      clear hc hx hbel hxk hxn
      go_upto_region 5 with fail
      obtain ⟨V, hV⟩ : ∃ V, V = wr.alloc (.cells #[.int .i64 x.1, .int .i64 x.2.1, .int .i64 x.2.2.1, .int .i64 x.2.2.2.1, .int .i64 x.2.2.2.2.1, .string x.2.2.2.2.2] 39) := ⟨_, rfl⟩
      rw [← hV]
      have bV : Below wr.heap.size wr V := by rw [hV]; exact (Below.refl _ _).alloc (Nat.le_refl _) _
      have KX : Hid (V.heap[wr.heap.size]? = some (.cells #[.int .i64 x.1, .int .i64 x.2.1, .int .i64 x.2.2.1, .int .i64 x.2.2.2.1, .int .i64 x.2.2.2.2.1, .string x.2.2.2.2.2] 39 (0, 0)) ∧ wr.heap.size < V.heap.size) := by rw [hV]; exact hide ⟨heap_alloc_new _ _, by simp⟩
      have BX := hide ((unhide HB).trans (bV.mono hsz))
      have OX := hide ((unhide HO).later bV)
      have SX := hide (And.intro ((bV.block _ hz0).trans (unhide HK)) (Nat.lt_of_lt_of_le hz0 bV.size))
      have LX := hide (World.ownsRow.lt (unhide HO))
      have hzV := bV.size
      have KXD : Hid (V.drew.heap[wr.heap.size]? = some (.cells #[.int .i64 x.1, .int .i64 x.2.1, .int .i64 x.2.2.1, .int .i64 x.2.2.2.1, .int .i64 x.2.2.2.2.1, .string x.2.2.2.2.2] 39 (0, 0)) ∧ wr.heap.size < V.drew.heap.size) := KX
      have BXD : Hid (Below w.heap.size w V.drew) := hide (unhide BX).drew
      clear hV bV p0 p1 p2 c0 c1 c2' c3 c4 c5 HB HK HO
      go_region_held3 (fun W => Below w.heap.size w W ∧ W.cell? ⟨wr.heap.size, 0, none⟩ = some (.int .i64 x.1) ∧ W.cell? ⟨wr.heap.size, 1, none⟩ = some (.int .i64 x.2.1) ∧ W.cell? ⟨wr.heap.size, 2, none⟩ = some (.int .i64 x.2.2.1) ∧ W.cell? ⟨wr.heap.size, 3, none⟩ = some (.int .i64 x.2.2.2.1) ∧ W.cell? ⟨wr.heap.size, 4, none⟩ = some (.int .i64 x.2.2.2.2.1) ∧ W.cell? ⟨wr.heap.size, 5, none⟩ = some (.string x.2.2.2.2.2))
        (first | (with_reducible exact kSI BX KX) | (with_reducible exact kSI BXD KXD) | (with_reducible exact kSI BX1 KX1) | (with_reducible exact kSI BX2 KX2) | (with_reducible exact kSI (kalB BX2) (kalK KX2)) | (with_reducible exact kSI BX3 KX3))
        (first
          | (go_at_call 50; refine (idigits_any x.1 _ hn1 hn3 (tab_later (unhide HT) (unhide BXD) (tab_lt (unhide HT)))).mono ?_; rintro e w1 ⟨rfl, b1⟩; have b1' : Below V.heap.size V w1 := below_same b1 ⟨rfl, rfl, rfl, rfl⟩; have KX1 := hide (keptblk b1' KX); have SX1 := hide (keptblk b1' SX); have BX1 := hide ((unhide BX).trans (b1'.mono (unhide BX).size)); have OX1 := hide ((unhide OX).later b1'); have z1 := b1'.size; clear b1 b1')
          | (go_at_call 51; refine (itextK_any x.2 (unhide hxk1) hxs _ (tab_later (unhide HT) (unhide BX1) (tab_lt (unhide HT)))).mono ?_; rintro e w2 ⟨rfl, b2⟩; have KX2 := hide (keptblk b2 KX1); have SX2 := hide (keptblk b2 SX1); have BX2 := hide ((unhide BX1).trans (b2.mono (unhide BX1).size)); have OX2 := hide ((unhide OX1).later b2); have z2 := b2.size; clear b2)
          | (refine step_app1 encZ_len (by omega) oneZ 9 74 i1 _ 16 Tryz.underlying74 gi gz0 gz1 gz2 rfl (by omega) w2 (wI x) rfl _ _ rfl w.heap.size _ ((xs.take k).map wI) n2 hn2 rfl (unhide OX2) rfl (by omega) (by omega) ?_; intro a3 c3 w3 hO hG; have OX3 := hide hO; have BX3 := hide (grown_low (unhide BX2) hG (unhide BX2).size (fun i q => (unhide LX i q).1)); have KX3 := hide (And.intro ((hG.block _ (unhide KX2).2 (fun q => by have := unhide LX _ q.symm; omega)).trans (unhide KX2).1) (Nat.lt_of_lt_of_le (unhide KX2).2 hG.size)); have SX3 := hide ((hG.block _ (unhide SX2).2 (fun q => hne q.symm)).trans (unhide SX2).1); clear hO hG))
--@rest
      clear OX OX1 OX2 BX BXD BX1 BX2 KX KXD KX1 KX2 KX3 SX SX1 SX2 q1 q2
      go_wp2
      go_roundw
      case rel => exact ⟨k + 1, a3, n2 + 1, c3, by omega, by go_num, rfl, by rw [unhide HTK]; exact unhide OX3, unhide BX3, unhide SX3⟩
      case measure => simp [intOf]; omega
    · have HE : Hid (OwZ w.heap.size wr (.slice a2 n2 c2) (xs.map wI ++ (fs.take 0).map wF)) := by
        have e : xs.take k = xs := List.take_of_length_le (by have := (unhide HX).len.1; omega)
        have h := unhide HO
        rw [e] at h
        exact hide (by simpa using h)
      clear hbel HO hn2 hn2l
      go_wp2
      go_loopw [3, 30] (fun v i wr => ∃ (k : Nat) (a2 : Option Addr) (n2 c2 : Nat), k ≤ nf ∧ i = .int .i64 k ∧ v = .slice a2 n2 c2 ∧ OwZ w.heap.size wr (.slice a2 n2 c2) (xs.map wI ++ (fs.take k).map wF) ∧ Below w.heap.size w wr) (fun _ i _ => nf - (intOf i).toNat)
      case atStart => exact ⟨0, a2, n2, c2, Nat.zero_le _, rfl, rfl, unhide HE, unhide HB⟩
      case round =>
        clear p0 p1 p2 HB HK HE hsz hz0 hlt hk
        obtain ⟨k, a2, n2, c2, hk, rfl, rfl, hown, hbel⟩ := hrel
        have HO := hide hown
        have HB := hide hbel
        have hsz := hbel.size
        have hn2 : Hid (n2 = (xs.map wI ++ (fs.take k).map wF).length) := hide (hown.rw encZ_len).len.1
        have hn2l : n2 ≤ 2097152 := by have h1 := unhide hn2; have h2 := (unhide HX).len.1; rw [List.length_append, List.length_map, List.length_map, List.length_take] at h1; omega
        clear hown
        by_cases hlt : k < nf
        · obtain ⟨x, b, off, hx, rfl, hb, hcap, hc⟩ := (unhide HF).at hlt
          have c0 : wr.cell? ⟨b, off + k * 2, none⟩ = some (.int .i64 x.1) := (hbel.cell (p := ⟨b, off + k * 2 + 0, none⟩) hb).trans (hc 0 (by omega))
          have c1 : wr.cell? ⟨b, off + k * 2 + 1, none⟩ = some (.int .i64 x.2) := (hbel.cell (p := ⟨b, off + k * 2 + 1, none⟩) hb).trans (hc 1 (by omega))
          obtain ⟨⟨hn1, hn3⟩, hn4, hn5⟩ := unhide HFF k x hx
          have HTK := hide (take_map_succ wF hx)
          obtain ⟨q1, q2, q3⟩ := catsF (P := Tryz.prog) x
          clear hc hx hbel
          go_upto_region 10 with fail
          obtain ⟨V, hV⟩ : ∃ V, V = wr.alloc (.cells #[.int .i64 x.1, .int .i64 x.2] 61) := ⟨_, rfl⟩
          rw [← hV]
          have bV : Below wr.heap.size wr V := by rw [hV]; exact (Below.refl _ _).alloc (Nat.le_refl _) _
          have KX : Hid (V.heap[wr.heap.size]? = some (.cells #[.int .i64 x.1, .int .i64 x.2] 61 (0, 0)) ∧ wr.heap.size < V.heap.size) := by rw [hV]; exact hide ⟨heap_alloc_new _ _, by simp⟩
          have BX := hide ((unhide HB).trans (bV.mono hsz))
          have OX := hide ((unhide HO).later bV)
          have LX := hide (World.ownsRow.lt (unhide HO))
          have hzV := bV.size
          have KXD : Hid (V.drew.heap[wr.heap.size]? = some (.cells #[.int .i64 x.1, .int .i64 x.2] 61 (0, 0)) ∧ wr.heap.size < V.drew.heap.size) := KX
          have BXD : Hid (Below w.heap.size w V.drew) := hide (unhide BX).drew
          clear hV bV c0 c1 HB HO
          go_region_held3 (fun W => Below w.heap.size w W ∧ W.cell? ⟨wr.heap.size, 0, none⟩ = some (.int .i64 x.1) ∧ W.cell? ⟨wr.heap.size, 1, none⟩ = some (.int .i64 x.2))
            (first | (with_reducible exact kSF BX KX) | (with_reducible exact kSF BXD KXD) | (with_reducible exact kSF BX1 KX1) | (with_reducible exact kSF BX2 KX2) | (with_reducible exact kSF (kalB BX2) (kalK KX2)) | (with_reducible exact kSF BX3 KX3))
            (first
              | (go_at_call_of 50 (Value.int IntKind.i64 x.1); refine (idigits_any x.1 _ hn1 hn3 (tab_later (unhide HT) (unhide BXD) (tab_lt (unhide HT)))).mono ?_; rintro e w1 ⟨rfl, b1⟩; have b1' : Below V.heap.size V w1 := below_same b1 ⟨rfl, rfl, rfl, rfl⟩; have KX1 := hide (keptblk b1' KX); have BX1 := hide ((unhide BX).trans (b1'.mono (unhide BX).size)); have OX1 := hide ((unhide OX).later b1'); have z1 := b1'.size; clear b1 b1')
              | (go_at_call_of 50 (Value.int IntKind.i64 x.2); refine (idigits_any x.2 _ hn4 hn5 (tab_later (unhide HT) (unhide BX1) (tab_lt (unhide HT)))).mono ?_; rintro e w2 ⟨rfl, b2⟩; have KX2 := hide (keptblk b2 KX1); have BX2 := hide ((unhide BX1).trans (b2.mono (unhide BX1).size)); have OX2 := hide ((unhide OX1).later b2); have z2 := b2.size; clear b2)
              | (refine step_app1 encZ_len (by omega) oneZ 9 74 i1 _ 16 Tryz.underlying74 gi gz0 gz1 gz2 rfl (by omega) w2 (wF x) rfl _ _ rfl w.heap.size _ (xs.map wI ++ (fs.take k).map wF) n2 hn2 rfl (unhide OX2) rfl (by omega) (by omega) ?_; intro a3 c3 w3 hO hG; have OX3 := hide hO; have BX3 := hide (grown_low (unhide BX2) hG (unhide BX2).size (fun i q => (unhide LX i q).1)); have KX3 := hide (And.intro ((hG.block _ (unhide KX2).2 (fun q => by have := unhide LX _ q.symm; omega)).trans (unhide KX2).1) (Nat.lt_of_lt_of_le (unhide KX2).2 hG.size)); clear hO hG))
          clear OX OX1 OX2 BX BXD BX1 BX2 KX KXD KX1 KX2 KX3 q1 q2 q3
          go_wp2
          go_roundw
          case rel => exact ⟨k + 1, a3, n2 + 1, c3, by omega, by go_num, rfl, by rw [unhide HTK, ← List.append_assoc]; exact unhide OX3, unhide BX3⟩
          case measure => simp [intOf]; omega
        · have e : fs.take k = fs := List.take_of_length_le (by have := (unhide HF).len.1; omega)
          have HE : Hid (OwZ w.heap.size wr (.slice a2 n2 c2) (xs.map wI ++ fs.map wF)) := by
            have h := unhide HO
            rw [e] at h
            exact hide h
          have hsz2 := words_size (fs := fs) (unhide HS)
          have HTX := hide (tx_join (xs.map wI ++ fs.map wF) (fun y hy => (hsz2 y hy).2))
          have hlen : (Lib.join ((xs.map wI ++ fs.map wF).map (·.data.toList)) [32]).length ≤ 140737488355328 := by
            rw [join_size _ (fun y hy => (hsz2 y hy).2)]
            have := txF_size (fs := fs) (unhide HS) fs.length (by have := (unhide HX).len.1; omega) (by have := (unhide HF).len.1; omega)
            rw [List.take_length] at this
            omega
          have HLEN := hide hlen
          obtain ⟨ws, hws⟩ : ∃ ws, xs.map wI ++ fs.map wF = ws := ⟨_, rfl⟩
          have HTW : Hid (tx (xs.map wI ++ fs.map wF) = tx ws) := hide (by rw [hws])
          rw [hws] at HE HLEN HTX
          have hwl : ws.length ≤ 140737488355328 := by rw [← hws, List.length_append, List.length_map, List.length_map]; have := (unhide HX).len.1; have := (unhide HF).len.1; omega
          clear hbel HO hn2 e hsz2 hlen hws
          rcases (unhide HE).2 with ⟨hv, h0⟩ | ⟨g, cap, cur, hv, hg0, hg, hcap, _⟩
          · simp only [Value.slice.injEq] at hv
            obtain ⟨rfl, rfl, rfl⟩ := hv
            obtain rfl : ws = [] := List.eq_nil_of_length_eq_zero h0
            clear h0 HE HTX HLEN
            go_wp2_with fail
            refine (joinnone_any _ _ _).mono ?_
            rintro e w1 ⟨rfl, rfl⟩
            go_wp2
            go_ret
            exact ⟨congrArg (fun t => Ending.returned (Value.string t)) (unhide HTW).symm, unhide HB⟩
          · simp only [Value.slice.injEq] at hv
            obtain ⟨rfl, rfl, rfl⟩ := hv
            have hgs : g < wr.heap.size := (Array.getElem?_eq_some_iff.1 hg).1
            have HCL : Hid (∀ (j : Nat) (y : ByteArray), ws[j]? = some y → wr.cell? ⟨g, 0 + j, none⟩ = some (.string y)) := hide (fun j y hy => by
              have hj : j < ws.length := (List.getElem?_eq_some_iff.1 hy).1
              have h := World.ownsRow.cellAt (unhide HE) j (by omega)
              have h2 := flat_at encZ_len ws j y 0 hy (by omega)
              rw [Nat.mul_one, Nat.add_zero] at h2
              rw [Nat.zero_add, h, h2]
              rfl)
            have HTE := hide ((unhide HTW).trans (unhide HTX))
            clear hg HTW HTX
            go_wp2_with fail
            refine (joinsome_any g c2 ws _ (unhide HCL) hgs hwl hcap (unhide HLEN)).mono ?_
            rintro e w1 ⟨rfl, b1⟩
            have HB1 := hide ((unhide HB).trans (b1.mono hsz))
            clear b1 HCL HE HLEN
            generalize (Lib.join (ws.map (·.data.toList)) [32]).toArray = r at HTE ⊢
            go_wp2
            go_ret
            exact ⟨congrArg (fun t => Ending.returned (Value.string t)) (unhide HTE).symm, unhide HB1⟩
end Go.Proofs.YtdpaocikmijioaaGreatDoor

namespace Go.Proofs.YtdpaocikmijioaaGreatDoor
open Go.RowKit

theorem stx_v (ai : Option Addr) (ni ci : Nat) (xs : List Itm) (af : Option Addr) (nf cf : Nat) (fs : List Flr) (t : ByteArray) (ht : Hid (tx (xs.map wI ++ fs.map wF) = t)) (hfi : FitI xs) (hff : FitF fs) (hs : Sml xs) (w : World) (hni : ni ≤ 1048576) (hnf : nf ≤ 1048576) (hx : Rw encI 6 w (.slice ai ni ci) xs) (hf : Rw encF 2 w (.slice af nf cf) fs) :
    Calls Tryz.prog 26 #[.agg #[.slice ai ni ci, .slice af nf cf]] w fun e w' => e = .returned (.string t) ∧ Below w.heap.size w w' := by
  rw [← unhide ht]; exact stx_any ai ni ci xs af nf cf fs hfi hff hs w hni hnf hx hf
theorem itx_v (ai : Option Addr) (ni ci : Nat) (xs : List Itm) (af : Option Addr) (nf cf : Nat) (fs : List Flr) (t : ByteArray) (ht : Hid (tx (xs.map wI ++ fs.map wF) = t)) (hfi : FitI xs) (hff : FitF fs) (hs : Sml xs) (w : World) (hT : Lib.TabIs Tryz.prog w "internal/strconv.uint64pow10" .u64 Lib.pow10Tab) (hni : ni ≤ 1048576) (hnf : nf ≤ 1048576) (hx : Rw encI 6 w (.slice ai ni ci) xs) (hf : Rw encF 2 w (.slice af nf cf) fs) :
    Calls Tryz.prog 25 #[.agg #[.slice ai ni ci, .slice af nf cf]] w fun e w' => e = .returned (.string t) ∧ Below w.heap.size w w' := by
  rw [← unhide ht]; exact itx_any ai ni ci xs af nf cf fs hfi hff hs w hT hni hnf hx hf
end Go.Proofs.YtdpaocikmijioaaGreatDoor

namespace Go.Proofs.YtdpaocikmijioaaGreatDoor
open Go.RowKit

theorem vw_mem {xs : List Itm} {fs : List Flr} {x : Itm} (h : x ∈ vw xs fs) : okE x.2.1 x.2.2.1 x.2.2.2.1 x.2.2.2.2.1 x.2.2.2.2.2 = true ∧ 0 ≤ x.1 ∧ x.1 ≤ 4 ∧ x.2.2.1 = 0 := by
  unfold vw at h
  split at h
  · rename_i hk
    obtain ⟨h1, h2⟩ := List.mem_filter.1 h
    have := ((okS_iff _ _).1 hk).ix x h1
    exact ⟨this.2.2.1, this.1, this.2.1, by simpa using h2⟩
  · simp at h
theorem vw_fit (xs : List Itm) (fs : List Flr) : FitI (vw xs fs) ∧ Sml (vw xs fs) := by
  refine ⟨fun k x hx => ?_, fun k x hx => ?_⟩
  · obtain ⟨h, h1, h2, _⟩ := vw_mem (List.mem_of_getElem? hx)
    simp only [okE, Bool.and_eq_true, inB_iff] at h
    obtain ⟨⟨⟨⟨a1, a2⟩, a3⟩, a4⟩, _⟩ := h
    exact ⟨⟨by omega, by omega⟩, ⟨by omega, by omega⟩, ⟨by omega, by omega⟩, ⟨by omega, by omega⟩, ⟨by omega, by omega⟩⟩
  · obtain ⟨h, _⟩ := vw_mem (List.mem_of_getElem? hx)
    have := okE_size h
    omega
theorem fit_nil : FitF [] := fun _ _ h => by simp at h

set_option maxHeartbeats 2000000 in
theorem svt_v (ai : Option Addr) (ni ci : Nat) (xs : List Itm) (af : Option Addr) (nf cf : Nat) (fs : List Flr) (t : ByteArray) (ht : Hid (tx ((vw xs fs).map wI ++ ([] : List Flr).map wF) = t)) (w : World)
    (hni : ni ≤ 140737488351232) (hnf : nf ≤ 140737488351232) (hx : Rw encI 6 w (.slice ai ni ci) xs) (hf : Rw encF 2 w (.slice af nf cf) fs) :
    Calls Tryz.prog 12 #[.agg #[.slice ai ni ci, .slice af nf cf]] w fun e w' => e = .returned (.string t) ∧ Below w.heap.size w w' := by
  have HX := hide (hx.alloc (.cells #[.slice ai ni ci, .slice af nf cf] 27))
  have HF := hide (hf.alloc (.cells #[.slice ai ni ci, .slice af nf cf] 27))
  clear hx hf
  go_enter Tryz.func12, Tryz.ntmps12
  go_wp2_with fail
  refine (sview_any ai ni ci xs af nf cf fs _ hni hnf (unhide HX) (unhide HF)).mono ?_
  rintro e w1 ⟨a1, n1, c1, rfl, o1, b1⟩
  have n5 : n1 ≤ 5 := by have := (o1.rw encI_len).len.1; have := vw_len xs fs; omega
  have R1 := hide (o1.rw encI_len)
  have HB1 := hide (((Below.refl w.heap.size w).alloc (Nat.le_refl _) _).trans (b1.mono (by simp)))
  clear o1 b1 HX HF
  go_wp2_with fail
  refine (stx_v a1 n1 c1 (vw xs fs) none 0 0 [] t ht (vw_fit xs fs).1 fit_nil (vw_fit xs fs).2 _ (by omega) (by omega) (unhide R1) Rw.nil).mono ?_
  rintro e w2 ⟨rfl, b2⟩
  have HB2 := hide ((unhide HB1).trans (b2.mono (unhide HB1).size))
  clear b2
  go_wp2
  go_ret
  exact ⟨rfl, unhide HB2⟩
set_option maxHeartbeats 2000000 in
theorem ivt_v (ai : Option Addr) (ni ci : Nat) (xs : List Itm) (af : Option Addr) (nf cf : Nat) (fs : List Flr) (t : ByteArray) (ht : Hid (tx ((vw xs fs).map wI ++ ([] : List Flr).map wF) = t)) (w : World) (hT : Lib.TabIs Tryz.prog w "internal/strconv.uint64pow10" .u64 Lib.pow10Tab)
    (hni : ni ≤ 140737488351232) (hnf : nf ≤ 140737488351232) (hx : Rw encI 6 w (.slice ai ni ci) xs) (hf : Rw encF 2 w (.slice af nf cf) fs) :
    Calls Tryz.prog 11 #[.agg #[.slice ai ni ci, .slice af nf cf]] w fun e w' => e = .returned (.string t) ∧ Below w.heap.size w w' := by
  obtain ⟨n1, hn1⟩ : ∃ z, Hid ((vw xs fs).length = z) := ⟨_, hide rfl⟩
  have n5 : n1 ≤ 5 := by have := vw_len xs fs; rw [unhide hn1] at this; exact this
  have HX := hide (hx.alloc (.cells #[.slice ai ni ci, .slice af nf cf] 27))
  have HF := hide (hf.alloc (.cells #[.slice ai ni ci, .slice af nf cf] 27))
  have HT := hide hT
  clear hx hf hT
  go_enter Tryz.func11, Tryz.ntmps11
  go_wp2_with fail
  refine (iview_any ai ni ci xs af nf cf fs n1 hn1 _ hni hnf (unhide HX) (unhide HF)).mono ?_
  rintro e w1 ⟨a1, c1, rfl, o1, b1⟩
  have R1 := hide (o1.rw encI_len)
  have HB1 := hide (((Below.refl w.heap.size w).alloc (Nat.le_refl _) _).trans (b1.mono (by simp)))
  clear o1 b1 HX HF
  go_wp2_with fail
  refine (itx_v a1 n1 c1 (vw xs fs) none 0 0 [] t ht (vw_fit xs fs).1 fit_nil (vw_fit xs fs).2 _ (tab_later (unhide HT) (unhide HB1) (tab_lt (unhide HT))) (by omega) (by omega) (unhide R1) Rw.nil).mono ?_
  rintro e w2 ⟨rfl, b2⟩
  have HB2 := hide ((unhide HB1).trans (b2.mono (unhide HB1).size))
  clear b2
  go_wp2
  go_ret
  exact ⟨rfl, unhide HB2⟩
end Go.Proofs.YtdpaocikmijioaaGreatDoor

namespace Go.Proofs.YtdpaocikmijioaaGreatDoor
open Go.RowKit

set_option maxHeartbeats 8000000 in
set_option maxRecDepth 100000 in
theorem ijoinf_any (vi : Value) (af : Option Addr) (nf cf : Nat) (fs : List Flr) (vj : Value) (bf : Option Addr) (mf df : Nat) (gs : List Flr) (w : World)
    (hnf : nf ≤ 140737488351232) (hmf : mf ≤ 140737488351232) (hf : Rw encF 2 w (.slice af nf cf) fs) (hg : Rw encF 2 w (.slice bf mf df) gs) :
    Calls Tryz.prog 15 #[.agg #[vi, .slice af nf cf], .agg #[vj, .slice bf mf df]] w fun e w' => ∃ a2 n2 c2, e = .returned (.slice a2 n2 c2) ∧ OwF w.heap.size w' (.slice a2 n2 c2) (joinF fs gs) ∧ Below w.heap.size w w' := by
  obtain ⟨i1, gi, gz0, gz1, gz2⟩ := info_parts Tryz.infoFloor
  have HF := hide hf
  have HG := hide hg
  clear hf hg
  go_enter Tryz.func15, Tryz.ntmps15
  go_wp2
  go_loopw [5, 8] (fun v i wr => ∃ (k : Nat) (a2 : Option Addr) (n2 c2 : Nat), k ≤ 5 ∧ i = .int .i64 k ∧ v = .slice a2 n2 c2 ∧ OwF w.heap.size wr (.slice a2 n2 c2) (jF fs gs k) ∧ Below w.heap.size w wr ∧ wr.heap[w.heap.size]? = some (.cells #[vi, .slice af nf cf] 27 (0, 0)) ∧ wr.heap[w.heap.size + 1]? = some (.cells #[vj, .slice bf mf df] 27 (0, 0))) (fun _ i _ => 5 - (intOf i).toNat)
  case atStart => exact ⟨0, none, 0, 0, by omega, rfl, rfl, World.ownsRow_nil _ _ _ _, ((Below.refl _ _).alloc (Nat.le_refl _) _).alloc (by simp) _, lowB2 w _ _, newB2 w _ _⟩
  case round =>
    obtain ⟨k, a2, n2, c2, hk, rfl, rfl, hown, hbel, ka, kb⟩ := hrel
    have HO := hide hown
    have HB := hide hbel
    have KA := hide ka
    have KB := hide kb
    have hsz := hbel.size
    have hz : w.heap.size + 1 < wr.heap.size := (Array.getElem?_eq_some_iff.mp kb).1
    obtain ⟨pa0, pa1, -⟩ := blk_cells2 ka
    obtain ⟨pb0, pb1, -⟩ := blk_cells2 kb
    clear hown ka kb
    by_cases hlt : k < 5
    · obtain ⟨fa, hfa⟩ : ∃ fa, flo fs k = fa := ⟨_, rfl⟩
      obtain ⟨fb, hfb⟩ : ∃ fb, flo gs k = fb := ⟨_, rfl⟩
      have HFA := hide hfa
      have HFB := hide hfb
      have HF0 : Hid (fl2 fs gs k = max fa fb) := hide (by rw [fl2, hfa, hfb]; split <;> omega)
      have hdk : decide ((k : Int) < 5) = true := by simp; omega
      clear hfa hfb
      have la0 := later_some (w := wr) (b := w.heap.size) (o := 0) (by omega) pa0
      have la1 := later_some (w := wr) (b := w.heap.size) (o := 1) (by omega) pa1
      have lb0 := later_some (w := wr) (b := w.heap.size + 1) (o := 0) (by omega) pb0
      have lb1 := later_some (w := wr) (b := w.heap.size + 1) (o := 1) (by omega) pb1
      have RF := hide ((unhide HF).later hbel)
      have RG := hide ((unhide HG).later hbel)
      clear hbel
      go_wp2_with fail
      refine wp_region_later (by kernel_rfl) (by kernel_rfl) ?_
      repeat (go_big_quiet_step (first
        | (go_at_call_of 23 (Value.slice af nf cf); exact Calls.later_of (ifloor_v _ af nf cf fs _ fa HFA _ hnf ((unhide RF).in_later _ _)))
        | (go_at_call_of 23 (Value.slice bf mf df); exact Calls.later_of (ifloor_v _ bf mf df gs _ fb HFB _ hmf ((unhide RG).in_later _ _)))))
      refine wpQuiet_nil ?_
      intro w1 hb1
      generalize hm : max fa fb = f at HF0 ⊢
      have HO1 := hide ((unhide HO).later hb1)
      have HB1 := hide ((unhide HB).trans (hb1.mono hsz))
      have KA1 := hide ((hb1.block _ (by omega)).trans (unhide KA))
      have KB1 := hide ((hb1.block _ (by omega)).trans (unhide KB))
      have hz1 : w.heap.size + 1 < w1.heap.size := Nat.lt_of_lt_of_le hz hb1.size
      have hn2 : Hid (n2 = (jF fs gs k).length) := hide ((unhide HO1).rw encF_len).len.1
      have hn2l : n2 ≤ 5 := by have := unhide hn2; have := jF_len fs gs k; omega
      clear hm hb1 la0 la1 lb0 lb1 RF RG pa0 pa1 pb0 pb1 HO HB KA KB HFA HFB hsz hz
      have hw1 : w.heap.size ≤ w1.heap.size := by omega
      rcases Bool.eq_false_or_eq_true (decide (0 < f)) with hpos | hpos
      · go_wp2_with (first | (at_builtin; refine wpList_app1 encF_len (by omega) oneF 61 25 i1 _ 16 Tryz.underlying25 gi gz0 gz1 gz2 rfl (by omega) w1 ((k : Int), f) rfl _ _ rfl w.heap.size _ (jF fs gs k) n2 hn2 rfl (unhide HO1) rfl (by omega) hw1 ?_; intro a2' c2' w2 hO hG; have HO2 := hide hO; have HB2 := hide ((Trn.of_grown hG).below (unhide HB1) hw1 (fun i q => (World.ownsRow.lt (unhide HO1) i q).1)); have HG2 := hide hG; clear hO hG))
        go_roundw
        case rel =>
          have hnA := own_ne (unhide HO1) (unhide KA1) (by decide)
          have hnB := own_ne (unhide HO1) (unhide KB1) (by decide)
          exact ⟨k + 1, a2', n2 + 1, c2', by omega, by go_num, rfl, by rw [jF_pos (by rw [unhide HF0]; exact hpos), unhide HF0]; exact unhide HO2, unhide HB2, ((unhide HG2).block _ (by omega) (fun q => hnA q.symm)).trans (unhide KA1), ((unhide HG2).block _ (by omega) (fun q => hnB q.symm)).trans (unhide KB1)⟩
        case measure => simp [intOf]; omega
      · go_wp2
        go_roundw
        case rel => exact ⟨k + 1, a2, n2, c2, by omega, by go_num, rfl, by rw [jF_neg (by rw [unhide HF0]; exact hpos)]; exact unhide HO1, unhide HB1, unhide KA1, unhide KB1⟩
        case measure => simp [intOf]; omega
    · have hdk : decide ((k : Int) < 5) = false := by simp; omega
      have HE : Hid (OwF w.heap.size wr (.slice a2 n2 c2) (joinF fs gs)) := by
        have h := unhide HO
        have e : k = 5 := by omega
        rw [e] at h
        exact hide h
      clear hbel HO
      go_wp2
      go_ret
      exact ⟨a2, n2, c2, rfl, unhide HE, unhide HB⟩
end Go.Proofs.YtdpaocikmijioaaGreatDoor

namespace Go.Proofs.YtdpaocikmijioaaGreatDoor
open Go.RowKit Go.Maps

/-- How an element of the map reads: as the entry that it is. -/
def RK : Value → Option (DataW Key × List MemPlace)
  | .agg cs => match cs.toList with
    | [.int .i64 i, .int .i64 r, .int .i64 b, .int .i64 v, .string d] => some (.held (i, r, b, v, d), [])
    | _ => none
  | _ => none
theorem RK_mk (e : Key) : RK (.agg #[.int .i64 e.1, .int .i64 e.2.1, .int .i64 e.2.2.1, .int .i64 e.2.2.2.1, .string e.2.2.2.2]) = some (.held e, []) := rfl
theorem RK_inv {v : Value} {z : DataW Key × List MemPlace} (h : RK v = some z) : ∃ e : Key, v = .agg #[.int .i64 e.1, .int .i64 e.2.1, .int .i64 e.2.2.1, .int .i64 e.2.2.2.1, .string e.2.2.2.2] ∧ z = (.held e, []) := by
  unfold RK at h
  split at h
  · rename_i cs
    split at h
    · rename_i i r b v d hcs
      cases h
      refine ⟨(i, r, b, v, d), ?_, rfl⟩
      obtain ⟨l⟩ := cs
      simp only at hcs
      rw [hcs]
    · cases h
  · cases h

theorem klaw : Keyed Tryz.prog 3 := int_keyed Tryz.underlying3
theorem wf_fit {n : Int} (h : FitN n) : (Lit.int .i64 n).wf = true := by
  unfold FitN at h
  simp [Lit.wf, IntKind.min, IntKind.max, IntKind.bits, IntKind.signed]
  omega
theorem kof {n : Int} (h : FitN n) : keyOf Tryz.prog 3 (.int .i64 n) = some (.int .i64 n) := keyOf_int_mk Tryz.underlying3 (wf_fit h)

/-- The map reads as the function m. -/
def MapV (D : DataW Key) (m : Int → Option Key) : Prop := ∀ id, FitN id → ∀ z, D.atKey (.int .i64 id) z = (match m id with
  | some e => .held e
  | none => z)
def upd (m : Int → Option Key) (id : Int) (e : Key) : Int → Option Key := fun j => if j = id then some e else m j
def cut (m : Int → Option Key) (id : Int) : Int → Option Key := fun j => if j = id then none else m j
def mget (m : Int → Option Key) (id : Int) : Key := (m id).getD zeroK
theorem MapV.nil : MapV (.map []) (fun _ => none) := fun _ _ _ => rfl
theorem lit_ne {a b : Int} (h : a ≠ b) : (Lit.int .i64 a) ≠ Lit.int .i64 b := fun e => h (by injection e)
theorem MapV.put {D : DataW Key} {m : Int → Option Key} (h : MapV D m) (hm : IsMap D) {id : Int} (hk : WideAt.IsKeyLit (Lit.int .i64 id)) (e : Key) : MapV (D.put (.int .i64 id) (.held e)) (upd m id e) := by
  intro j hj z
  unfold upd
  by_cases c : j = id
  · subst c
    rw [atKey_put_same hm hk, if_pos rfl]
  · rw [atKey_put_other (lit_ne c), if_neg c]
    exact h j hj z
theorem MapV.del {D : DataW Key} {m : Int → Option Key} (h : MapV D m) (id : Int) : MapV (D.del (.int .i64 id)) (cut m id) := by
  intro j hj z
  unfold cut
  by_cases c : j = id
  · subst c
    rw [atKey_del_same, if_pos rfl]
  · rw [atKey_del_other (lit_ne c), if_neg c]
    exact h j hj z
theorem key_lit (id : Int) : WideAt.IsKeyLit (Lit.int .i64 id) := trivial

theorem zeroE (w : World) : (zeroValue 33).run Tryz.prog w = .ok (.agg #[.int .i64 zeroK.1, .int .i64 zeroK.2.1, .int .i64 zeroK.2.2.1, .int .i64 zeroK.2.2.2.1, .string zeroK.2.2.2.2]) w := by kernel_rfl
theorem field0 (e : Key) (w : World) : (Instr.field 33 (.agg #[.int .i64 e.1, .int .i64 e.2.1, .int .i64 e.2.2.1, .int .i64 e.2.2.2.1, .string e.2.2.2.2]) 0).run Tryz.prog w = .ok (.int .i64 e.1) w := by
  have h := Tryz.underlying33
  have h3 := Tryz.underlying3
  simp [Instr.field, run_underlying h, asAgg, part, isAgg, sizeOf, run_underlying h3, typeInfo]
abbrev OwM (w : World) (b n : Nat) (D : DataW Key) : Prop := w.ownsMap Tryz.prog 3 RK b n D
/-- 'm[id]'. -/
theorem look {w : World} {b n : Nat} {D : DataW Key} {m : Int → Option Key} (h : OwM w b n D) (hv : MapV D m) {id : Int} (hid : FitN id) :
    (Instr.lookup 43 (.map (some b)) (.int .i64 id) false).run Tryz.prog w = .ok (.agg #[.int .i64 (mget m id).1, .int .i64 (mget m id).2.1, .int .i64 (mget m id).2.2.1, .int .i64 (mget m id).2.2.2.1, .string (mget m id).2.2.2.2]) w := by
  obtain ⟨v, ps, hrun, hR⟩ := h.lookup klaw Tryz.underlying43 (zeroE w) (RK_mk zeroK) (kof hid)
  obtain ⟨e, rfl, he⟩ := RK_inv hR
  rw [hrun]
  simp only [Prod.mk.injEq] at he
  have h1 := hv id hid (.held zeroK)
  rw [h1] at he
  have : mget m id = e := by
    unfold mget
    cases hm : m id with
    | none => rw [hm] at he; simp only [DataW.held.injEq] at he; exact he.1
    | some x => rw [hm] at he; simp only [DataW.held.injEq] at he; exact he.1
  rw [this]
end Go.Proofs.YtdpaocikmijioaaGreatDoor

namespace Go.Proofs.YtdpaocikmijioaaGreatDoor
open Go.RowKit Go.Maps

theorem imaxK_any (a b r : Key) (hr : Hid (mx a b = r)) (ha : a.2.2.2.2.size ≤ 1048576) (hb : b.2.2.2.2.size ≤ 1048576) (w : World) : Calls Tryz.prog 35 #[.agg #[.int .i64 a.1, .int .i64 a.2.1, .int .i64 a.2.2.1, .int .i64 a.2.2.2.1, .string a.2.2.2.2], .agg #[.int .i64 b.1, .int .i64 b.2.1, .int .i64 b.2.2.1, .int .i64 b.2.2.2.1, .string b.2.2.2.2]] w fun e w' => e = .returned (.agg #[.int .i64 r.1, .int .i64 r.2.1, .int .i64 r.2.2.1, .int .i64 r.2.2.2.1, .string r.2.2.2.2]) ∧ Below w.heap.size w w' := by
  refine imax_is _ _ _ _ _ _ _ _ _ _ _ _ _ _ _ ?_ (by omega) (by omega) w
  rw [isMax_mx]
  exact (unhide hr).symm

/-- The items laid into the map, one behind the other. -/
def fm (m : Int → Option Key) : List Itm → Int → Option Key
  | [] => m
  | x :: r => fm (upd m x.1 (mx (mget m x.1) x.2)) r
theorem fm_at {m : Int → Option Key} {xs : List Itm} {k : Nat} {x : Itm} (h : xs[k]? = some x) : fm m (xs.drop k) = fm (upd m x.1 (mx (mget m x.1) x.2)) (xs.drop (k + 1)) := by
  rw [drop_at h, fm]
def SmlM (m : Int → Option Key) : Prop := ∀ id e, m id = some e → e.2.2.2.2.size ≤ 1048576
theorem mget_sml {m : Int → Option Key} (h : SmlM m) (id : Int) : (mget m id).2.2.2.2.size ≤ 1048576 := by
  unfold mget
  cases hm : m id with
  | none => show (zeroK.2.2.2.2.size) ≤ _; exact Nat.zero_le _
  | some e => exact h id e hm
theorem mx_sml {a b : Key} (ha : a.2.2.2.2.size ≤ 1048576) (hb : b.2.2.2.2.size ≤ 1048576) : (mx a b).2.2.2.2.size ≤ 1048576 := by
  unfold mx
  split
  · exact hb
  · exact ha
theorem upd_sml {m : Int → Option Key} (h : SmlM m) (id : Int) {e : Key} (he : e.2.2.2.2.size ≤ 1048576) : SmlM (upd m id e) := by
  intro j x hx
  unfold upd at hx
  split at hx
  · cases hx; exact he
  · exact h j x hx
theorem cut_sml {m : Int → Option Key} (h : SmlM m) (id : Int) : SmlM (cut m id) := by
  intro j x hx
  unfold cut at hx
  split at hx
  · cases hx
  · exact h j x hx

theorem owm_later {w w' : World} {b n : Nat} {D : DataW Key} (h : OwM w b n D) (hb : Below w.heap.size w w') : OwM w' b n D := h.kept (grown_below none hb) (by simp)
/-- A row of cells is no map. -/
theorem Rw.beside {α : Type} {enc : α → List Value} {k : Nat} (hk : ∀ x, (enc x).length = k) (h0 : 0 < k) {w w' : World} {v : Value} {xs : List α} (h : Rw enc k w v xs) {b n : Nat} {D : DataW Key} (hm : OwM w b n D) (hg : w.grownBy w' (some b)) : Rw enc k w' v xs := by
  obtain ⟨a, cap, rfl, hcap, h⟩ := h
  refine ⟨a, cap, rfl, hcap, ?_⟩
  rcases h with h | ⟨g, off, rfl, hlt, hc⟩
  · exact .inl h
  · by_cases hz : xs = []
    · exact .inl hz
    · refine .inr ⟨g, off, rfl, Nat.lt_of_lt_of_le hlt hg.size, fun i x hx j hj => ?_⟩
      have hne : g ≠ b := by
        intro e
        subst e
        have hpos : 0 < xs.length := List.length_pos_iff.2 hz
        have := hc 0 xs[0] (by simp [hpos]) 0 h0
        obtain ⟨es, clock, hh, _⟩ := hm
        have e0 : (enc xs[0])[0]? = some ((enc xs[0])[0]'(by rw [hk]; exact h0)) := List.getElem?_eq_getElem _
        rw [e0] at this
        simp [World.cell?, hh] at this
      exact (World.cell?_of_block (w := w) (hg.block g hlt (by simp [hne]))).trans (hc i x hx j hj)

theorem keepX {W : World} {g : Nat} {T : TypeId} {c0 c1 c2 c3 c4 c5 : Value} (h : W.heap[g]? = some (.cells #[c0, c1, c2, c3, c4, c5] T (0, 0))) : W.cell? ⟨g, 0, none⟩ = some c0 ∧ W.cell? ⟨g, 1, none⟩ = some c1 ∧ W.cell? ⟨g, 2, none⟩ = some c2 ∧ W.cell? ⟨g, 3, none⟩ = some c3 ∧ W.cell? ⟨g, 4, none⟩ = some c4 ∧ W.cell? ⟨g, 5, none⟩ = some c5 := by
  obtain ⟨h0, h1, h2, h3, h4, h5, -⟩ := blk_cells6 h
  exact ⟨h0, h1, h2, h3, h4, h5⟩
set_option maxHeartbeats 8000000 in
set_option maxRecDepth 100000 in
theorem ijoini_any (bm n : Nat) (D : DataW Key) (m : Int → Option Key) (ai : Option Addr) (ni ci : Nat) (xs : List Itm) (hfit : ∀ (k : Nat) (x : Itm), xs[k]? = some x → FitN x.1 ∧ x.2.2.2.2.2.size ≤ 1048576) (hsm : SmlM m) (w : World) (hni : ni ≤ 1000000) (hn : n ≤ 1000000)
    (hm : OwM w bm n D) (hv : MapV D m) (hx : Rw encI 6 w (.slice ai ni ci) xs) :
    Calls Tryz.prog 16 #[.map (some bm), .slice ai ni ci] w fun e w' => e = .returned (.tuple #[]) ∧ (∃ n' D', OwM w' bm n' D' ∧ n' ≤ n + ni ∧ MapV D' (fm m xs) ∧ SmlM (fm m xs)) ∧ w.grownBy w' (some bm) := by
  have HX := hide hx
  have HM := hide hm
  have HV := hide hv
  have HS := hide hsm
  have HFT := hide hfit
  clear hx hm hv hsm hfit
  go_enter Tryz.func16, Tryz.ntmps16
  go_wp2
  go_loopw [8] (fun i wr => ∃ (k n' : Nat) (D' : DataW Key) (m' : Int → Option Key), k ≤ ni ∧ i = .int .i64 k ∧ n' ≤ n + k ∧ OwM wr bm n' D' ∧ MapV D' m' ∧ SmlM m' ∧ fm m' (xs.drop k) = fm m xs ∧ w.grownBy wr (some bm)) (fun i _ => ni - (intOf i).toNat)
  case atStart => exact ⟨0, n, D, m, Nat.zero_le _, rfl, by omega, unhide HM, unhide HV, unhide HS, rfl, grown_refl _ _⟩
  case round =>
    obtain ⟨k, n', D', m', hk, rfl, hn', hM, hV, hS, hrec, hgr⟩ := hrel
    have HM1 := hide hM
    have HV1 := hide hV
    have HS1 := hide hS
    have HR := hide hrec
    have HG := hide hgr
    have RX := hide ((unhide HX).beside encI_len (by omega) (unhide HM) hgr)
    clear hM hV hS hrec hgr
    by_cases hlt : k < ni
    · obtain ⟨x, b, off, hx, rfl, hb, hcap, hc⟩ := (unhide RX).at hlt
      obtain ⟨c0, c1, c2, c3, c4, c5⟩ := item_cells hc
      obtain ⟨hid, hxs⟩ := unhide HFT k x hx
      obtain ⟨g, hg⟩ : ∃ g, mget m' x.1 = g := ⟨_, rfl⟩
      obtain ⟨r, hr⟩ : ∃ r, mx g x.2 = r := ⟨_, rfl⟩
      have hgs : g.2.2.2.2.size ≤ 1048576 := by rw [← hg]; exact mget_sml (unhide HS1) _
      have hrs : r.2.2.2.2.size ≤ 1048576 := by rw [← hr]; exact mx_sml hgs hxs
      have HE := hide (fm_at (m := m') hx)
      rw [unhide HR, hg, hr] at HE
      have HRR := hide hr
      have HID := hide hid
      have hlk := look (unhide HM1) (unhide HV1) hid
      rw [hg] at hlk
      have HLK := hide hlk
      clear hc hx hg hr hlk hid
      go_wp2_with fail
      obtain ⟨W, hW⟩ : ∃ W, W = wr.alloc (.cells #[.int .i64 x.1, .int .i64 x.2.1, .int .i64 x.2.2.1, .int .i64 x.2.2.2.1, .int .i64 x.2.2.2.2.1, .string x.2.2.2.2.2] 39) := ⟨_, rfl⟩
      rw [← hW]
      have hWB : Below wr.heap.size wr W := by rw [hW]; exact (Below.refl _ _).alloc (Nat.le_refl _) _
      have KX : Hid (W.heap[wr.heap.size]? = some (.cells #[.int .i64 x.1, .int .i64 x.2.1, .int .i64 x.2.2.1, .int .i64 x.2.2.2.1, .int .i64 x.2.2.2.2.1, .string x.2.2.2.2.2] 39 (0, 0)) ∧ wr.heap.size < W.heap.size) := by rw [hW]; exact hide ⟨newB1 wr _, by simp⟩
      have KXD : Hid (W.drew.heap[wr.heap.size]? = some (.cells #[.int .i64 x.1, .int .i64 x.2.1, .int .i64 x.2.2.1, .int .i64 x.2.2.2.1, .int .i64 x.2.2.2.2.1, .string x.2.2.2.2.2] 39 (0, 0)) ∧ wr.heap.size < W.drew.heap.size) := KX
      have HMW := hide (owm_later (unhide HM1) hWB)
      have hlk : (Instr.lookup 43 (.map (some bm)) (.int .i64 x.1) false).run Tryz.prog W.drew = .ok (.agg #[.int .i64 g.1, .int .i64 g.2.1, .int .i64 g.2.2.1, .int .i64 g.2.2.2.1, .string g.2.2.2.2]) W.drew := by
        have h := look (show OwM W.drew bm n' D' from unhide HMW) (unhide HV1) (unhide HID)
        have h2 := unhide HLK
        rw [look (unhide HM1) (unhide HV1) (unhide HID)] at h2
        simp only [Result.ok.injEq, and_true] at h2
        rw [h2] at h
        exact h
      have HWB := hide hWB
      clear hW hWB HLK c0 c1 c2 c3 c4 c5
      have hbmne : bm ≠ wr.heap.size := fun e => by have := (unhide HM1).lt; omega
      go_region_held3 (fun V => V.cell? ⟨wr.heap.size, 0, none⟩ = some (.int .i64 x.1) ∧ V.cell? ⟨wr.heap.size, 1, none⟩ = some (.int .i64 x.2.1) ∧ V.cell? ⟨wr.heap.size, 2, none⟩ = some (.int .i64 x.2.2.1) ∧ V.cell? ⟨wr.heap.size, 3, none⟩ = some (.int .i64 x.2.2.2.1) ∧ V.cell? ⟨wr.heap.size, 4, none⟩ = some (.int .i64 x.2.2.2.2.1) ∧ V.cell? ⟨wr.heap.size, 5, none⟩ = some (.string x.2.2.2.2.2))
        (first | (with_reducible exact keepX (unhide KX).1) | (with_reducible exact keepX (unhide KXD).1) | (with_reducible exact keepX (unhide KX1).1) | (with_reducible exact keepX (unhide KX2).1))
        (first | (go_at_call 35; refine (imaxK_any g x.2 r HRR hgs hxs _).mono ?_; rintro e w1 ⟨rfl, b1⟩; have b1' : Below W.heap.size W w1 := ⟨b1.os, b1.tape, b1.output, b1.size, b1.block⟩; have KX1 := hide (keptblk b1' KX); obtain ⟨w2, hrun, hM2, hG2⟩ := (owm_later (unhide HMW) b1').update klaw Tryz.underlying43 (by unfold maxLen; omega) (kof (unhide HID)) (RK_mk r); have KX2 := hide (And.intro ((hG2.block _ (unhide KX1).2 (by simp; exact fun e => hbmne e.symm)).trans (unhide KX1).1) (Nat.lt_of_lt_of_le (unhide KX1).2 hG2.size)); have HM2 := hide hM2; have HG2 := hide hG2; have HB1 := hide b1'; clear b1 b1' hM2 hG2))
      have HG3 := hide (grown_trans2 (unhide HG) (grown_trans2 (grown_below _ ((unhide HWB).trans ((unhide HB1).mono (unhide HWB).size))) (unhide HG2)))
      clear HG HWB HB1 HG2 hrun hlk KX KXD KX1 KX2
      go_wp2
      go_roundw
      case rel => exact ⟨k + 1, n' + 1, _, upd m' x.1 r, by omega, by go_num, by omega, unhide HM2, (unhide HV1).put (unhide HM1).isMap (key_lit _) r, upd_sml (unhide HS1) _ hrs, (unhide HE).symm, unhide HG3⟩
      case measure => simp [intOf]; omega
    · have HE : Hid (m' = fm m xs) := by
        have h := unhide HR
        rw [drop_end (unhide HX).len.1 hk hlt] at h
        exact hide h
      go_wp2
      go_end0
      exact ⟨rfl, ⟨n', D', unhide HM1, by omega, unhide HE ▸ unhide HV1, unhide HE ▸ unhide HS1⟩, unhide HG⟩

/-- What is over is dropped, floor by floor. -/
def fd (m : Int → Option Key) : List Flr → Int → Option Key
  | [] => m
  | f :: r => fd (if (mget m f.1).1 ≤ f.2 then cut m f.1 else m) r
theorem fd_hit {m : Int → Option Key} {fs : List Flr} {k : Nat} {f : Flr} {g : Key} (h : fs[k]? = some f) (hg : mget m f.1 = g) (hd : decide (g.1 ≤ f.2) = true) : fd m (fs.drop k) = fd (cut m f.1) (fs.drop (k + 1)) := by
  rw [drop_at h, fd, hg, if_pos (of_decide_eq_true hd)]
theorem fd_miss {m : Int → Option Key} {fs : List Flr} {k : Nat} {f : Flr} {g : Key} (h : fs[k]? = some f) (hg : mget m f.1 = g) (hd : decide (g.1 ≤ f.2) = false) : fd m (fs.drop k) = fd m (fs.drop (k + 1)) := by
  rw [drop_at h, fd, hg, if_neg (of_decide_eq_false hd)]

set_option maxHeartbeats 8000000 in
set_option maxRecDepth 100000 in
theorem idrop_any (bm n : Nat) (D : DataW Key) (m : Int → Option Key) (af : Option Addr) (nf cf : Nat) (fs : List Flr) (hfit : ∀ (k : Nat) (x : Flr), fs[k]? = some x → FitN x.1) (hsm : SmlM m) (w : World) (hnf : nf ≤ 1000000)
    (hm : OwM w bm n D) (hv : MapV D m) (hx : Rw encF 2 w (.slice af nf cf) fs) :
    Calls Tryz.prog 17 #[.map (some bm), .slice af nf cf] w fun e w' => e = .returned (.tuple #[]) ∧ (∃ D', OwM w' bm n D' ∧ MapV D' (fd m fs) ∧ SmlM (fd m fs)) ∧ w.grownBy w' (some bm) := by
  have HX := hide hx
  have HM := hide hm
  have HV := hide hv
  have HS := hide hsm
  have HFT := hide hfit
  clear hx hm hv hsm hfit
  go_enter Tryz.func17, Tryz.ntmps17
  go_wp2
  go_loopw [8] (fun i wr => ∃ (k : Nat) (D' : DataW Key) (m' : Int → Option Key), k ≤ nf ∧ i = .int .i64 k ∧ OwM wr bm n D' ∧ MapV D' m' ∧ SmlM m' ∧ fd m' (fs.drop k) = fd m fs ∧ w.grownBy wr (some bm)) (fun i _ => nf - (intOf i).toNat)
  case atStart => exact ⟨0, D, m, Nat.zero_le _, rfl, unhide HM, unhide HV, unhide HS, rfl, grown_refl _ _⟩
  case round =>
    obtain ⟨k, D', m', hk, rfl, hM, hV, hS, hrec, hgr⟩ := hrel
    have HM1 := hide hM
    have HV1 := hide hV
    have HS1 := hide hS
    have HR := hide hrec
    have HG := hide hgr
    have RX := hide ((unhide HX).beside encF_len (by omega) (unhide HM) hgr)
    clear hM hV hS hrec hgr
    by_cases hlt : k < nf
    · obtain ⟨x, b, off, hx, rfl, hb, hcap, hc⟩ := (unhide RX).at hlt
      have c0 : wr.cell? ⟨b, off + k * 2, none⟩ = some (.int .i64 x.1) := hc 0 (by omega)
      have c1 : wr.cell? ⟨b, off + k * 2 + 1, none⟩ = some (.int .i64 x.2) := hc 1 (by omega)
      have hid := unhide HFT k x hx
      obtain ⟨g, hg⟩ : ∃ g, mget m' x.1 = g := ⟨_, rfl⟩
      have HMW := hide (owm_later (unhide HM1) ((Below.refl wr.heap.size wr).alloc (Nat.le_refl _) (.cells #[.int .i64 x.1, .int .i64 x.2] 61)))
      have hlk := look (unhide HMW) (unhide HV1) hid
      rw [hg] at hlk
      have HK := hide (kof hid)
      have hf0 := field0 g
      rcases Bool.eq_false_or_eq_true (decide (g.1 ≤ x.2)) with hle | hle
      · have HE := hide (fd_hit hx hg hle)
        rw [unhide HR] at HE
        clear hc hx hg hid
        go_wp2_with (first | (at_delete; refine wpList_delete_own _ rfl _ _ 43 3 rfl 33 klaw Tryz.underlying43 RK bm n D' rfl (unhide HMW) _ _ rfl (unhide HK) ?_; intro w1 hM2 ht2; have HM2 := hide hM2; have HT2 := hide ht2.grown; clear hM2 ht2))
        go_roundw
        case rel => exact ⟨k + 1, _, cut m' x.1, by omega, by go_num, unhide HM2, (unhide HV1).del _, cut_sml (unhide HS1) _, (unhide HE).symm, grown_trans2 (unhide HG) (grown_trans2 (World.grownBy_alloc _ _ _) (unhide HT2))⟩
        case measure => simp [intOf]; omega
      · have HE := hide (fd_miss hx hg hle)
        rw [unhide HR] at HE
        clear hc hx hg hid
        go_wp2
        go_roundw
        case rel => exact ⟨k + 1, D', m', by omega, by go_num, unhide HMW, unhide HV1, unhide HS1, (unhide HE).symm, grown_trans2 (unhide HG) (World.grownBy_alloc _ _ _)⟩
        case measure => simp [intOf]; omega
    · have HE : Hid (m' = fd m fs) := by
        have h := unhide HR
        rw [drop_end (unhide HX).len.1 hk hlt] at h
        exact hide h
      go_wp2
      go_end0
      exact ⟨rfl, ⟨D', unhide HM1, unhide HE ▸ unhide HV1, unhide HE ▸ unhide HS1⟩, unhide HG⟩
end Go.Proofs.YtdpaocikmijioaaGreatDoor

namespace Go.Proofs.YtdpaocikmijioaaGreatDoor
open Go.RowKit Go.Maps

theorem ent_cons (x : Itm) (r : List Itm) (id : Int) : ent (x :: r) id = if x.1 = id then some x.2 else ent r id := by
  unfold ent
  rw [List.find?_cons]
  by_cases h : x.1 = id
  · simp [h]
  · rw [show (x.1 == id) = false by simpa using h, if_neg h]
theorem fm_ent : ∀ (xs : List Itm) (m : Int → Option Key), xs.Pairwise (fun a b => a.1 < b.1) → ∀ id, fm m xs id = (match ent xs id with
    | some e => some (mx (mget m id) e)
    | none => m id)
  | [], m, _, id => rfl
  | x :: r, m, h, id => by
    obtain ⟨h1, h2⟩ := List.pairwise_cons.1 h
    rw [fm, fm_ent r _ h2 id, ent_cons]
    by_cases hx : x.1 = id
    · subst hx
      have : ent r x.1 = none := by
        cases hq : ent r x.1 with
        | none => rfl
        | some e => have := h1 _ ((ent_iff h2).1 hq); simp at this
      rw [this]
      simp [upd]
    · rw [if_neg hx]
      have hu : upd m x.1 (mx (mget m x.1) x.2) id = m id := by rw [upd, if_neg (Ne.symm hx)]
      have hg : mget (upd m x.1 (mx (mget m x.1) x.2)) id = mget m id := by rw [mget, hu, mget]
      rw [hu, hg]
theorem mx_zero {e : Key} (h : 1 ≤ e.1) : mx zeroK e = e := by
  have : keyC zeroK e < 0 := by
    have : cmpI 0 e.1 = -1 := by unfold cmpI; rw [if_pos (by omega)]
    unfold keyC lexC
    rw [show zeroK.1 = 0 from rfl, this]
    simp
  rw [mx, if_pos this]
theorem fd_none : ∀ (fs : List Flr) (m : Int → Option Key) (id : Int), m id = none → fd m fs id = none
  | [], _, _, h => h
  | f :: r, m, id, h => by
    rw [fd]
    refine fd_none r _ id ?_
    split
    · rw [cut]; split
      · rfl
      · exact h
    · exact h
theorem fd_at : ∀ (fs : List Flr) (m : Int → Option Key), fs.Pairwise (fun a b => a.1 < b.1) → (∀ f ∈ fs, 1 ≤ f.2) → ∀ (id : Int) (e : Key), m id = some e → 1 ≤ e.1 → fd m fs id = if e.1 ≤ flo fs id then none else some e
  | [], m, _, _, id, e, h, he => by rw [fd, h, if_neg (by show ¬ e.1 ≤ 0; omega)]
  | f :: r, m, hp, h1, id, e, h, he => by
    obtain ⟨p1, p2⟩ := List.pairwise_cons.1 hp
    rw [fd]
    by_cases hf : f.1 = id
    · have hfl : flo (f :: r) id = f.2 := flo_mem hp (by rw [← hf]; simp)
      have hg : mget m f.1 = e := by rw [mget, hf, h]; rfl
      rw [hfl, hg]
      by_cases hle : e.1 ≤ f.2
      · rw [if_pos hle, if_pos hle]
        exact fd_none r _ id (by rw [cut, if_pos hf.symm])
      · rw [if_neg hle, if_neg hle, fd_at r m p2 (fun g hg => h1 g (by simp [hg])) id e h he]
        have : flo r id = 0 := by
          by_cases hc : flo r id = 0
          · exact hc
          · have := p1 _ ((flo_pos p2 hc).1 rfl)
            simp only at this; omega
        rw [this, if_neg (by omega)]
    · have hfl : flo (f :: r) id = flo r id := by
        unfold flo
        rw [List.find?_cons, show (f.1 == id) = false by simpa using hf]
      rw [hfl]
      refine fd_at r _ p2 (fun g hg => h1 g (by simp [hg])) id e ?_ he
      split
      · rw [cut, if_neg (Ne.symm hf)]; exact h
      · exact h
section
variable {xs ys : List Itm} {fs gs : List Flr}
theorem map_join (hx : OkS xs fs) (hy : OkS ys gs) (id : Int) : fm (fm (fun _ => none) xs) ys id = jE (ent xs id) (ent ys id) := by
  have h1 : fm (fun _ => none) xs id = ent xs id := by
    rw [fm_ent xs _ hx.px]
    cases hq : ent xs id with
    | none => rfl
    | some e =>
      show some (mx zeroK e) = _
      rw [mx_zero (okE_inc (hx.ent_in hq).2.2.1).1]
  rw [fm_ent ys _ hy.px]
  cases hq : ent ys id with
  | none =>
    rw [h1]
    cases ent xs id <;> rfl
  | some e =>
    show some (mx (mget (fm (fun _ => none) xs) id) e) = _
    rw [mget, h1]
    cases ent xs id with
    | none => show some (mx zeroK e) = some e; rw [mx_zero (okE_inc (hy.ent_in hq).2.2.1).1]
    | some d => rfl
theorem map_end (hx : OkS xs fs) (hy : OkS ys gs) (x : Itm) : x ∈ joinI xs fs ys gs ↔ FitN x.1 ∧ fd (fm (fm (fun _ => none) xs) ys) (joinF fs gs) x.1 = some x.2 := by
  have hm := map_join hx hy x.1
  rw [joinI, mem_jI]
  cases hj : jE (ent xs x.1) (ent ys x.1) with
  | none =>
    rw [hj] at hm
    rw [fd_none _ _ _ hm]
    simp
  | some e =>
    rw [hj] at hm
    have hin := hx.jE_in hy hj
    have he := okE_inc hin.2.2
    rw [fd_at (joinF fs gs) _ (jF_pair 5) (fun f hf => (mem_jF.1 hf).2.2.1) x.1 e hm he.1, join_flo hx hy]
    constructor
    · rintro ⟨_, _, h3, h4⟩
      cases h3
      rw [if_neg (by omega)]
      exact ⟨by unfold FitN; omega, rfl⟩
    · rintro ⟨_, h⟩
      split at h
      · cases h
      · cases h
        exact ⟨hin.1, by omega, rfl, by omega⟩
end
end Go.Proofs.YtdpaocikmijioaaGreatDoor
