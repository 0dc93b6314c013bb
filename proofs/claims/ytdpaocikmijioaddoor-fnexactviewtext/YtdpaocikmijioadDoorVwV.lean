/-
  View and Lookup of the specification. No statement is proved here.
-/
import Derived.Test.YtdpaocikmijioadDoorVwK
import Derived.Test.YtdpaocikmijioadDoorSStOk
namespace Go.Proofs.YtdpaocikmijioadDoor
open Go.RowKit

theorem own_empty {w : World} {g base : Nat} (hb : base ≤ g) (h : w.heap[g]? = some (.cells #[] 50 (0, 0))) : OwI base w (.slice (some ⟨g, 0, none⟩) 0 0) [] :=
  ⟨by simp, .inr ⟨g, 0, #[], rfl, hb, h, by simp, by simp⟩⟩
theorem upI_posS {xs : List Itm} {k : Nat} {x : Itm} (hx : xs[k]? = some x) (h : (x.2.2.1 == 0) = true) : upI (xs.take (k + 1)) = upI (xs.take k) ++ [x] := by
  rw [upI, take_filter hx, if_pos h]; rfl
theorem upI_negS {xs : List Itm} {k : Nat} {x : Itm} (hx : xs[k]? = some x) (h : (x.2.2.1 == 0) = false) : upI (xs.take (k + 1)) = upI (xs.take k) := by
  rw [upI, take_filter hx, if_neg (by simp [h]), List.append_nil]; rfl
theorem upI_kS {xs : List Itm} {k : Nat} : (upI (xs.take k)).length ≤ k := Nat.le_trans (List.length_filter_le _ _) (by simp; omega)

set_option maxHeartbeats 4000000 in
set_option maxRecDepth 100000 in
theorem sview_any (ai : Option Addr) (ni ci : Nat) (xs : List Itm) (af : Option Addr) (nf cf : Nat) (fs : List Flr) (w : World)
    (hni : ni ≤ 140737488351232) (hnf : nf ≤ 140737488351232) (hx : Rw encI 6 w (.slice ai ni ci) xs) (hf : Rw encF 2 w (.slice af nf cf) fs) :
    Calls Tryd.prog 12 #[.agg #[.slice ai ni ci, .slice af nf cf]] w fun e w' => ∃ a1 n1 c1, e = .returned (.slice a1 n1 c1) ∧ OwI w.heap.size w' (.slice a1 n1 c1) (vw xs fs) ∧ Below w.heap.size w w' := by
  obtain ⟨i0, hi, hz0, hz1, hz2⟩ := info_parts Tryd.infoItem
  obtain ⟨okA, hA⟩ : ∃ okA, okS xs fs = okA := ⟨_, rfl⟩
  have HV := hide (show vw xs fs = if okA = true then upI xs else [] by rw [vw, hA])
  have HX := hide hx
  have HF := hide hf
  have HA := hide hA
  clear hx hf hA
  go_enter Tryd.func12, Tryd.ntmps12
  go_wp2_with fail
  have bW : Below w.heap.size w ((w.alloc (.cells #[.slice ai ni ci, .slice af nf cf] 31)).alloc (.cells #[] 50)) := ((Below.refl w.heap.size w).alloc (Nat.le_refl _) _).alloc (by simp) _
  have oW : OwI w.heap.size ((w.alloc (.cells #[.slice ai ni ci, .slice af nf cf] 31)).alloc (.cells #[] 50)) (.slice (some ⟨w.heap.size + 1, 0, none⟩) 0 0) [] := own_empty (by omega) (newB2 w _ _)
  refine (sstateok_any ai ni ci xs af nf cf fs _ HA _ hni hnf ((unhide HX).later bW) ((unhide HF).later bW)).mono ?_
  rintro e w1 ⟨rfl, b1⟩
  have HB1 := hide (bW.trans (b1.mono (by simp; omega)))
  have MA := hide ((b1.block _ (by simp; omega)).trans (lowB2 w _ _))
  have hz1 : w.heap.size < w1.heap.size := (Array.getElem?_eq_some_iff.mp (unhide MA)).1
  have O1 := hide (oW.later b1)
  clear b1 bW oW
  cases okA
  · go_wp2
    go_ret
    exact ⟨_, _, _, rfl, by rw [unhide HV]; exact unhide O1, unhide HB1⟩
  · have OA := (okS_iff _ _).1 (unhide HA)
    have m5 : ni ≤ 5 := by have := (unhide HX).len.1; have := OA.len5.1; omega
    replace HV := hide (show vw xs fs = upI xs from unhide HV)
    clear OA
    go_wp2
    go_loopw [3, 4] (fun v i wr => ∃ (k : Nat) (a2 : Option Addr) (n2 c2 : Nat), k ≤ ni ∧ i = .int .i64 k ∧ v = .slice a2 n2 c2 ∧ OwI w.heap.size wr (.slice a2 n2 c2) (upI (xs.take k)) ∧ Below w.heap.size w wr ∧ wr.heap[w.heap.size]? = some (.cells #[.slice ai ni ci, .slice af nf cf] 31 (0, 0))) (fun _ i _ => ni - (intOf i).toNat)
    case atStart => exact ⟨0, _, 0, 0, by omega, rfl, rfl, unhide O1, unhide HB1, unhide MA⟩
    case round =>
      clear HB1 MA O1 hz1
      obtain ⟨k, a2, n2, c2, hk, rfl, rfl, hown, hbel, ka⟩ := hrel
      have HO := hide hown
      have HB := hide hbel
      have KA := hide ka
      have hsz := hbel.size
      have hz : w.heap.size < wr.heap.size := (Array.getElem?_eq_some_iff.mp ka).1
      obtain ⟨pa0, pa1, -⟩ := blk_cells2 ka
      clear hown ka
      by_cases hlt : k < ni
      · obtain ⟨x, b, off, hx, rfl, hb, hcap, hc⟩ := ((unhide HX).later hbel).at hlt
        obtain ⟨c0, c1, c2', c3, c4, c5⟩ := item_cells hc
        have HX1 := hide hx
        have hn2 : Hid (n2 = (upI (xs.take k)).length) := hide ((unhide HO).rw encI_len).len.1
        have hn2l : n2 ≤ k := by have := unhide hn2; have := upI_kS (xs := xs) (k := k); omega
        clear hx hc hbel
        rcases Bool.eq_false_or_eq_true (x.2.2.1 == 0) with he | he
        · have HP := hide (upI_posS (unhide HX1) he)
          go_wp2_with (first | (at_builtin; refine wpList_app1 encI_len (by omega) oneI 50 28 i0 _ 56 Tryd.underlying28 hi hz0 hz1 hz2 rfl (by omega) wr x rfl _ _ rfl w.heap.size _ (upI (xs.take k)) n2 hn2 rfl (unhide HO) rfl (by omega) hsz ?_; intro a2' c2' w4 hO hG; have HO4 := hide hO; have HB4 := hide ((Trn.of_grown hG).below (unhide HB) hsz (fun i q => (World.ownsRow.lt (unhide HO) i q).1)); have HG4 := hide hG; clear hO hG))
          go_roundw
          case rel =>
            have hnA := own_ne (unhide HO) (unhide KA) (by decide)
            exact ⟨k + 1, a2', n2 + 1, c2', by omega, by go_num, rfl, by rw [unhide HP]; exact unhide HO4, unhide HB4, ((unhide HG4).block _ hz (fun q => hnA q.symm)).trans (unhide KA)⟩
          case measure => simp [intOf]; omega
        · have HP := hide (upI_negS (unhide HX1) he)
          go_wp2
          go_roundw
          case rel => exact ⟨k + 1, a2, n2, c2, by omega, by go_num, rfl, by rw [unhide HP]; exact unhide HO, unhide HB, unhide KA⟩
          case measure => simp [intOf]; omega
      · have HT : Hid (upI (xs.take k) = vw xs fs) := hide (by rw [unhide HV, List.take_of_length_le (by have := (unhide HX).len.1; omega)])
        clear hbel
        go_wp2
        go_ret
        exact ⟨a2, n2, c2, rfl, by rw [← unhide HT]; exact unhide HO, unhide HB⟩
theorem vw_len (xs : List Itm) (fs : List Flr) : (vw xs fs).length ≤ 5 := by
  unfold vw
  split
  · rename_i h
    exact Nat.le_trans (List.length_filter_le _ _) ((okS_iff _ _).1 h).len5.1
  · simp
end Go.Proofs.YtdpaocikmijioadDoor
