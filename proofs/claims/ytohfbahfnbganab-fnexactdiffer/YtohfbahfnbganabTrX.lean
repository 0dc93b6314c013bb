/-
  Trees that are held against each other: the specification's Differ. No statement is proved here.
-/
import Derived.Test.YtohfbahfnbganabTrW
namespace Go.Proofs.Ytohfbahfnbganab
open Go.RowKit

theorem madeN {w : World} {g base : Nat} (hb : base ≤ g) (h : w.heap[g]? = some (.cells #[] 3 (0, 0))) : OwN base w (.slice (some ⟨g, 0, none⟩) 0 0) [] :=
  ⟨by simp, .inr ⟨g, 0, #[], rfl, hb, h, by simp, by simp⟩⟩
set_option maxHeartbeats 8000000 in
set_option maxRecDepth 100000 in
theorem sdiffer_any (a : Option Addr) (n c : Nat) (ns : List Int) (q : Int) (b : Option Addr) (m d : Nat) (ms : List Int) (p : Int) (w : World) (hn : n ≤ 140737488351232) (hm : m ≤ 140737488351232) (h : RwN w (.slice a n c) ns) (h1 : RwN w (.slice b m d) ms) :
    Calls Try.prog 22 #[.agg #[.slice a n c, .int .i64 q], .agg #[.slice b m d, .int .i64 p]] w fun e w' => ∃ a1 n1 c1, e = .returned (.slice a1 n1 c1) ∧ OwN w.heap.size w' (.slice a1 n1 c1) (dfL ns q ms p) ∧ Below w.heap.size w w' := by
  obtain ⟨i0, hi, hz0, hz1, hz2⟩ := info_parts Try.infoInt
  have HR := hide h
  have HR1 := hide h1
  have HN := hide h.len.1
  have HM := hide h1.len.1
  clear h h1
  rcases Bool.eq_false_or_eq_true (q == p) with hqp | hqp
  · have e0 : dfL ns q ms p = [] := by rw [dfL, if_pos (by simpa using hqp)]
    go_enter Try.func22, Try.ntmps22
    go_wp2
    go_ret
    exact ⟨_, 0, 0, rfl, by rw [e0]; exact madeN (by omega) (newB3 w _ _ _), (((Below.refl w.heap.size w).alloc (Nat.le_refl _) _).alloc (by simp) _).alloc (by simp <;> omega) _⟩
  · have HD : Hid (dfL ns q ms p = ([0, 1, 2, 3] : List Int).filter (dfP ns ms)) := hide (by rw [dfL, if_neg (by simpa using hqp)])
    go_enter Try.func22, Try.ntmps22
    go_wp2
    go_loopw [5, 6] (fun v i wr => ∃ (k : Nat) (a1 : Option Addr) (n1 c1 : Nat), k ≤ 4 ∧ i = .int .i64 k ∧ v = .slice a1 n1 c1 ∧ OwN (w.heap.size + 1 + 1) wr (.slice a1 n1 c1) ((([0, 1, 2, 3] : List Int).take k).filter (dfP ns ms)) ∧ Below w.heap.size w wr ∧ wr.heap[w.heap.size]? = some (TreB (.slice a n c) q) ∧ wr.heap[w.heap.size + 1]? = some (TreB (.slice b m d) p)) (fun _ i _ => 4 - (intOf i).toNat)
    case atStart =>
      refine ⟨0, _, 0, 0, by omega, rfl, rfl, madeN (by omega) (newB3 w _ _ _), (((Below.refl w.heap.size w).alloc (Nat.le_refl _) _).alloc (by simp) _).alloc (by simp <;> omega) _, ?_, ?_⟩
      · exact lowB3 w _ _ _
      · exact midB3 w _ _ _
    case round =>
      obtain ⟨k, a1, n1, c1, hk, rfl, rfl, hown, hbel, hh, ht⟩ := hrel
      have HO := hide hown
      have HB := hide hbel
      have KH := hide hh
      have KT := hide ht
      have hsz := hbel.size
      have ltT : w.heap.size + 1 < wr.heap.size := (Array.getElem?_eq_some_iff.1 ht).1
      have ltH : w.heap.size < wr.heap.size := by omega
      have hn1 : Hid (n1 = ((([0, 1, 2, 3] : List Int).take k).filter (dfP ns ms)).length) := hide (hown.rw encN_len).len.1
      have hn1l : n1 ≤ 4 := by
        have h1 := unhide hn1
        have h2 := List.length_filter_le (dfP ns ms) (([0, 1, 2, 3] : List Int).take k)
        have h3 : (([0, 1, 2, 3] : List Int).take k).length ≤ 4 := by simp; omega
        omega
      obtain ⟨p0, p1, -⟩ := blk_cells2 hh
      obtain ⟨r0, r1, -⟩ := blk_cells2 ht
      clear hown
      by_cases hlt : k < 4
      · have HK : Hid (([0, 1, 2, 3] : List Int)[k]? = some (k : Int)) := hide (by
          rcases (by omega : k = 0 ∨ k = 1 ∨ k = 2 ∨ k = 3) with rfl | rfl | rfl | rfl <;> rfl)
        have HP := hide (take_filter (p := dfP ns ms) (unhide HK))
        clear hh ht
        by_cases hn4 : n = 4
        · by_cases hm4 : m = 4
          · subst hn4 hm4
            obtain ⟨x, b1, o1, hx, rfl, hb1, -, cx⟩ := ((unhide HR).later hbel).atN (i := k) hlt
            obtain ⟨y, b2, o2, hy, rfl, hb2, -, cy⟩ := ((unhide HR1).later hbel).atN (i := k) hlt
            have hdf0 : dfP ns ms (k : Int) = (x != y) := by
              rw [dfP, ← unhide HN, ← unhide HM, Int.toNat_natCast, List.getD_eq_getElem?_getD, List.getD_eq_getElem?_getD, hx, hy]; rfl
            clear hbel hx hy
            rcases Bool.eq_false_or_eq_true (x != y) with he | he
            · have hdf : dfP ns ms (k : Int) = true := by rw [hdf0, he]
              have HP2 : Hid ((([0, 1, 2, 3] : List Int).take (k + 1)).filter (dfP ns ms) = (([0, 1, 2, 3] : List Int).take k).filter (dfP ns ms) ++ [(k : Int)]) := hide (by rw [unhide HP, if_pos hdf])
              clear HP hdf hdf0
              go_wp2
              go_quiet (fail)
              obtain ⟨wn, hwn⟩ : ∃ x, x = wr.drewN nq := ⟨_, rfl⟩
              rw [← hwn]
              have bn : Below wr.heap.size wr wn := by rw [hwn]; exact below_drewN (Below.refl _ _) _
              have zn := bn.size
              have HOn := hide ((unhide HO).later bn)
              have HBn := hide ((unhide HB).trans (bn.mono hsz))
              have KHn := hide ((bn.block _ ltH).trans (unhide KH))
              have KTn := hide ((bn.block _ ltT).trans (unhide KT))
              clear hwn bn HO HB KH KT p0 p1 r0 r1
              have hwn' : w.heap.size + 1 + 1 ≤ wn.heap.size := by omega
              have hsn : w.heap.size ≤ wn.heap.size := by omega
              have ltTn : w.heap.size + 1 < wn.heap.size := by omega
              have ltHn : w.heap.size < wn.heap.size := by omega
              go_wp2_with (first | (at_builtin; refine wpList_app1 encN_len (by omega) oneN 3 35 i0 _ 8 Try.underlying35 hi hz0 hz1 hz2 rfl (by omega) wn (k : Int) rfl _ _ rfl (w.heap.size + 1 + 1) _ _ n1 hn1 rfl (unhide HOn) rfl (by omega) hwn' ?_; intro a8 c8 w4 hO hG; have HO4 := hide hO; have HB4 := hide ((unhide HBn).grown hG hsn (fun i q => by have := (World.ownsRow.lt (unhide HOn) i q).1; omega)); have KH4 := hide ((hG.block _ ltHn (fun q => by have := (World.ownsRow.lt (unhide HOn) _ q.symm).1; omega)).trans (unhide KHn)); have KT4 := hide ((hG.block _ ltTn (fun q => by have := (World.ownsRow.lt (unhide HOn) _ q.symm).1; omega)).trans (unhide KTn)); clear hO hG))
              go_roundw
              case rel => exact ⟨k + 1, a8, n1 + 1, c8, by omega, by go_num, rfl, by rw [unhide HP2]; exact unhide HO4, unhide HB4, unhide KH4, unhide KT4⟩
              case measure => simp [intOf]; omega
            · have hdf : dfP ns ms (k : Int) = false := by rw [hdf0, he]
              have HP2 : Hid ((([0, 1, 2, 3] : List Int).take (k + 1)).filter (dfP ns ms) = (([0, 1, 2, 3] : List Int).take k).filter (dfP ns ms)) := hide (by rw [unhide HP, if_neg (by rw [hdf]; simp), List.append_nil])
              clear HP hdf hdf0
              go_wp2
              go_quiet (fail)
              obtain ⟨wn, hwn⟩ : ∃ x, x = wr.drewN nq := ⟨_, rfl⟩
              rw [← hwn]
              have bn : Below wr.heap.size wr wn := by rw [hwn]; exact below_drewN (Below.refl _ _) _
              have zn := bn.size
              have HOn := hide ((unhide HO).later bn)
              have HBn := hide ((unhide HB).trans (bn.mono hsz))
              have KHn := hide ((bn.block _ ltH).trans (unhide KH))
              have KTn := hide ((bn.block _ ltT).trans (unhide KT))
              clear hwn bn HO HB KH KT p0 p1 r0 r1
              go_wp2
              go_roundw
              case rel => exact ⟨k + 1, a1, n1, c1, by omega, by go_num, rfl, by rw [unhide HP2]; exact unhide HOn, unhide HBn, unhide KHn, unhide KTn⟩
              case measure => simp [intOf]; omega
          · subst hn4
            have hm : ((m : Int) != 4) = true := by simp; omega
            have hdf : dfP ns ms (k : Int) = true := by
              have : (ms.length == 4) = false := by rw [← unhide HM]; simpa using hm4
              rw [dfP, this]; cases (ns.length == 4) <;> rfl
            clear hbel
            have HP2 : Hid ((([0, 1, 2, 3] : List Int).take (k + 1)).filter (dfP ns ms) = (([0, 1, 2, 3] : List Int).take k).filter (dfP ns ms) ++ [(k : Int)]) := hide (by rw [unhide HP, if_pos hdf])
            clear HP hdf
            go_wp2
            go_quiet (fail)
            obtain ⟨wn, hwn⟩ : ∃ x, x = wr.drewN nq := ⟨_, rfl⟩
            rw [← hwn]
            have bn : Below wr.heap.size wr wn := by rw [hwn]; exact below_drewN (Below.refl _ _) _
            have zn := bn.size
            have HOn := hide ((unhide HO).later bn)
            have HBn := hide ((unhide HB).trans (bn.mono hsz))
            have KHn := hide ((bn.block _ ltH).trans (unhide KH))
            have KTn := hide ((bn.block _ ltT).trans (unhide KT))
            clear hwn bn HO HB KH KT p0 p1 r0 r1
            have hwn' : w.heap.size + 1 + 1 ≤ wn.heap.size := by omega
            have hsn : w.heap.size ≤ wn.heap.size := by omega
            have ltTn : w.heap.size + 1 < wn.heap.size := by omega
            have ltHn : w.heap.size < wn.heap.size := by omega
            go_wp2_with (first | (at_builtin; refine wpList_app1 encN_len (by omega) oneN 3 35 i0 _ 8 Try.underlying35 hi hz0 hz1 hz2 rfl (by omega) wn (k : Int) rfl _ _ rfl (w.heap.size + 1 + 1) _ _ n1 hn1 rfl (unhide HOn) rfl (by omega) hwn' ?_; intro a8 c8 w4 hO hG; have HO4 := hide hO; have HB4 := hide ((unhide HBn).grown hG hsn (fun i q => by have := (World.ownsRow.lt (unhide HOn) i q).1; omega)); have KH4 := hide ((hG.block _ ltHn (fun q => by have := (World.ownsRow.lt (unhide HOn) _ q.symm).1; omega)).trans (unhide KHn)); have KT4 := hide ((hG.block _ ltTn (fun q => by have := (World.ownsRow.lt (unhide HOn) _ q.symm).1; omega)).trans (unhide KTn)); clear hO hG))
            go_roundw
            case rel => exact ⟨k + 1, a8, n1 + 1, c8, by omega, by go_num, rfl, by rw [unhide HP2]; exact unhide HO4, unhide HB4, unhide KH4, unhide KT4⟩
            case measure => simp [intOf]; omega
        · have hm : ((n : Int) != 4) = true := by simp; omega
          have hdf : dfP ns ms (k : Int) = true := by
            have : (ns.length == 4) = false := by rw [← unhide HN]; simpa using hn4
            rw [dfP, this]; rfl
          clear hbel
          have HP2 : Hid ((([0, 1, 2, 3] : List Int).take (k + 1)).filter (dfP ns ms) = (([0, 1, 2, 3] : List Int).take k).filter (dfP ns ms) ++ [(k : Int)]) := hide (by rw [unhide HP, if_pos hdf])
          clear HP hdf
          go_wp2
          go_quiet (fail)
          obtain ⟨wn, hwn⟩ : ∃ x, x = wr.drewN nq := ⟨_, rfl⟩
          rw [← hwn]
          have bn : Below wr.heap.size wr wn := by rw [hwn]; exact below_drewN (Below.refl _ _) _
          have zn := bn.size
          have HOn := hide ((unhide HO).later bn)
          have HBn := hide ((unhide HB).trans (bn.mono hsz))
          have KHn := hide ((bn.block _ ltH).trans (unhide KH))
          have KTn := hide ((bn.block _ ltT).trans (unhide KT))
          clear hwn bn HO HB KH KT p0 p1 r0 r1
          have hwn' : w.heap.size + 1 + 1 ≤ wn.heap.size := by omega
          have hsn : w.heap.size ≤ wn.heap.size := by omega
          have ltTn : w.heap.size + 1 < wn.heap.size := by omega
          have ltHn : w.heap.size < wn.heap.size := by omega
          go_wp2_with (first | (at_builtin; refine wpList_app1 encN_len (by omega) oneN 3 35 i0 _ 8 Try.underlying35 hi hz0 hz1 hz2 rfl (by omega) wn (k : Int) rfl _ _ rfl (w.heap.size + 1 + 1) _ _ n1 hn1 rfl (unhide HOn) rfl (by omega) hwn' ?_; intro a8 c8 w4 hO hG; have HO4 := hide hO; have HB4 := hide ((unhide HBn).grown hG hsn (fun i q => by have := (World.ownsRow.lt (unhide HOn) i q).1; omega)); have KH4 := hide ((hG.block _ ltHn (fun q => by have := (World.ownsRow.lt (unhide HOn) _ q.symm).1; omega)).trans (unhide KHn)); have KT4 := hide ((hG.block _ ltTn (fun q => by have := (World.ownsRow.lt (unhide HOn) _ q.symm).1; omega)).trans (unhide KTn)); clear hO hG))
          go_roundw
          case rel => exact ⟨k + 1, a8, n1 + 1, c8, by omega, by go_num, rfl, by rw [unhide HP2]; exact unhide HO4, unhide HB4, unhide KH4, unhide KT4⟩
          case measure => simp [intOf]; omega
      · have HT : Hid ((([0, 1, 2, 3] : List Int).take k).filter (dfP ns ms) = dfL ns q ms p) := hide (by rw [unhide HD, List.take_of_length_le (by simp; omega)])
        clear hh ht hbel
        go_wp2
        go_ret
        exact ⟨a1, n1, c1, rfl, by rw [← unhide HT]; exact Ow.base (unhide HO) (by omega), unhide HB⟩
end Go.Proofs.Ytohfbahfnbganab
