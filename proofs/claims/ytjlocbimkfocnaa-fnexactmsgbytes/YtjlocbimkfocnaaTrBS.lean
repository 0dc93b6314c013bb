/-
  The bytes of a state: the specification's. No statement is proved here.
-/
import Derived.Test.YtjlocbimkfocnaaTrBI
import Derived.Test.YtjlocbimkfocnaaSStOk
import Derived.Test.YtjlocbimkfocnaaStBx
namespace Go.Proofs.Ytjlocbimkfocnaa
open Go.RowKit

theorem keepL {V W : World} {b0 o0 b1 o1 g : Nat} {v0 v1 v2 v3 v4 v5 : Value} (h0 : b0 < V.heap.size) (h1 : b1 < V.heap.size) (h2 : g < V.heap.size)
    (c0 : V.cell? ⟨b0, o0, none⟩ = some v0) (c1 : V.cell? ⟨b1, o1, none⟩ = some v1) (c2 : V.cell? ⟨g, 0, none⟩ = some v2) (c3 : V.cell? ⟨g, 1, none⟩ = some v3) (c4 : V.cell? ⟨g, 2, none⟩ = some v4) (c5 : V.cell? ⟨g, 3, none⟩ = some v5) (hb : Below V.heap.size V W) :
    Below V.heap.size V W ∧ W.cell? ⟨b0, o0, none⟩ = some v0 ∧ W.cell? ⟨b1, o1, none⟩ = some v1 ∧ W.cell? ⟨g, 0, none⟩ = some v2 ∧ W.cell? ⟨g, 1, none⟩ = some v3 ∧ W.cell? ⟨g, 2, none⟩ = some v4 ∧ W.cell? ⟨g, 3, none⟩ = some v5 :=
  ⟨hb, (hb.cell (p := ⟨b0, o0, none⟩) h0).trans c0, (hb.cell (p := ⟨b1, o1, none⟩) h1).trans c1, (hb.cell (p := ⟨g, 0, none⟩) h2).trans c2, (hb.cell (p := ⟨g, 1, none⟩) h2).trans c3, (hb.cell (p := ⟨g, 2, none⟩) h2).trans c4, (hb.cell (p := ⟨g, 3, none⟩) h2).trans c5⟩
set_option maxHeartbeats 8000000 in
set_option maxRecDepth 100000 in
theorem l6bytes_any (ai : Option Addr) (ni ci : Nat) (xs : List Itm) (af : Option Addr) (nf cf : Nat) (fs : List Flr) (HA : Hid (OkS xs fs)) (w : World)
    (hx : Rw encI 6 w (.slice ai ni ci) xs) (hf : Rw encF 2 w (.slice af nf cf) fs) :
    Calls Try.prog 39 #[.agg #[.slice ai ni ci, .slice af nf cf]] w fun e w' => ∃ v, e = .returned v ∧ OwB w.heap.size w' v (sb xs fs) ∧ Below w.heap.size w w' := by
  have HX := hide hx
  have HF := hide hf
  have HNI := hide hx.len.1
  have HNF := hide hf.len.1
  have m5 : ni ≤ 5 := by have := unhide HNI; have := (unhide HA).len5.1; omega
  have f5 : nf ≤ 5 := by have := unhide HNF; have := (unhide HA).len5.2; omega
  clear hx hf
  go_enter Try.func39, Try.ntmps39
  go_wp2_with fail
  have bW : Below w.heap.size w (w.alloc (.cells #[.slice ai ni ci, .slice af nf cf] 27)) := (Below.refl w.heap.size w).alloc (Nat.le_refl _) _
  refine (sputnum_any (ni : Int) _ (by omega) (by omega)).mono ?_
  rintro e w2 ⟨v2, rfl, o2, b2⟩
  have J2' : Hid (B2 w w2 (.slice ai ni ci) (.slice af nf cf) v2 (putN xs.length)) := hide ⟨bW.trans (b2.mono (by simp)), (b2.block _ (by simp)).trans (newB1 w _), by
    have e : putN (ni : Int) = putN xs.length := by rw [unhide HNI]
    rw [e] at o2; exact owns_base o2 (by simp)⟩
  clear o2 b2 bW
  obtain ⟨p0, p1, -⟩ := blk_cells2 (unhide J2').ka
  have z2 := (unhide J2').lt
  go_wp2
  go_loopw [3, 4] (fun v i wr => ∃ k : Nat, k ≤ ni ∧ i = .int .i64 k ∧ B2 w wr (.slice ai ni ci) (.slice af nf cf) v (putN xs.length ++ sbIs (xs.take k))) (fun _ i _ => ni - (intOf i).toNat)
  case atStart => exact ⟨0, by omega, rfl, by simpa [sbIs] using unhide J2'⟩
  case round =>
    clear J2' p0 p1 z2
    obtain ⟨k, hk, rfl, hJ⟩ := hrel
    have HJ := hide hJ
    have hsz := hJ.bel.size
    have hlt0 := hJ.lt
    have hL : (putN xs.length ++ sbIs (xs.take k)).length ≤ 1000 := by
      have h1 := putN_length xs.length
      have h2 := sbIs_len (xs := xs.take k) (fun x hx => (unhide HA).small x (List.mem_of_mem_take hx))
      have h3 : (xs.take k).length ≤ k := by simp; omega
      rw [List.length_append]; omega
    obtain ⟨p0, p1, -⟩ := blk_cells2 (unhide HJ).ka
    by_cases hlt : k < ni
    · obtain ⟨x, b, off, hx, rfl, hb, hcap, hc⟩ := ((unhide HX).later hJ.bel).at hlt
      obtain ⟨c0, c1, c2, c3, c4, c5⟩ := item_cells hc
      have hin := (unhide HA).ix x (List.mem_of_getElem? hx)
      obtain ⟨q1, q2, q3, q4, q5⟩ := okE_fits hin.2.2.1
      obtain ⟨i1, i2, -⟩ := hin
      have HX1 := hide hx
      clear hx hc hJ
      go_upto_region 6 with fail
      obtain ⟨V, hV⟩ : ∃ V, V = wr.alloc (.cells #[.int .i64 x.2.1, .int .i64 x.2.2.1, .int .i64 x.2.2.2.1, .int .i64 x.2.2.2.2.1, .string x.2.2.2.2.2] 62) := ⟨_, rfl⟩
      rw [← hV]
      have bV : Below wr.heap.size wr V := by rw [hV]; exact (Below.refl _ _).alloc (Nat.le_refl _) _
      have ke : V.heap[wr.heap.size]? = some (.cells #[.int .i64 x.2.1, .int .i64 x.2.2.1, .int .i64 x.2.2.2.1, .int .i64 x.2.2.2.2.1, .string x.2.2.2.2.2] 62 (0, 0)) := by rw [hV]; exact newB1 wr _
      have zV : V.heap.size = wr.heap.size + 1 := by rw [hV]; simp
      have JV := hide ((unhide HJ).later bV)
      have KE := hide ke
      obtain ⟨e0, e1, e2, e3, -, -⟩ := blk_cells5 ke
      have hbV : b < V.heap.size := by omega
      have d0 := (bV.cell (p := ⟨b, off + k * 6, none⟩) hb).trans c0
      have P0 := hide (fun (W : World) (hb : Below V.heap.size V W) => keepL (V := V) (W := W) (b0 := w.heap.size) (o0 := 0) (b1 := b) (o1 := off + k * 6) (g := wr.heap.size) (by omega) hbV (by omega) (blk_cells2 (unhide JV).ka).1 d0 e0 e1 e2 e3 hb)
      clear p0 p1 c0 c1 c2 c3 c4 c5 e0 e1 e2 e3 d0 bV ke hV
      go_region_held3 (fun W => Below V.heap.size V W ∧ W.cell? ⟨w.heap.size, 0, none⟩ = some (.slice (some ⟨b, off, none⟩) ni ci) ∧ W.cell? ⟨b, off + k * 6, none⟩ = some (.int .i64 x.1) ∧ W.cell? ⟨wr.heap.size, 0, none⟩ = some (.int .i64 x.2.1) ∧ W.cell? ⟨wr.heap.size, 1, none⟩ = some (.int .i64 x.2.2.1) ∧ W.cell? ⟨wr.heap.size, 2, none⟩ = some (.int .i64 x.2.2.2.1) ∧ W.cell? ⟨wr.heap.size, 3, none⟩ = some (.int .i64 x.2.2.2.2.1))
        (first | (with_reducible exact unhide P0 _ (Below.refl _ _)) | (with_reducible exact unhide P0 _ ((Below.refl _ _).drew)) | (with_reducible exact unhide P0 _ (kal ((Below.refl _ _).drew))) | (with_reducible exact unhide P0 _ (kal (Below.refl _ _))) | (with_reducible exact unhide P0 _ ((kal (Below.refl _ _)).drew)))
        (first | fail)
      obtain ⟨U, hU⟩ : ∃ U, U = (V.alloc (.cells #[.int .i64 x.1, .int .i64 x.2.1, .int .i64 x.2.2.1, .int .i64 x.2.2.2.1, .int .i64 x.2.2.2.2.1] 3)).drew := ⟨_, rfl⟩
      rw [← hU]
      have bU : Below V.heap.size V U := by rw [hU]; exact (kal (Below.refl _ _)).drew
      have JU := hide ((unhide JV).later bU)
      have KEU := hide ((bU.block wr.heap.size (by omega)).trans (unhide KE))
      have KLU : Hid (U.heap[wr.heap.size + 1]? = some (.cells #[.int .i64 x.1, .int .i64 x.2.1, .int .i64 x.2.2.1, .int .i64 x.2.2.2.1, .int .i64 x.2.2.2.2.1] 3 (0, 0))) := hide (by rw [hU, ← zV]; exact newB1 V _)
      clear hU bU JV KE P0 HJ
      go_wp2
      go_loopw [3, 7] (fun v i wx => ∃ j : Nat, j ≤ 5 ∧ i = .int .i64 j ∧ B2 w wx (.slice (some ⟨b, off, none⟩) ni ci) (.slice af nf cf) v ((putN xs.length ++ sbIs (xs.take k)) ++ nums (([x.1, x.2.1, x.2.2.1, x.2.2.2.1, x.2.2.2.2.1] : List Int).take j)) ∧ wx.heap[wr.heap.size]? = some (.cells #[.int .i64 x.2.1, .int .i64 x.2.2.1, .int .i64 x.2.2.2.1, .int .i64 x.2.2.2.2.1, .string x.2.2.2.2.2] 62 (0, 0)) ∧ wx.heap[wr.heap.size + 1]? = some (.cells #[.int .i64 x.1, .int .i64 x.2.1, .int .i64 x.2.2.1, .int .i64 x.2.2.2.1, .int .i64 x.2.2.2.2.1] 3 (0, 0))) (fun _ i _ => 5 - (intOf i).toNat)
      case atStart => exact ⟨0, by omega, rfl, by simpa [nums] using unhide JU, unhide KEU, unhide KLU⟩
      case round =>
        rename_i wo _
        clear JU KEU KLU
        obtain ⟨j, hj, rfl, hJ, he, hl⟩ := hrel
        have HJ := hide hJ
        have KE := hide he
        have KL := hide hl
        have hszj := hJ.bel.size
        have hn5 : (nums (([x.1, x.2.1, x.2.2.1, x.2.2.2.1, x.2.2.2.2.1] : List Int).take j)).length ≤ 25 := by
          have h1 := nums_len (([x.1, x.2.1, x.2.2.1, x.2.2.2.1, x.2.2.2.2.1] : List Int).take j)
          have h2 : (([x.1, x.2.1, x.2.2.1, x.2.2.2.1, x.2.2.2.2.1] : List Int).take j).length ≤ 5 := by simp; omega
          omega
        by_cases hlj : j < 5
        · obtain ⟨z, b', off', hz, hp, hb', -, cz⟩ := (rwN_blk (ns := [x.1, x.2.1, x.2.2.1, x.2.2.2.1, x.2.2.2.2.1]) hl).atN (i := j) hlj
          simp only [Option.some.injEq, Addr.mk.injEq, and_true] at hp
          obtain ⟨rfl, rfl⟩ := hp
          rw [Nat.zero_add] at cz
          have hfz := fit5 (a := x.1) (b := x.2.1) (c := x.2.2.1) (d := x.2.2.2.1) (e := x.2.2.2.2.1) (by omega) (by omega) (by omega) (by omega) (by omega) j z hz
          have HZ := hide (nums_take hz)
          clear hz hJ he hl
          obtain ⟨f1, f2⟩ := hfz
          go_wp2_with fail
          refine (sputnum_any z _ f1 f2).mono ?_
          rintro e w3 ⟨v3, rfl, o3, b3⟩
          have J3' := hide ((unhide HJ).later b3)
          have KE3 := hide ((b3.block _ (Array.getElem?_eq_some_iff.1 (unhide KE)).1).trans (unhide KE))
          have KL3 := hide ((b3.block _ (Array.getElem?_eq_some_iff.1 (unhide KL)).1).trans (unhide KL))
          have O3 := hide o3
          have hsz3 := (unhide J3').bel.size
          have hl3 : ((putN xs.length ++ sbIs (xs.take k)) ++ nums (([x.1, x.2.1, x.2.2.1, x.2.2.2.1, x.2.2.2.2.1] : List Int).take j)).length + (putN z).length ≤ 100000000 := by
            have := putN_length z
            rw [List.length_append]; omega
          have HP : Hid (((putN xs.length ++ sbIs (xs.take k)) ++ nums (([x.1, x.2.1, x.2.2.1, x.2.2.2.1, x.2.2.2.2.1] : List Int).take j)) ++ putN z = (putN xs.length ++ sbIs (xs.take k)) ++ nums (([x.1, x.2.1, x.2.2.1, x.2.2.2.1, x.2.2.2.2.1] : List Int).take (j + 1))) := hide (by
            rw [unhide HZ]; simp only [List.append_assoc])
          clear o3 b3 HJ KE KL cz
          go_wp2_with (at_builtin; refine wpList_appB _ rfl _ _ rfl w.heap.size _ _ rfl (unhide J3').ob _ _ _ rfl (unhide O3) hl3 hsz3 ?_; intro v4 w4 hO hG; have KE4 := hide ((unhide J3').keep hG (unhide KE3) (by decide)); have KL4 := hide ((unhide J3').keep hG (unhide KL3) (by decide)); have J4 := hide ((unhide J3').app hO hG); clear hO hG)
          go_roundw
          case rel => exact ⟨j + 1, by omega, by go_num, by rw [← unhide HP]; exact unhide J4, unhide KE4, unhide KL4⟩
          case measure => simp [intOf]; omega
        · have e5 : ([x.1, x.2.1, x.2.2.1, x.2.2.2.1, x.2.2.2.2.1] : List Int).take j = [x.1, x.2.1, x.2.2.1, x.2.2.2.1, x.2.2.2.2.1] := List.take_of_length_le (by simp; omega)
          rw [e5] at hJ hn5
          replace HJ := hide hJ
          obtain ⟨e0, e1, e2, e3, e4, -⟩ := blk_cells5 he
          have ze := (Array.getElem?_eq_some_iff.1 he).1
          clear hJ hl he KL e5
          go_wp2_with fail
          refine (sputtext_any x.2.2.2.2.2 _ (by omega)).mono ?_
          rintro e w5 ⟨v5, rfl, o5, b5⟩
          have J5 := hide ((unhide HJ).later b5)
          have O5 := hide o5
          have hsz5 := (unhide J5).bel.size
          have hl5 : ((putN xs.length ++ sbIs (xs.take k)) ++ nums [x.1, x.2.1, x.2.2.1, x.2.2.2.1, x.2.2.2.2.1]).length + (putT (bl x.2.2.2.2.2)).length ≤ 100000000 := by
            have h1 := putT_len (bl x.2.2.2.2.2)
            rw [bl_length] at h1
            rw [List.length_append]; omega
          have HP : Hid (((putN xs.length ++ sbIs (xs.take k)) ++ nums [x.1, x.2.1, x.2.2.1, x.2.2.2.1, x.2.2.2.2.1]) ++ putT (bl x.2.2.2.2.2) = putN xs.length ++ sbIs (xs.take (k + 1))) := hide (by
            rw [sbIs_take (unhide HX1), sbI]; simp only [List.append_assoc])
          clear e0 e1 e2 e3 e4 b5 o5 HJ KE
          go_wp2_with (at_builtin; refine wpList_appB _ rfl _ _ rfl w.heap.size _ _ rfl (unhide J5).ob _ _ _ rfl (unhide O5) hl5 hsz5 ?_; intro v6 w6 hO hG; have J6 := hide ((unhide J5).app hO hG); clear hO hG)
          go_roundw
          case rel => exact ⟨k + 1, by omega, by go_num, by rw [← unhide HP]; exact unhide J6⟩
          case measure => simp [intOf]; omega
    · have HT : Hid (putN xs.length ++ sbIs (xs.take k) = putN xs.length ++ sbIs xs) := hide (by rw [List.take_of_length_le (by have := unhide HNI; omega)])
      rw [unhide HT] at hL hJ
      replace HJ := hide hJ
      clear hJ HT
      go_wp2_with fail
      refine (sputnum_any (nf : Int) _ (by omega) (by omega)).mono ?_
      rintro e w3 ⟨v3, rfl, o3, b3⟩
      have J3' := hide ((unhide HJ).later b3)
      have O3 : Hid (OwB wr.heap.size w3 v3 (putN fs.length)) := hide (by
        have e : putN (nf : Int) = putN fs.length := by rw [unhide HNF]
        rw [e] at o3; exact o3)
      have hsz3 := (unhide J3').bel.size
      have hl3 : (putN xs.length ++ sbIs xs).length + (putN fs.length).length ≤ 100000000 := by have := putN_length fs.length; omega
      clear o3 b3 HJ p0 p1
      go_wp2_with (at_builtin; refine wpList_appB _ rfl _ _ rfl w.heap.size _ _ rfl (unhide J3').ob _ _ _ rfl (unhide O3) hl3 hsz3 ?_; intro v4 w4 hO hG; have J4 := hide ((unhide J3').app hO hG); clear hO hG)
      go_loopw [3, 8] (fun v i wr => ∃ k : Nat, k ≤ nf ∧ i = .int .i64 k ∧ B2 w wr (.slice ai ni ci) (.slice af nf cf) v ((putN xs.length ++ sbIs xs) ++ putN fs.length ++ sbFs (fs.take k))) (fun _ i _ => nf - (intOf i).toNat)
      case atStart => exact ⟨0, by omega, rfl, by simpa [sbFs] using unhide J4⟩
      case round =>
        clear J4 J3' O3 hl3 hsz3 hsz hlt0
        obtain ⟨k, hk, rfl, hJ⟩ := hrel
        have HJ := hide hJ
        have hsz := hJ.bel.size
        have hlt0 := hJ.lt
        have hM : ((putN xs.length ++ sbIs xs) ++ putN fs.length ++ sbFs (fs.take k)).length ≤ 2000 := by
          have h1 := putN_length fs.length
          have h2 := sbFs_len (fs.take k)
          have h3 : (fs.take k).length ≤ k := by simp; omega
          rw [List.length_append, List.length_append]; omega
        obtain ⟨p0, p1, -⟩ := blk_cells2 hJ.ka
        by_cases hlt : k < nf
        · obtain ⟨x, b, off, hx, rfl, hb, hcap, hc⟩ := ((unhide HF).later hJ.bel).at hlt
          have c0 : wr.cell? ⟨b, off + k * 2, none⟩ = some (.int .i64 x.1) := hc 0 (by omega)
          have c1 : wr.cell? ⟨b, off + k * 2 + 1, none⟩ = some (.int .i64 x.2) := hc 1 (by omega)
          obtain ⟨i1, i2, i3, i4⟩ := (unhide HA).jf x (List.mem_of_getElem? hx)
          have HX1 := hide hx
          have HC := hide hc
          clear hx hc hJ
          go_wp2_with fail
          refine (sputnum_any x.1 _ (by omega) (by omega)).mono ?_
          rintro e w3 ⟨v3, rfl, o3, b3⟩
          have J3' := hide ((unhide HJ).later b3)
          have O3 := hide o3
          have hsz3 := (unhide J3').bel.size
          have hl3 : ((putN xs.length ++ sbIs xs) ++ putN fs.length ++ sbFs (fs.take k)).length + (putN x.1).length ≤ 100000000 := by
            have := putN_length x.1
            omega
          clear c0 c1 p0 p1 b3 o3 HJ
          go_upto_region 17 with (at_builtin; refine wpList_appB _ rfl _ _ rfl w.heap.size _ _ rfl (unhide J3').ob _ _ _ rfl (unhide O3) hl3 hsz3 ?_; intro v4 w4 hO hG; have J4 := hide ((unhide J3').app hO hG); clear hO hG)
          obtain ⟨p0, p1, -⟩ := blk_cells2 (unhide J4).ka
          have hlt4 := (unhide J4).lt
          have hc4 : _ := ((unhide HF).later (unhide J4).bel).at hlt
          clear J3' O3
          obtain ⟨x', b', off', hx', hp', hb4, -, hc4⟩ := hc4
          simp only [Option.some.injEq, Addr.mk.injEq, and_true] at hp'
          obtain ⟨rfl, rfl⟩ := hp'
          obtain rfl : x = x' := Option.some.inj ((unhide HX1).symm.trans hx')
          have c0 : w4.cell? ⟨b, off + k * 2, none⟩ = some (.int .i64 x.1) := hc4 0 (by omega)
          have c1 : w4.cell? ⟨b, off + k * 2 + 1, none⟩ = some (.int .i64 x.2) := hc4 1 (by omega)
          clear hc4 hx'
          go_wp2_with fail
          refine (sputnum_any x.2 _ (by omega) (by omega)).mono ?_
          rintro e w5 ⟨v5, rfl, o5, b5⟩
          have J5 := hide ((unhide J4).later b5)
          have O5 := hide o5
          have hsz5 := (unhide J5).bel.size
          have hl5 : (((putN xs.length ++ sbIs xs) ++ putN fs.length ++ sbFs (fs.take k)) ++ putN x.1).length + (putN x.2).length ≤ 100000000 := by
            have := putN_length x.1
            have := putN_length x.2
            rw [List.length_append]; omega
          have HP : Hid ((((putN xs.length ++ sbIs xs) ++ putN fs.length ++ sbFs (fs.take k)) ++ putN x.1) ++ putN x.2 = (putN xs.length ++ sbIs xs) ++ putN fs.length ++ sbFs (fs.take (k + 1))) := hide (by
            rw [sbFs_take (unhide HX1), sbF, nums_cons, nums_one]; simp only [List.append_assoc])
          clear c0 c1 p0 p1 b5 o5 J4
          go_wp2_with (at_builtin; refine wpList_appB _ rfl _ _ rfl w.heap.size _ _ rfl (unhide J5).ob _ _ _ rfl (unhide O5) hl5 hsz5 ?_; intro v6 w6 hO hG; have J6 := hide ((unhide J5).app hO hG); clear hO hG)
          go_roundw
          case rel => exact ⟨k + 1, by omega, by go_num, by rw [← unhide HP]; exact unhide J6⟩
          case measure => simp [intOf]; omega
        · have HT : Hid ((putN xs.length ++ sbIs xs) ++ putN fs.length ++ sbFs (fs.take k) = sb xs fs) := hide (by rw [sb, List.take_of_length_le (by have := unhide HNF; omega), List.append_assoc])
          clear hJ
          go_wp2
          go_ret
          exact ⟨_, rfl, by rw [← unhide HT]; exact (unhide HJ).ob, (unhide HJ).bel⟩
--@if spec.StateBytes
set_option maxHeartbeats 4000000 in
set_option maxRecDepth 100000 in
theorem sbytes_any (ai : Option Addr) (ni ci : Nat) (xs : List Itm) (af : Option Addr) (nf cf : Nat) (fs : List Flr) (ok : Bool) (h0 : Hid (okS xs fs = ok)) (w : World)
    (hni : ni ≤ 140737488351232) (hnf : nf ≤ 140737488351232) (hx : Rw encI 6 w (.slice ai ni ci) xs) (hf : Rw encF 2 w (.slice af nf cf) fs) :
    Calls Try.prog 33 #[.agg #[.slice ai ni ci, .slice af nf cf]] w fun e w' => ∃ v, e = .returned v ∧ OwB w.heap.size w' v (sbS xs fs) ∧ Below w.heap.size w w' := by
  have HX := hide hx
  have HF := hide hf
  clear hx hf
  go_enter Try.func33, Try.ntmps33
  go_wp2_with fail
  have bW : Below w.heap.size w (w.alloc (.cells #[.slice ai ni ci, .slice af nf cf] 27)) := (Below.refl w.heap.size w).alloc (Nat.le_refl _) _
  refine (sstateok_any ai ni ci xs af nf cf fs _ h0 _ hni hnf ((unhide HX).later bW) ((unhide HF).later bW)).mono ?_
  rintro e w1 ⟨rfl, b1⟩
  have CV : Hid (B2 w w1 (.slice ai ni ci) (.slice af nf cf) (.slice none 0 0) []) := hide ⟨bW.trans (b1.mono (by simp)), (b1.block _ (by simp)).trans (newB1 w _), OwB.nil _ _⟩
  have z1 := (unhide CV).lt
  have hz1 := (unhide CV).bel.size
  clear b1 bW
  cases ok
  · have e0 : sbS xs fs = [] := by rw [sbS, unhide h0]; rfl
    go_wp2
    go_ret
    exact ⟨_, rfl, by rw [e0]; exact owns_base (World.ownsRow_made _ #[] 0 (Nat.le_refl _) (by simp [maxLen]) rfl) hz1, ((unhide CV).bel.alloc hz1 _)⟩
  · have HE : Hid (sbS xs fs = sb xs fs) := hide (by rw [sbS, unhide h0]; rfl)
    have HA := hide ((okS_iff _ _).1 (unhide h0))
    obtain ⟨p0, p1, -⟩ := blk_cells2 (unhide CV).ka
    clear h0
    go_wp2_with fail
    refine (l6bytes_any ai ni ci xs af nf cf fs HA _ ((unhide HX).later (unhide CV).bel) ((unhide HF).later (unhide CV).bel)).mono ?_
    rintro e w2 ⟨v2, rfl, o2, b2⟩
    have O2 := hide (owns_base o2 hz1)
    have HB := hide ((unhide CV).bel.trans (b2.mono hz1))
    clear o2 b2
    go_wp2
    go_ret
    exact ⟨_, rfl, by rw [unhide HE]; exact unhide O2, unhide HB⟩
--@end
end Go.Proofs.Ytjlocbimkfocnaa
