/-
  What is right is put behind a list of one's own: the program does it at a generic type. No statement is proved here.
  The marks of a state: the specification's and the program's. No statement is proved here.
-/
import Derived.Test.YtighiahppjekeaaOrd
import Derived.Test.YtighiahppjekeaaApp2
import Derived.Test.YtighiahppjekeaaPrt
import Derived.Deep.DeepCutAuto
import Derived.Test.YtighiahppjekeaaMkP
import Derived.Test.YtighiahppjekeaaVwL
namespace Go.Proofs.Ytighiahppjekeaa
open Go.RowKit

theorem grown_below9 {w w' : World} (row : Option Nat) (h : Below w.heap.size w w') : w.grownBy w' row := ⟨h.os, h.tape, h.output, h.size, fun i hi _ => h.block i hi⟩
theorem grown_set9 (w : World) (g o : Nat) (u : Value) : w.grownBy (w.setCell ⟨g, o, none⟩ u) (some g) :=
  ⟨rfl, rfl, rfl, by simp, fun i _ hne => heap_setCell_other _ _ _ _ (fun e => hne (by simp [e]))⟩
theorem grown_trans9 {w w1 w2 : World} {row : Option Nat} (h1 : w.grownBy w1 row) (h2 : w1.grownBy w2 row) : w.grownBy w2 row :=
  ⟨h2.os.trans h1.os, h2.tape.trans h1.tape, h2.output.trans h1.output, Nat.le_trans h1.size h2.size, fun i hi hne => (h2.block i (Nat.lt_of_lt_of_le hi h1.size) hne).trans (h1.block i hi hne)⟩
theorem Try.infoMk9 : (Try.prog.info? 68).map (fun i => (i.zero, i.size, i.bytes)) = some (some (.agg #[.int .i64 0, .int .i64 0]), 2, 16) := by kernel_rfl
set_option maxHeartbeats 2000000 in
set_option maxRecDepth 100000 in
theorem iwithM_any (base : Nat) (a : Option Addr) (n c : Nat) (fs : List Flr) (x : Flr) (q : Bool) (hq : Hid (inB x.2 1 1000 = q)) (w : World) (hn : n ≤ 100000) (hb : base ≤ w.heap.size) (h : Ow encF 2 68 base w (.slice a n c) fs) :
    Calls Try.prog 55 #[.slice a n c, .agg #[.int .i64 x.1, .int .i64 x.2]] w fun e w' => ∃ a' n' c', e = .returned (.slice a' n' c') ∧ Ow encF 2 68 base w' (.slice a' n' c') (fs ++ if q then [x] else []) ∧ w.grownBy w' (Value.slice a n c).ownBlock := by
  obtain ⟨i0, hi, hz0, hz1, hz2⟩ := info_parts Try.infoMk9
  have HZ2 := hide hz2
  have HO := hide h
  have HL := hide (h.rw encF_len).len.1
  have hm2 := mright_m (.int .i64 x.1) (.int .i64 x.2)
  clear h hz2
  go_enter Try.func55, Try.ntmps55
  go_wp2_with fail
  refine (mright_any x q hq _).mono ?_
  rintro e w1 ⟨rfl, b1⟩
  have hg1 := grown_below9 (Value.slice a n c).ownBlock (((Below.refl w.heap.size w).alloc (Nat.le_refl _) (.cells #[.int .i64 x.1, .int .i64 x.2] 68)).trans (b1.mono (by simp)))
  have HO1 := hide (((unhide HO).later (((Below.refl w.heap.size w).alloc (Nat.le_refl _) (.cells #[.int .i64 x.1, .int .i64 x.2] 68)).trans (b1.mono (by simp)))))
  have k1 := (b1.block _ (by simp)).trans (heap_alloc_new w _)
  have s1 : w.heap.size < w1.heap.size := by have := b1.size; simp at this; omega
  obtain ⟨p0, p1⟩ := blk_get2 k1
  have HG1 := hide hg1
  clear b1 k1 hg1 HO
  cases q
  · go_wp2
    go_ret
    exact ⟨_, _, _, rfl, by simpa using unhide HO1, unhide HG1⟩
  go_wp2_with (first | (at_builtin; refine wpList_app1 encF_len (by omega) oneF 68 80 i0 _ 16 Try.underlying80 hi hz0 hz1 (unhide HZ2) rfl (by omega) w1 x rfl _ _ rfl base _ _ n HL rfl (unhide HO1) rfl (by omega) (by omega) ?_))
  intro a' c' w2 hO hG
  have HO2 := hide hO
  have HG2 := hide (grown_trans9 (unhide HG1) hG)
  clear hO hG HO1 HG1 p0 p1
  go_wp2
  go_ret
  exact ⟨_, _, _, rfl, by simpa using unhide HO2, unhide HG2⟩
end Go.Proofs.Ytighiahppjekeaa

namespace Go.Proofs.Ytighiahppjekeaa
open Go.RowKit

abbrev OwK (base : Nat) (w : World) (v : Value) (fs : List Flr) : Prop := Ow encF 2 68 base w v fs
theorem Try.infoMrk : (Try.prog.info? 68).map (fun i => (i.zero, i.size, i.bytes)) = some (some (.agg #[.int .i64 0, .int .i64 0]), 2, 16) := by kernel_rfl
theorem madeK {w : World} {g base : Nat} (hb : base ≤ g) (h : w.heap[g]? = some (.cells #[] 68 (0, 0))) : OwK base w (.slice (some ⟨g, 0, none⟩) 0 0) [] :=
  ⟨by simp, .inr ⟨g, 0, #[], rfl, hb, h, by simp, by simp⟩⟩
set_option maxHeartbeats 4000000 in
set_option maxRecDepth 100000 in
theorem smarksof_any (ai : Option Addr) (ni ci : Nat) (xs : List Itm) (af : Option Addr) (nf cf : Nat) (fs : List Flr) (w : World)
    (hni : ni ≤ 140737488351232) (hnf : nf ≤ 140737488351232) (hx : Rw encI 6 w (.slice ai ni ci) xs) (hf : Rw encF 2 w (.slice af nf cf) fs) :
    Calls Try.prog 28 #[.agg #[.slice ai ni ci, .slice af nf cf]] w fun e w' => ∃ a c, e = .returned (.slice a (mks xs fs).length c) ∧ OwK w.heap.size w' (.slice a (mks xs fs).length c) (mks xs fs) ∧ Below w.heap.size w w' := by
  obtain ⟨i0, hi, hz0, hz1, hz2⟩ := info_parts Try.infoMrk
  have HZ2 := hide hz2
  have HX := hide hx
  have HF := hide hf
  clear hx hf hz2
  go_enter Try.func28, Try.ntmps28
  go_wp2
  go_loopw [3, 4] (fun v i wr => ∃ (k : Nat) (b : Option Addr) (n d : Nat), k ≤ 5 ∧ i = .int .i64 k ∧ v = .slice b n d ∧ OwK (w.heap.size + 1) wr (.slice b n d) (mkK (gone xs fs) k) ∧ Below w.heap.size w wr ∧ wr.heap[w.heap.size]? = some (.cells #[.slice ai ni ci, .slice af nf cf] 38 (0, 0)) ∧ w.heap.size + 1 < wr.heap.size) (fun _ i _ => 5 - (intOf i).toNat)
  case atStart => exact ⟨0, _, _, _, Nat.zero_le _, rfl, rfl, madeK (Nat.le_refl _) (newB2 w _ _), ((Below.refl _ _).alloc (Nat.le_refl _) _).alloc (by simp) _, lowB2 w _ _, by simp⟩
  case round =>
    obtain ⟨k, b, n, d, hk, rfl, rfl, hown, hbel, hblk, hsw⟩ := hrel
    have HO := hide hown
    have HB := hide hbel
    have HK := hide hblk
    have hsz := hbel.size
    have hlen := (hown.rw encF_len).len.1
    have hl5 := mkK_len (gone xs fs) k
    have hn5 : n ≤ 5 := by omega
    have HL := hide hlen
    by_cases hlt : k < 5
    · obtain ⟨p0, p1, -⟩ := blk_cells2 hblk
      obtain ⟨r, hr⟩ : ∃ r, Hid (gone xs fs (k : Int) = r) := ⟨_, hide rfl⟩
      have HKK : Hid (mkK (gone xs fs) (k + 1) = mkK (gone xs fs) k ++ if 0 < r then [((k : Int), r)] else []) := hide (by rw [mkK, mk1, unhide hr])
      clear hown hbel hblk hl5 hlen
      go_wp2_with fail
      refine (sgone_any ai ni ci xs af nf cf fs k r hr _ hni hnf ((unhide HX).later (unhide HB)) ((unhide HF).later (unhide HB))).mono ?_
      rintro e w1 ⟨rfl, b1⟩
      have HB1 := hide ((unhide HB).trans (b1.mono hsz))
      have HK1 := hide ((b1.block _ (by omega)).trans (unhide HK))
      have HO1 := hide ((unhide HO).later b1)
      have hs1 : w.heap.size + 1 < w1.heap.size := Nat.lt_of_lt_of_le hsw b1.size
      clear b1 HB HK HO p0 p1
      by_cases hr0 : 0 < r
      · have hd : decide (0 < r) = true := by simpa using hr0
        have HN : Hid (mkK (gone xs fs) (k + 1) = mkK (gone xs fs) k ++ [((k : Int), r)]) := hide (by rw [unhide HKK, if_pos hr0])
        go_wp2_with (first | (at_builtin; refine wpList_app1 encF_len (by omega) oneF 68 25 i0 _ 16 Try.underlying25 hi hz0 hz1 (unhide HZ2) rfl (by omega) w1 ((k : Int), r) rfl _ _ rfl (w.heap.size + 1) _ _ n HL rfl (unhide HO1) rfl (by omega) (by omega) ?_))
        intro a' c' w2 hO hG
        have HO2 := hide hO
        have HB2 := hide ((unhide HB1).grown hG (by omega) (fun g hg => by have := (World.ownsRow.lt (unhide HO1) g hg).1; omega))
        have HK2 := hide ((hG.block _ (by omega) (fun e => by have := (World.ownsRow.lt (unhide HO1) _ e.symm).1; omega)).trans (unhide HK1))
        have hs2 : w.heap.size + 1 < w2.heap.size := Nat.lt_of_lt_of_le hs1 hG.size
        clear hO hG HO1 HB1 HK1
        go_wp2
        go_roundw
        case rel => exact ⟨k + 1, _, _, _, by omega, by go_num, rfl, by rw [unhide HN]; exact unhide HO2, unhide HB2, unhide HK2, hs2⟩
        case measure => simp [intOf]; omega
      · have hd : decide (0 < r) = false := by simpa using hr0
        have HN : Hid (mkK (gone xs fs) (k + 1) = mkK (gone xs fs) k) := hide (by rw [unhide HKK, if_neg hr0, List.append_nil])
        go_wp2
        go_roundw
        case rel => exact ⟨k + 1, _, _, _, by omega, by go_num, rfl, by rw [unhide HN]; exact unhide HO1, unhide HB1, unhide HK1, hs1⟩
        case measure => simp [intOf]; omega
    · obtain rfl : k = 5 := by omega
      clear hbel hblk hown
      go_wp2
      go_ret
      refine ⟨b, d, ?_, ?_, unhide HB⟩
      · rw [unhide HL]; rfl
      · have h := unhide HO
        rw [unhide HL] at h
        exact h.base (by omega)
set_option maxHeartbeats 4000000 in
set_option maxRecDepth 100000 in
theorem imarksof_any (ai : Option Addr) (ni ci : Nat) (xs : List Itm) (af : Option Addr) (nf cf : Nat) (fs : List Flr) (w : World)
    (hni : ni ≤ 140737488351232) (hnf : nf ≤ 140737488351232) (hx : Rw encI 6 w (.slice ai ni ci) xs) (hf : Rw encF 2 w (.slice af nf cf) fs) :
    Calls Try.prog 20 #[.agg #[.slice ai ni ci, .slice af nf cf]] w fun e w' => ∃ a c, e = .returned (.slice a (mks xs fs).length c) ∧ OwK w.heap.size w' (.slice a (mks xs fs).length c) (mks xs fs) ∧ Below w.heap.size w w' := by
  have HX := hide hx
  have HF := hide hf
  clear hx hf
  go_enter Try.func20, Try.ntmps20
  go_wp2
  go_loopw [3, 5] (fun v i wr => ∃ (k : Nat) (b : Option Addr) (n d : Nat), k ≤ 5 ∧ i = .int .i64 k ∧ v = .slice b n d ∧ OwK (w.heap.size + 1) wr (.slice b n d) (mkK (gone xs fs) k) ∧ Below w.heap.size w wr ∧ wr.heap[w.heap.size]? = some (.cells #[.slice ai ni ci, .slice af nf cf] 38 (0, 0)) ∧ w.heap.size + 1 ≤ wr.heap.size) (fun _ i _ => 5 - (intOf i).toNat)
  case atStart => exact ⟨0, none, 0, 0, Nat.zero_le _, rfl, rfl, World.ownsRow_nil _ _ _ _, (Below.refl _ _).alloc (Nat.le_refl _) _, heap_alloc_new w _, by simp⟩
  case round =>
    obtain ⟨k, b, n, d, hk, rfl, rfl, hown, hbel, hblk, hsw⟩ := hrel
    have HO := hide hown
    have HB := hide hbel
    have HK := hide hblk
    have hsz := hbel.size
    have hlen := (hown.rw encF_len).len.1
    have hl5 := mkK_len (gone xs fs) k
    have hn5 : n ≤ 5 := by omega
    have HL := hide hlen
    by_cases hlt : k < 5
    · obtain ⟨p0, p1, -⟩ := blk_cells2 hblk
      obtain ⟨r, hr⟩ : ∃ r, Hid (gone xs fs (k : Int) = r) := ⟨_, hide rfl⟩
      have hr3 := gone_le xs fs (k : Int)
      rw [unhide hr] at hr3
      obtain ⟨q, hq⟩ : ∃ q, Hid (inB r 1 1000 = q) := ⟨_, hide rfl⟩
      have HKK : Hid (mkK (gone xs fs) (k + 1) = mkK (gone xs fs) k ++ if q then [((k : Int), r)] else []) := hide (by
        rw [mkK, mk1, unhide hr, ← unhide hq]
        by_cases h : 0 < r
        · rw [if_pos h, if_pos (by simp [inB]; omega)]
        · rw [if_neg h, if_neg (by simp [inB]; omega)])
      clear hown hbel hblk hl5 hlen hr3
      go_wp2_with fail
      refine (igone_any ai ni ci xs af nf cf fs k r hr _ hni hnf ((unhide HX).later (unhide HB)) ((unhide HF).later (unhide HB))).mono ?_
      rintro e w1 ⟨rfl, b1⟩
      have HB1 := hide ((unhide HB).trans (b1.mono hsz))
      have HK1 := hide ((b1.block _ (by omega)).trans (unhide HK))
      have HO1 := hide ((unhide HO).later b1)
      have hs1 : w.heap.size + 1 ≤ w1.heap.size := Nat.le_trans hsw b1.size
      clear b1 HB HK HO p0 p1
      go_wp2_with fail
      refine (iwithM_any (w.heap.size + 1) b n d _ ((k : Int), r) q hq _ (by omega) hs1 (unhide HO1)).mono ?_
      rintro e w2 ⟨a', n', c', rfl, hO, hG⟩
      have HO2 := hide hO
      have HB2 := hide ((unhide HB1).grown hG (by omega) (fun g hg => by have := (World.ownsRow.lt (unhide HO1) g hg).1; omega))
      have HK2 := hide ((hG.block _ (by omega) (fun e => by have := (World.ownsRow.lt (unhide HO1) _ e.symm).1; omega)).trans (unhide HK1))
      have hs2 : w.heap.size + 1 ≤ w2.heap.size := Nat.le_trans hs1 hG.size
      clear hO hG HO1 HB1 HK1
      go_wp2
      go_roundw
      case rel => exact ⟨k + 1, _, _, _, by omega, by go_num, rfl, by rw [unhide HKK]; exact unhide HO2, unhide HB2, unhide HK2, hs2⟩
      case measure => simp [intOf]; omega
    · obtain rfl : k = 5 := by omega
      clear hbel hblk hown
      go_wp2
      go_ret
      refine ⟨b, d, ?_, ?_, unhide HB⟩
      · rw [unhide HL]; rfl
      · have h := unhide HO
        rw [unhide HL] at h
        exact h.base (by omega)
end Go.Proofs.Ytighiahppjekeaa
