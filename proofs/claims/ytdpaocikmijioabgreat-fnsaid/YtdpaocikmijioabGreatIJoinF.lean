/-
  The program's joinFloors. No statement is proved here.
-/
import Derived.Test.YtdpaocikmijioabGreatStJP
import Derived.Test.YtdpaocikmijioabGreatApp2
import Derived.Test.YtdpaocikmijioabGreatIStOk
import Derived.Test.YtdpaocikmijioabGreatStT
import Derived.Test.YtdpaocikmijioabGreatStM
namespace Go.Proofs.YtdpaocikmijioabGreat
open Go.RowKit

set_option maxHeartbeats 8000000 in
set_option maxRecDepth 100000 in
theorem ijoinf_any (vi : Value) (af : Option Addr) (nf cf : Nat) (fs : List Flr) (vj : Value) (bf : Option Addr) (mf df : Nat) (gs : List Flr) (w : World)
    (hnf : nf ≤ 140737488351232) (hmf : mf ≤ 140737488351232) (hf : Rw encF 2 w (.slice af nf cf) fs) (hg : Rw encF 2 w (.slice bf mf df) gs) :
    Calls Tryz.prog 48 #[.agg #[vi, .slice af nf cf], .agg #[vj, .slice bf mf df]] w fun e w' => ∃ a2 n2 c2, e = .returned (.slice a2 n2 c2) ∧ OwF w.heap.size w' (.slice a2 n2 c2) (joinF fs gs) ∧ Below w.heap.size w w' := by
  obtain ⟨i1, gi, gz0, gz1, gz2⟩ := info_parts Tryz.infoFloor
  have HF := hide hf
  have HG := hide hg
  clear hf hg
  go_enter Tryz.func48, Tryz.ntmps48
  go_wp2
  go_loopw [5, 8] (fun v i wr => ∃ (k : Nat) (a2 : Option Addr) (n2 c2 : Nat), k ≤ 5 ∧ i = .int .i64 k ∧ v = .slice a2 n2 c2 ∧ OwF w.heap.size wr (.slice a2 n2 c2) (jF fs gs k) ∧ Below w.heap.size w wr ∧ wr.heap[w.heap.size]? = some (.cells #[vi, .slice af nf cf] 27 (0, 0)) ∧ wr.heap[w.heap.size + 1]? = some (.cells #[vj, .slice bf mf df] 27 (0, 0))) (fun _ i _ => 5 - (intOf i).toNat)
  case atStart => exact ⟨0, none, 0, 0, by omega, rfl, rfl, World.ownsRow_nil _ _ _ _, ((Below.refl _ _).alloc (Nat.le_refl _) _).alloc (by simp) _, lowB2 w _ _, newB2 w _ _⟩
  case round =>
    obtain ⟨k, a2, n2, c2, hk, rfl, rfl, hown, hbel, ka, kb⟩ := hrel
    have HO := hide hown
    have HB := hide hbel
    have KA := hide ka
    have KB := hide kb
    have hsz := hbel.size
    have hz : w.heap.size + 1 < wr.heap.size := (Array.getElem?_eq_some_iff.mp kb).1
    obtain ⟨pa0, pa1, -⟩ := blk_cells2 ka
    obtain ⟨pb0, pb1, -⟩ := blk_cells2 kb
    clear hown ka kb
    by_cases hlt : k < 5
    · obtain ⟨fa, hfa⟩ : ∃ fa, flo fs k = fa := ⟨_, rfl⟩
      obtain ⟨fb, hfb⟩ : ∃ fb, flo gs k = fb := ⟨_, rfl⟩
      have HFA := hide hfa
      have HFB := hide hfb
      have HF0 : Hid (fl2 fs gs k = max fa fb) := hide (by rw [fl2, hfa, hfb]; split <;> omega)
      have hdk : decide ((k : Int) < 5) = true := by simp; omega
      clear hfa hfb
      have la0 := later_some (w := wr) (b := w.heap.size) (o := 0) (by omega) pa0
      have la1 := later_some (w := wr) (b := w.heap.size) (o := 1) (by omega) pa1
      have lb0 := later_some (w := wr) (b := w.heap.size + 1) (o := 0) (by omega) pb0
      have lb1 := later_some (w := wr) (b := w.heap.size + 1) (o := 1) (by omega) pb1
      have RF := hide ((unhide HF).later hbel)
      have RG := hide ((unhide HG).later hbel)
      clear hbel
      go_wp2_with fail
      refine wp_region_later (by kernel_rfl) (by kernel_rfl) ?_
      repeat (go_big_quiet_step (first
        | (go_at_call_of 53 (Value.slice af nf cf); exact Calls.later_of (ifloor_v _ af nf cf fs _ fa HFA _ hnf ((unhide RF).in_later _ _)))
        | (go_at_call_of 53 (Value.slice bf mf df); exact Calls.later_of (ifloor_v _ bf mf df gs _ fb HFB _ hmf ((unhide RG).in_later _ _)))))
      refine wpQuiet_nil ?_
      intro w1 hb1
      generalize hm : max fa fb = f at HF0 ⊢
      have HO1 := hide ((unhide HO).later hb1)
      have HB1 := hide ((unhide HB).trans (hb1.mono hsz))
      have KA1 := hide ((hb1.block _ (by omega)).trans (unhide KA))
      have KB1 := hide ((hb1.block _ (by omega)).trans (unhide KB))
      have hz1 : w.heap.size + 1 < w1.heap.size := Nat.lt_of_lt_of_le hz hb1.size
      have hn2 : Hid (n2 = (jF fs gs k).length) := hide ((unhide HO1).rw encF_len).len.1
      have hn2l : n2 ≤ 5 := by have := unhide hn2; have := jF_len fs gs k; omega
      clear hm hb1 la0 la1 lb0 lb1 RF RG pa0 pa1 pb0 pb1 HO HB KA KB HFA HFB hsz hz
      have hw1 : w.heap.size ≤ w1.heap.size := by omega
      rcases Bool.eq_false_or_eq_true (decide (0 < f)) with hpos | hpos
      · go_wp2_with (first | (at_builtin; refine wpList_app1 encF_len (by omega) oneF 84 25 i1 _ 16 Tryz.underlying25 gi gz0 gz1 gz2 rfl (by omega) w1 ((k : Int), f) rfl _ _ rfl w.heap.size _ (jF fs gs k) n2 hn2 rfl (unhide HO1) rfl (by omega) hw1 ?_; intro a2' c2' w2 hO hG; have HO2 := hide hO; have HB2 := hide ((Trn.of_grown hG).below (unhide HB1) hw1 (fun i q => (World.ownsRow.lt (unhide HO1) i q).1)); have HG2 := hide hG; clear hO hG))
        go_roundw
        case rel =>
          have hnA := own_ne (unhide HO1) (unhide KA1) (by decide)
          have hnB := own_ne (unhide HO1) (unhide KB1) (by decide)
          exact ⟨k + 1, a2', n2 + 1, c2', by omega, by go_num, rfl, by rw [jF_pos (by rw [unhide HF0]; exact hpos), unhide HF0]; exact unhide HO2, unhide HB2, ((unhide HG2).block _ (by omega) (fun q => hnA q.symm)).trans (unhide KA1), ((unhide HG2).block _ (by omega) (fun q => hnB q.symm)).trans (unhide KB1)⟩
        case measure => simp [intOf]; omega
      · go_wp2
        go_roundw
        case rel => exact ⟨k + 1, a2, n2, c2, by omega, by go_num, rfl, by rw [jF_neg (by rw [unhide HF0]; exact hpos)]; exact unhide HO1, unhide HB1, unhide KA1, unhide KB1⟩
        case measure => simp [intOf]; omega
    · have hdk : decide ((k : Int) < 5) = false := by simp; omega
      have HE : Hid (OwF w.heap.size wr (.slice a2 n2 c2) (joinF fs gs)) := by
        have h := unhide HO
        have e : k = 5 := by omega
        rw [e] at h
        exact hide h
      clear hbel HO
      go_wp2
      go_ret
      exact ⟨a2, n2, c2, rfl, unhide HE, unhide HB⟩
end Go.Proofs.YtdpaocikmijioabGreat
