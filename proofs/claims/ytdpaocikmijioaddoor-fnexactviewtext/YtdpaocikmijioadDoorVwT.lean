/-
  ViewText of both. No statement is proved here.
-/
import Derived.Test.YtdpaocikmijioadDoorVwV
import Derived.Test.YtdpaocikmijioadDoorVwW
import Derived.Test.YtdpaocikmijioadDoorTxV
namespace Go.Proofs.YtdpaocikmijioadDoor
open Go.RowKit

theorem vw_mem {xs : List Itm} {fs : List Flr} {x : Itm} (h : x ∈ vw xs fs) : okE x.2.1 x.2.2.1 x.2.2.2.1 x.2.2.2.2.1 x.2.2.2.2.2 = true ∧ 0 ≤ x.1 ∧ x.1 ≤ 4 ∧ x.2.2.1 = 0 := by
  unfold vw at h
  split at h
  · rename_i hk
    obtain ⟨h1, h2⟩ := List.mem_filter.1 h
    have := ((okS_iff _ _).1 hk).ix x h1
    exact ⟨this.2.2.1, this.1, this.2.1, by simpa using h2⟩
  · simp at h
theorem vw_fit (xs : List Itm) (fs : List Flr) : FitI (vw xs fs) ∧ Sml (vw xs fs) := by
  refine ⟨fun k x hx => ?_, fun k x hx => ?_⟩
  · obtain ⟨h, h1, h2, _⟩ := vw_mem (List.mem_of_getElem? hx)
    simp only [okE, Bool.and_eq_true, inB_iff] at h
    obtain ⟨⟨⟨⟨a1, a2⟩, a3⟩, a4⟩, _⟩ := h
    exact ⟨⟨by omega, by omega⟩, ⟨by omega, by omega⟩, ⟨by omega, by omega⟩, ⟨by omega, by omega⟩, ⟨by omega, by omega⟩⟩
  · obtain ⟨h, _⟩ := vw_mem (List.mem_of_getElem? hx)
    have := okE_size h
    omega
theorem fit_nil : FitF [] := fun _ _ h => by simp at h

set_option maxHeartbeats 2000000 in
theorem svt_v (ai : Option Addr) (ni ci : Nat) (xs : List Itm) (af : Option Addr) (nf cf : Nat) (fs : List Flr) (t : ByteArray) (ht : Hid (tx ((vw xs fs).map wI ++ ([] : List Flr).map wF) = t)) (w : World)
    (hni : ni ≤ 140737488351232) (hnf : nf ≤ 140737488351232) (hx : Rw encI 6 w (.slice ai ni ci) xs) (hf : Rw encF 2 w (.slice af nf cf) fs) :
    Calls Tryd.prog 5 #[.agg #[.slice ai ni ci, .slice af nf cf]] w fun e w' => e = .returned (.string t) ∧ Below w.heap.size w w' := by
  have HX := hide (hx.alloc (.cells #[.slice ai ni ci, .slice af nf cf] 31))
  have HF := hide (hf.alloc (.cells #[.slice ai ni ci, .slice af nf cf] 31))
  clear hx hf
  go_enter Tryd.func5, Tryd.ntmps5
  go_wp2_with fail
  refine (sview_any ai ni ci xs af nf cf fs _ hni hnf (unhide HX) (unhide HF)).mono ?_
  rintro e w1 ⟨a1, n1, c1, rfl, o1, b1⟩
  have n5 : n1 ≤ 5 := by have := (o1.rw encI_len).len.1; have := vw_len xs fs; omega
  have R1 := hide (o1.rw encI_len)
  have HB1 := hide (((Below.refl w.heap.size w).alloc (Nat.le_refl _) _).trans (b1.mono (by simp)))
  clear o1 b1 HX HF
  go_wp2_with fail
  refine (stx_v a1 n1 c1 (vw xs fs) none 0 0 [] t ht (vw_fit xs fs).1 fit_nil (vw_fit xs fs).2 _ (by omega) (by omega) (unhide R1) Rw.nil).mono ?_
  rintro e w2 ⟨rfl, b2⟩
  have HB2 := hide ((unhide HB1).trans (b2.mono (unhide HB1).size))
  clear b2
  go_wp2
  go_ret
  exact ⟨rfl, unhide HB2⟩
set_option maxHeartbeats 2000000 in
theorem ivt_v (ai : Option Addr) (ni ci : Nat) (xs : List Itm) (af : Option Addr) (nf cf : Nat) (fs : List Flr) (t : ByteArray) (ht : Hid (tx ((vw xs fs).map wI ++ ([] : List Flr).map wF) = t)) (w : World) (hT : Lib.TabIs Tryd.prog w "internal/strconv.uint64pow10" .u64 Lib.pow10Tab)
    (hni : ni ≤ 140737488351232) (hnf : nf ≤ 140737488351232) (hx : Rw encI 6 w (.slice ai ni ci) xs) (hf : Rw encF 2 w (.slice af nf cf) fs) :
    Calls Tryd.prog 7 #[.agg #[.slice ai ni ci, .slice af nf cf]] w fun e w' => e = .returned (.string t) ∧ Below w.heap.size w w' := by
  obtain ⟨n1, hn1⟩ : ∃ z, Hid ((vw xs fs).length = z) := ⟨_, hide rfl⟩
  have n5 : n1 ≤ 5 := by have := vw_len xs fs; rw [unhide hn1] at this; exact this
  have HX := hide (hx.alloc (.cells #[.slice ai ni ci, .slice af nf cf] 31))
  have HF := hide (hf.alloc (.cells #[.slice ai ni ci, .slice af nf cf] 31))
  have HT := hide hT
  clear hx hf hT
  go_enter Tryd.func7, Tryd.ntmps7
  go_wp2_with fail
  refine (iview_any ai ni ci xs af nf cf fs n1 hn1 _ hni hnf (unhide HX) (unhide HF)).mono ?_
  rintro e w1 ⟨a1, c1, rfl, o1, b1⟩
  have R1 := hide (o1.rw encI_len)
  have HB1 := hide (((Below.refl w.heap.size w).alloc (Nat.le_refl _) _).trans (b1.mono (by simp)))
  clear o1 b1 HX HF
  go_wp2_with fail
  refine (itx_v a1 n1 c1 (vw xs fs) none 0 0 [] t ht (vw_fit xs fs).1 fit_nil (vw_fit xs fs).2 _ (tab_later (unhide HT) (unhide HB1) (tab_lt (unhide HT))) (by omega) (by omega) (unhide R1) Rw.nil).mono ?_
  rintro e w2 ⟨rfl, b2⟩
  have HB2 := hide ((unhide HB1).trans (b2.mono (unhide HB1).size))
  clear b2
  go_wp2
  go_ret
  exact ⟨rfl, unhide HB2⟩
end Go.Proofs.YtdpaocikmijioadDoor
