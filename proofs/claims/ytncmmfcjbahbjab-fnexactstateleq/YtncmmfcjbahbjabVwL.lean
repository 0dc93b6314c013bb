/-
  Beneath, and how far one is over: the program's and the specification's. No statement is proved here.
-/
import Derived.Test.YtncmmfcjbahbjabVwP
import Derived.Test.YtncmmfcjbahbjabSt3
import Derived.Test.YtncmmfcjbahbjabIJoin
import Derived.Test.YtncmmfcjbahbjabIStSame
import Derived.Test.YtncmmfcjbahbjabSJoin2
import Derived.Test.YtncmmfcjbahbjabSStSame
namespace Go.Proofs.Ytncmmfcjbahbjab
open Go.RowKit

set_option maxHeartbeats 4000000 in
set_option maxRecDepth 100000 in
theorem ileq_any (ai : Option Addr) (ni ci : Nat) (xs : List Itm) (af : Option Addr) (nf cf : Nat) (fs : List Flr) (bi : Option Addr) (mi di : Nat) (ys : List Itm) (bf : Option Addr) (mf df : Nat) (gs : List Flr) (r : Bool) (hr : Hid (leqS xs fs ys gs = r)) (w : World)
    (hni : ni ≤ 140737488351232) (hnf : nf ≤ 140737488351232) (hmi : mi ≤ 140737488351232) (hmf : mf ≤ 140737488351232) (hx : Rw encI 6 w (.slice ai ni ci) xs) (hf : Rw encF 2 w (.slice af nf cf) fs) (hy : Rw encI 6 w (.slice bi mi di) ys) (hg : Rw encF 2 w (.slice bf mf df) gs) :
    Calls Try.prog 8 #[.agg #[.slice ai ni ci, .slice af nf cf], .agg #[.slice bi mi di, .slice bf mf df]] w fun e w' => e = .returned (.bool r) ∧ Below w.heap.size w w' := by
  have HX := hide hx
  have HY := hide hy
  have HF := hide hf
  have HG := hide hg
  obtain ⟨ok, h0⟩ : ∃ ok, (okS xs fs && okS ys gs) = ok := ⟨_, rfl⟩
  have hE := unhide hr
  rw [leqS, h0] at hE
  have H0 := hide h0
  have HE := hide hE
  obtain ⟨n1, hn1⟩ : ∃ z, Hid ((jnI ok xs fs ys gs).length = z) := ⟨_, hide rfl⟩
  obtain ⟨n2, hn2⟩ : ∃ z, Hid ((jnF ok fs gs).length = z) := ⟨_, hide rfl⟩
  have k1 : n1 ≤ 5 := by rw [← unhide hn1]; exact jnI_len _ _ _ _ _
  have k2 : n2 ≤ 5 := by rw [← unhide hn2]; exact jnF_len _ _ _
  clear hx hy hf hg h0 hE hr
  go_enter Try.func8, Try.ntmps8
  go_wp2_with fail
  refine (ijoin_any ai ni ci xs af nf cf fs bi mi di ys bf mf df gs ok H0 n1 n2 hn1 hn2 _ hni hnf hmi hmf (((unhide HX).alloc _).alloc _) (((unhide HF).alloc _).alloc _) (((unhide HY).alloc _).alloc _) (((unhide HG).alloc _).alloc _)).mono ?_
  rintro e w1 ⟨a1, c1, a2, c2, rfl, o1, o2, b1⟩
  have HB1 := hide ((((Below.refl w.heap.size w).alloc (Nat.le_refl _) _).alloc (by simp) _).trans (b1.mono (by simp; omega)))
  have MB := hide ((b1.block _ (by simp)).trans (newB2 w _ _))
  have hz1 : w.heap.size + 1 < w1.heap.size := (Array.getElem?_eq_some_iff.mp (unhide MB)).1
  obtain ⟨q0, q1, -⟩ := blk_cells2 (unhide MB)
  have O1 := hide (o1.rw encI_len)
  have O2 := hide (o2.rw encF_len)
  clear b1 o1 o2 MB
  cases ok
  · obtain rfl : r = false := (unhide HE).symm
    go_wp2
    go_ret
    exact ⟨rfl, (unhide HB1).alloc (unhide HB1).size _⟩
  · go_wp2_with fail
    have HR : Hid ((decide (joinI xs fs ys gs = ys) && decide (joinF fs gs = gs)) = r) := hide (unhide HE)
    refine (isame_any a1 n1 c1 (joinI xs fs ys gs) a2 n2 c2 (joinF fs gs) bi mi di ys bf mf df gs r HR _ (by omega) (by omega) hmi hmf ((unhide O1).alloc _) ((unhide O2).alloc _) (((unhide HY).later (unhide HB1)).alloc _) (((unhide HG).later (unhide HB1)).alloc _)).mono ?_
    rintro e w2 ⟨rfl, b2⟩
    have HB2 := hide (((unhide HB1).alloc (unhide HB1).size _).trans (b2.mono (by have := (unhide HB1).size; simp; omega)))
    clear b2
    go_wp2
    go_ret
    exact ⟨rfl, unhide HB2⟩

set_option maxHeartbeats 8000000 in
set_option maxRecDepth 100000 in
theorem sleq_any (ai : Option Addr) (ni ci : Nat) (xs : List Itm) (af : Option Addr) (nf cf : Nat) (fs : List Flr) (bi : Option Addr) (mi di : Nat) (ys : List Itm) (bf : Option Addr) (mf df : Nat) (gs : List Flr) (r : Bool) (hr : Hid (leqS xs fs ys gs = r)) (w : World)
    (hni : ni ≤ 140737488351232) (hnf : nf ≤ 140737488351232) (hmi : mi ≤ 140737488351232) (hmf : mf ≤ 140737488351232) (hx : Rw encI 6 w (.slice ai ni ci) xs) (hf : Rw encF 2 w (.slice af nf cf) fs) (hy : Rw encI 6 w (.slice bi mi di) ys) (hg : Rw encF 2 w (.slice bf mf df) gs) :
    Calls Try.prog 6 #[.agg #[.slice ai ni ci, .slice af nf cf], .agg #[.slice bi mi di, .slice bf mf df]] w fun e w' => e = .returned (.bool r) ∧ Below w.heap.size w w' := by
  obtain ⟨okA, hA⟩ : ∃ okA, okS xs fs = okA := ⟨_, rfl⟩
  obtain ⟨okB, hB⟩ : ∃ okB, okS ys gs = okB := ⟨_, rfl⟩
  have hE := unhide hr
  rw [leqS, hA, hB] at hE
  have HA := hide hA
  have HB := hide hB
  have HE := hide hE
  go_enter Try.func6, Try.ntmps6
  go_upto_region 1 with fail
  obtain ⟨V, hV⟩ : ∃ V, V = (w.alloc (.cells #[.slice ai ni ci, .slice af nf cf] 31)).alloc (.cells #[.slice bi mi di, .slice bf mf df] 31) := ⟨_, rfl⟩
  rw [← hV]
  have ka : V.heap[w.heap.size]? = some (.cells #[.slice ai ni ci, .slice af nf cf] 31 (0, 0)) := by rw [hV]; exact lowB2 w _ _
  have kb : V.heap[w.heap.size + 1]? = some (.cells #[.slice bi mi di, .slice bf mf df] 31 (0, 0)) := by rw [hV]; exact newB2 w _ _
  have BV : Below w.heap.size w V := by rw [hV]; exact ((Below.refl w.heap.size w).alloc (Nat.le_refl _) _).alloc (by simp) _
  have HBV := hide BV
  have HX := hide (hx.later BV)
  have HF := hide (hf.later BV)
  have HY := hide (hy.later BV)
  have HG := hide (hg.later BV)
  have hzb : w.heap.size + 1 < V.heap.size := (Array.getElem?_eq_some_iff.mp kb).1
  have hza : w.heap.size < V.heap.size := by omega
  obtain ⟨pa0, pa1, -⟩ := blk_cells2 ka
  obtain ⟨pb0, pb1, -⟩ := blk_cells2 kb
  clear hx hf hy hg hA hB hE hr BV hV ka kb
  cases okA
  · obtain rfl : r = false := (unhide HE).symm
    have la0 := later_some (w := V) hza pa0
    have la1 := later_some (w := V) hza pa1
    have lb0 := later_some (w := V) hzb pb0
    have lb1 := later_some (w := V) hzb pb1
    clear pa0 pa1 pb0 pb1
    refine wp_region_later (by kernel_rfl) (by kernel_rfl) ?_
    repeat (go_big_quiet_step (first
      | (go_at_call_of 16 (Value.slice ai ni ci); exact Calls.later_of (sstateok_any ai ni ci xs af nf cf fs _ HA _ hni hnf ((unhide HX).in_later _ _) ((unhide HF).in_later _ _)))))
    refine wpQuiet_nil ?_
    intro w1 hb1
    have HB1 := hide ((unhide HBV).trans (hb1.mono (unhide HBV).size))
    clear hb1 la0 la1 lb0 lb1
    go_wp2
    go_ret
    exact ⟨rfl, unhide HB1⟩
  · cases okB
    · obtain rfl : r = false := (unhide HE).symm
      have la0 := later_some (w := V) hza pa0
      have la1 := later_some (w := V) hza pa1
      have lb0 := later_some (w := V) hzb pb0
      have lb1 := later_some (w := V) hzb pb1
      clear pa0 pa1 pb0 pb1
      refine wp_region_later (by kernel_rfl) (by kernel_rfl) ?_
      repeat (go_big_quiet_step (first
        | (go_at_call_of 16 (Value.slice ai ni ci); exact Calls.later_of (sstateok_any ai ni ci xs af nf cf fs _ HA _ hni hnf ((unhide HX).in_later _ _) ((unhide HF).in_later _ _)))
        | (go_at_call_of 16 (Value.slice bi mi di); exact Calls.later_of (sstateok_any bi mi di ys bf mf df gs _ HB _ hmi hmf ((unhide HY).in_later _ _) ((unhide HG).in_later _ _)))))
      refine wpQuiet_nil ?_
      intro w1 hb1
      have HB1 := hide ((unhide HBV).trans (hb1.mono (unhide HBV).size))
      clear hb1 la0 la1 lb0 lb1
      go_wp2
      go_ret
      exact ⟨rfl, unhide HB1⟩
    · have HR : Hid ((decide (joinI xs fs ys gs = ys) && decide (joinF fs gs = gs)) = r) := hide (unhide HE)
      have PA0 := hide pa0; have PA1 := hide pa1; have PB0 := hide pb0; have PB1 := hide pb1
      clear HE pa0 pa1 pb0 pb1
      go_region_held3 (fun W => Below V.heap.size V W ∧ W.cell? ⟨w.heap.size, 0, none⟩ = some (.slice ai ni ci) ∧ W.cell? ⟨w.heap.size, 1, none⟩ = some (.slice af nf cf) ∧ W.cell? ⟨w.heap.size + 1, 0, none⟩ = some (.slice bi mi di) ∧ W.cell? ⟨w.heap.size + 1, 1, none⟩ = some (.slice bf mf df))
        (first | (with_reducible exact keep4 hza hza hzb hzb (unhide PA0) (unhide PA1) (unhide PB0) (unhide PB1) (Below.refl _ _)) | (with_reducible exact keep4 hza hza hzb hzb (unhide PA0) (unhide PA1) (unhide PB0) (unhide PB1) ((Below.refl _ _).drew)) | (with_reducible exact keep4 hza hza hzb hzb (unhide PA0) (unhide PA1) (unhide PB0) (unhide PB1) (by assumption)))
        (first
          | (go_at_call_of 16 (Value.agg #[Value.slice ai ni ci, Value.slice af nf cf]); refine (sstateok_any ai ni ci xs af nf cf fs _ HA _ hni hnf ?_ ?_).mono ?_; exact (unhide HX).later (kb1 (by assumption)); exact (unhide HF).later (kb1 (by assumption)); rintro e w3 ⟨rfl, b6⟩; have bw3 := kb2 (by assumption) b6; clear b6)
          | (go_at_call_of 16 (Value.agg #[Value.slice bi mi di, Value.slice bf mf df]); refine (sstateok_any bi mi di ys bf mf df gs _ HB _ hmi hmf ?_ ?_).mono ?_; exact (unhide HY).later (kb1 (by assumption)); exact (unhide HG).later (kb1 (by assumption)); rintro e w4 ⟨rfl, b6⟩; have bw4 := kb2 (by assumption) b6; clear b6)
          | (go_at_call 18; refine (l3join_any ai ni ci xs af nf cf fs bi mi di ys bf mf df gs _ hni hnf hmi hmf ?_ ?_ ?_ ?_).mono ?_; exact (unhide HX).later (kb1 (by assumption)); exact (unhide HF).later (kb1 (by assumption)); exact (unhide HY).later (kb1 (by assumption)); exact (unhide HG).later (kb1 (by assumption)); rintro e w5 ⟨a1, n1, c1, a2, n2, c2, rfl, o1, o2, b6⟩; have L1 := Nat.le_trans (Nat.le_of_eq (o1.rw encI_len).len.1) (jI_len xs fs ys gs 5); have L2 := Nat.le_trans (Nat.le_of_eq (o2.rw encF_len).len.1) (jF_len fs gs 5); have R1 := hide (o1.rw encI_len); have R2 := hide (o2.rw encF_len); have bw5 := kb2 (by assumption) b6; clear o1 o2 b6)
          | (go_at_call 17; refine (ssame_any a1 n1 c1 (joinI xs fs ys gs) a2 n2 c2 (joinF fs gs) bi mi di ys bf mf df gs r HR _ (by omega) (by omega) hmi hmf (unhide R1) (unhide R2) ?_ ?_).mono ?_; exact (unhide HY).later (kb1 (by assumption)); exact (unhide HG).later (kb1 (by assumption)); rintro e w6 ⟨rfl, b6⟩; have bw6 := kb2 (by assumption) b6; clear b6))
      all_goals go_wp2
      all_goals go_ret
      all_goals exact ⟨rfl, (unhide HBV).trans (bw6.mono (unhide HBV).size)⟩
end Go.Proofs.Ytncmmfcjbahbjab
