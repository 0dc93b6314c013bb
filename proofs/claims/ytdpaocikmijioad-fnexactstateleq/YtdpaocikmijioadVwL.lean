/-
  Beneath, and how far one is over: the program's and the specification's. No statement is proved here.
-/
import Derived.Test.YtdpaocikmijioadVwP
import Derived.Test.YtdpaocikmijioadSt3
import Derived.Test.YtdpaocikmijioadIJoin
import Derived.Test.YtdpaocikmijioadIStSame
import Derived.Test.YtdpaocikmijioadSJoin2
import Derived.Test.YtdpaocikmijioadSStSame
import Derived.Test.YtdpaocikmijioadIStOk
import Derived.Test.YtdpaocikmijioadSStOk
namespace Go.Proofs.Ytdpaocikmijioad
open Go.RowKit

set_option maxHeartbeats 4000000 in
set_option maxRecDepth 100000 in
theorem ileq_any (ai : Option Addr) (ni ci : Nat) (xs : List Itm) (af : Option Addr) (nf cf : Nat) (fs : List Flr) (bi : Option Addr) (mi di : Nat) (ys : List Itm) (bf : Option Addr) (mf df : Nat) (gs : List Flr) (r : Bool) (hr : Hid (leqS xs fs ys gs = r)) (w : World)
    (hni : ni ≤ 140737488351232) (hnf : nf ≤ 140737488351232) (hmi : mi ≤ 140737488351232) (hmf : mf ≤ 140737488351232) (hx : Rw encI 6 w (.slice ai ni ci) xs) (hf : Rw encF 2 w (.slice af nf cf) fs) (hy : Rw encI 6 w (.slice bi mi di) ys) (hg : Rw encF 2 w (.slice bf mf df) gs) :
    Calls Try.prog 14 #[.agg #[.slice ai ni ci, .slice af nf cf], .agg #[.slice bi mi di, .slice bf mf df]] w fun e w' => e = .returned (.bool r) ∧ Below w.heap.size w w' := by
  have HX := hide hx
  have HY := hide hy
  have HF := hide hf
  have HG := hide hg
  obtain ⟨ok, h0⟩ : ∃ ok, (okS xs fs && okS ys gs) = ok := ⟨_, rfl⟩
  have hE := unhide hr
  rw [leqS, h0] at hE
  have H0 := hide h0
  have HE := hide hE
  obtain ⟨n1, hn1⟩ : ∃ z, Hid ((jnI ok xs fs ys gs).length = z) := ⟨_, hide rfl⟩
  obtain ⟨n2, hn2⟩ : ∃ z, Hid ((jnF ok fs gs).length = z) := ⟨_, hide rfl⟩
  have k1 : n1 ≤ 5 := by rw [← unhide hn1]; exact jnI_len _ _ _ _ _
  have k2 : n2 ≤ 5 := by rw [← unhide hn2]; exact jnF_len _ _ _
  clear hx hy hf hg h0 hE hr
  go_enter Try.func14, Try.ntmps14
  go_wp2_with fail
  refine (ijoin_any ai ni ci xs af nf cf fs bi mi di ys bf mf df gs ok H0 n1 n2 hn1 hn2 _ hni hnf hmi hmf (((unhide HX).alloc _).alloc _) (((unhide HF).alloc _).alloc _) (((unhide HY).alloc _).alloc _) (((unhide HG).alloc _).alloc _)).mono ?_
  rintro e w1 ⟨a1, c1, a2, c2, rfl, o1, o2, b1⟩
  have HB1 := hide ((((Below.refl w.heap.size w).alloc (Nat.le_refl _) _).alloc (by simp) _).trans (b1.mono (by simp; omega)))
  have MB := hide ((b1.block _ (by simp)).trans (newB2 w _ _))
  have hz1 : w.heap.size + 1 < w1.heap.size := (Array.getElem?_eq_some_iff.mp (unhide MB)).1
  obtain ⟨q0, q1, -⟩ := blk_cells2 (unhide MB)
  have O1 := hide (o1.rw encI_len)
  have O2 := hide (o2.rw encF_len)
  clear b1 o1 o2 MB
  cases ok
  · obtain rfl : r = false := (unhide HE).symm
    go_wp2
    go_ret
    exact ⟨rfl, (unhide HB1).alloc (unhide HB1).size _⟩
  · go_wp2_with fail
    have HR : Hid ((decide (joinI xs fs ys gs = ys) && decide (joinF fs gs = gs)) = r) := hide (unhide HE)
    refine (isame_any a1 n1 c1 (joinI xs fs ys gs) a2 n2 c2 (joinF fs gs) bi mi di ys bf mf df gs r HR _ (by omega) (by omega) hmi hmf ((unhide O1).alloc _) ((unhide O2).alloc _) (((unhide HY).later (unhide HB1)).alloc _) (((unhide HG).later (unhide HB1)).alloc _)).mono ?_
    rintro e w2 ⟨rfl, b2⟩
    have HB2 := hide (((unhide HB1).alloc (unhide HB1).size _).trans (b2.mono (by have := (unhide HB1).size; simp; omega)))
    clear b2
    go_wp2
    go_ret
    exact ⟨rfl, unhide HB2⟩

set_option maxHeartbeats 8000000 in
set_option maxRecDepth 100000 in
theorem sleq_any (ai : Option Addr) (ni ci : Nat) (xs : List Itm) (af : Option Addr) (nf cf : Nat) (fs : List Flr) (bi : Option Addr) (mi di : Nat) (ys : List Itm) (bf : Option Addr) (mf df : Nat) (gs : List Flr) (r : Bool) (hr : Hid (leqS xs fs ys gs = r)) (w : World)
    (hni : ni ≤ 140737488351232) (hnf : nf ≤ 140737488351232) (hmi : mi ≤ 140737488351232) (hmf : mf ≤ 140737488351232) (hx : Rw encI 6 w (.slice ai ni ci) xs) (hf : Rw encF 2 w (.slice af nf cf) fs) (hy : Rw encI 6 w (.slice bi mi di) ys) (hg : Rw encF 2 w (.slice bf mf df) gs) :
    Calls Try.prog 13 #[.agg #[.slice ai ni ci, .slice af nf cf], .agg #[.slice bi mi di, .slice bf mf df]] w fun e w' => e = .returned (.bool r) ∧ Below w.heap.size w w' := by
  obtain ⟨okA, hA⟩ : ∃ okA, okS xs fs = okA := ⟨_, rfl⟩
  obtain ⟨okB, hB⟩ : ∃ okB, okS ys gs = okB := ⟨_, rfl⟩
  have hE := unhide hr
  rw [leqS, hA, hB] at hE
  have HA := hide hA
  have HB := hide hB
  have HE := hide hE
  go_enter Try.func13, Try.ntmps13
  go_upto_region 1 with fail
  obtain ⟨V, hV⟩ : ∃ V, V = (w.alloc (.cells #[.slice ai ni ci, .slice af nf cf] 31)).alloc (.cells #[.slice bi mi di, .slice bf mf df] 31) := ⟨_, rfl⟩
  rw [← hV]
  have ka : V.heap[w.heap.size]? = some (.cells #[.slice ai ni ci, .slice af nf cf] 31 (0, 0)) := by rw [hV]; exact lowB2 w _ _
  have kb : V.heap[w.heap.size + 1]? = some (.cells #[.slice bi mi di, .slice bf mf df] 31 (0, 0)) := by rw [hV]; exact newB2 w _ _
  have BV : Below w.heap.size w V := by rw [hV]; exact ((Below.refl w.heap.size w).alloc (Nat.le_refl _) _).alloc (by simp) _
  have HBV := hide BV
  have HX := hide (hx.later BV)
  have HF := hide (hf.later BV)
  have HY := hide (hy.later BV)
  have HG := hide (hg.later BV)
  have hzb : w.heap.size + 1 < V.heap.size := (Array.getElem?_eq_some_iff.mp kb).1
  have hza : w.heap.size < V.heap.size := by omega
  obtain ⟨pa0, pa1, -⟩ := blk_cells2 ka
  obtain ⟨pb0, pb1, -⟩ := blk_cells2 kb
  clear hx hf hy hg hA hB hE hr BV hV ka kb
  cases okA
  · obtain rfl : r = false := (unhide HE).symm
    have la0 := later_some (w := V) hza pa0
    have la1 := later_some (w := V) hza pa1
    have lb0 := later_some (w := V) hzb pb0
    have lb1 := later_some (w := V) hzb pb1
    clear pa0 pa1 pb0 pb1
    refine wp_region_later (by kernel_rfl) (by kernel_rfl) ?_
    repeat (go_big_quiet_step (first
      | (go_at_call_of 25 (Value.slice ai ni ci); exact Calls.later_of (sstateok_any ai ni ci xs af nf cf fs _ HA _ hni hnf ((unhide HX).in_later _ _) ((unhide HF).in_later _ _)))))
    refine wpQuiet_nil ?_
    intro w1 hb1
    have HB1 := hide ((unhide HBV).trans (hb1.mono (unhide HBV).size))
    clear hb1 la0 la1 lb0 lb1
    go_wp2
    go_ret
    exact ⟨rfl, unhide HB1⟩
  · cases okB
    · obtain rfl : r = false := (unhide HE).symm
      have la0 := later_some (w := V) hza pa0
      have la1 := later_some (w := V) hza pa1
      have lb0 := later_some (w := V) hzb pb0
      have lb1 := later_some (w := V) hzb pb1
      clear pa0 pa1 pb0 pb1
      refine wp_region_later (by kernel_rfl) (by kernel_rfl) ?_
      repeat (go_big_quiet_step (first
        | (go_at_call_of 25 (Value.slice ai ni ci); exact Calls.later_of (sstateok_any ai ni ci xs af nf cf fs _ HA _ hni hnf ((unhide HX).in_later _ _) ((unhide HF).in_later _ _)))
        | (go_at_call_of 25 (Value.slice bi mi di); exact Calls.later_of (sstateok_any bi mi di ys bf mf df gs _ HB _ hmi hmf ((unhide HY).in_later _ _) ((unhide HG).in_later _ _)))))
      refine wpQuiet_nil ?_
      intro w1 hb1
      have HB1 := hide ((unhide HBV).trans (hb1.mono (unhide HBV).size))
      clear hb1 la0 la1 lb0 lb1
      go_wp2
      go_ret
      exact ⟨rfl, unhide HB1⟩
    · have HR : Hid ((decide (joinI xs fs ys gs = ys) && decide (joinF fs gs = gs)) = r) := hide (unhide HE)
      have PA0 := hide pa0; have PA1 := hide pa1; have PB0 := hide pb0; have PB1 := hide pb1
      clear HE pa0 pa1 pb0 pb1
      go_region_held3 (fun W => Below V.heap.size V W ∧ W.cell? ⟨w.heap.size, 0, none⟩ = some (.slice ai ni ci) ∧ W.cell? ⟨w.heap.size, 1, none⟩ = some (.slice af nf cf) ∧ W.cell? ⟨w.heap.size + 1, 0, none⟩ = some (.slice bi mi di) ∧ W.cell? ⟨w.heap.size + 1, 1, none⟩ = some (.slice bf mf df))
        (first | (with_reducible exact keep4 hza hza hzb hzb (unhide PA0) (unhide PA1) (unhide PB0) (unhide PB1) (Below.refl _ _)) | (with_reducible exact keep4 hza hza hzb hzb (unhide PA0) (unhide PA1) (unhide PB0) (unhide PB1) ((Below.refl _ _).drew)) | (with_reducible exact keep4 hza hza hzb hzb (unhide PA0) (unhide PA1) (unhide PB0) (unhide PB1) (by assumption)))
        (first
          | (go_at_call_of 25 (Value.agg #[Value.slice ai ni ci, Value.slice af nf cf]); refine (sstateok_any ai ni ci xs af nf cf fs _ HA _ hni hnf ?_ ?_).mono ?_; exact (unhide HX).later (kb1 (by assumption)); exact (unhide HF).later (kb1 (by assumption)); rintro e w3 ⟨rfl, b6⟩; have bw3 := kb2 (by assumption) b6; clear b6)
          | (go_at_call_of 25 (Value.agg #[Value.slice bi mi di, Value.slice bf mf df]); refine (sstateok_any bi mi di ys bf mf df gs _ HB _ hmi hmf ?_ ?_).mono ?_; exact (unhide HY).later (kb1 (by assumption)); exact (unhide HG).later (kb1 (by assumption)); rintro e w4 ⟨rfl, b6⟩; have bw4 := kb2 (by assumption) b6; clear b6)
          | (go_at_call 36; refine (l3join_any ai ni ci xs af nf cf fs bi mi di ys bf mf df gs _ hni hnf hmi hmf ?_ ?_ ?_ ?_).mono ?_; exact (unhide HX).later (kb1 (by assumption)); exact (unhide HF).later (kb1 (by assumption)); exact (unhide HY).later (kb1 (by assumption)); exact (unhide HG).later (kb1 (by assumption)); rintro e w5 ⟨a1, n1, c1, a2, n2, c2, rfl, o1, o2, b6⟩; have L1 := Nat.le_trans (Nat.le_of_eq (o1.rw encI_len).len.1) (jI_len xs fs ys gs 5); have L2 := Nat.le_trans (Nat.le_of_eq (o2.rw encF_len).len.1) (jF_len fs gs 5); have R1 := hide (o1.rw encI_len); have R2 := hide (o2.rw encF_len); have bw5 := kb2 (by assumption) b6; clear o1 o2 b6)
          | (go_at_call 35; refine (ssame_any a1 n1 c1 (joinI xs fs ys gs) a2 n2 c2 (joinF fs gs) bi mi di ys bf mf df gs r HR _ (by omega) (by omega) hmi hmf (unhide R1) (unhide R2) ?_ ?_).mono ?_; exact (unhide HY).later (kb1 (by assumption)); exact (unhide HG).later (kb1 (by assumption)); rintro e w6 ⟨rfl, b6⟩; have bw6 := kb2 (by assumption) b6; clear b6))
      all_goals go_wp2
      all_goals go_ret
      all_goals exact ⟨rfl, (unhide HBV).trans (bw6.mono (unhide HBV).size)⟩
set_option maxHeartbeats 4000000 in
set_option maxRecDepth 100000 in
theorem igone_any (ai : Option Addr) (ni ci : Nat) (xs : List Itm) (af : Option Addr) (nf cf : Nat) (fs : List Flr) (id r : Int) (hr : Hid (gone xs fs id = r)) (w : World)
    (hni : ni ≤ 140737488351232) (hnf : nf ≤ 140737488351232) (hx : Rw encI 6 w (.slice ai ni ci) xs) (hf : Rw encF 2 w (.slice af nf cf) fs) :
    Calls Try.prog 11 #[.agg #[.slice ai ni ci, .slice af nf cf], .int .i64 id] w fun e w' => e = .returned (.int .i64 r) ∧ Below w.heap.size w w' := by
  have HX := hide hx
  have HF := hide hf
  obtain ⟨okA, hA⟩ : ∃ okA, okS xs fs = okA := ⟨_, rfl⟩
  have hE := unhide hr
  rw [gone, hA] at hE
  have HA := hide hA
  have HE := hide hE
  clear hx hf hA hE hr
  go_enter Try.func11, Try.ntmps11
  go_wp2_with fail
  refine (istateok_any ai ni ci xs af nf cf fs _ HA _ hni hnf ((unhide HX).alloc _) ((unhide HF).alloc _)).mono ?_
  rintro e w1 ⟨rfl, b1⟩
  have HB1 := hide (((Below.refl w.heap.size w).alloc (Nat.le_refl _) _).trans (b1.mono (by simp)))
  have MA := hide ((b1.block _ (by simp)).trans (newB1 w _))
  have hz1 : w.heap.size < w1.heap.size := (Array.getElem?_eq_some_iff.mp (unhide MA)).1
  obtain ⟨q0, q1, -⟩ := blk_cells2 (unhide MA)
  clear b1
  cases okA
  · obtain rfl : (0 : Int) = r := by simpa using unhide HE
    go_wp2
    go_ret
    exact ⟨rfl, unhide HB1⟩
  · have OA := hide ((okS_iff _ _).1 (unhide HA))
    have SM : Sml xs := fun k x hk => by
      have := okE_size ((unhide OA).ix x (List.mem_of_getElem? hk)).2.2.1
      omega
    obtain ⟨x, a, hxa⟩ : ∃ x a, entR xs id = (x, a) := ⟨_, _, rfl⟩
    have HXA := hide hxa
    have HV : Hid ((match (if a then some x else none : Option Key) with
      | none => flo fs id
      | some e => if e.2.1 = 0 then e.1 - 1 else e.1) = r) := hide (by rw [← entR_ent hxa]; exact unhide HE)
    clear hxa HE
    go_wp2_with fail
    refine (ientry_any _ ai ni ci xs SM id x a HXA _ hni ((unhide HX).later (unhide HB1))).mono ?_
    rintro e w2 ⟨rfl, b2⟩
    have HB2 := hide ((unhide HB1).trans (b2.mono (unhide HB1).size))
    have MA2 := hide ((b2.block _ hz1).trans (unhide MA))
    have hz2 : w.heap.size < w2.heap.size := Nat.lt_of_lt_of_le hz1 b2.size
    have s2 := (unhide HB2).size
    clear q0 q1 b2 MA
    obtain ⟨q0, q1, -⟩ := blk_cells2 (unhide MA2)
    cases a
    · have HV' := hide (show flo fs id = r from unhide HV)
      go_wp2_with fail
      refine (ifloor_v _ af nf cf fs id r HV' _ hnf (((unhide HF).later (unhide HB2)).alloc _)).mono ?_
      rintro e w3 ⟨rfl, b3⟩
      have HB3 := hide (((unhide HB2).alloc s2 _).trans (b3.mono (by simp; omega)))
      clear b3
      go_wp2
      go_ret
      exact ⟨rfl, unhide HB3⟩
    · replace HV := hide (show (if x.2.1 = 0 then x.1 - 1 else x.1) = r from unhide HV)
      have he := (unhide OA).ent_in (entR_ent (unhide HXA))
      have hi := okE_inc he.2.2.1
      have hk := okE_rank he.2.2.1
      clear he
      obtain ⟨i1, i2⟩ := hi
      rcases Bool.eq_false_or_eq_true (x.2.1 == 1) with hu | hu
      · have hu' : x.2.1 = 1 := by simpa using hu
        obtain rfl : x.1 = r := by rw [← unhide HV, if_neg (by omega)]
        clear hk hu' HV
        go_wp2
        go_ret
        exact ⟨ret_int (by go_num), (unhide HB2).alloc s2 _⟩
      · have hu' : x.2.1 ≠ 1 := by simpa using hu
        obtain rfl : x.1 - 1 = r := by rw [← unhide HV, if_pos (by omega)]
        clear hk hu' HV
        go_wp2
        go_ret
        exact ⟨ret_int (by go_num), (unhide HB2).alloc s2 _⟩
set_option maxHeartbeats 4000000 in
set_option maxRecDepth 100000 in
theorem sgone_any (ai : Option Addr) (ni ci : Nat) (xs : List Itm) (af : Option Addr) (nf cf : Nat) (fs : List Flr) (id r : Int) (hr : Hid (gone xs fs id = r)) (w : World)
    (hni : ni ≤ 140737488351232) (hnf : nf ≤ 140737488351232) (hx : Rw encI 6 w (.slice ai ni ci) xs) (hf : Rw encF 2 w (.slice af nf cf) fs) :
    Calls Try.prog 9 #[.agg #[.slice ai ni ci, .slice af nf cf], .int .i64 id] w fun e w' => e = .returned (.int .i64 r) ∧ Below w.heap.size w w' := by
  have HX := hide hx
  have HF := hide hf
  obtain ⟨okA, hA⟩ : ∃ okA, okS xs fs = okA := ⟨_, rfl⟩
  have hE := unhide hr
  rw [gone, hA] at hE
  have HA := hide hA
  have HE := hide hE
  clear hx hf hA hE hr
  go_enter Try.func9, Try.ntmps9
  go_wp2_with fail
  refine (sstateok_any ai ni ci xs af nf cf fs _ HA _ hni hnf ((unhide HX).alloc _) ((unhide HF).alloc _)).mono ?_
  rintro e w1 ⟨rfl, b1⟩
  have HB1 := hide (((Below.refl w.heap.size w).alloc (Nat.le_refl _) _).trans (b1.mono (by simp)))
  have MA := hide ((b1.block _ (by simp)).trans (newB1 w _))
  have hz1 : w.heap.size < w1.heap.size := (Array.getElem?_eq_some_iff.mp (unhide MA)).1
  obtain ⟨q0, q1, -⟩ := blk_cells2 (unhide MA)
  clear b1
  cases okA
  · obtain rfl : (0 : Int) = r := by simpa using unhide HE
    go_wp2
    go_ret
    exact ⟨rfl, unhide HB1⟩
  · have OA := hide ((okS_iff _ _).1 (unhide HA))
    have SM : Sml xs := fun k x hk => by
      have := okE_size ((unhide OA).ix x (List.mem_of_getElem? hk)).2.2.1
      omega
    obtain ⟨x, a, hxa⟩ : ∃ x a, entR xs id = (x, a) := ⟨_, _, rfl⟩
    have HXA := hide hxa
    have HV : Hid ((match (if a then some x else none : Option Key) with
      | none => flo fs id
      | some e => if e.2.1 = 0 then e.1 - 1 else e.1) = r) := hide (by rw [← entR_ent hxa]; exact unhide HE)
    clear hxa HE
    go_wp2_with fail
    refine (sentry_any _ ai ni ci xs id x a HXA _ hni ((unhide HX).later (unhide HB1))).mono ?_
    rintro e w2 ⟨rfl, b2⟩
    have HB2 := hide ((unhide HB1).trans (b2.mono (unhide HB1).size))
    have MA2 := hide ((b2.block _ hz1).trans (unhide MA))
    have hz2 : w.heap.size < w2.heap.size := Nat.lt_of_lt_of_le hz1 b2.size
    have s2 := (unhide HB2).size
    clear q0 q1 b2 MA
    obtain ⟨q0, q1, -⟩ := blk_cells2 (unhide MA2)
    cases a
    · have HV' := hide (show flo fs id = r from unhide HV)
      go_wp2_with fail
      refine (sfloor_v _ af nf cf fs id r HV' _ hnf (((unhide HF).later (unhide HB2)).alloc _)).mono ?_
      rintro e w3 ⟨rfl, b3⟩
      have HB3 := hide (((unhide HB2).alloc s2 _).trans (b3.mono (by simp; omega)))
      clear b3
      go_wp2
      go_ret
      exact ⟨rfl, unhide HB3⟩
    · replace HV := hide (show (if x.2.1 = 0 then x.1 - 1 else x.1) = r from unhide HV)
      have he := (unhide OA).ent_in (entR_ent (unhide HXA))
      have hi := okE_inc he.2.2.1
      have hk := okE_rank he.2.2.1
      clear he
      obtain ⟨i1, i2⟩ := hi
      rcases Bool.eq_false_or_eq_true (x.2.1 == 0) with hu | hu
      · have hu' : x.2.1 = 0 := by simpa using hu
        obtain rfl : x.1 - 1 = r := by rw [← unhide HV, if_pos (by omega)]
        clear hk hu' HV
        go_wp2
        go_ret
        exact ⟨ret_int (by go_num), (unhide HB2).alloc s2 _⟩
      · have hu' : x.2.1 ≠ 0 := by simpa using hu
        obtain rfl : x.1 = r := by rw [← unhide HV, if_neg (by omega)]
        clear hk hu' HV
        go_wp2
        go_ret
        exact ⟨ret_int (by go_num), (unhide HB2).alloc s2 _⟩
end Go.Proofs.Ytdpaocikmijioad
