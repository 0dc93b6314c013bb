/-
  What a state lacks of another one: the specification's. No statement is proved here.
-/
import Derived.Test.YtdpaocikmijioadVwK
import Derived.Test.YtdpaocikmijioadSJoin2
import Derived.Test.YtdpaocikmijioadApp2
namespace Go.Proofs.Ytdpaocikmijioad
open Go.RowKit

theorem newr_ok {xs : List Itm} {id : Int} {x : Key} {a : Bool} (h : entR xs id = (x, a)) (e : Key) : newr e (ent xs id) = (!a || decide (0 < keyC e x)) := by
  rw [entR_ent h]
  cases a <;> rfl
theorem keep6 {w5 W : World} {b0 o0 b1 o1 b2 o2 b3 o3 b4 o4 b5 o5 : Nat} {v0 v1 v2 v3 v4 v5 : Value} (h0 : b0 < w5.heap.size) (h2 : b2 < w5.heap.size) (h4 : b4 < w5.heap.size) (e1 : b1 = b0) (e3 : b3 = b2) (e5 : b5 = b4)
    (c0 : w5.cell? ⟨b0, o0, none⟩ = some v0) (c1 : w5.cell? ⟨b1, o1, none⟩ = some v1) (c2 : w5.cell? ⟨b2, o2, none⟩ = some v2) (c3 : w5.cell? ⟨b3, o3, none⟩ = some v3) (c4 : w5.cell? ⟨b4, o4, none⟩ = some v4) (c5 : w5.cell? ⟨b5, o5, none⟩ = some v5) (hb : Below w5.heap.size w5 W) :
    Below w5.heap.size w5 W ∧ W.cell? ⟨b0, o0, none⟩ = some v0 ∧ W.cell? ⟨b1, o1, none⟩ = some v1 ∧ W.cell? ⟨b2, o2, none⟩ = some v2 ∧ W.cell? ⟨b3, o3, none⟩ = some v3 ∧ W.cell? ⟨b4, o4, none⟩ = some v4 ∧ W.cell? ⟨b5, o5, none⟩ = some v5 := by
  subst e1 e3 e5
  exact ⟨hb, (hb.cell (p := ⟨_, o0, none⟩) h0).trans c0, (hb.cell (p := ⟨_, o1, none⟩) h0).trans c1, (hb.cell (p := ⟨_, o2, none⟩) h2).trans c2, (hb.cell (p := ⟨_, o3, none⟩) h2).trans c3, (hb.cell (p := ⟨_, o4, none⟩) h4).trans c4, (hb.cell (p := ⟨_, o5, none⟩) h4).trans c5⟩
theorem lcI_len (ok : Bool) (xs : List Itm) (fs : List Flr) (ys : List Itm) : (lcI ok xs fs ys).length ≤ ys.length := by
  cases ok
  · simp [lcI]
  · exact lkI_len _ _ _
theorem lcF_len (ok : Bool) (fs gs : List Flr) : (lcF ok fs gs).length ≤ gs.length := by
  cases ok
  · simp [lcF]
  · exact lkF_len _ _
theorem J3.drew {w X : World} {A B : Obj} {a1 : Option Addr} {n1 c1 : Nat} {a2 : Option Addr} {n2 c2 : Nat} {its : List Itm} {fls : List Flr} (h : J3 w X A B a1 n1 c1 a2 n2 c2 its fls) : J3 w X.drew A B a1 n1 c1 a2 n2 c2 its fls := h.later ((Below.refl _ _).drew)
theorem J3.new (w : World) (v1 v2 u1 u2 : Value) : J3 w ((((w.alloc (StB v1 v2)).alloc (StB u1 u2)).alloc (StB (.slice none 0 0) (.slice none 0 0))).alloc (StB (.slice none 0 0) (.slice none 0 0))) (StB v1 v2) (StB u1 u2) none 0 0 none 0 0 [] [] := by
  obtain ⟨m1, m2, m3⟩ := new4 w (StB v1 v2) (StB u1 u2) (StB (.slice none 0 0) (.slice none 0 0)) (StB (.slice none 0 0) (.slice none 0 0))
  exact ⟨(((((Below.refl w.heap.size w).alloc (Nat.le_refl _) _).alloc (by simp) _).alloc (by simp; omega) _).alloc (by simp; omega) _), (Below.heap_alloc _ _ _ (by simp; omega)).trans (lowB3 w _ _ _), m1, m2, m3, World.ownsRow_nil _ _ _ _, World.ownsRow_nil _ _ _ _⟩

set_option maxHeartbeats 16000000 in
set_option maxRecDepth 100000 in
theorem slacks_any (ai : Option Addr) (ni ci : Nat) (xs : List Itm) (af : Option Addr) (nf cf : Nat) (fs : List Flr) (bi : Option Addr) (mi di : Nat) (ys : List Itm) (bf : Option Addr) (mf df : Nat) (gs : List Flr) (ok : Bool) (h0 : Hid ((okS xs fs && okS ys gs) = ok)) (n1 n2 : Nat) (hn1 : Hid ((lcI ok xs fs ys).length = n1)) (hn2 : Hid ((lcF ok fs gs).length = n2)) (w : World)
    (hni : ni ≤ 140737488351232) (hnf : nf ≤ 140737488351232) (hmi : mi ≤ 140737488351232) (hmf : mf ≤ 140737488351232) (hx : Rw encI 6 w (.slice ai ni ci) xs) (hf : Rw encF 2 w (.slice af nf cf) fs) (hy : Rw encI 6 w (.slice bi mi di) ys) (hg : Rw encF 2 w (.slice bf mf df) gs) :
    Calls Try.prog 15 #[.agg #[.slice ai ni ci, .slice af nf cf], .agg #[.slice bi mi di, .slice bf mf df]] w fun e w' => ∃ a1 c1 a2 c2, e = .returned (.agg #[.slice a1 n1 c1, .slice a2 n2 c2]) ∧ OwI w.heap.size w' (.slice a1 n1 c1) (lcI ok xs fs ys) ∧ OwF w.heap.size w' (.slice a2 n2 c2) (lcF ok fs gs) ∧ Below w.heap.size w w' := by
  obtain ⟨i0, hi, hz0, hz1, hz2⟩ := info_parts Try.infoItem
  obtain ⟨i1, gi, gz0, gz1, gz2⟩ := info_parts Try.infoFloor
  have HX := hide hx
  have HY := hide hy
  have HF := hide hf
  have HG := hide hg
  obtain ⟨okA, hA⟩ : ∃ okA, okS xs fs = okA := ⟨_, rfl⟩
  obtain ⟨okB, hB⟩ : ∃ okB, okS ys gs = okB := ⟨_, rfl⟩
  have hk := unhide h0
  rw [hA, hB] at hk
  have HA := hide hA
  have HB := hide hB
  clear hx hy hf hg hA hB h0
  go_enter Try.func15, Try.ntmps15
  go_wp2_with fail
  refine (sstateok_any ai ni ci xs af nf cf fs _ HA _ hni hnf ((unhide HX).later (J3.new w _ _ _ _).bel) ((unhide HF).later (J3.new w _ _ _ _).bel)).mono ?_
  rintro e w1 ⟨rfl, b1⟩
  have CV := hide ((J3.new w (.slice ai ni ci) (.slice af nf cf) (.slice bi mi di) (.slice bf mf df)).later b1)
  have z1 := (unhide CV).sz
  clear b1
  cases okA
  · obtain rfl : ok = false := hk.symm
    clear hk
    obtain rfl := unhide hn1
    obtain rfl := unhide hn2
    obtain ⟨p0, p1, pf⟩ := blk_cells2 (unhide CV).kr
    obtain ⟨o0, o1, -⟩ := blk_cells2 (unhide CV).ko
    go_wp2
    exact bodyPost_ret (v := .agg #[.slice none 0 0, .slice none 0 0]) (by simp [results, Try.results15, go_sem, p0, p1]) rfl ⟨none, 0, none, 0, rfl, World.ownsRow_nil _ _ _ _, World.ownsRow_nil _ _ _ _, ((unhide CV).bel.setCell (p := ⟨w.heap.size + 1 + 1, 0, none⟩) (by simp <;> omega) _).setCell (p := ⟨w.heap.size + 1 + 1, 1, none⟩) (by simp <;> omega) _⟩
  obtain ⟨r0, r1, -⟩ := blk_cells2 (unhide CV).kb
  have zb : w.heap.size + 1 < w1.heap.size := by omega
  go_wp2_with fail
  refine (sstateok_any bi mi di ys bf mf df gs _ HB _ hmi hmf ((unhide HY).later (unhide CV).bel) ((unhide HG).later (unhide CV).bel)).mono ?_
  rintro e w2 ⟨rfl, b2⟩
  have CW := hide ((unhide CV).later b2)
  clear b2 CV r0 r1 z1 zb
  have z2 := (unhide CW).sz
  cases okB
  · obtain rfl : ok = false := hk.symm
    clear hk
    obtain rfl := unhide hn1
    obtain rfl := unhide hn2
    obtain ⟨p0, p1, pf⟩ := blk_cells2 (unhide CW).kr
    obtain ⟨o0, o1, -⟩ := blk_cells2 (unhide CW).ko
    go_wp2
    exact bodyPost_ret (v := .agg #[.slice none 0 0, .slice none 0 0]) (by simp [results, Try.results15, go_sem, p0, p1]) rfl ⟨none, 0, none, 0, rfl, World.ownsRow_nil _ _ _ _, World.ownsRow_nil _ _ _ _, ((unhide CW).bel.setCell (p := ⟨w.heap.size + 1 + 1, 0, none⟩) (by simp <;> omega) _).setCell (p := ⟨w.heap.size + 1 + 1, 1, none⟩) (by simp <;> omega) _⟩
  obtain rfl : ok = true := hk.symm
  have OB := (okS_iff _ _).1 (unhide HB)
  have m5 : mi ≤ 5 := by have := (unhide HY).len.1; have := OB.len5.1; omega
  have f5 : mf ≤ 5 := by have := (unhide HG).len.1; have := OB.len5.2; omega
  clear hk OB HA HB
  go_wp2
  go_loopw [6] (fun i wr => ∃ (k : Nat) (a1 : Option Addr) (n1 c1 : Nat), k ≤ mi ∧ i = .int .i64 k ∧ J3 w wr (StB (.slice ai ni ci) (.slice af nf cf)) (StB (.slice bi mi di) (.slice bf mf df)) a1 n1 c1 none 0 0 (lkI xs fs (ys.take k)) []) (fun i _ => mi - (intOf i).toNat)
  case atStart => exact ⟨0, none, 0, 0, by omega, rfl, unhide CW⟩
  case round =>
    obtain ⟨k, a1, m1, c1, hk, rfl, hJ⟩ := hrel
    have HJ := hide hJ
    have hsz := hJ.sz
    obtain ⟨pb0, pb1, -⟩ := blk_cells2 hJ.kb
    obtain ⟨pa0, pa1, -⟩ := blk_cells2 hJ.ka
    have zb : w.heap.size + 1 < wr.heap.size := by omega
    have za : w.heap.size < wr.heap.size := by omega
    clear hJ CW z2
    by_cases hlt : k < mi
    · obtain ⟨x, b, off, hx, rfl, hb, hcap, hc⟩ := ((unhide HY).later (unhide HJ).bel).at hlt
      obtain ⟨c0, c1', c2', c3, c4, c5⟩ := item_cells hc
      obtain ⟨fa, hfa⟩ : ∃ fa, flo fs x.1 = fa := ⟨_, rfl⟩
      obtain ⟨rA, okE, hrA⟩ : ∃ rA okE, entR xs x.1 = (rA, okE) := ⟨_, _, rfl⟩
      obtain ⟨c, hcb⟩ : ∃ c, cmpE x.2.1 x.2.2.1 x.2.2.2.1 x.2.2.2.2.1 x.2.2.2.2.2 rA.1 rA.2.1 rA.2.2.1 rA.2.2.2.1 rA.2.2.2.2 = c := ⟨_, rfl⟩
      have HLK : Hid (lkI1 xs fs x = ((!okE || decide (0 < c)) && decide (fa < x.2.1))) := hide (by rw [lkI1, newr_ok hrA, ← cmpK_key, hcb, hfa])
      have HX1 := hide hx
      have HFA := hide hfa
      have HRA := hide hrA
      have HCB := hide hcb
      clear hx hfa hrA hcb hc
      go_wp2_with fail
      have bX : Below wr.heap.size wr (wr.alloc (.cells #[.int .i64 x.1, .int .i64 x.2.1, .int .i64 x.2.2.1, .int .i64 x.2.2.2.1, .int .i64 x.2.2.2.2.1, .string x.2.2.2.2.2] 53)) := (Below.refl _ _).alloc (Nat.le_refl _) _
      refine (sentry_any _ ai ni ci xs x.1 rA okE HRA _ hni ((unhide HX).later ((unhide HJ).bel.trans (bX.mono (by omega))))).mono ?_
      rintro e w3 ⟨rfl, b3⟩
      have b3' := bX.trans (b3.mono (by simp))
      have kx := (b3.block wr.heap.size (by simp)).trans (newB1 wr _)
      have J3' := hide ((unhide HJ).later b3')
      have hzx3 : wr.heap.size < w3.heap.size := (Array.getElem?_eq_some_iff.mp kx).1
      have KX3 := hide kx
      clear c0 c1' c2' c3 c4 c5 pa0 pa1 pb0 pb1 bX b3 b3' kx HJ
      go_upto_region 9 with fail
      obtain ⟨V, hV⟩ : ∃ V, V = w3.alloc (.cells #[.int .i64 rA.1, .int .i64 rA.2.1, .int .i64 rA.2.2.1, .int .i64 rA.2.2.2.1, .string rA.2.2.2.2] 43) := ⟨_, rfl⟩
      rw [← hV]
      have bV : Below w3.heap.size w3 V := by rw [hV]; exact (Below.refl _ _).alloc (Nat.le_refl _) _
      have ke : V.heap[w3.heap.size]? = some (.cells #[.int .i64 rA.1, .int .i64 rA.2.1, .int .i64 rA.2.2.1, .int .i64 rA.2.2.2.1, .string rA.2.2.2.2] 43 (0, 0)) := by rw [hV]; exact newB1 w3 _
      have hze : w3.heap.size < V.heap.size := (Array.getElem?_eq_some_iff.mp ke).1
      have hzx : wr.heap.size < V.heap.size := by omega
      have hzV : w.heap.size < V.heap.size := by omega
      have KX := hide ((bV.block _ hzx3).trans (unhide KX3))
      have JV := hide ((unhide J3').later bV)
      obtain ⟨pa0, pa1, -⟩ := blk_cells2 (unhide JV).ka
      obtain ⟨pe0, pe1, pe2, pe3, pe4, -⟩ := ent_cells ke
      obtain ⟨px0, px1, px2, px3, px4, px5, -⟩ := blk_cells6 (unhide KX)
      have la0 := later_some (w := V) hzV pa0
      have la1 := later_some (w := V) hzV pa1
      have le0 := later_some (w := V) hze pe0
      have le1 := later_some (w := V) hze pe1
      have le2 := later_some (w := V) hze pe2
      have le3 := later_some (w := V) hze pe3
      have le4 := later_some (w := V) hze pe4
      have lx0 := later_some (w := V) hzx px0
      have lx1 := later_some (w := V) hzx px1
      have lx2 := later_some (w := V) hzx px2
      have lx3 := later_some (w := V) hzx px3
      have lx4 := later_some (w := V) hzx px4
      have lx5 := later_some (w := V) hzx px5
      have RF := hide ((unhide HF).later (unhide JV).bel)
      clear pa0 pa1 pe0 pe1 pe2 pe3 pe4 px0 px1 px2 px3 px4 px5 ke bV hV KX3 J3'
      cases okE
      · replace HLK := hide (show lkI1 xs fs x = decide (fa < x.2.1) from unhide HLK)
        refine wp_region_later (by kernel_rfl) (by kernel_rfl) ?_
        repeat (go_big_quiet_step (first
          | (go_at_call 27; exact Calls.later_of (sfloor_v _ af nf cf fs _ fa HFA _ hnf ((unhide RF).in_later _ _)))))
        refine wpQuiet_nil ?_
        intro w4 hb4
        have J4 := hide ((unhide JV).later hb4)
        obtain ⟨px0, px1, px2, px3, px4, px5, -⟩ := blk_cells6 ((hb4.block _ hzx).trans (unhide KX))
        have hzx4 : wr.heap.size < w4.heap.size := Nat.lt_of_lt_of_le hzx hb4.size
        clear hb4 la0 la1 le0 le1 le2 le3 le4 lx0 lx1 lx2 lx3 lx4 lx5 RF JV KX HCB HFA
        have hsz4 := (unhide J4).sz
        generalize hpos : decide (fa < x.2.1) = q at HLK ⊢
        cases q
        · have HP := hide (lkI_neg (unhide HX1) (unhide HLK))
          clear px0 px1 px2 px3 px4 px5 hpos
          go_wp2
          go_roundw
          case rel => exact ⟨k + 1, a1, m1, c1, by omega, by go_num, by rw [unhide HP]; exact unhide J4⟩
          case measure => simp [intOf]; omega
        · have HP := hide (lkI_pos (unhide HX1) (unhide HLK))
          have hm1 : Hid (m1 = (lkI xs fs (ys.take k)).length) := hide ((unhide J4).oi.rw encI_len).len.1
          have hm1l : m1 ≤ k := by have := unhide hm1; have := lkI_k (xs := xs) (fs := fs) (ys := ys) (k := k); omega
          obtain ⟨po0, po1, pof⟩ := blk_cells2 (unhide J4).ko
          clear hpos
          go_wp2_with (first | (at_builtin; refine wpList_app1 encI_len (by omega) oneI 53 28 i0 _ 56 Try.underlying28 hi hz0 hz1 hz2 rfl (by omega) w4 x rfl _ _ rfl (w.heap.size + 4) _ (lkI xs fs (ys.take k)) m1 hm1 rfl (unhide J4).oi rfl (by omega) hsz4 ?_; intro a1' c1' w6 hO hG; have po0' := (hG.block _ (by omega) (fun q => by have := World.ownsRow.lt (unhide J4).oi _ q.symm; omega)).trans (unhide J4).ko; obtain ⟨pq0, pq1, pqf⟩ := blk_cells2 po0'; have HJ6 := hide ((unhide J4).appI hO hG); clear hO hG po0' po0 po1 pof))
          go_roundw
          case rel => exact ⟨k + 1, a1', m1 + 1, c1', by omega, by go_num, by rw [unhide HP]; exact unhide HJ6⟩
          case measure => simp [intOf]; omega
      · rcases Bool.eq_false_or_eq_true (decide (0 < c)) with hd | hd
        · replace HLK := hide (show lkI1 xs fs x = decide (fa < x.2.1) from by rw [unhide HLK, hd]; rfl)
          refine wp_region_later (by kernel_rfl) (by kernel_rfl) ?_
          repeat (go_big_quiet_step (first
            | (go_at_call 39; exact Calls.later_of (scmpK_any _ _ c HCB _))
            | (go_at_call 27; exact Calls.later_of (sfloor_v _ af nf cf fs _ fa HFA _ hnf ((unhide RF).in_later _ _)))))
          refine wpQuiet_nil ?_
          intro w4 hb4
          have J4 := hide ((unhide JV).later hb4)
          obtain ⟨px0, px1, px2, px3, px4, px5, -⟩ := blk_cells6 ((hb4.block _ hzx).trans (unhide KX))
          have hzx4 : wr.heap.size < w4.heap.size := Nat.lt_of_lt_of_le hzx hb4.size
          clear hb4 la0 la1 le0 le1 le2 le3 le4 lx0 lx1 lx2 lx3 lx4 lx5 RF JV KX HCB HFA
          have hsz4 := (unhide J4).sz
          generalize hpos : decide (fa < x.2.1) = q at HLK ⊢
          cases q
          · have HP := hide (lkI_neg (unhide HX1) (unhide HLK))
            clear px0 px1 px2 px3 px4 px5 hpos
            go_wp2
            go_roundw
            case rel => exact ⟨k + 1, a1, m1, c1, by omega, by go_num, by rw [unhide HP]; exact unhide J4⟩
            case measure => simp [intOf]; omega
          · have HP := hide (lkI_pos (unhide HX1) (unhide HLK))
            have hm1 : Hid (m1 = (lkI xs fs (ys.take k)).length) := hide ((unhide J4).oi.rw encI_len).len.1
            have hm1l : m1 ≤ k := by have := unhide hm1; have := lkI_k (xs := xs) (fs := fs) (ys := ys) (k := k); omega
            obtain ⟨po0, po1, pof⟩ := blk_cells2 (unhide J4).ko
            clear hpos
            go_wp2_with (first | (at_builtin; refine wpList_app1 encI_len (by omega) oneI 53 28 i0 _ 56 Try.underlying28 hi hz0 hz1 hz2 rfl (by omega) w4 x rfl _ _ rfl (w.heap.size + 4) _ (lkI xs fs (ys.take k)) m1 hm1 rfl (unhide J4).oi rfl (by omega) hsz4 ?_; intro a1' c1' w6 hO hG; have po0' := (hG.block _ (by omega) (fun q => by have := World.ownsRow.lt (unhide J4).oi _ q.symm; omega)).trans (unhide J4).ko; obtain ⟨pq0, pq1, pqf⟩ := blk_cells2 po0'; have HJ6 := hide ((unhide J4).appI hO hG); clear hO hG po0' po0 po1 pof))
            go_roundw
            case rel => exact ⟨k + 1, a1', m1 + 1, c1', by omega, by go_num, by rw [unhide HP]; exact unhide HJ6⟩
            case measure => simp [intOf]; omega
        · have HP := hide (lkI_neg (unhide HX1) (by rw [unhide HLK, hd]; rfl))
          refine wp_region_later (by kernel_rfl) (by kernel_rfl) ?_
          repeat (go_big_quiet_step (first
            | (go_at_call 39; exact Calls.later_of (scmpK_any _ _ c HCB _))))
          refine wpQuiet_nil ?_
          intro w4 hb4
          have J4 := hide ((unhide JV).later hb4)
          clear hb4 la0 la1 le0 le1 le2 le3 le4 lx0 lx1 lx2 lx3 lx4 lx5 RF JV KX hd
          go_wp2
          go_roundw
          case rel => exact ⟨k + 1, a1, m1, c1, by omega, by go_num, by rw [unhide HP]; exact unhide J4⟩
          case measure => simp [intOf]; omega
    · replace HJ := hide (show J3 w wr (StB (.slice ai ni ci) (.slice af nf cf)) (StB (.slice bi mi di) (.slice bf mf df)) a1 m1 c1 none 0 0 (lkI xs fs ys) [] from by have h := unhide HJ; rwa [List.take_of_length_le (by have := (unhide HY).len.1; omega)] at h)
      obtain rfl : m1 = n1 := (((unhide HJ).oi.rw encI_len).len.1).trans (unhide hn1)
      clear pa0 pa1
      go_wp2
      go_loopw [10] (fun i wr => ∃ (k : Nat) (a2 : Option Addr) (n2 c2 : Nat), k ≤ mf ∧ i = .int .i64 k ∧ J3 w wr (StB (.slice ai ni ci) (.slice af nf cf)) (StB (.slice bi mi di) (.slice bf mf df)) a1 m1 c1 a2 n2 c2 (lkI xs fs ys) (lkF fs (gs.take k))) (fun i _ => mf - (intOf i).toNat)
      case atStart => exact ⟨0, none, 0, 0, by omega, rfl, unhide HJ⟩
      case round =>
        clear HJ pb0 pb1 zb za hsz
        rename_i wo _
        obtain ⟨j, a2, m2, c2, hj, rfl, hJ⟩ := hrel
        have HJ := hide hJ
        have hsz := hJ.sz
        obtain ⟨pb0, pb1, -⟩ := blk_cells2 hJ.kb
        obtain ⟨pa0, pa1, -⟩ := blk_cells2 hJ.ka
        have zb : w.heap.size + 1 < wr.heap.size := by omega
        have za : w.heap.size < wr.heap.size := by omega
        clear hJ
        by_cases hlt : j < mf
        · obtain ⟨x, b, off, hx, rfl, hb, hcap, hc⟩ := ((unhide HG).later (unhide HJ).bel).at hlt
          have c0 : wr.cell? ⟨b, off + j * 2, none⟩ = some (.int .i64 x.1) := hc 0 (by omega)
          have c1' : wr.cell? ⟨b, off + j * 2 + 1, none⟩ = some (.int .i64 x.2) := hc 1 (by omega)
          obtain ⟨fa, hfa⟩ : ∃ fa, flo fs x.1 = fa := ⟨_, rfl⟩
          have HX1 := hide hx
          have HFA := hide hfa
          clear hx hfa hc
          go_upto_region 14 with fail
          have la0 := later_some (w := wr) za pa0
          have la1 := later_some (w := wr) za pa1
          have lb0 := later_some (w := wr) zb pb0
          have lb1 := later_some (w := wr) zb pb1
          have lc0 := later_some (w := wr) hb c0
          have lc1 := later_some (w := wr) hb c1'
          have RF := hide ((unhide HF).later (unhide HJ).bel)
          have C0 := hide c0; have C1 := hide c1'
          clear pa0 pa1 pb0 pb1 c0 c1'
          refine wp_region_later (by kernel_rfl) (by kernel_rfl) ?_
          repeat (go_big_quiet_step (first
            | (go_at_call 27; exact Calls.later_of (sfloor_v _ af nf cf fs _ fa HFA _ hnf ((unhide RF).in_later _ _)))))
          refine wpQuiet_nil ?_
          intro w4 hb4
          have J4 := hide ((unhide HJ).later hb4)
          have hb' : b < w4.heap.size := Nat.lt_of_lt_of_le hb hb4.size
          have d0 : w4.cell? ⟨b, off + j * 2, none⟩ = some (.int .i64 x.1) := (hb4.cell (p := ⟨b, off + j * 2, none⟩) hb).trans (unhide C0)
          have d1 : w4.cell? ⟨b, off + j * 2 + 1, none⟩ = some (.int .i64 x.2) := (hb4.cell (p := ⟨b, off + j * 2 + 1, none⟩) hb).trans (unhide C1)
          clear hb4 la0 la1 lb0 lb1 lc0 lc1 RF C0 C1 HJ hsz zb za
          have hsz := (unhide J4).sz
          generalize hpos : decide (fa < x.2) = q
          cases q
          · have HP := hide (lkF_neg (fs := fs) (unhide HX1) (by rw [lkF1, unhide HFA]; exact hpos))
            clear d0 d1 hpos
            go_wp2
            go_roundw
            case rel => exact ⟨j + 1, a2, m2, c2, by omega, by go_num, by rw [unhide HP]; exact unhide J4⟩
            case measure => simp [intOf]; omega
          · have HP := hide (lkF_pos (fs := fs) (unhide HX1) (by rw [lkF1, unhide HFA]; exact hpos))
            clear hpos HFA
            have JD := hide (unhide J4).drew
            have hm2 : Hid (m2 = (lkF fs (gs.take j)).length) := hide ((unhide J4).of.rw encF_len).len.1
            have hm2l : m2 ≤ j := by have := unhide hm2; have := lkF_k (fs := fs) (gs := gs) (k := j); omega
            obtain ⟨pb0, pb1, -⟩ := blk_cells2 (unhide J4).kb
            obtain ⟨po0, po1, pof⟩ := blk_cells2 (unhide J4).ko
            have zb : w.heap.size + 1 < w4.heap.size := by omega
            have zo : w.heap.size + 1 + 1 + 1 < w4.heap.size := by omega
            go_upto_region 15 with fail
            go_region_law (first
              | (refine step_app1 encF_len (by omega) oneF 56 29 i1 _ 16 Try.underlying29 gi gz0 gz1 gz2 rfl (by omega) w4.drew x rfl _ _ rfl (w.heap.size + 4) _ (lkF fs (gs.take j)) m2 hm2 rfl (unhide JD).of rfl (by omega) (unhide JD).sz ?_; intro a2' c2' w6 hO hG; have po0' := (hG.block _ zo (fun q => by have := World.ownsRow.lt (unhide JD).of _ q.symm; omega)).trans (unhide JD).ko; obtain ⟨pq0, pq1, pqf⟩ := blk_cells2 po0'; have J6 := hide ((unhide JD).appF hO hG); clear hO hG po0'))
            all_goals clear po0 po1 pof d0 d1 pb0 pb1
            all_goals
              go_wp2
              go_roundw
              case rel => exact ⟨j + 1, a2', m2 + 1, c2', by omega, by go_num, by rw [unhide HP]; exact unhide J6⟩
              case measure => simp [intOf]; omega
        · replace HJ := hide (show J3 w wr (StB (.slice ai ni ci) (.slice af nf cf)) (StB (.slice bi mi di) (.slice bf mf df)) a1 m1 c1 a2 m2 c2 (lkI xs fs ys) (lkF fs gs) from by have h := unhide HJ; rwa [List.take_of_length_le (by have := (unhide HG).len.1; omega)] at h)
          obtain rfl : m2 = n2 := (((unhide HJ).of.rw encF_len).len.1).trans (unhide hn2)
          obtain ⟨pr0, pr1, prf⟩ := blk_cells2 (unhide HJ).kr
          obtain ⟨po0, po1, -⟩ := blk_cells2 (unhide HJ).ko
          clear pa0 pa1
          go_wp2
          exact bodyPost_ret (v := .agg #[.slice a1 m1 c1, .slice a2 m2 c2]) (by simp [results, Try.results15, go_sem, pr0, pr1]) rfl ⟨a1, c1, a2, c2, rfl, Ow.base (((unhide HJ).oi.set ⟨w.heap.size + 1 + 1, 0, none⟩ (by simp <;> omega) _).set ⟨w.heap.size + 1 + 1, 1, none⟩ (by simp <;> omega) _) (by omega), Ow.base (((unhide HJ).of.set ⟨w.heap.size + 1 + 1, 0, none⟩ (by simp <;> omega) _).set ⟨w.heap.size + 1 + 1, 1, none⟩ (by simp <;> omega) _) (by omega), ((unhide HJ).bel.setCell (p := ⟨w.heap.size + 1 + 1, 0, none⟩) (by simp <;> omega) _).setCell (p := ⟨w.heap.size + 1 + 1, 1, none⟩) (by simp <;> omega) _⟩
end Go.Proofs.Ytdpaocikmijioad
