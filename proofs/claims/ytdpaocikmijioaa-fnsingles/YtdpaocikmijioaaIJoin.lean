/-
  The program's StateJoin. No statement is proved here.
-/
import Derived.Test.YtdpaocikmijioaaSJoin2
import Derived.Test.YtdpaocikmijioaaIJoinF
import Derived.Test.YtdpaocikmijioaaIJnP
import Derived.Test.YtdpaocikmijioaaIOrd
import Derived.Carry
namespace Go.Proofs.Ytdpaocikmijioaa
open Go.RowKit Go.Maps

theorem asc_len {α : Type} : ∀ (xs : List (Int × α)) (lo : Int), lo ≤ 4 → xs.Pairwise (fun a b => a.1 < b.1) → (∀ x ∈ xs, lo < x.1 ∧ x.1 ≤ 4) → (xs.length : Int) ≤ 4 - lo
  | [], lo, h, _, _ => by simp; omega
  | x :: r, lo, h, hp, hb => by
    obtain ⟨h1, h2⟩ := List.pairwise_cons.1 hp
    have hx := hb x (by simp)
    have := asc_len r x.1 hx.2 h2 (fun y hy => ⟨h1 y hy, (hb y (by simp [hy])).2⟩)
    rw [List.length_cons]; omega
theorem OkS.len {xs : List Itm} {fs : List Flr} (h : OkS xs fs) : xs.length ≤ 5 ∧ fs.length ≤ 5 := by
  have a := asc_len xs (-1) (by omega) h.px (fun x hx => by have := h.ix x hx; omega)
  have b := asc_len fs (-1) (by omega) h.pf (fun x hx => by have := h.jf x hx; omega)
  omega
theorem OkS.fitJ {xs : List Itm} {fs : List Flr} (h : OkS xs fs) (k : Nat) (x : Itm) (hx : xs[k]? = some x) : FitN x.1 ∧ x.2.2.2.2.2.size ≤ 1048576 := by
  have := h.ix x (List.mem_of_getElem? hx)
  have s := okE_size this.2.2.1
  exact ⟨by unfold FitN; omega, by omega⟩
theorem joinF_fit {fs gs : List Flr} (k : Nat) (x : Flr) (hx : (joinF fs gs)[k]? = some x) : FitN x.1 := by
  have := mem_jF.1 (List.mem_of_getElem? hx)
  unfold FitN; omega
theorem grown_own {w w' : World} {b : Nat} (h : w.grownBy w' (some b)) {α : Type} {enc : α → List Value} {k : Nat} {e : TypeId} {base : Nat} {v : Value} {xs : List α} (ho : Ow enc k e base w v xs) (hl : ∀ i, v.ownBlock = some i → i < b) : Ow enc k e base w' v xs :=
  World.ownsRow.kept ho h (.inr (fun q => by have := hl _ q; omega))

set_option maxHeartbeats 8000000 in
set_option maxRecDepth 100000 in
theorem ijoin_any (ai : Option Addr) (ni ci : Nat) (xs : List Itm) (af : Option Addr) (nf cf : Nat) (fs : List Flr) (bi : Option Addr) (mi di : Nat) (ys : List Itm) (bf : Option Addr) (mf df : Nat) (gs : List Flr) (ok : Bool) (h0 : Hid ((okS xs fs && okS ys gs) = ok)) (n1 n2 : Nat) (hn1 : Hid ((jnI ok xs fs ys gs).length = n1)) (hn2 : Hid ((jnF ok fs gs).length = n2)) (w : World)
    (hni : ni ≤ 140737488351232) (hnf : nf ≤ 140737488351232) (hmi : mi ≤ 140737488351232) (hmf : mf ≤ 140737488351232) (hx : Rw encI 6 w (.slice ai ni ci) xs) (hf : Rw encF 2 w (.slice af nf cf) fs) (hy : Rw encI 6 w (.slice bi mi di) ys) (hg : Rw encF 2 w (.slice bf mf df) gs) :
    Calls Try.prog 11 #[.agg #[.slice ai ni ci, .slice af nf cf], .agg #[.slice bi mi di, .slice bf mf df]] w fun e w' => ∃ a1 c1 a2 c2, e = .returned (.tuple #[.agg #[.slice a1 n1 c1, .slice a2 n2 c2], .bool ok]) ∧ OwI w.heap.size w' (.slice a1 n1 c1) (jnI ok xs fs ys gs) ∧ OwF w.heap.size w' (.slice a2 n2 c2) (jnF ok fs gs) ∧ Below w.heap.size w w' := by
  have HX := hide hx
  have HY := hide hy
  have HF := hide hf
  have HG := hide hg
  obtain ⟨okA, hA⟩ : ∃ okA, okS xs fs = okA := ⟨_, rfl⟩
  obtain ⟨okB, hB⟩ : ∃ okB, okS ys gs = okB := ⟨_, rfl⟩
  have hk := unhide h0
  rw [hA, hB] at hk
  have HA := hide hA
  have HB := hide hB
  clear hx hy hf hg hA hB h0
  cases okA
  · obtain rfl : ok = false := hk.symm
    clear hk
    obtain rfl := unhide hn1
    obtain rfl := unhide hn2
    go_enter Try.func11, Try.ntmps11
    go_wp2_with fail
    refine (istateok_any ai ni ci xs af nf cf fs _ HA _ hni hnf ((((unhide HX).alloc _).alloc _).alloc _) ((((unhide HF).alloc _).alloc _).alloc _)).mono ?_
    rintro e w1 ⟨rfl, b1⟩
    obtain ⟨p0, p1, -⟩ := blk_cells2 ((b1.block _ (by simp)).trans (newB3 w _ _ _))
    have HB1 := hide (((((Below.refl w.heap.size w).alloc (Nat.le_refl _) _).alloc (by simp) _).alloc (by simp; omega) _).trans (b1.mono (by simp; omega)))
    have MR := hide ((b1.block _ (by simp)).trans (newB3 w _ _ _))
    obtain ⟨p0, p1, pf⟩ := blk_cells2 (unhide MR)
    clear b1
    go_wp2
    exact bodyPost_ret (v := .tuple #[.agg #[.slice none 0 0, .slice none 0 0], .bool false]) (by simp [results, Try.results11, go_sem, p0, p1]) rfl ⟨none, 0, none, 0, rfl, World.ownsRow_nil _ _ _ _, World.ownsRow_nil _ _ _ _, ((unhide HB1).setCell (p := ⟨w.heap.size + 1 + 1, 0, none⟩) (by simp <;> omega) _).setCell (p := ⟨w.heap.size + 1 + 1, 1, none⟩) (by simp <;> omega) _⟩
  · cases okB
    · obtain rfl : ok = false := hk.symm
      clear hk
      obtain rfl := unhide hn1
      obtain rfl := unhide hn2
      go_enter Try.func11, Try.ntmps11
      go_wp2_with fail
      refine (istateok_any ai ni ci xs af nf cf fs _ HA _ hni hnf ((((unhide HX).alloc _).alloc _).alloc _) ((((unhide HF).alloc _).alloc _).alloc _)).mono ?_
      rintro e w1 ⟨rfl, b1⟩
      obtain ⟨q0, q1, -⟩ := blk_cells2 ((b1.block _ (by simp)).trans (midB3 w _ _ _))
      have HB1 := hide (((((Below.refl w.heap.size w).alloc (Nat.le_refl _) _).alloc (by simp) _).alloc (by simp; omega) _).trans (b1.mono (by simp; omega)))
      have MR := hide ((b1.block _ (by simp)).trans (newB3 w _ _ _))
      have hz1 : w.heap.size + 1 + 1 < w1.heap.size := (Array.getElem?_eq_some_iff.mp (unhide MR)).1
      clear b1
      go_wp2_with fail
      refine (istateok_any bi mi di ys bf mf df gs _ HB _ hmi hmf ((unhide HY).later (unhide HB1)) ((unhide HG).later (unhide HB1))).mono ?_
      rintro e w2 ⟨rfl, b2⟩
      have HB2 := hide ((unhide HB1).trans (b2.mono (unhide HB1).size))
      obtain ⟨p0, p1, pf⟩ := blk_cells2 ((b2.block _ hz1).trans (unhide MR))
      clear b2
      go_wp2
      exact bodyPost_ret (v := .tuple #[.agg #[.slice none 0 0, .slice none 0 0], .bool false]) (by simp [results, Try.results11, go_sem, p0, p1]) rfl ⟨none, 0, none, 0, rfl, World.ownsRow_nil _ _ _ _, World.ownsRow_nil _ _ _ _, ((unhide HB2).setCell (p := ⟨w.heap.size + 1 + 1, 0, none⟩) (by simp <;> omega) _).setCell (p := ⟨w.heap.size + 1 + 1, 1, none⟩) (by simp <;> omega) _⟩
    · obtain rfl : ok = true := hk.symm
      clear hk
      have okA := (okS_iff xs fs).1 (unhide HA)
      have okB := (okS_iff ys gs).1 (unhide HB)
      have OA := hide okA
      have OB := hide okB
      have hni5 : ni ≤ 5 := by have := okA.len.1; have := (unhide HX).len.1; omega
      have hmi5 : mi ≤ 5 := by have := okB.len.1; have := (unhide HY).len.1; omega
      clear okA okB
      have hmm := @run_makeMap Try.prog
      go_enter Try.func11, Try.ntmps11
      go_wp2_with fail
      refine (istateok_any ai ni ci xs af nf cf fs _ HA _ hni hnf ((((unhide HX).alloc _).alloc _).alloc _) ((((unhide HF).alloc _).alloc _).alloc _)).mono ?_
      rintro e w1 ⟨rfl, b1⟩
      have MA := hide ((b1.block _ (by simp; omega)).trans (lowB3 w _ _ _))
      have MB := hide ((b1.block _ (by simp)).trans (midB3 w _ _ _))
      obtain ⟨q0, q1, -⟩ := blk_cells2 (unhide MB)
      have HB1 := hide (((((Below.refl w.heap.size w).alloc (Nat.le_refl _) _).alloc (by simp) _).alloc (by simp; omega) _).trans (b1.mono (by simp; omega)))
      have MR := hide ((b1.block _ (by simp)).trans (newB3 w _ _ _))
      have hz1 : w.heap.size + 1 + 1 < w1.heap.size := (Array.getElem?_eq_some_iff.mp (unhide MR)).1
      clear b1
      go_wp2_with fail
      refine (istateok_any bi mi di ys bf mf df gs _ HB _ hmi hmf ((unhide HY).later (unhide HB1)) ((unhide HG).later (unhide HB1))).mono ?_
      rintro e w2 ⟨rfl, b2⟩
      have HB2 := hide ((unhide HB1).trans (b2.mono (unhide HB1).size))
      have MR2 := hide ((b2.block _ hz1).trans (unhide MR))
      have hz2 : w.heap.size + 1 + 1 < w2.heap.size := (Array.getElem?_eq_some_iff.mp (unhide MR2)).1
      have MA2 := hide ((b2.block _ (by omega)).trans (unhide MA))
      have MB2 := hide ((b2.block _ (by omega)).trans (unhide MB))
      obtain ⟨r0, r1, -⟩ := blk_cells2 (unhide MA2)
      obtain ⟨s0, s1, -⟩ := blk_cells2 (unhide MB2)
      clear b2 q0 q1 MA MB MR HB1
      go_wp2_with fail
      refine (ijoinf_any _ af nf cf fs _ bf mf df gs _ hnf hmf ((unhide HF).later (unhide HB2)) ((unhide HG).later (unhide HB2))).mono ?_
      rintro e w3 ⟨a2, m2, c2, rfl, o2, b3⟩
      obtain rfl : m2 = n2 := ((o2.rw encF_len).len.1).trans (unhide hn2)
      have HB3 := hide ((unhide HB2).trans (b3.mono (unhide HB2).size))
      have MR3 := hide ((b3.block _ hz2).trans (unhide MR2))
      have MA3 := hide ((b3.block _ (by omega)).trans (unhide MA2))
      have MB3 := hide ((b3.block _ (by omega)).trans (unhide MB2))
      have O3 : Hid (OwF (w.heap.size + 1 + 1 + 1) w3 (.slice a2 m2 c2) (joinF fs gs)) := hide (Ow.base o2 (by omega))
      have hm2 : m2 ≤ 5 := by rw [(o2.rw encF_len).len.1]; exact jF_len fs gs 5
      have hz3 : w.heap.size + 1 + 1 < w3.heap.size := (Array.getElem?_eq_some_iff.mp (unhide MR3)).1
      obtain ⟨t0, t1, -⟩ := blk_cells2 (unhide MA3)
      have LO := hide (World.ownsRow.lt o2)
      clear b3 o2 hn2 r0 r1 s0 s1 MA2 MB2 MR2 HB2
      have nz3 : w.heap.size < w3.heap.size := by omega
      go_wp2_with fail
      obtain ⟨V, hV⟩ : ∃ V, V = w3.alloc (.map #[] 0) := ⟨_, rfl⟩
      rw [← hV]
      have BV : Below w3.heap.size w3 V := by rw [hV]; exact (Below.refl _ _).alloc (Nat.le_refl _) _
      have HMV : Hid (OwM V w3.heap.size 0 (.map [])) := by rw [hV]; exact hide (World.ownsMap_made _ _ _ _)
      have HBV := hide ((unhide HB3).trans (BV.mono (unhide HB3).size))
      have MRV := hide ((BV.block _ hz3).trans (unhide MR3))
      have MBV := hide ((BV.block _ (by omega)).trans (unhide MB3))
      have OV := hide ((unhide O3).later BV)
      have hzV : w.heap.size + 1 + 1 < V.heap.size := Nat.lt_of_lt_of_le hz3 BV.size
      have hbm : w3.heap.size < V.heap.size := (unhide HMV).lt
      generalize hbme : w3.heap.size = bm at *
      clear hV BV MA3 MR3 MB3 O3 t0 t1 HB3 hmm
      refine (ijoini_any bm 0 _ _ ai ni ci xs (unhide OA).fitJ (fun _ _ q => by cases q) _ (by omega) (by omega) (unhide HMV) MapV.nil ((unhide HX).later (unhide HBV))).mono ?_
      rintro e w4 ⟨rfl, ⟨n4, D4, hM4, hn4, hV4, hS4⟩, g4⟩
      have HM4 := hide hM4; have HV4 := hide hV4; have HS4 := hide hS4
      have MR4 := hide ((g4.block _ hzV (by simp; omega)).trans (unhide MRV))
      have MB4 := hide ((g4.block _ (by omega) (by simp; omega)).trans (unhide MBV))
      have O4 := hide (grown_own g4 (unhide OV) (fun i q => by have := unhide LO i q; omega))
      have HB4 := hide ((Trn.of_grown g4).below (unhide HBV) (unhide HBV).size (fun i q => by cases q; omega))
      have hz4 : w.heap.size + 1 + 1 < w4.heap.size := Nat.lt_of_lt_of_le hzV g4.size
      have nz4 : w.heap.size + 1 < w4.heap.size := by omega
      obtain ⟨u0, u1, -⟩ := blk_cells2 (unhide MB4)
      clear hM4 hV4 hS4 g4 MRV MBV OV HBV HMV
      go_wp2_with fail
      clear u0 u1
      refine (ijoini_any bm n4 _ _ bi mi di ys (unhide OB).fitJ (unhide HS4) _ (by omega) (by omega) (unhide HM4) (unhide HV4) ((unhide HY).later (unhide HB4))).mono ?_
      rintro e w5 ⟨rfl, ⟨n5, D5, hM5, hn5, hV5, hS5⟩, g5⟩
      have HM5 := hide hM5; have HV5 := hide hV5; have HS5 := hide hS5
      have MR5 := hide ((g5.block _ hz4 (by simp; omega)).trans (unhide MR4))
      have O5 := hide (grown_own g5 (unhide O4) (fun i q => by have := unhide LO i q; omega))
      have HB5 := hide ((Trn.of_grown g5).below (unhide HB4) (unhide HB4).size (fun i q => by cases q; omega))
      have hz5 : w.heap.size + 1 + 1 < w5.heap.size := Nat.lt_of_lt_of_le hz4 g5.size
      clear hM5 hV5 hS5 g5 MR4 MB4 O4 HB4 HM4 HV4 HS4
      go_wp2_with fail
      refine (idrop_any bm n5 _ _ a2 m2 c2 (joinF fs gs) joinF_fit (unhide HS5) _ (by omega) (unhide HM5) (unhide HV5) ((unhide O5).rw encF_len)).mono ?_
      rintro e w6 ⟨rfl, ⟨D6, hM6, hV6, _⟩, g6⟩
      have HM6 := hide hM6; have HV6 := hide hV6
      have MR6 := hide ((g6.block _ hz5 (by simp; omega)).trans (unhide MR5))
      have O6 := hide (grown_own g6 (unhide O5) (fun i q => by have := unhide LO i q; omega))
      have HB6 := hide ((Trn.of_grown g6).below (unhide HB5) (unhide HB5).size (fun i q => by cases q; omega))
      have hz6 : w.heap.size + 1 + 1 < w6.heap.size := Nat.lt_of_lt_of_le hz5 g6.size
      clear hM6 hV6 g6 MR5 O5 HB5 HM5 HV5 HS5
      go_wp2_with fail
      refine (iorder_any bm n5 _ _ (joinI xs fs ys gs) (jI_pair 5) (map_end (unhide OA) (unhide OB)) (Nat.le_trans (jI_len xs fs ys gs 5) (by omega)) _ (unhide HM6) (unhide HV6)).mono ?_
      rintro e w7 ⟨a1, m1, c1, rfl, o1, b7⟩
      obtain rfl : m1 = n1 := ((o1.rw encI_len).len.1).trans (unhide hn1)
      have HB7 := hide ((unhide HB6).trans (b7.mono (unhide HB6).size))
      obtain ⟨p0, p1, pf⟩ := blk_cells2 ((b7.block _ hz6).trans (unhide MR6))
      have O1 := hide (Ow.base (base' := w.heap.size + 1 + 1 + 1) o1 (by omega))
      have O2 := hide ((unhide O6).later b7)
      clear b7 o1 hn1 O6 HB6 MR6 HM6 HV6
      go_wp2
      exact bodyPost_ret (v := .tuple #[.agg #[.slice a1 m1 c1, .slice a2 m2 c2], .bool true]) (by simp [results, Try.results11, go_sem, p0, p1]) rfl ⟨a1, c1, a2, c2, rfl, Ow.base (((unhide O1).set ⟨w.heap.size + 1 + 1, 0, none⟩ (by simp <;> omega) _).set ⟨w.heap.size + 1 + 1, 1, none⟩ (by simp <;> omega) _) (by omega), Ow.base (((unhide O2).set ⟨w.heap.size + 1 + 1, 0, none⟩ (by simp <;> omega) _).set ⟨w.heap.size + 1 + 1, 1, none⟩ (by simp <;> omega) _) (by omega), ((unhide HB7).setCell (p := ⟨w.heap.size + 1 + 1, 0, none⟩) (by simp <;> omega) _).setCell (p := ⟨w.heap.size + 1 + 1, 1, none⟩) (by simp <;> omega) _⟩
end Go.Proofs.Ytdpaocikmijioaa
