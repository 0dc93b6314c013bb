/-
  The program's itemsInOrder: the map's entries, each once, sorted by their nodes. No statement is proved here.
-/
import Derived.Test.YtdpaocikmijioaaSortB
import Derived.Test.YtdpaocikmijioaaIJoinI
import Derived.Test.YtdpaocikmijioaaApp2
import Derived.Test.YtdpaocikmijioaaStT
namespace Go.Proofs.Ytdpaocikmijioaa
open Go.RowKit Go.Maps Go.Sort

theorem fit_wf {n : Int} (h : (Lit.int .i64 n).wf = true) : FitN n := by
  unfold FitN
  simp [Lit.wf, IntKind.min, IntKind.max, IntKind.bits, IntKind.signed] at h
  omega
/-- What was met so far: no node twice, and just what the map holds and is no longer to come. -/
def Coll (m : Int → Option Key) (left : Lit → Bool) (ss : List Itm) : Prop := (ss.map (·.1)).Nodup ∧ ∀ x : Itm, x ∈ ss ↔ FitN x.1 ∧ m x.1 = some x.2 ∧ left (.int .i64 x.1) = false
theorem map_has {D : DataW Key} {m : Int → Option Key} (hv : MapV D m) {id : Int} {e : Key} (h1 : FitN id) (h2 : m id = some e) : Maps.has D (.int .i64 id) = true := by
  refine has_true_of_atKey (y := .held e) (fun z => ?_)
  rw [hv id h1 z, h2]
theorem map_at {D : DataW Key} {m : Int → Option Key} (hv : MapV D m) {id : Int} {e : Key} (h1 : FitN id) (h2 : ∀ z, D.atKey (.int .i64 id) z = .held e) : m id = some e := by
  cases hm : m id with
  | some x =>
    have := (hv id h1 (.held e)).symm.trans (h2 _)
    rw [hm] at this
    simp only [DataW.held.injEq] at this
    rw [this]
  | none =>
    have := (hv id h1 (.map [])).symm.trans (h2 _)
    rw [hm] at this
    simp at this
theorem Coll.start {D : DataW Key} {m : Int → Option Key} (hv : MapV D m) : Coll m (Maps.has D) [] := by
  refine ⟨by simp, fun x => ⟨fun h => by simp at h, fun ⟨h1, h2, h3⟩ => ?_⟩⟩
  rw [map_has hv h1 h2] at h3
  cases h3
theorem Coll.step {D : DataW Key} {m : Int → Option Key} (hv : MapV D m) {left : Lit → Bool} {ss : List Itm} (h : Coll m left ss) {id : Int} {e : Key} (h1 : FitN id) (hl : left (.int .i64 id) = true) (hat : ∀ z, D.atKey (.int .i64 id) z = .held e) :
    Coll m (fun z => left z && !z.sameKey (.int .i64 id)) (ss ++ [(id, e)]) := by
  have hm := map_at hv h1 hat
  have hnew : ∀ x ∈ ss, x.1 ≠ id := fun x hx q => by
    have := ((h.2 x).1 hx).2.2
    rw [q, hl] at this
    cases this
  refine ⟨?_, fun x => ?_⟩
  · rw [List.map_append]
    refine List.nodup_append.2 ⟨h.1, by simp, fun a ha b hb => ?_⟩
    simp at hb
    subst hb
    obtain ⟨x, hx, rfl⟩ := List.mem_map.1 ha
    exact hnew x hx
  · rw [List.mem_append, h.2 x]
    simp only [List.mem_singleton]
    by_cases hy : x.1 = id
    · constructor
      · rintro (⟨a, b, c⟩ | rfl)
        · rw [hy, hl] at c; cases c
        · exact ⟨h1, hm, by simp [Lit.sameKey]⟩
      · rintro ⟨a, b, _⟩
        right
        rw [hy, hm] at b
        exact Prod.ext hy (Option.some.inj b).symm
    · have : (left (.int .i64 x.1) && !(Lit.int .i64 x.1).sameKey (.int .i64 id)) = left (.int .i64 x.1) := by simp [Lit.sameKey, hy]
      rw [this]
      constructor
      · rintro (q | rfl)
        · exact q
        · exact absurd rfl hy
      · exact .inl
theorem Coll.len {m : Int → Option Key} {left : Lit → Bool} {ss ts : List Itm} (h : Coll m left ss) (ht : ts.Pairwise (fun a b => a.1 < b.1)) (hm : ∀ x : Itm, x ∈ ts ↔ FitN x.1 ∧ m x.1 = some x.2) : ss.length ≤ ts.length := by
  classical
  have ns : ss.Nodup := (List.pairwise_map.1 h.1).imp (fun h e => h (by rw [e]))
  have nt : ts.Nodup := ht.imp (fun h e => by rw [e] at h; omega)
  have hp : ss.Perm (ts.filter (fun x => decide (x ∈ ss))) := by
    refine (List.perm_ext_iff_of_nodup ns (nt.filter _)).2 (fun x => ?_)
    rw [List.mem_filter, decide_eq_true_eq]
    refine ⟨fun hx => ⟨?_, hx⟩, fun q => q.2⟩
    have := (h.2 x).1 hx
    exact (hm x).2 ⟨this.1, this.2.1⟩
  rw [hp.length_eq]
  exact List.length_filter_le _ _

theorem row_no_iter {base : Nat} {e : TypeId} {k : Nat} {w : World} {v : Value} {n : Nat} {xs : List Value} (h : w.ownsRow base e k v n xs) {K : TypeId} {b r N : Nat} {D : DataW Key} {left : Lit → Bool} {cnt : Nat} (hr : w.ranges Try.prog K RK b r N D left cnt) : v.ownBlock ≠ some r := by
  intro q
  obtain ⟨es, clock, since, seen, c0, _, _, _, _, hh2, _⟩ := hr
  rcases h.2 with ⟨rfl, _⟩ | ⟨g', cap, cur, rfl, _, hh, _⟩
  · cases q
  · simp only [Value.ownBlock, Option.some.injEq] at q
    subst q
    rw [hh] at hh2
    cases hh2

set_option maxHeartbeats 8000000 in
set_option maxRecDepth 100000 in
theorem iorder_any (bm n : Nat) (D : DataW Key) (m : Int → Option Key) (ts : List Itm) (ht : ts.Pairwise (fun a b => a.1 < b.1)) (hmt : ∀ x : Itm, x ∈ ts ↔ FitN x.1 ∧ m x.1 = some x.2) (h12 : ts.length ≤ 12) (w : World)
    (hm : OwM w bm n D) (hv : MapV D m) :
    Calls Try.prog 34 #[.map (some bm)] w fun e w' => ∃ a2 n2 c2, e = .returned (.slice a2 n2 c2) ∧ OwI w.heap.size w' (.slice a2 n2 c2) ts ∧ Below w.heap.size w w' := by
  obtain ⟨i1, gi, gz0, gz1, gz2⟩ := info_parts Try.infoItem
  have HM := hide hm
  have HV := hide hv
  have HT := hide ht
  have HMT := hide hmt
  have hbm : bm < w.heap.size := hm.lt
  clear hm hv ht hmt
  go_enter Try.func34, Try.ntmps34
  go_wp2_with (first | (at_range; refine wpList_range_own _ rfl _ 49 rfl 3 36 klaw Try.underlying49 RK bm n D rfl (unhide HM) ?_; intro w0 hrg0 hg0 hs0; have HR0 := hide hrg0; have HG0 := hide hg0; clear hrg0 hg0 hs0))
  go_frame
  go_loopw [3] (fun v wr => ∃ (left : Lit → Bool) (cnt : Nat) (ss : List Itm) (a2 : Option Addr) (n2 c2 : Nat), v = .slice a2 n2 c2 ∧ wr.ranges Try.prog 3 RK bm w.heap.size n D left cnt ∧ OwI w.heap.size wr (.slice a2 n2 c2) ss ∧ Coll m left ss ∧ Below w.heap.size w wr) (fun _ wr => wr.rangeLeft bm w.heap.size)
  case atStart => exact ⟨_, _, [], none, 0, 0, rfl, unhide HR0, World.ownsRow_nil _ _ _ _, Coll.start (unhide HV), ⟨(unhide HG0).os, (unhide HG0).tape, (unhide HG0).output, (unhide HG0).size, fun i hi => (unhide HG0).block i hi (by simp)⟩⟩
  case round =>
    obtain ⟨left, cnt, ss, a2, n2, c2, rfl, hrg, hown, hcoll, hbel⟩ := hrel
    have HRG := hide hrg
    have HO := hide hown
    have HC := hide hcoll
    have HB := hide hbel
    have hsz := hbel.size
    have hlt := hrg.lt
    clear hrg hown hcoll hbel HR0 HG0
    go_wp2_with (first | (at_next; refine wpList_next_ranges _ rfl _ rfl 3 klaw RK (Value.int .i64) (fun e : Key => .agg #[.int .i64 e.1, .int .i64 e.2.1, .int .i64 e.2.2.1, .int .i64 e.2.2.2.1, .string e.2.2.2.2]) (fun key kl hkey => by obtain ⟨x, rfl, _⟩ := Maps.keyOf_int_inv Try.underlying3 hkey; exact ⟨x, rfl⟩) (fun v y hv => by obtain ⟨c, rfl, _⟩ := RK_inv hv; exact ⟨c, rfl⟩) bm w.heap.size n D left cnt rfl (unhide HRG) ?_ ?_))
    · intro hc0 hl0
      have hsm : ∀ x : Itm, x ∈ ss ↔ FitN x.1 ∧ m x.1 = some x.2 := fun x => by rw [(unhide HC).2 x, hl0]; simp
      have hlen := (unhide HC).len (unhide HT) (unhide HMT)
      have HSM := hide hsm
      have HND := hide (unhide HC).1
      clear hc0 hl0 hsm HC
      rcases (unhide HO).2 with ⟨hv, h0⟩ | ⟨g, cap, cur, hv, hb, hg, _⟩
      · simp only [Value.slice.injEq] at hv
        obtain ⟨rfl, rfl, rfl⟩ := hv
        obtain rfl : ss = [] := List.eq_nil_of_length_eq_zero h0
        obtain ⟨rfl, -⟩ := one_list (unhide HT) (unhide HMT) (unhide HND) (unhide HSM) (List.Perm.refl _) List.Pairwise.nil
        clear h0 hlen
        go_wp2_with (go_at_call 56; refine (sort_none _ _ _ _).mono ?_; rintro e w' ⟨rfl, rfl⟩)
        go_ret
        exact ⟨none, 0, 0, rfl, unhide HO, unhide HB⟩
      · simp only [Value.slice.injEq] at hv
        obtain ⟨rfl, rfl, rfl⟩ := hv
        have hgs : g < wr.heap.size := (Array.getElem?_eq_some_iff.1 hg).1
        clear hg
        go_wp2_with (go_at_call 56; refine (Try.sort_items encI encI_len oneI (fun x y : Itm => cmpI x.1 y.1) 57 swoI g 0 c2 ss.toArray _ (enters_of Try.func57 (by kernel_rfl) rfl) (cmpLays _ _ _ _) (holds_ow (by omega) encI_len (unhide HO) rfl) hgs (by simpa using Nat.le_trans hlen h12) lenAny).mono ?_; rintro e w' ⟨rfl, d', nn, os, hp, hs, rfl⟩)
        obtain ⟨he, hel⟩ := one_list (unhide HT) (unhide HMT) (unhide HND) (unhide HSM) (by simpa using perm_list hp) (sorted_list (by rw [hp.1]) hs)
        have HO1 : Hid (OwI w.heap.size (sortWorldK encI 6 wr g 0 nn d' os) (.slice (some ⟨g, 0, none⟩) ss.length c2) ts) := hide (he ▸ ow_sorted (by omega) encI_len (unhide HO) rfl d' (by rw [hp.1]; simp))
        have HG := hide (grown_sorted (enc := encI) (k := 6) (w := wr) (g := g) (m := nn) (os := os) d')
        generalize sortWorldK encI 6 wr g 0 nn d' os = W at HO1 HG ⊢
        clear hp hs
        go_wp2
        go_ret
        refine ⟨some ⟨g, 0, none⟩, ss.length, c2, rfl, unhide HO1, (Trn.of_grown (unhide HG)).below (unhide HB) hsz ?_⟩
        intro i q
        cases q
        exact hb
    · intro x c0 c1 c2' c3 c4 kl yd yp w1 cnt1 hkey hlk hvv hat hrg1 hlt1 hg1 hs1 hen
      obtain ⟨x', ex, rfl, hwx⟩ := Maps.keyOf_int_inv Try.underlying3 hkey
      cases ex
      have hvv2 : some ((.held (c0, c1, c2', c3, c4), []) : DataW Key × List MemPlace) = some (yd, yp) := hvv
      simp only [Option.some.injEq, Prod.mk.injEq] at hvv2
      obtain ⟨rfl, rfl⟩ := hvv2
      have hx := fit_wf hwx
      have HC1 := hide ((unhide HC).step (unhide HV) hx hlk hat)
      have hne := row_no_iter (unhide HO) (unhide HRG)
      have HO1 : Hid (OwI w.heap.size w1 (.slice a2 n2 c2) ss) := hide ((unhide HO).kept hg1 (.inr hne))
      have HB1 : Hid (Below w.heap.size w w1) := hide ((Trn.of_grown hg1).below (unhide HB) hsz (fun i q => by cases q; exact Nat.le_refl _))
      have HR1 := hide hrg1
      have HL : Hid (w1.rangeLeft bm w.heap.size < wr.rangeLeft bm w.heap.size) := hide (by rw [hrg1.left_eq, (unhide HRG).left_eq]; exact hlt1)
      have hw1 : w.heap.size < w1.heap.size := hrg1.lt
      have hn2 : Hid (n2 = ss.length) := hide ((unhide HO).rw encI_len).len.1
      have hn2l : n2 ≤ 12 := by have := unhide hn2; have := (unhide HC).len (unhide HT) (unhide HMT); omega
      clear hkey hlk hvv hat hrg1 hlt1 hg1 hs1 hne HO HB HRG HC hsz hlt hwx
      obtain ⟨V, hV⟩ : ∃ V, V = w1.alloc (.cells #[.int .i64 c0, .int .i64 c1, .int .i64 c2', .int .i64 c3, .string c4] 36) := ⟨_, rfl⟩
      have hV1 : w1.heap.size + 1 = V.heap.size := by rw [hV]; simp
      have HOV : Hid (OwI w.heap.size V (.slice a2 n2 c2) ss) := by rw [hV]; exact hide ((unhide HO1).alloc _)
      have HBV : Hid (Below w.heap.size w V) := by rw [hV]; exact hide ((unhide HB1).alloc (by omega) _)
      have HRV : Hid (V.ranges Try.prog 3 RK bm w.heap.size n D (fun z => left z && !z.sameKey (.int .i64 x)) cnt1) := by rw [hV]; exact hide ((unhide HR1).alloc _)
      have HLV : Hid (V.rangeLeft bm w.heap.size < wr.rangeLeft bm w.heap.size) := hide (by rw [(unhide HRV).left_eq, ← (unhide HR1).left_eq]; exact unhide HL)
      have HV0 := hide hV
      have HV1 := hide hV1
      clear hV hV1
      go_wp2_with (first | (at_builtin; have hV := unhide HV0; have hV1 := unhide HV1; clear HV0 HV1; rw [← hV, hV1]; clear hV; refine wpList_app1 encI_len (by omega) oneI 44 24 i1 _ 56 Try.underlying24 gi gz0 gz1 gz2 rfl (by omega) V (x, (c0, c1, c2', c3, c4)) rfl _ _ rfl w.heap.size _ ss n2 hn2 rfl (unhide HOV) rfl (by omega) (by omega) ?_; intro a2' c2'' w2 hO hG; have HO2 := hide hO; have HB2 := hide ((Trn.of_grown hG).below (unhide HBV) (by omega) (fun i q => (World.ownsRow.lt (unhide HOV) i q).1)); have HR2 := hide ((unhide HRV).kept hG (fun q => by have := World.ownsRow.lt (unhide HOV) _ q.symm; omega) (fun q => row_no_iter (unhide HOV) (unhide HRV) q.symm)); clear hO hG))
      go_roundw
      case rel => exact ⟨_, _, ss ++ [(x, (c0, c1, c2', c3, c4))], a2', n2 + 1, c2'', rfl, unhide HR2, unhide HO2, unhide HC1, unhide HB2⟩
      case measure => rw [(unhide HR2).left_eq, ← (unhide HRV).left_eq]; exact unhide HLV
end Go.Proofs.Ytdpaocikmijioaa
