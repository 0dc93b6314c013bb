/-
  The library's sort of items, at a row that the call itself owns. No statement is proved here.
  The program's itemsInOrder: the map's entries, each once, sorted by their nodes. No statement is proved here.
  The program's StateJoin. No statement is proved here.
  What is right is put behind a list of one's own: the program does it at a generic type. No statement is proved here.
  Logs: plain lists of states; how a row of states lies in memory. No program here, no statement is proved here.
-/
import Derived.Test.YtighiahppjekeabGreatSortL
import Derived.Test.YtighiahppjekeabGreatStM
import Derived.Test.YtighiahppjekeabGreatIJnP
import Derived.Test.YtighiahppjekeabGreatApp2
import Derived.Test.YtighiahppjekeabGreatStT
import Derived.Carry
import Derived.Test.YtighiahppjekeabGreatOrd
import Derived.Test.YtighiahppjekeabGreatPrt
import Derived.Deep.DeepCutAuto
import Derived.Test.YtighiahppjekeabGreatStA
import Derived.Test.YtighiahppjekeabGreatStOkP
import Derived.Test.YtighiahppjekeabGreatStO
namespace Go.Proofs.YtighiahppjekeabGreat
open Go.RowKit Go.Maps Go.Sort

theorem flat_list {α : Type} [Inhabited α] {enc : α → List Value} {k : Nat} (h0 : 0 < k) (hk : ∀ x, (enc x).length = k) (d : Array α) : (flatK enc k d).toList = d.toList.flatMap enc := by
  apply List.ext_getElem?
  intro m
  obtain ⟨e, hr⟩ := div_parts h0 m
  by_cases hm : m < d.size * k
  · have hq : m / k < d.size := Nat.div_lt_of_lt_mul (by rw [Nat.mul_comm]; exact hm)
    have e1 : (flatK enc k d).toList[m]? = some ((enc d[m / k]!)[m % k]!) := by
      rw [← get_flatK enc k d m hm, Array.getElem?_toList, Array.getElem?_eq_getElem (by simpa using hm), getElem!_pos _ m (by simpa using hm)]
    rw [e1]
    conv => rhs; rw [e]
    have hd : d.toList[m / k]? = some d[m / k]! := by
      rw [Array.getElem?_toList, Array.getElem?_eq_getElem hq, getElem!_pos d (m / k) hq]
    rw [flat_at hk _ (m / k) d[m / k]! (m % k) hd hr]
    have hl : m % k < (enc d[m / k]!).length := by rw [hk]; exact hr
    rw [List.getElem?_eq_getElem hl, getElem!_pos _ (m % k) hl]
  · rw [flat_none hk _ _ (by simpa using hm), List.getElem?_eq_none (by simpa using hm)]

theorem holds_ow {α : Type} [Inhabited α] {enc : α → List Value} {k : Nat} (h0 : 0 < k) (hk : ∀ x, (enc x).length = k) {e : TypeId} {base : Nat} {w : World} {g n cap : Nat} {xs : List α} (h : Ow enc k e base w (.slice (some ⟨g, 0, none⟩) n cap) xs) (hn : n = xs.length) : HoldsK enc k w g 0 xs.toArray := by
  subst hn
  intro j hj
  have hj' : j < xs.length * k := by simpa using hj
  refine ⟨?_, ?_⟩
  · rw [Nat.zero_add, World.ownsRow.cellAt h j hj', ← (show xs.toArray.toList = xs from rfl), ← flat_list h0 hk xs.toArray, Array.getElem?_toList, Array.getElem?_eq_getElem (by simpa using hj), getElem!_pos _ j (by simpa using hj)]
    rfl
  · rw [Nat.zero_add]; exact World.ownsRow.frozenAt h j

theorem heap_sorted6 {w : World} {g m : Nat} {os : Array Obj} {cur : Array Value} {e : TypeId} {fr : Nat × Nat} (F : Array Value) (hb : w.heap[g]? = some (.cells cur e fr)) :
    (grow (putRow id (Sort.ahead w m) g 0 F) os).heap[g]? = some (.cells (putCells id 0 F cur) e fr) := by
  have hg : g < w.heap.size := (Array.getElem?_eq_some_iff.1 hb).1
  rw [heap_grow_old _ _ (by simpa using hg)]
  simp [putRow, mapBlock, Sort.ahead, Array.getElem?_modify, hb, onCells]
theorem grown_sorted {α : Type} {enc : α → List Value} {k : Nat} [Inhabited α] {w : World} {g m : Nat} {os : Array Obj} (d : Array α) : w.grownBy (sortWorldK enc k w g 0 m d os) (some g) := by
  refine ⟨rfl, rfl, rfl, by simp [sortWorldK, putRowK], fun j hj hne => ?_⟩
  unfold sortWorldK putRowK
  rw [heap_grow_old _ _ (by simpa using hj)]
  have : g ≠ j := fun e => hne (by rw [e])
  simp [putRow, mapBlock, Sort.ahead, Array.getElem?_modify, this]
theorem take_put (cur F : Array Value) (h : F.size ≤ cur.size) : (putCells id 0 F cur).toList.take F.size = F.toList := by
  apply List.ext_getElem?
  intro j
  by_cases hj : j < F.size
  · rw [List.getElem?_take_of_lt hj, Array.getElem?_toList, Array.getElem?_toList]
    simp [putCells, hj, show j < cur.size by omega]
  · rw [List.getElem?_eq_none (by simp; omega), List.getElem?_eq_none (by simpa using hj)]
theorem ow_sorted {α : Type} [Inhabited α] {enc : α → List Value} {k : Nat} (h0 : 0 < k) (hk : ∀ x, (enc x).length = k) {e : TypeId} {base : Nat} {w : World} {g n cap m : Nat} {os : Array Obj} {xs : List α} (h : Ow enc k e base w (.slice (some ⟨g, 0, none⟩) n cap) xs) (hn : n = xs.length) (d : Array α) (hd : d.size = n) :
    Ow enc k e base (sortWorldK enc k w g 0 m d os) (.slice (some ⟨g, 0, none⟩) n cap) d.toList := by
  have hl : d.toList.length = n := by simpa using hd
  rcases h.2 with ⟨hv, _⟩ | ⟨g', cap', cur, hv, hb, hg, hnc, hcm, hcs, htake⟩
  · simp at hv
  · simp only [Value.slice.injEq, Option.some.injEq, Addr.mk.injEq, and_true] at hv
    obtain ⟨rfl, hn2, rfl⟩ := hv
    unfold Ow
    rw [hl]
    refine ⟨by rw [flat_len hk, hl], .inr ⟨g, cap, _, rfl, hb, heap_sorted6 _ hg, by omega, hcm, by simp [putCells, hcs], ?_⟩⟩
    have hsz : (flatK enc k d).size = n * k := by rw [size_flatK, hd]
    rw [← hsz, take_put cur _ (by rw [hsz, hcs]; exact Nat.mul_le_mul_right _ (by omega)), flat_list h0 hk]

theorem cmpI_lt (x y : Itm) : ltOf (fun x y : Itm => cmpI x.1 y.1) x y = decide (x.1 < y.1) := by
  unfold ltOf cmpI
  by_cases h1 : x.1 < y.1
  · simp [h1]
  · by_cases h2 : y.1 < x.1 <;> simp [h1, h2]
theorem swoI : SWO (ltOf fun x y : Itm => cmpI x.1 y.1) where
  irrefl x := by rw [cmpI_lt]; simp
  trans x y z h1 h2 := by rw [cmpI_lt] at *; simp at *; omega
  ntrans x y z h1 h2 := by rw [cmpI_lt] at *; simp at *; omega

set_option maxHeartbeats 1000000 in
theorem closure_any (x y : Itm) (W : World) : Calls Tryz.prog 74 #[.agg #[.int .i64 x.1, .int .i64 x.2.1, .int .i64 x.2.2.1, .int .i64 x.2.2.2.1, .int .i64 x.2.2.2.2.1, .string x.2.2.2.2.2], .agg #[.int .i64 y.1, .int .i64 y.2.1, .int .i64 y.2.2.1, .int .i64 y.2.2.2.1, .int .i64 y.2.2.2.2.1, .string y.2.2.2.2.2]] W fun e w' => e = .returned (.int .i64 (cmpI x.1 y.1)) ∧ ∃ q os', w' = grow (W.drewN q) os' := by
  go_enter Tryz.func74, Tryz.ntmps74
  go_wp2_with fail
  refine (cmpi_is x.1 y.1 _).mono ?_
  rintro e _ ⟨rfl, rfl⟩
  go_wp2
  go_ret
  exact ⟨rfl, 0, _, by rw [alloc_eq_grow, alloc_eq_grow, grow_grow]; rfl⟩
theorem cmpLays (blk off size : Nat) (w : World) : CmpLays Tryz.prog 74 #[] encI 6 (fun x y => cmpI x.1 y.1) blk off size w :=
  fun _ _ _ _ x y => closure_any x y _
theorem lenAny (n : Nat) (W : World) (h : n ≤ 12) : Calls Tryz.prog 81 #[.int .u64 n] W fun e w' => (∃ l : Int, e = .returned (.int .i64 l)) ∧ w' = W :=
  (Tryz.bits_Len n W (by omega) (by omega)).mono fun _ _ ⟨he, hw⟩ => ⟨⟨_, he⟩, hw⟩

set_option maxHeartbeats 1000000 in
theorem ins_none (p : Option Addr) (cap : Nat) (fv : Value) (w : World) :
    Calls Tryz.prog 85 #[.slice p 0 cap, .int .i64 0, .int .i64 0, fv] w fun e w' => e = .returned (.tuple #[]) ∧ w' = w := by
  go_enter Tryz.func85, Tryz.ntmps85
  go_wp2
  refine wp_loop_rounds 1 ?_
  rw [rounds_succ]
  go_wp2
  go_end0
  exact ⟨rfl, rfl⟩
set_option maxHeartbeats 1000000 in
theorem pdq_none (p : Option Addr) (cap : Nat) (lim : Int) (fv : Value) (w : World) :
    Calls Tryz.prog 80 #[.slice p 0 cap, .int .i64 0, .int .i64 0, .int .i64 lim, fv] w fun e w' => e = .returned (.tuple #[]) ∧ w' = w := by
  go_enter Tryz.func80, Tryz.ntmps80
  go_wp2
  refine wp_loop_rounds 1 ?_
  rw [rounds_succ]
  go_wp2_with (go_at_call 85; refine (ins_none _ _ _ _).mono ?_; rintro e w' ⟨rfl, rfl⟩)
  (try simp only [Exit.inBlock, Exit.then]); refine bodyPost_ret (results_none rfl _ _ _) rfl ?_
  exact ⟨rfl, rfl⟩
set_option maxHeartbeats 1000000 in
theorem sort_none (p : Option Addr) (cap : Nat) (fv : Value) (w : World) :
    Calls Tryz.prog 73 #[.slice p 0 cap, fv] w fun e w' => e = .returned (.tuple #[]) ∧ w' = w := by
  have hl : ∀ W, Calls Tryz.prog 81 #[.int .u64 0] W fun e w' => e = .returned (.int .i64 (Lib.bitLen 0 : Nat)) ∧ w' = W := fun W => Tryz.bits_Len 0 W (by omega) (by omega)
  go_enter Tryz.func73, Tryz.ntmps73
  go_wp2_with (first | (go_at_call 81; refine (hl _).mono ?_; rintro e w' ⟨rfl, rfl⟩) | (go_at_call 80; refine (pdq_none _ _ _ _ _).mono ?_; rintro e w' ⟨rfl, rfl⟩))
  go_end0
  exact ⟨rfl, rfl⟩

theorem sorted_list {d : Array Itm} {n : Nat} (hn : d.size = n) (h : SortedIn (ltOf fun x y : Itm => cmpI x.1 y.1) 0 n d) : d.toList.Pairwise (fun a b => a.1 ≤ b.1) := by
  rw [List.pairwise_iff_getElem]
  intro i j hi hj hij
  have := h i j (Nat.zero_le _) hij (by simp at hj; omega)
  rw [cmpI_lt, getElem!_pos d j (by simpa using hj), getElem!_pos d i (by simpa using hi)] at this
  simp at this
  simpa using this
theorem perm_list {d d' : Array Itm} (h : PermIn 0 d.size d d') : d'.toList.Perm d.toList := by
  obtain ⟨h1, _, h3⟩ := h
  have e : d'.extract 0 d.size = d' := by rw [← h1]; simp
  rw [e] at h3
  simpa using h3
/-- Sorted, by numbers of which none stands twice, it is one list. -/
theorem one_list {m : Int → Option Key} {ts ss rs : List Itm} (ht : ts.Pairwise (fun a b => a.1 < b.1)) (hm : ∀ x : Itm, x ∈ ts ↔ FitN x.1 ∧ m x.1 = some x.2) (hs : (ss.map (·.1)).Nodup) (hsm : ∀ x : Itm, x ∈ ss ↔ FitN x.1 ∧ m x.1 = some x.2)
    (hp : rs.Perm ss) (hr : rs.Pairwise (fun a b => a.1 ≤ b.1)) : rs = ts ∧ ss.length = ts.length := by
  have nt : ts.Nodup := ht.imp (fun h e => by rw [e] at h; omega)
  have ns : ss.Nodup := (List.pairwise_map.1 hs).imp (fun h e => h (by rw [e]))
  have pst : ss.Perm ts := (List.perm_ext_iff_of_nodup ns nt).2 (fun x => (hsm x).trans (hm x).symm)
  refine ⟨List.Perm.eq_of_pairwise ?_ hr (ht.imp (fun h => by omega)) (hp.trans pst), pst.length_eq⟩
  intro a b ha hb h1 h2
  have qa := (hsm a).1 (hp.mem_iff.1 ha)
  have qb := (hm b).1 hb
  have e : a.1 = b.1 := by omega
  have e2 : a.2 = b.2 := by
    have := qa.2
    rw [e, qb.2] at this
    exact (Option.some.inj this).symm
  exact Prod.ext e e2
end Go.Proofs.YtighiahppjekeabGreat

namespace Go.Proofs.YtighiahppjekeabGreat
open Go.RowKit Go.Maps Go.Sort

theorem fit_wf {n : Int} (h : (Lit.int .i64 n).wf = true) : FitN n := by
  unfold FitN
  simp [Lit.wf, IntKind.min, IntKind.max, IntKind.bits, IntKind.signed] at h
  omega
/-- What was met so far: no node twice, and just what the map holds and is no longer to come. -/
def Coll (m : Int → Option Key) (left : Lit → Bool) (ss : List Itm) : Prop := (ss.map (·.1)).Nodup ∧ ∀ x : Itm, x ∈ ss ↔ FitN x.1 ∧ m x.1 = some x.2 ∧ left (.int .i64 x.1) = false
theorem map_has {D : DataW Key} {m : Int → Option Key} (hv : MapV D m) {id : Int} {e : Key} (h1 : FitN id) (h2 : m id = some e) : Maps.has D (.int .i64 id) = true := by
  refine has_true_of_atKey (y := .held e) (fun z => ?_)
  rw [hv id h1 z, h2]
theorem map_at {D : DataW Key} {m : Int → Option Key} (hv : MapV D m) {id : Int} {e : Key} (h1 : FitN id) (h2 : ∀ z, D.atKey (.int .i64 id) z = .held e) : m id = some e := by
  cases hm : m id with
  | some x =>
    have := (hv id h1 (.held e)).symm.trans (h2 _)
    rw [hm] at this
    simp only [DataW.held.injEq] at this
    rw [this]
  | none =>
    have := (hv id h1 (.map [])).symm.trans (h2 _)
    rw [hm] at this
    simp at this
theorem Coll.start {D : DataW Key} {m : Int → Option Key} (hv : MapV D m) : Coll m (Maps.has D) [] := by
  refine ⟨by simp, fun x => ⟨fun h => by simp at h, fun ⟨h1, h2, h3⟩ => ?_⟩⟩
  rw [map_has hv h1 h2] at h3
  cases h3
theorem Coll.step {D : DataW Key} {m : Int → Option Key} (hv : MapV D m) {left : Lit → Bool} {ss : List Itm} (h : Coll m left ss) {id : Int} {e : Key} (h1 : FitN id) (hl : left (.int .i64 id) = true) (hat : ∀ z, D.atKey (.int .i64 id) z = .held e) :
    Coll m (fun z => left z && !z.sameKey (.int .i64 id)) (ss ++ [(id, e)]) := by
  have hm := map_at hv h1 hat
  have hnew : ∀ x ∈ ss, x.1 ≠ id := fun x hx q => by
    have := ((h.2 x).1 hx).2.2
    rw [q, hl] at this
    cases this
  refine ⟨?_, fun x => ?_⟩
  · rw [List.map_append]
    refine List.nodup_append.2 ⟨h.1, by simp, fun a ha b hb => ?_⟩
    simp at hb
    subst hb
    obtain ⟨x, hx, rfl⟩ := List.mem_map.1 ha
    exact hnew x hx
  · rw [List.mem_append, h.2 x]
    simp only [List.mem_singleton]
    by_cases hy : x.1 = id
    · constructor
      · rintro (⟨a, b, c⟩ | rfl)
        · rw [hy, hl] at c; cases c
        · exact ⟨h1, hm, by simp [Lit.sameKey]⟩
      · rintro ⟨a, b, _⟩
        right
        rw [hy, hm] at b
        exact Prod.ext hy (Option.some.inj b).symm
    · have : (left (.int .i64 x.1) && !(Lit.int .i64 x.1).sameKey (.int .i64 id)) = left (.int .i64 x.1) := by simp [Lit.sameKey, hy]
      rw [this]
      constructor
      · rintro (q | rfl)
        · exact q
        · exact absurd rfl hy
      · exact .inl
theorem Coll.len {m : Int → Option Key} {left : Lit → Bool} {ss ts : List Itm} (h : Coll m left ss) (ht : ts.Pairwise (fun a b => a.1 < b.1)) (hm : ∀ x : Itm, x ∈ ts ↔ FitN x.1 ∧ m x.1 = some x.2) : ss.length ≤ ts.length := by
  classical
  have ns : ss.Nodup := (List.pairwise_map.1 h.1).imp (fun h e => h (by rw [e]))
  have nt : ts.Nodup := ht.imp (fun h e => by rw [e] at h; omega)
  have hp : ss.Perm (ts.filter (fun x => decide (x ∈ ss))) := by
    refine (List.perm_ext_iff_of_nodup ns (nt.filter _)).2 (fun x => ?_)
    rw [List.mem_filter, decide_eq_true_eq]
    refine ⟨fun hx => ⟨?_, hx⟩, fun q => q.2⟩
    have := (h.2 x).1 hx
    exact (hm x).2 ⟨this.1, this.2.1⟩
  rw [hp.length_eq]
  exact List.length_filter_le _ _

theorem row_no_iter {base : Nat} {e : TypeId} {k : Nat} {w : World} {v : Value} {n : Nat} {xs : List Value} (h : w.ownsRow base e k v n xs) {K : TypeId} {b r N : Nat} {D : DataW Key} {left : Lit → Bool} {cnt : Nat} (hr : w.ranges Tryz.prog K RK b r N D left cnt) : v.ownBlock ≠ some r := by
  intro q
  obtain ⟨es, clock, since, seen, c0, _, _, _, _, hh2, _⟩ := hr
  rcases h.2 with ⟨rfl, _⟩ | ⟨g', cap, cur, rfl, _, hh, _⟩
  · cases q
  · simp only [Value.ownBlock, Option.some.injEq] at q
    subst q
    rw [hh] at hh2
    cases hh2

set_option maxHeartbeats 8000000 in
set_option maxRecDepth 100000 in
theorem iorder_any (bm n : Nat) (D : DataW Key) (m : Int → Option Key) (ts : List Itm) (ht : ts.Pairwise (fun a b => a.1 < b.1)) (hmt : ∀ x : Itm, x ∈ ts ↔ FitN x.1 ∧ m x.1 = some x.2) (h12 : ts.length ≤ 12) (w : World)
    (hm : OwM w bm n D) (hv : MapV D m) :
    Calls Tryz.prog 58 #[.map (some bm)] w fun e w' => ∃ a2 n2 c2, e = .returned (.slice a2 n2 c2) ∧ OwI w.heap.size w' (.slice a2 n2 c2) ts ∧ Below w.heap.size w w' := by
  obtain ⟨i1, gi, gz0, gz1, gz2⟩ := info_parts Tryz.infoItem
  have HM := hide hm
  have HV := hide hv
  have HT := hide ht
  have HMT := hide hmt
  have hbm : bm < w.heap.size := hm.lt
  clear hm hv ht hmt
  go_enter Tryz.func58, Tryz.ntmps58
  go_wp2_with (first | (at_range; refine wpList_range_own _ rfl _ 83 rfl 3 67 klaw Tryz.underlying83 RK bm n D rfl (unhide HM) ?_; intro w0 hrg0 hg0 hs0; have HR0 := hide hrg0; have HG0 := hide hg0; clear hrg0 hg0 hs0))
  go_frame
  go_loopw [3] (fun v wr => ∃ (left : Lit → Bool) (cnt : Nat) (ss : List Itm) (a2 : Option Addr) (n2 c2 : Nat), v = .slice a2 n2 c2 ∧ wr.ranges Tryz.prog 3 RK bm w.heap.size n D left cnt ∧ OwI w.heap.size wr (.slice a2 n2 c2) ss ∧ Coll m left ss ∧ Below w.heap.size w wr) (fun _ wr => wr.rangeLeft bm w.heap.size)
  case atStart => exact ⟨_, _, [], none, 0, 0, rfl, unhide HR0, World.ownsRow_nil _ _ _ _, Coll.start (unhide HV), ⟨(unhide HG0).os, (unhide HG0).tape, (unhide HG0).output, (unhide HG0).size, fun i hi => (unhide HG0).block i hi (by simp)⟩⟩
  case round =>
    obtain ⟨left, cnt, ss, a2, n2, c2, rfl, hrg, hown, hcoll, hbel⟩ := hrel
    have HRG := hide hrg
    have HO := hide hown
    have HC := hide hcoll
    have HB := hide hbel
    have hsz := hbel.size
    have hlt := hrg.lt
    clear hrg hown hcoll hbel HR0 HG0
    go_wp2_with (first | (at_next; refine wpList_next_ranges _ rfl _ rfl 3 klaw RK (Value.int .i64) (fun e : Key => .agg #[.int .i64 e.1, .int .i64 e.2.1, .int .i64 e.2.2.1, .int .i64 e.2.2.2.1, .string e.2.2.2.2]) (fun key kl hkey => by obtain ⟨x, rfl, _⟩ := Maps.keyOf_int_inv Tryz.underlying3 hkey; exact ⟨x, rfl⟩) (fun v y hv => by obtain ⟨c, rfl, _⟩ := RK_inv hv; exact ⟨c, rfl⟩) bm w.heap.size n D left cnt rfl (unhide HRG) ?_ ?_))
    · intro hc0 hl0
      have hsm : ∀ x : Itm, x ∈ ss ↔ FitN x.1 ∧ m x.1 = some x.2 := fun x => by rw [(unhide HC).2 x, hl0]; simp
      have hlen := (unhide HC).len (unhide HT) (unhide HMT)
      have HSM := hide hsm
      have HND := hide (unhide HC).1
      clear hc0 hl0 hsm HC
      rcases (unhide HO).2 with ⟨hv, h0⟩ | ⟨g, cap, cur, hv, hb, hg, _⟩
      · simp only [Value.slice.injEq] at hv
        obtain ⟨rfl, rfl, rfl⟩ := hv
        obtain rfl : ss = [] := List.eq_nil_of_length_eq_zero h0
        obtain ⟨rfl, -⟩ := one_list (unhide HT) (unhide HMT) (unhide HND) (unhide HSM) (List.Perm.refl _) List.Pairwise.nil
        clear h0 hlen
        go_wp2_with (go_at_call 73; refine (sort_none _ _ _ _).mono ?_; rintro e w' ⟨rfl, rfl⟩)
        go_ret
        exact ⟨none, 0, 0, rfl, unhide HO, unhide HB⟩
      · simp only [Value.slice.injEq] at hv
        obtain ⟨rfl, rfl, rfl⟩ := hv
        have hgs : g < wr.heap.size := (Array.getElem?_eq_some_iff.1 hg).1
        clear hg
        go_wp2_with (go_at_call 73; refine (Tryz.sort_items encI encI_len oneI (fun x y : Itm => cmpI x.1 y.1) 74 swoI g 0 c2 ss.toArray _ (enters_of Tryz.func74 (by kernel_rfl) rfl) (cmpLays _ _ _ _) (holds_ow (by omega) encI_len (unhide HO) rfl) hgs (by simpa using Nat.le_trans hlen h12) lenAny).mono ?_; rintro e w' ⟨rfl, d', nn, os, hp, hs, rfl⟩)
        obtain ⟨he, hel⟩ := one_list (unhide HT) (unhide HMT) (unhide HND) (unhide HSM) (by simpa using perm_list hp) (sorted_list (by rw [hp.1]) hs)
        have HO1 : Hid (OwI w.heap.size (sortWorldK encI 6 wr g 0 nn d' os) (.slice (some ⟨g, 0, none⟩) ss.length c2) ts) := hide (he ▸ ow_sorted (by omega) encI_len (unhide HO) rfl d' (by rw [hp.1]; simp))
        have HG := hide (grown_sorted (enc := encI) (k := 6) (w := wr) (g := g) (m := nn) (os := os) d')
        generalize sortWorldK encI 6 wr g 0 nn d' os = W at HO1 HG ⊢
        clear hp hs
        go_wp2
        go_ret
        refine ⟨some ⟨g, 0, none⟩, ss.length, c2, rfl, unhide HO1, (Trn.of_grown (unhide HG)).below (unhide HB) hsz ?_⟩
        intro i q
        cases q
        exact hb
    · intro x c0 c1 c2' c3 c4 kl yd yp w1 cnt1 hkey hlk hvv hat hrg1 hlt1 hg1 hs1 hen
      obtain ⟨x', ex, rfl, hwx⟩ := Maps.keyOf_int_inv Tryz.underlying3 hkey
      cases ex
      have hvv2 : some ((.held (c0, c1, c2', c3, c4), []) : DataW Key × List MemPlace) = some (yd, yp) := hvv
      simp only [Option.some.injEq, Prod.mk.injEq] at hvv2
      obtain ⟨rfl, rfl⟩ := hvv2
      have hx := fit_wf hwx
      have HC1 := hide ((unhide HC).step (unhide HV) hx hlk hat)
      have hne := row_no_iter (unhide HO) (unhide HRG)
      have HO1 : Hid (OwI w.heap.size w1 (.slice a2 n2 c2) ss) := hide ((unhide HO).kept hg1 (.inr hne))
      have HB1 : Hid (Below w.heap.size w w1) := hide ((Trn.of_grown hg1).below (unhide HB) hsz (fun i q => by cases q; exact Nat.le_refl _))
      have HR1 := hide hrg1
      have HL : Hid (w1.rangeLeft bm w.heap.size < wr.rangeLeft bm w.heap.size) := hide (by rw [hrg1.left_eq, (unhide HRG).left_eq]; exact hlt1)
      have hw1 : w.heap.size < w1.heap.size := hrg1.lt
      have hn2 : Hid (n2 = ss.length) := hide ((unhide HO).rw encI_len).len.1
      have hn2l : n2 ≤ 12 := by have := unhide hn2; have := (unhide HC).len (unhide HT) (unhide HMT); omega
      clear hkey hlk hvv hat hrg1 hlt1 hg1 hs1 hne HO HB HRG HC hsz hlt hwx
      obtain ⟨V, hV⟩ : ∃ V, V = w1.alloc (.cells #[.int .i64 c0, .int .i64 c1, .int .i64 c2', .int .i64 c3, .string c4] 67) := ⟨_, rfl⟩
      have hV1 : w1.heap.size + 1 = V.heap.size := by rw [hV]; simp
      have HOV : Hid (OwI w.heap.size V (.slice a2 n2 c2) ss) := by rw [hV]; exact hide ((unhide HO1).alloc _)
      have HBV : Hid (Below w.heap.size w V) := by rw [hV]; exact hide ((unhide HB1).alloc (by omega) _)
      have HRV : Hid (V.ranges Tryz.prog 3 RK bm w.heap.size n D (fun z => left z && !z.sameKey (.int .i64 x)) cnt1) := by rw [hV]; exact hide ((unhide HR1).alloc _)
      have HLV : Hid (V.rangeLeft bm w.heap.size < wr.rangeLeft bm w.heap.size) := hide (by rw [(unhide HRV).left_eq, ← (unhide HR1).left_eq]; exact unhide HL)
      have HV0 := hide hV
      have HV1 := hide hV1
      clear hV hV1
      go_wp2_with (first | (at_builtin; have hV := unhide HV0; have hV1 := unhide HV1; clear HV0 HV1; rw [← hV, hV1]; clear hV; refine wpList_app1 encI_len (by omega) oneI 69 29 i1 _ 56 Tryz.underlying29 gi gz0 gz1 gz2 rfl (by omega) V (x, (c0, c1, c2', c3, c4)) rfl _ _ rfl w.heap.size _ ss n2 hn2 rfl (unhide HOV) rfl (by omega) (by omega) ?_; intro a2' c2'' w2 hO hG; have HO2 := hide hO; have HB2 := hide ((Trn.of_grown hG).below (unhide HBV) (by omega) (fun i q => (World.ownsRow.lt (unhide HOV) i q).1)); have HR2 := hide ((unhide HRV).kept hG (fun q => by have := World.ownsRow.lt (unhide HOV) _ q.symm; omega) (fun q => row_no_iter (unhide HOV) (unhide HRV) q.symm)); clear hO hG))
      go_roundw
      case rel => exact ⟨_, _, ss ++ [(x, (c0, c1, c2', c3, c4))], a2', n2 + 1, c2'', rfl, unhide HR2, unhide HO2, unhide HC1, unhide HB2⟩
      case measure => rw [(unhide HR2).left_eq, ← (unhide HRV).left_eq]; exact unhide HLV
end Go.Proofs.YtighiahppjekeabGreat

namespace Go.Proofs.YtighiahppjekeabGreat
open Go.RowKit Go.Maps

theorem asc_len {α : Type} : ∀ (xs : List (Int × α)) (lo : Int), lo ≤ 4 → xs.Pairwise (fun a b => a.1 < b.1) → (∀ x ∈ xs, lo < x.1 ∧ x.1 ≤ 4) → (xs.length : Int) ≤ 4 - lo
  | [], lo, h, _, _ => by simp; omega
  | x :: r, lo, h, hp, hb => by
    obtain ⟨h1, h2⟩ := List.pairwise_cons.1 hp
    have hx := hb x (by simp)
    have := asc_len r x.1 hx.2 h2 (fun y hy => ⟨h1 y hy, (hb y (by simp [hy])).2⟩)
    rw [List.length_cons]; omega
theorem OkS.len {xs : List Itm} {fs : List Flr} (h : OkS xs fs) : xs.length ≤ 5 ∧ fs.length ≤ 5 := by
  have a := asc_len xs (-1) (by omega) h.px (fun x hx => by have := h.ix x hx; omega)
  have b := asc_len fs (-1) (by omega) h.pf (fun x hx => by have := h.jf x hx; omega)
  omega
theorem OkS.fitJ {xs : List Itm} {fs : List Flr} (h : OkS xs fs) (k : Nat) (x : Itm) (hx : xs[k]? = some x) : FitN x.1 ∧ x.2.2.2.2.2.size ≤ 1048576 := by
  have := h.ix x (List.mem_of_getElem? hx)
  have s := okE_size this.2.2.1
  exact ⟨by unfold FitN; omega, by omega⟩
theorem joinF_fit {fs gs : List Flr} (k : Nat) (x : Flr) (hx : (joinF fs gs)[k]? = some x) : FitN x.1 := by
  have := mem_jF.1 (List.mem_of_getElem? hx)
  unfold FitN; omega
theorem grown_own {w w' : World} {b : Nat} (h : w.grownBy w' (some b)) {α : Type} {enc : α → List Value} {k : Nat} {e : TypeId} {base : Nat} {v : Value} {xs : List α} (ho : Ow enc k e base w v xs) (hl : ∀ i, v.ownBlock = some i → i < b) : Ow enc k e base w' v xs :=
  World.ownsRow.kept ho h (.inr (fun q => by have := hl _ q; omega))

set_option maxHeartbeats 8000000 in
set_option maxRecDepth 100000 in
theorem ijoin_any (ai : Option Addr) (ni ci : Nat) (xs : List Itm) (af : Option Addr) (nf cf : Nat) (fs : List Flr) (bi : Option Addr) (mi di : Nat) (ys : List Itm) (bf : Option Addr) (mf df : Nat) (gs : List Flr) (ok : Bool) (h0 : Hid ((okS xs fs && okS ys gs) = ok)) (n1 n2 : Nat) (hn1 : Hid ((jnI ok xs fs ys gs).length = n1)) (hn2 : Hid ((jnF ok fs gs).length = n2)) (w : World)
    (hni : ni ≤ 140737488351232) (hnf : nf ≤ 140737488351232) (hmi : mi ≤ 140737488351232) (hmf : mf ≤ 140737488351232) (hx : Rw encI 6 w (.slice ai ni ci) xs) (hf : Rw encF 2 w (.slice af nf cf) fs) (hy : Rw encI 6 w (.slice bi mi di) ys) (hg : Rw encF 2 w (.slice bf mf df) gs) :
    Calls Tryz.prog 30 #[.agg #[.slice ai ni ci, .slice af nf cf], .agg #[.slice bi mi di, .slice bf mf df]] w fun e w' => ∃ a1 c1 a2 c2, e = .returned (.tuple #[.agg #[.slice a1 n1 c1, .slice a2 n2 c2], .bool ok]) ∧ OwI w.heap.size w' (.slice a1 n1 c1) (jnI ok xs fs ys gs) ∧ OwF w.heap.size w' (.slice a2 n2 c2) (jnF ok fs gs) ∧ Below w.heap.size w w' := by
  have HX := hide hx
  have HY := hide hy
  have HF := hide hf
  have HG := hide hg
  obtain ⟨okA, hA⟩ : ∃ okA, okS xs fs = okA := ⟨_, rfl⟩
  obtain ⟨okB, hB⟩ : ∃ okB, okS ys gs = okB := ⟨_, rfl⟩
  have hk := unhide h0
  rw [hA, hB] at hk
  have HA := hide hA
  have HB := hide hB
  clear hx hy hf hg hA hB h0
  cases okA
  · obtain rfl : ok = false := hk.symm
    clear hk
    obtain rfl := unhide hn1
    obtain rfl := unhide hn2
    go_enter Tryz.func30, Tryz.ntmps30
    go_wp2_with fail
    refine (istateok_any ai ni ci xs af nf cf fs _ HA _ hni hnf ((((unhide HX).alloc _).alloc _).alloc _) ((((unhide HF).alloc _).alloc _).alloc _)).mono ?_
    rintro e w1 ⟨rfl, b1⟩
    obtain ⟨p0, p1, -⟩ := blk_cells2 ((b1.block _ (by simp)).trans (newB3 w _ _ _))
    have HB1 := hide (((((Below.refl w.heap.size w).alloc (Nat.le_refl _) _).alloc (by simp) _).alloc (by simp; omega) _).trans (b1.mono (by simp; omega)))
    have MR := hide ((b1.block _ (by simp)).trans (newB3 w _ _ _))
    obtain ⟨p0, p1, pf⟩ := blk_cells2 (unhide MR)
    clear b1
    go_wp2
    exact bodyPost_ret (v := .tuple #[.agg #[.slice none 0 0, .slice none 0 0], .bool false]) (by simp [results, Tryz.results30, go_sem, p0, p1]) rfl ⟨none, 0, none, 0, rfl, World.ownsRow_nil _ _ _ _, World.ownsRow_nil _ _ _ _, ((unhide HB1).setCell (p := ⟨w.heap.size + 1 + 1, 0, none⟩) (by simp <;> omega) _).setCell (p := ⟨w.heap.size + 1 + 1, 1, none⟩) (by simp <;> omega) _⟩
  · cases okB
    · obtain rfl : ok = false := hk.symm
      clear hk
      obtain rfl := unhide hn1
      obtain rfl := unhide hn2
      go_enter Tryz.func30, Tryz.ntmps30
      go_wp2_with fail
      refine (istateok_any ai ni ci xs af nf cf fs _ HA _ hni hnf ((((unhide HX).alloc _).alloc _).alloc _) ((((unhide HF).alloc _).alloc _).alloc _)).mono ?_
      rintro e w1 ⟨rfl, b1⟩
      obtain ⟨q0, q1, -⟩ := blk_cells2 ((b1.block _ (by simp)).trans (midB3 w _ _ _))
      have HB1 := hide (((((Below.refl w.heap.size w).alloc (Nat.le_refl _) _).alloc (by simp) _).alloc (by simp; omega) _).trans (b1.mono (by simp; omega)))
      have MR := hide ((b1.block _ (by simp)).trans (newB3 w _ _ _))
      have hz1 : w.heap.size + 1 + 1 < w1.heap.size := (Array.getElem?_eq_some_iff.mp (unhide MR)).1
      clear b1
      go_wp2_with fail
      refine (istateok_any bi mi di ys bf mf df gs _ HB _ hmi hmf ((unhide HY).later (unhide HB1)) ((unhide HG).later (unhide HB1))).mono ?_
      rintro e w2 ⟨rfl, b2⟩
      have HB2 := hide ((unhide HB1).trans (b2.mono (unhide HB1).size))
      obtain ⟨p0, p1, pf⟩ := blk_cells2 ((b2.block _ hz1).trans (unhide MR))
      clear b2
      go_wp2
      exact bodyPost_ret (v := .tuple #[.agg #[.slice none 0 0, .slice none 0 0], .bool false]) (by simp [results, Tryz.results30, go_sem, p0, p1]) rfl ⟨none, 0, none, 0, rfl, World.ownsRow_nil _ _ _ _, World.ownsRow_nil _ _ _ _, ((unhide HB2).setCell (p := ⟨w.heap.size + 1 + 1, 0, none⟩) (by simp <;> omega) _).setCell (p := ⟨w.heap.size + 1 + 1, 1, none⟩) (by simp <;> omega) _⟩
    · obtain rfl : ok = true := hk.symm
      clear hk
      have okA := (okS_iff xs fs).1 (unhide HA)
      have okB := (okS_iff ys gs).1 (unhide HB)
      have OA := hide okA
      have OB := hide okB
      have hni5 : ni ≤ 5 := by have := okA.len.1; have := (unhide HX).len.1; omega
      have hmi5 : mi ≤ 5 := by have := okB.len.1; have := (unhide HY).len.1; omega
      clear okA okB
      have hmm := @run_makeMap Tryz.prog
      go_enter Tryz.func30, Tryz.ntmps30
      go_wp2_with fail
      refine (istateok_any ai ni ci xs af nf cf fs _ HA _ hni hnf ((((unhide HX).alloc _).alloc _).alloc _) ((((unhide HF).alloc _).alloc _).alloc _)).mono ?_
      rintro e w1 ⟨rfl, b1⟩
      have MA := hide ((b1.block _ (by simp; omega)).trans (lowB3 w _ _ _))
      have MB := hide ((b1.block _ (by simp)).trans (midB3 w _ _ _))
      obtain ⟨q0, q1, -⟩ := blk_cells2 (unhide MB)
      have HB1 := hide (((((Below.refl w.heap.size w).alloc (Nat.le_refl _) _).alloc (by simp) _).alloc (by simp; omega) _).trans (b1.mono (by simp; omega)))
      have MR := hide ((b1.block _ (by simp)).trans (newB3 w _ _ _))
      have hz1 : w.heap.size + 1 + 1 < w1.heap.size := (Array.getElem?_eq_some_iff.mp (unhide MR)).1
      clear b1
      go_wp2_with fail
      refine (istateok_any bi mi di ys bf mf df gs _ HB _ hmi hmf ((unhide HY).later (unhide HB1)) ((unhide HG).later (unhide HB1))).mono ?_
      rintro e w2 ⟨rfl, b2⟩
      have HB2 := hide ((unhide HB1).trans (b2.mono (unhide HB1).size))
      have MR2 := hide ((b2.block _ hz1).trans (unhide MR))
      have hz2 : w.heap.size + 1 + 1 < w2.heap.size := (Array.getElem?_eq_some_iff.mp (unhide MR2)).1
      have MA2 := hide ((b2.block _ (by omega)).trans (unhide MA))
      have MB2 := hide ((b2.block _ (by omega)).trans (unhide MB))
      obtain ⟨r0, r1, -⟩ := blk_cells2 (unhide MA2)
      obtain ⟨s0, s1, -⟩ := blk_cells2 (unhide MB2)
      clear b2 q0 q1 MA MB MR HB1
      go_wp2_with fail
      refine (ijoinf_any _ af nf cf fs _ bf mf df gs _ hnf hmf ((unhide HF).later (unhide HB2)) ((unhide HG).later (unhide HB2))).mono ?_
      rintro e w3 ⟨a2, m2, c2, rfl, o2, b3⟩
      obtain rfl : m2 = n2 := ((o2.rw encF_len).len.1).trans (unhide hn2)
      have HB3 := hide ((unhide HB2).trans (b3.mono (unhide HB2).size))
      have MR3 := hide ((b3.block _ hz2).trans (unhide MR2))
      have MA3 := hide ((b3.block _ (by omega)).trans (unhide MA2))
      have MB3 := hide ((b3.block _ (by omega)).trans (unhide MB2))
      have O3 : Hid (OwF (w.heap.size + 1 + 1 + 1) w3 (.slice a2 m2 c2) (joinF fs gs)) := hide (Ow.base o2 (by omega))
      have hm2 : m2 ≤ 5 := by rw [(o2.rw encF_len).len.1]; exact jF_len fs gs 5
      have hz3 : w.heap.size + 1 + 1 < w3.heap.size := (Array.getElem?_eq_some_iff.mp (unhide MR3)).1
      obtain ⟨t0, t1, -⟩ := blk_cells2 (unhide MA3)
      have LO := hide (World.ownsRow.lt o2)
      clear b3 o2 hn2 r0 r1 s0 s1 MA2 MB2 MR2 HB2
      have nz3 : w.heap.size < w3.heap.size := by omega
      go_wp2_with fail
      obtain ⟨V, hV⟩ : ∃ V, V = w3.alloc (.map #[] 0) := ⟨_, rfl⟩
      rw [← hV]
      have BV : Below w3.heap.size w3 V := by rw [hV]; exact (Below.refl _ _).alloc (Nat.le_refl _) _
      have HMV : Hid (OwM V w3.heap.size 0 (.map [])) := by rw [hV]; exact hide (World.ownsMap_made _ _ _ _)
      have HBV := hide ((unhide HB3).trans (BV.mono (unhide HB3).size))
      have MRV := hide ((BV.block _ hz3).trans (unhide MR3))
      have MBV := hide ((BV.block _ (by omega)).trans (unhide MB3))
      have OV := hide ((unhide O3).later BV)
      have hzV : w.heap.size + 1 + 1 < V.heap.size := Nat.lt_of_lt_of_le hz3 BV.size
      have hbm : w3.heap.size < V.heap.size := (unhide HMV).lt
      generalize hbme : w3.heap.size = bm at *
      clear hV BV MA3 MR3 MB3 O3 t0 t1 HB3 hmm
      refine (ijoini_any bm 0 _ _ ai ni ci xs (unhide OA).fitJ (fun _ _ q => by cases q) _ (by omega) (by omega) (unhide HMV) MapV.nil ((unhide HX).later (unhide HBV))).mono ?_
      rintro e w4 ⟨rfl, ⟨n4, D4, hM4, hn4, hV4, hS4⟩, g4⟩
      have HM4 := hide hM4; have HV4 := hide hV4; have HS4 := hide hS4
      have MR4 := hide ((g4.block _ hzV (by simp; omega)).trans (unhide MRV))
      have MB4 := hide ((g4.block _ (by omega) (by simp; omega)).trans (unhide MBV))
      have O4 := hide (grown_own g4 (unhide OV) (fun i q => by have := unhide LO i q; omega))
      have HB4 := hide ((Trn.of_grown g4).below (unhide HBV) (unhide HBV).size (fun i q => by cases q; omega))
      have hz4 : w.heap.size + 1 + 1 < w4.heap.size := Nat.lt_of_lt_of_le hzV g4.size
      have nz4 : w.heap.size + 1 < w4.heap.size := by omega
      obtain ⟨u0, u1, -⟩ := blk_cells2 (unhide MB4)
      clear hM4 hV4 hS4 g4 MRV MBV OV HBV HMV
      go_wp2_with fail
      clear u0 u1
      refine (ijoini_any bm n4 _ _ bi mi di ys (unhide OB).fitJ (unhide HS4) _ (by omega) (by omega) (unhide HM4) (unhide HV4) ((unhide HY).later (unhide HB4))).mono ?_
      rintro e w5 ⟨rfl, ⟨n5, D5, hM5, hn5, hV5, hS5⟩, g5⟩
      have HM5 := hide hM5; have HV5 := hide hV5; have HS5 := hide hS5
      have MR5 := hide ((g5.block _ hz4 (by simp; omega)).trans (unhide MR4))
      have O5 := hide (grown_own g5 (unhide O4) (fun i q => by have := unhide LO i q; omega))
      have HB5 := hide ((Trn.of_grown g5).below (unhide HB4) (unhide HB4).size (fun i q => by cases q; omega))
      have hz5 : w.heap.size + 1 + 1 < w5.heap.size := Nat.lt_of_lt_of_le hz4 g5.size
      clear hM5 hV5 hS5 g5 MR4 MB4 O4 HB4 HM4 HV4 HS4
      go_wp2_with fail
      refine (idrop_any bm n5 _ _ a2 m2 c2 (joinF fs gs) joinF_fit (unhide HS5) _ (by omega) (unhide HM5) (unhide HV5) ((unhide O5).rw encF_len)).mono ?_
      rintro e w6 ⟨rfl, ⟨D6, hM6, hV6, _⟩, g6⟩
      have HM6 := hide hM6; have HV6 := hide hV6
      have MR6 := hide ((g6.block _ hz5 (by simp; omega)).trans (unhide MR5))
      have O6 := hide (grown_own g6 (unhide O5) (fun i q => by have := unhide LO i q; omega))
      have HB6 := hide ((Trn.of_grown g6).below (unhide HB5) (unhide HB5).size (fun i q => by cases q; omega))
      have hz6 : w.heap.size + 1 + 1 < w6.heap.size := Nat.lt_of_lt_of_le hz5 g6.size
      clear hM6 hV6 g6 MR5 O5 HB5 HM5 HV5 HS5
      go_wp2_with fail
      refine (iorder_any bm n5 _ _ (joinI xs fs ys gs) (jI_pair 5) (map_end (unhide OA) (unhide OB)) (Nat.le_trans (jI_len xs fs ys gs 5) (by omega)) _ (unhide HM6) (unhide HV6)).mono ?_
      rintro e w7 ⟨a1, m1, c1, rfl, o1, b7⟩
      obtain rfl : m1 = n1 := ((o1.rw encI_len).len.1).trans (unhide hn1)
      have HB7 := hide ((unhide HB6).trans (b7.mono (unhide HB6).size))
      obtain ⟨p0, p1, pf⟩ := blk_cells2 ((b7.block _ hz6).trans (unhide MR6))
      have O1 := hide (Ow.base (base' := w.heap.size + 1 + 1 + 1) o1 (by omega))
      have O2 := hide ((unhide O6).later b7)
      clear b7 o1 hn1 O6 HB6 MR6 HM6 HV6
      go_wp2
      exact bodyPost_ret (v := .tuple #[.agg #[.slice a1 m1 c1, .slice a2 m2 c2], .bool true]) (by simp [results, Tryz.results30, go_sem, p0, p1]) rfl ⟨a1, c1, a2, c2, rfl, Ow.base (((unhide O1).set ⟨w.heap.size + 1 + 1, 0, none⟩ (by simp <;> omega) _).set ⟨w.heap.size + 1 + 1, 1, none⟩ (by simp <;> omega) _) (by omega), Ow.base (((unhide O2).set ⟨w.heap.size + 1 + 1, 0, none⟩ (by simp <;> omega) _).set ⟨w.heap.size + 1 + 1, 1, none⟩ (by simp <;> omega) _) (by omega), ((unhide HB7).setCell (p := ⟨w.heap.size + 1 + 1, 0, none⟩) (by simp <;> omega) _).setCell (p := ⟨w.heap.size + 1 + 1, 1, none⟩) (by simp <;> omega) _⟩
end Go.Proofs.YtighiahppjekeabGreat

namespace Go.Proofs.YtighiahppjekeabGreat
open Go.RowKit

theorem grown_below9 {w w' : World} (row : Option Nat) (h : Below w.heap.size w w') : w.grownBy w' row := ⟨h.os, h.tape, h.output, h.size, fun i hi _ => h.block i hi⟩
theorem grown_set9 (w : World) (g o : Nat) (u : Value) : w.grownBy (w.setCell ⟨g, o, none⟩ u) (some g) :=
  ⟨rfl, rfl, rfl, by simp, fun i _ hne => heap_setCell_other _ _ _ _ (fun e => hne (by simp [e]))⟩
theorem grown_trans9 {w w1 w2 : World} {row : Option Nat} (h1 : w.grownBy w1 row) (h2 : w1.grownBy w2 row) : w.grownBy w2 row :=
  ⟨h2.os.trans h1.os, h2.tape.trans h1.tape, h2.output.trans h1.output, Nat.le_trans h1.size h2.size, fun i hi hne => (h2.block i (Nat.lt_of_lt_of_le hi h1.size) hne).trans (h1.block i hi hne)⟩
theorem Tryz.infoFl9 : (Tryz.prog.info? 48).map (fun i => (i.zero, i.size, i.bytes)) = some (some (.agg #[.int .i64 0, .int .i64 0]), 2, 16) := by kernel_rfl
set_option maxHeartbeats 2000000 in
set_option maxRecDepth 100000 in
theorem iwithF_any (base : Nat) (a : Option Addr) (n c : Nat) (fs : List Flr) (x : Flr) (q : Bool) (hq : Hid (inB x.2 1 1000 = q)) (w : World) (hn : n ≤ 100000) (hb : base ≤ w.heap.size) (h : Ow encF 2 48 base w (.slice a n c) fs) :
    Calls Tryz.prog 27 #[.slice a n c, .agg #[.int .i64 x.1, .int .i64 x.2]] w fun e w' => ∃ a' n' c', e = .returned (.slice a' n' c') ∧ Ow encF 2 48 base w' (.slice a' n' c') (fs ++ if q then [x] else []) ∧ w.grownBy w' (Value.slice a n c).ownBlock := by
  obtain ⟨i0, hi, hz0, hz1, hz2⟩ := info_parts Tryz.infoFl9
  have HZ2 := hide hz2
  have HO := hide h
  have HL := hide (h.rw encF_len).len.1
  have hm2 := fright_m (.int .i64 x.1) (.int .i64 x.2)
  clear h hz2
  go_enter Tryz.func27, Tryz.ntmps27
  go_wp2_with fail
  refine (fright_any x q hq _).mono ?_
  rintro e w1 ⟨rfl, b1⟩
  have hg1 := grown_below9 (Value.slice a n c).ownBlock (((Below.refl w.heap.size w).alloc (Nat.le_refl _) (.cells #[.int .i64 x.1, .int .i64 x.2] 48)).trans (b1.mono (by simp)))
  have HO1 := hide (((unhide HO).later (((Below.refl w.heap.size w).alloc (Nat.le_refl _) (.cells #[.int .i64 x.1, .int .i64 x.2] 48)).trans (b1.mono (by simp)))))
  have k1 := (b1.block _ (by simp)).trans (heap_alloc_new w _)
  have s1 : w.heap.size < w1.heap.size := by have := b1.size; simp at this; omega
  obtain ⟨p0, p1⟩ := blk_get2 k1
  have HG1 := hide hg1
  clear b1 k1 hg1 HO
  cases q
  · go_wp2
    go_ret
    exact ⟨_, _, _, rfl, by simpa using unhide HO1, unhide HG1⟩
  go_wp2_with (first | (at_builtin; refine wpList_app1 encF_len (by omega) oneF 48 53 i0 _ 16 Tryz.underlying53 hi hz0 hz1 (unhide HZ2) rfl (by omega) w1 x rfl _ _ rfl base _ _ n HL rfl (unhide HO1) rfl (by omega) (by omega) ?_))
  intro a' c' w2 hO hG
  have HO2 := hide hO
  have HG2 := hide (grown_trans9 (unhide HG1) hG)
  clear hO hG HO1 HG1 p0 p1
  go_wp2
  go_ret
  exact ⟨_, _, _, rfl, by simpa using unhide HO2, unhide HG2⟩
end Go.Proofs.YtighiahppjekeabGreat

namespace Go.Proofs.YtighiahppjekeabGreat
open Go.RowKit

abbrev Sta := List Itm × List Flr
abbrev Two := Value × Value
def encS (p : Two) : List Value := [p.1, p.2]
theorem encS_len (p : Two) : (encS p).length = 2 := rfl
theorem oneS (p : Two) (h1 : p.1.oneCell' = true) (h2 : p.2.oneCell' = true) : ∀ u ∈ encS p, u.oneCell' = true := by
  intro u hu
  simp [encS] at hu
  rcases hu with rfl | rfl
  · exact h1
  · exact h2
abbrev OwV (base : Nat) (w : World) (v : Value) (ps : List Two) : Prop := Ow encS 2 32 base w v ps

/-- The rows of the states, read. -/
structure Ins (w : World) (ps : List Two) (ss : List Sta) : Prop where
  len : ps.length = ss.length
  ins : ∀ (i : Nat) (p : Two) (s : Sta), ps[i]? = some p → ss[i]? = some s → Rw encI 6 w p.1 s.1 ∧ Rw encF 2 w p.2 s.2
theorem Ins.later {w w' : World} {ps : List Two} {ss : List Sta} (h : Ins w ps ss) (hb : Below w.heap.size w w') : Ins w' ps ss := ⟨h.len, fun i p s hp hs => ⟨(h.ins i p s hp hs).1.later hb, (h.ins i p s hp hs).2.later hb⟩⟩
/-- The slice value v reads as the states ss. -/
def RwS (w : World) (v : Value) (ss : List Sta) : Prop := ∃ ps, Rw encS 2 w v ps ∧ Ins w ps ss
theorem RwS.later {w w' : World} {v : Value} {ss : List Sta} (h : RwS w v ss) (hb : Below w.heap.size w w') : RwS w' v ss := by
  obtain ⟨ps, h1, h2⟩ := h
  exact ⟨ps, h1.later hb, h2.later hb⟩
theorem RwS.alloc {w : World} {v : Value} {ss : List Sta} (h : RwS w v ss) (o : Obj) : RwS (w.alloc o) v ss := h.later ((Below.refl _ _).alloc (Nat.le_refl _) o)
theorem RwS.len {w : World} {a : Option Addr} {n cap : Nat} {ss : List Sta} (h : RwS w (.slice a n cap) ss) : n = ss.length ∧ n ≤ cap := by
  obtain ⟨ps, h1, h2⟩ := h
  exact ⟨h1.len.1.trans h2.len, h1.len.2⟩
theorem Rw.form {α : Type} {enc : α → List Value} {k : Nat} {w : World} {v : Value} {xs : List α} (h : Rw enc k w v xs) : ∃ a n c, v = .slice a n c ∧ n = xs.length := by
  obtain ⟨a, cap, rfl, -⟩ := h
  exact ⟨a, _, cap, rfl, rfl⟩
/-- A state that is read: where it lies. -/
theorem RwS.at {w : World} {a : Option Addr} {n cap : Nat} {ss : List Sta} (h : RwS w (.slice a n cap) ss) {i : Nat} (hi : i < n) :
    ∃ xs fs ai ni ci af nf cf b off, ss[i]? = some (xs, fs) ∧ a = some ⟨b, off, none⟩ ∧ b < w.heap.size ∧ n ≤ cap ∧ w.cell? ⟨b, off + i * 2, none⟩ = some (.slice ai ni ci) ∧ w.cell? ⟨b, off + i * 2 + 1, none⟩ = some (.slice af nf cf) ∧ Rw encI 6 w (.slice ai ni ci) xs ∧ Rw encF 2 w (.slice af nf cf) fs := by
  obtain ⟨ps, h1, h2⟩ := h
  obtain ⟨⟨v1, v2⟩, b, off, hp, ha, hb, hcap, hc⟩ := h1.at hi
  have hl := h1.len.1
  obtain ⟨⟨xs, fs⟩, hs⟩ : ∃ s, ss[i]? = some s := ⟨_, List.getElem?_eq_getElem (by have := h2.len; omega)⟩
  obtain ⟨r1, r2⟩ := h2.ins i _ _ hp hs
  obtain ⟨ai, ni, ci, e1, -⟩ := r1.form
  obtain ⟨af, nf, cf, e2, -⟩ := r2.form
  simp only at r1 r2 e1 e2
  subst e1 e2
  exact ⟨xs, fs, ai, ni, ci, af, nf, cf, b, off, hs, ha, hb, hcap, hc 0 (by omega), hc 1 (by omega), r1, r2⟩

/-- How much there is in all. -/
def tot : List Sta → Nat
  | [] => 0
  | s :: r => s.1.length + s.2.length + tot r
theorem tot_app : ∀ (a b : List Sta), tot (a ++ b) = tot a + tot b
  | [], b => by simp [tot]
  | s :: r, b => by rw [List.cons_append, tot, tot, tot_app r b]; omega
theorem tot_at : ∀ {ss : List Sta} {i : Nat} {s : Sta}, ss[i]? = some s → tot (ss.take i) + (s.1.length + s.2.length) + tot (ss.drop (i + 1)) = tot ss
  | [], i, s, h => by simp at h
  | x :: r, 0, s, h => by simp at h; subst h; simp [tot]
  | x :: r, i + 1, s, h => by
    have := tot_at (ss := r) (i := i) (s := s) (by simpa using h)
    simp only [List.take_succ_cons, List.drop_succ_cons, tot]; omega
theorem take_at {α : Type} {xs : List α} {k : Nat} {x : α} (h : xs[k]? = some x) : xs.take (k + 1) = xs.take k ++ [x] := by
  rw [List.take_add_one, h]; rfl

/-- The inner rows of states of the call's own: in blocks from lo on, ahead of hi, no two in one block. -/
structure Pa (lo hi : Nat) (w : World) (ps : List Two) (ss : List Sta) : Prop where
  len : ps.length = ss.length
  ins : ∀ (i : Nat) (p : Two) (s : Sta), ps[i]? = some p → ss[i]? = some s → OwI lo w p.1 s.1 ∧ OwF lo w p.2 s.2
  top : ∀ p ∈ ps, ∀ g, (p.1.ownBlock = some g ∨ p.2.ownBlock = some g) → g < hi
  apt : ps.Pairwise fun p q => (∀ g, p.1.ownBlock = some g → q.1.ownBlock ≠ some g) ∧ (∀ g, p.2.ownBlock = some g → q.2.ownBlock ≠ some g)
theorem Pa.nil (lo hi : Nat) (w : World) : Pa lo hi w [] [] := ⟨rfl, fun i p s h => by simp at h, fun p h => by simp at h, .nil⟩
theorem Pa.later {lo hi : Nat} {w w' : World} {ps : List Two} {ss : List Sta} (h : Pa lo hi w ps ss) (hb : Below w.heap.size w w') : Pa lo hi w' ps ss :=
  ⟨h.len, fun i p s hp hs => ⟨(h.ins i p s hp hs).1.later hb, (h.ins i p s hp hs).2.later hb⟩, h.top, h.apt⟩
theorem Pa.rw {lo hi : Nat} {w : World} {ps : List Two} {ss : List Sta} (h : Pa lo hi w ps ss) : Ins w ps ss := ⟨h.len, fun i p s hp hs => ⟨(h.ins i p s hp hs).1.rw encI_len, (h.ins i p s hp hs).2.rw encF_len⟩⟩
theorem Pa.trn {S : Nat → Prop} {lo hi : Nat} {w w' : World} {ps : List Two} {ss : List Sta} (h : Pa lo hi w ps ss) (t : Trn S w w') (hs : ∀ i, S i → ¬ (lo ≤ i ∧ i < hi)) : Pa lo hi w' ps ss := by
  refine ⟨h.len, fun i p s hp hq => ?_, h.top, h.apt⟩
  obtain ⟨h1, h2⟩ := h.ins i p s hp hq
  exact ⟨t.own h1 (fun g hg k => hs g k ⟨(World.ownsRow.lt h1 _ hg).1, h.top p (List.mem_of_getElem? hp) g (.inl hg)⟩), t.own h2 (fun g hg k => hs g k ⟨(World.ownsRow.lt h2 _ hg).1, h.top p (List.mem_of_getElem? hp) g (.inr hg)⟩)⟩
/-- A write into a block of another type. -/
theorem Ow.otherT {α : Type} {enc : α → List Value} {k : Nat} {E T : TypeId} {base : Nat} {w w' : World} {v : Value} {xs : List α} {b : Option Nat} (h : Ow enc k E base w v xs) (hb : ∀ g, b = some g → ∃ cs fz, w.heap[g]? = some (.cells cs T fz)) (hne : E ≠ T) (hg : w.grownBy w' b) : Ow enc k E base w' v xs := by
  refine (Trn.of_grown hg).own h (fun i hi q => ?_)
  obtain ⟨cs, fz, hb⟩ := hb i q
  rcases h.2 with ⟨rfl, _⟩ | ⟨g', cap, cur, rfl, _, hh, _⟩
  · cases hi
  · simp only [Value.ownBlock, Option.some.injEq] at hi
    subst hi
    rw [hh] at hb
    simp at hb
    exact hne hb.2.1
theorem Pa.other {lo hi : Nat} {w w' : World} {ps : List Two} {ss : List Sta} {b : Option Nat} (h : Pa lo hi w ps ss) (hb : ∀ g, b = some g → ∃ cs fz, w.heap[g]? = some (.cells cs 32 fz)) (hg : w.grownBy w' b) : Pa lo hi w' ps ss :=
  ⟨h.len, fun i p s hp hs => ⟨(h.ins i p s hp hs).1.otherT hb (by decide) hg, (h.ins i p s hp hs).2.otherT hb (by decide) hg⟩, h.top, h.apt⟩
theorem Pa.snoc {lo hi B hi' : Nat} {w : World} {ps : List Two} {ss : List Sta} {p : Two} {s : Sta} (h : Pa lo hi w ps ss) (h1 : OwI B w p.1 s.1) (h2 : OwF B w p.2 s.2) (hB : hi ≤ B) (hlo : lo ≤ B) (hh : w.heap.size ≤ hi') (hhi : hi ≤ hi') : Pa lo hi' w (ps ++ [p]) (ss ++ [s]) := by
  refine ⟨by simp [h.len], fun i q t hq ht => ?_, fun q hq g hg => ?_, ?_⟩
  · by_cases hi : i < ps.length
    · rw [List.getElem?_append_left hi] at hq
      rw [List.getElem?_append_left (by rw [← h.len]; exact hi)] at ht
      exact h.ins i q t hq ht
    · rw [List.getElem?_append_right (by omega)] at hq
      rw [List.getElem?_append_right (by rw [← h.len]; omega), ← h.len] at ht
      have e : i - ps.length = 0 := by
        have := (List.getElem?_eq_some_iff.1 hq).1
        simp at this; omega
      rw [e] at hq ht
      simp at hq ht
      subst hq ht
      exact ⟨h1.base hlo, h2.base hlo⟩
  · rcases List.mem_append.1 hq with hq | hq
    · have := h.top q hq g hg; omega
    · simp at hq; subst hq
      rcases hg with hg | hg
      · have := (World.ownsRow.lt h1 _ hg).2; omega
      · have := (World.ownsRow.lt h2 _ hg).2; omega
  · refine List.pairwise_append.2 ⟨h.apt, by simp, fun q hq r hr => ?_⟩
    simp at hr
    subst hr
    refine ⟨fun g hg k => ?_, fun g hg k => ?_⟩
    · have a := h.top q hq g (.inl hg)
      have b := (World.ownsRow.lt h1 _ k).1
      omega
    · have a := h.top q hq g (.inr hg)
      have b := (World.ownsRow.lt h2 _ k).1
      omega
theorem Pa.mono {lo hi lo' hi' : Nat} {w : World} {ps : List Two} {ss : List Sta} (h : Pa lo hi w ps ss) (h1 : lo' ≤ lo) (h2 : hi ≤ hi') : Pa lo' hi' w ps ss :=
  ⟨h.len, fun i p s hp hs => ⟨(h.ins i p s hp hs).1.base h1, (h.ins i p s hp hs).2.base h1⟩, fun p hp g hg => Nat.lt_of_lt_of_le (h.top p hp g hg) h2, h.apt⟩

/-- A row of states of the call's own, with all that is in it. -/
structure OwS (lo hi : Nat) (w : World) (v : Value) (ss : List Sta) : Prop where
  own : ∃ ps, OwV lo w v ps ∧ Pa lo hi w ps ss
  top : ∀ g, v.ownBlock = some g → g < hi
theorem OwS.later {lo hi : Nat} {w w' : World} {v : Value} {ss : List Sta} (h : OwS lo hi w v ss) (hb : Below w.heap.size w w') : OwS lo hi w' v ss := by
  obtain ⟨ps, h1, h2⟩ := h.own
  exact ⟨⟨ps, h1.later hb, h2.later hb⟩, h.top⟩
theorem OwS.rw {lo hi : Nat} {w : World} {v : Value} {ss : List Sta} (h : OwS lo hi w v ss) : RwS w v ss := by
  obtain ⟨ps, h1, h2⟩ := h.own
  exact ⟨ps, h1.rw encS_len, h2.rw⟩
theorem OwS.mono {lo hi lo' hi' : Nat} {w : World} {v : Value} {ss : List Sta} (h : OwS lo hi w v ss) (h1 : lo' ≤ lo) (h2 : hi ≤ hi') : OwS lo' hi' w v ss := by
  obtain ⟨ps, k1, k2⟩ := h.own
  exact ⟨⟨ps, k1.base h1, k2.mono h1 h2⟩, fun g hg => Nat.lt_of_lt_of_le (h.top g hg) h2⟩
theorem OwS.trn {S : Nat → Prop} {lo hi : Nat} {w w' : World} {v : Value} {ss : List Sta} (h : OwS lo hi w v ss) (t : Trn S w w') (hs : ∀ i, S i → ¬ (lo ≤ i ∧ i < hi)) : OwS lo hi w' v ss := by
  obtain ⟨ps, k1, k2⟩ := h.own
  exact ⟨⟨ps, t.own k1 (fun i hi q => hs i q ⟨(World.ownsRow.lt k1 _ hi).1, h.top i hi⟩), k2.trn t hs⟩, h.top⟩

/-- What a log is asked for. -/
def okL (ss : List Sta) : Bool := ss.all fun s => okS s.1 s.2
def lokN (c f : Int) (n : Nat) (q : Bool) : Bool := inB c 1 8 && decide ((n : Int) ≤ c) && inB f 0 100000 && decide (f + (n : Int) ≤ 100000) && q
def lok (c f : Int) (ss : List Sta) : Bool := lokN c f ss.length (okL ss)
def lsq (c f : Int) (ss : List Sta) : Int := if lok c f ss = true then f + (ss.length : Int) else 0
theorem okL_no {ss : List Sta} {k : Nat} {s : Sta} (h : ss[k]? = some s) (hs : okS s.1 s.2 = false) : okL ss = false := by
  rcases Bool.eq_false_or_eq_true (okL ss) with q | q
  · rw [okL, List.all_eq_true] at q
    have := q s (List.mem_of_getElem? h)
    rw [hs] at this; cases this
  · exact q
theorem okL_next {ss : List Sta} {k : Nat} {s : Sta} (h : ss[k]? = some s) (hs : okS s.1 s.2 = true) (hk : okL (ss.take k) = true) : okL (ss.take (k + 1)) = true := by
  rw [take_at h, okL, List.all_append, ← okL, hk]; simp [hs]
theorem okL_at {ss : List Sta} (h : okL ss = true) {k : Nat} {s : Sta} (hs : ss[k]? = some s) : okS s.1 s.2 = true := by
  rw [okL, List.all_eq_true] at h
  exact h s (List.mem_of_getElem? hs)
theorem lok_iff {c f : Int} {ss : List Sta} : lok c f ss = true ↔ (1 ≤ c ∧ c ≤ 8) ∧ (ss.length : Int) ≤ c ∧ (0 ≤ f ∧ f ≤ 100000) ∧ f + (ss.length : Int) ≤ 100000 ∧ okL ss = true := by
  simp [lok, lokN, inB, and_assoc]
end Go.Proofs.YtighiahppjekeabGreat
