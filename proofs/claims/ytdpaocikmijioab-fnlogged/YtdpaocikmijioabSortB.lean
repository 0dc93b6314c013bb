/-
  The library's sort of items, at a row that the call itself owns. No statement is proved here.
-/
import Derived.Test.YtdpaocikmijioabSortL
import Derived.Test.YtdpaocikmijioabStM
import Derived.Test.YtdpaocikmijioabIJnP
namespace Go.Proofs.Ytdpaocikmijioab
open Go.RowKit Go.Maps Go.Sort

theorem flat_list {α : Type} [Inhabited α] {enc : α → List Value} {k : Nat} (h0 : 0 < k) (hk : ∀ x, (enc x).length = k) (d : Array α) : (flatK enc k d).toList = d.toList.flatMap enc := by
  apply List.ext_getElem?
  intro m
  obtain ⟨e, hr⟩ := div_parts h0 m
  by_cases hm : m < d.size * k
  · have hq : m / k < d.size := Nat.div_lt_of_lt_mul (by rw [Nat.mul_comm]; exact hm)
    have e1 : (flatK enc k d).toList[m]? = some ((enc d[m / k]!)[m % k]!) := by
      rw [← get_flatK enc k d m hm, Array.getElem?_toList, Array.getElem?_eq_getElem (by simpa using hm), getElem!_pos _ m (by simpa using hm)]
    rw [e1]
    conv => rhs; rw [e]
    have hd : d.toList[m / k]? = some d[m / k]! := by
      rw [Array.getElem?_toList, Array.getElem?_eq_getElem hq, getElem!_pos d (m / k) hq]
    rw [flat_at hk _ (m / k) d[m / k]! (m % k) hd hr]
    have hl : m % k < (enc d[m / k]!).length := by rw [hk]; exact hr
    rw [List.getElem?_eq_getElem hl, getElem!_pos _ (m % k) hl]
  · rw [flat_none hk _ _ (by simpa using hm), List.getElem?_eq_none (by simpa using hm)]

theorem holds_ow {α : Type} [Inhabited α] {enc : α → List Value} {k : Nat} (h0 : 0 < k) (hk : ∀ x, (enc x).length = k) {e : TypeId} {base : Nat} {w : World} {g n cap : Nat} {xs : List α} (h : Ow enc k e base w (.slice (some ⟨g, 0, none⟩) n cap) xs) (hn : n = xs.length) : HoldsK enc k w g 0 xs.toArray := by
  subst hn
  intro j hj
  have hj' : j < xs.length * k := by simpa using hj
  refine ⟨?_, ?_⟩
  · rw [Nat.zero_add, World.ownsRow.cellAt h j hj', ← (show xs.toArray.toList = xs from rfl), ← flat_list h0 hk xs.toArray, Array.getElem?_toList, Array.getElem?_eq_getElem (by simpa using hj), getElem!_pos _ j (by simpa using hj)]
    rfl
  · rw [Nat.zero_add]; exact World.ownsRow.frozenAt h j

theorem heap_sorted6 {w : World} {g m : Nat} {os : Array Obj} {cur : Array Value} {e : TypeId} {fr : Nat × Nat} (F : Array Value) (hb : w.heap[g]? = some (.cells cur e fr)) :
    (grow (putRow id (Sort.ahead w m) g 0 F) os).heap[g]? = some (.cells (putCells id 0 F cur) e fr) := by
  have hg : g < w.heap.size := (Array.getElem?_eq_some_iff.1 hb).1
  rw [heap_grow_old _ _ (by simpa using hg)]
  simp [putRow, mapBlock, Sort.ahead, Array.getElem?_modify, hb, onCells]
theorem grown_sorted {α : Type} {enc : α → List Value} {k : Nat} [Inhabited α] {w : World} {g m : Nat} {os : Array Obj} (d : Array α) : w.grownBy (sortWorldK enc k w g 0 m d os) (some g) := by
  refine ⟨rfl, rfl, rfl, by simp [sortWorldK, putRowK], fun j hj hne => ?_⟩
  unfold sortWorldK putRowK
  rw [heap_grow_old _ _ (by simpa using hj)]
  have : g ≠ j := fun e => hne (by rw [e])
  simp [putRow, mapBlock, Sort.ahead, Array.getElem?_modify, this]
theorem take_put (cur F : Array Value) (h : F.size ≤ cur.size) : (putCells id 0 F cur).toList.take F.size = F.toList := by
  apply List.ext_getElem?
  intro j
  by_cases hj : j < F.size
  · rw [List.getElem?_take_of_lt hj, Array.getElem?_toList, Array.getElem?_toList]
    simp [putCells, hj, show j < cur.size by omega]
  · rw [List.getElem?_eq_none (by simp; omega), List.getElem?_eq_none (by simpa using hj)]
theorem ow_sorted {α : Type} [Inhabited α] {enc : α → List Value} {k : Nat} (h0 : 0 < k) (hk : ∀ x, (enc x).length = k) {e : TypeId} {base : Nat} {w : World} {g n cap m : Nat} {os : Array Obj} {xs : List α} (h : Ow enc k e base w (.slice (some ⟨g, 0, none⟩) n cap) xs) (hn : n = xs.length) (d : Array α) (hd : d.size = n) :
    Ow enc k e base (sortWorldK enc k w g 0 m d os) (.slice (some ⟨g, 0, none⟩) n cap) d.toList := by
  have hl : d.toList.length = n := by simpa using hd
  rcases h.2 with ⟨hv, _⟩ | ⟨g', cap', cur, hv, hb, hg, hnc, hcm, hcs, htake⟩
  · simp at hv
  · simp only [Value.slice.injEq, Option.some.injEq, Addr.mk.injEq, and_true] at hv
    obtain ⟨rfl, hn2, rfl⟩ := hv
    unfold Ow
    rw [hl]
    refine ⟨by rw [flat_len hk, hl], .inr ⟨g, cap, _, rfl, hb, heap_sorted6 _ hg, by omega, hcm, by simp [putCells, hcs], ?_⟩⟩
    have hsz : (flatK enc k d).size = n * k := by rw [size_flatK, hd]
    rw [← hsz, take_put cur _ (by rw [hsz, hcs]; exact Nat.mul_le_mul_right _ (by omega)), flat_list h0 hk]

theorem cmpI_lt (x y : Itm) : ltOf (fun x y : Itm => cmpI x.1 y.1) x y = decide (x.1 < y.1) := by
  unfold ltOf cmpI
  by_cases h1 : x.1 < y.1
  · simp [h1]
  · by_cases h2 : y.1 < x.1 <;> simp [h1, h2]
theorem swoI : SWO (ltOf fun x y : Itm => cmpI x.1 y.1) where
  irrefl x := by rw [cmpI_lt]; simp
  trans x y z h1 h2 := by rw [cmpI_lt] at *; simp at *; omega
  ntrans x y z h1 h2 := by rw [cmpI_lt] at *; simp at *; omega

set_option maxHeartbeats 1000000 in
theorem closure_any (x y : Itm) (W : World) : Calls Try.prog 80 #[.agg #[.int .i64 x.1, .int .i64 x.2.1, .int .i64 x.2.2.1, .int .i64 x.2.2.2.1, .int .i64 x.2.2.2.2.1, .string x.2.2.2.2.2], .agg #[.int .i64 y.1, .int .i64 y.2.1, .int .i64 y.2.2.1, .int .i64 y.2.2.2.1, .int .i64 y.2.2.2.2.1, .string y.2.2.2.2.2]] W fun e w' => e = .returned (.int .i64 (cmpI x.1 y.1)) ∧ ∃ q os', w' = grow (W.drewN q) os' := by
  go_enter Try.func80, Try.ntmps80
  go_wp2_with fail
  refine (cmpi_is x.1 y.1 _).mono ?_
  rintro e _ ⟨rfl, rfl⟩
  go_wp2
  go_ret
  exact ⟨rfl, 0, _, by rw [alloc_eq_grow, alloc_eq_grow, grow_grow]; rfl⟩
theorem cmpLays (blk off size : Nat) (w : World) : CmpLays Try.prog 80 #[] encI 6 (fun x y => cmpI x.1 y.1) blk off size w :=
  fun _ _ _ _ x y => closure_any x y _
theorem lenAny (n : Nat) (W : World) (h : n ≤ 12) : Calls Try.prog 102 #[.int .u64 n] W fun e w' => (∃ l : Int, e = .returned (.int .i64 l)) ∧ w' = W :=
  (Try.bits_Len n W (by omega) (by omega)).mono fun _ _ ⟨he, hw⟩ => ⟨⟨_, he⟩, hw⟩

set_option maxHeartbeats 1000000 in
theorem ins_none (p : Option Addr) (cap : Nat) (fv : Value) (w : World) :
    Calls Try.prog 114 #[.slice p 0 cap, .int .i64 0, .int .i64 0, fv] w fun e w' => e = .returned (.tuple #[]) ∧ w' = w := by
  go_enter Try.func114, Try.ntmps114
  go_wp2
  refine wp_loop_rounds 1 ?_
  rw [rounds_succ]
  go_wp2
  go_end0
  exact ⟨rfl, rfl⟩
set_option maxHeartbeats 1000000 in
theorem pdq_none (p : Option Addr) (cap : Nat) (lim : Int) (fv : Value) (w : World) :
    Calls Try.prog 101 #[.slice p 0 cap, .int .i64 0, .int .i64 0, .int .i64 lim, fv] w fun e w' => e = .returned (.tuple #[]) ∧ w' = w := by
  go_enter Try.func101, Try.ntmps101
  go_wp2
  refine wp_loop_rounds 1 ?_
  rw [rounds_succ]
  go_wp2_with (go_at_call 114; refine (ins_none _ _ _ _).mono ?_; rintro e w' ⟨rfl, rfl⟩)
  (try simp only [Exit.inBlock, Exit.then]); refine bodyPost_ret (results_none rfl _ _ _) rfl ?_
  exact ⟨rfl, rfl⟩
set_option maxHeartbeats 1000000 in
theorem sort_none (p : Option Addr) (cap : Nat) (fv : Value) (w : World) :
    Calls Try.prog 79 #[.slice p 0 cap, fv] w fun e w' => e = .returned (.tuple #[]) ∧ w' = w := by
  have hl : ∀ W, Calls Try.prog 102 #[.int .u64 0] W fun e w' => e = .returned (.int .i64 (Lib.bitLen 0 : Nat)) ∧ w' = W := fun W => Try.bits_Len 0 W (by omega) (by omega)
  go_enter Try.func79, Try.ntmps79
  go_wp2_with (first | (go_at_call 102; refine (hl _).mono ?_; rintro e w' ⟨rfl, rfl⟩) | (go_at_call 101; refine (pdq_none _ _ _ _ _).mono ?_; rintro e w' ⟨rfl, rfl⟩))
  go_end0
  exact ⟨rfl, rfl⟩

theorem sorted_list {d : Array Itm} {n : Nat} (hn : d.size = n) (h : SortedIn (ltOf fun x y : Itm => cmpI x.1 y.1) 0 n d) : d.toList.Pairwise (fun a b => a.1 ≤ b.1) := by
  rw [List.pairwise_iff_getElem]
  intro i j hi hj hij
  have := h i j (Nat.zero_le _) hij (by simp at hj; omega)
  rw [cmpI_lt, getElem!_pos d j (by simpa using hj), getElem!_pos d i (by simpa using hi)] at this
  simp at this
  simpa using this
theorem perm_list {d d' : Array Itm} (h : PermIn 0 d.size d d') : d'.toList.Perm d.toList := by
  obtain ⟨h1, _, h3⟩ := h
  have e : d'.extract 0 d.size = d' := by rw [← h1]; simp
  rw [e] at h3
  simpa using h3
/-- Sorted, by numbers of which none stands twice, it is one list. -/
theorem one_list {m : Int → Option Key} {ts ss rs : List Itm} (ht : ts.Pairwise (fun a b => a.1 < b.1)) (hm : ∀ x : Itm, x ∈ ts ↔ FitN x.1 ∧ m x.1 = some x.2) (hs : (ss.map (·.1)).Nodup) (hsm : ∀ x : Itm, x ∈ ss ↔ FitN x.1 ∧ m x.1 = some x.2)
    (hp : rs.Perm ss) (hr : rs.Pairwise (fun a b => a.1 ≤ b.1)) : rs = ts ∧ ss.length = ts.length := by
  have nt : ts.Nodup := ht.imp (fun h e => by rw [e] at h; omega)
  have ns : ss.Nodup := (List.pairwise_map.1 hs).imp (fun h e => h (by rw [e]))
  have pst : ss.Perm ts := (List.perm_ext_iff_of_nodup ns nt).2 (fun x => (hsm x).trans (hm x).symm)
  refine ⟨List.Perm.eq_of_pairwise ?_ hr (ht.imp (fun h => by omega)) (hp.trans pst), pst.length_eq⟩
  intro a b ha hb h1 h2
  have qa := (hsm a).1 (hp.mem_iff.1 ha)
  have qb := (hm b).1 hb
  have e : a.1 = b.1 := by omega
  have e2 : a.2 = b.2 := by
    have := qa.2
    rw [e, qb.2] at this
    exact (Option.some.inj this).symm
  exact Prod.ext e e2
end Go.Proofs.Ytdpaocikmijioab
