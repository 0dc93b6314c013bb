/-
  A row of bytes that is made a text: what is read, and what is the call's own. No statement is proved here.
  Bytes put together out of eight rows: the shelf's Grow and Concat of rows of bytes. No statement is proved here.
  What a message's parts are written as: the contracts of the region in which the program puts a message's bytes together, each in whatever later world. No statement is proved here.
  A statement that draws its order, walked once for each operation: what an operation gives holds in whatever later world, so no order has to be told from another. No program here, no statement is proved here.
  The bytes of a message as the program writes them: impl.MsgBytes. No statement is proved here.
-/
import Derived.Test.YtjlocbimkfocnaaGreatTrBS
import Derived.Test.YtjlocbimkfocnaaGreatBase
import Derived.Test.YtjlocbimkfocnaaGreatMsBt
import Derived.Lib.AppendZeros
import Derived.Test.YtjlocbimkfocnaaGreatMsG
import Derived.Deep.RegionHeld3
import Derived.Lib.SmallJoins
namespace Go.Proofs.YtjlocbimkfocnaaGreat
open Go.RowKit

theorem convS {w : World} {a : Option Addr} {cap : Nat} {xs : List Int} {y : ByteArray} (hy : Hid (strOfNums xs = y)) (hne : xs ≠ []) (h : Seg w (.slice a xs.length cap) xs) : (convert 22 9 (.slice a xs.length cap)).run Tryz.prog w = .ok (.string y) w := by
  rw [← unhide hy]
  obtain ⟨a', cap', e, hcap, hs⟩ := h
  simp only [Value.slice.injEq, true_and] at e
  obtain ⟨rfl, rfl⟩ := e
  rcases hs with h | ⟨g, off, rfl, _, hc⟩
  · exact absurd h hne
  · exact run_convert_bytes_arg (P := Tryz.prog) w 22 5 Tryz.underlying22 Tryz.underlying5 g off xs.length cap xs rfl hc 9 Tryz.underlying9
theorem convO {w : World} {B : Nat} {v : Value} {xs : List Int} {y : ByteArray} (hy : Hid (strOfNums xs = y)) (h : OwB B w v xs) : (convert 22 9 v).run Tryz.prog w = .ok (.string y) w := by
  rw [← unhide hy]
  obtain ⟨a, cap, rfl, hcap, hs⟩ := seg_of_owns h
  rcases h.2 with ⟨h1, h0⟩ | ⟨g, cap', cur, h1, _⟩
  · simp only [Value.slice.injEq] at h1
    obtain ⟨rfl, h2, rfl⟩ := h1
    have : xs = [] := List.eq_nil_of_length_eq_zero h2
    subst this
    exact run_convert_bytes_nil (P := Tryz.prog) w 22 5 Tryz.underlying22 Tryz.underlying5 _ _ 9 Tryz.underlying9
  · simp only [Value.slice.injEq] at h1
    obtain ⟨rfl, _, _⟩ := h1
    refine run_convert_bytes_arg (P := Tryz.prog) w 22 5 Tryz.underlying22 Tryz.underlying5 g 0 xs.length cap xs rfl (fun i hi => ?_) 9 Tryz.underlying9
    rcases hs with hs | ⟨b, off, he, _, hc⟩
    · subst hs; simp at hi
    · simp only [Option.some.injEq, Addr.mk.injEq] at he
      obtain ⟨rfl, rfl, _⟩ := he
      exact hc i hi
end Go.Proofs.YtjlocbimkfocnaaGreat

namespace Go.Proofs.YtjlocbimkfocnaaGreat
open Go.RowKit

set_option maxHeartbeats 2000000 in
set_option maxRecDepth 100000 in
theorem igrow_any (n : Nat) (w : World) (hn : n ≤ 100000000) :
    Calls Tryz.prog 75 #[.slice none 0 0, .int .i64 (n : Int)] w fun e w' => ∃ v, e = .returned v ∧ OwB w.heap.size w' v [] ∧ Below w.heap.size w w' := by
  obtain ⟨i0, hi, hz0, hz1, hz2⟩ := info_parts Tryz.infoByte
  by_cases h0 : n = 0
  · subst h0
    go_enter Tryz.func75, Tryz.ntmps75
    go_wp2
    go_ret
    exact ⟨_, rfl, OwB.nil _ _, Below.refl _ _⟩
  · have happ := Lib.run_append_nil_zeros (P := Tryz.prog) w 22 3 22 5 i0 (.int .u8 0) .i64 .i64 Tryz.underlying22 Tryz.underlying3 hi hz0 n (by omega) (by omega) (by omega) (by rw [hz2]; omega)
    generalize hcap : grownCap w n 0 5 = cap2 at happ
    have hcapge : n ≤ cap2 := by rw [← hcap]; exact grownCap_ge w _ 0 5
    have hcaple : cap2 ≤ maxLen := by rw [← hcap]; exact grownCap_le_maxLen w _ 0 5 (by unfold maxLen; omega)
    generalize hZ : (Builtin.zeroCells (Value.int .u8 0).cells n ++ Builtin.zeroCells (Value.int .u8 0).cells (cap2 - n)) = Z at happ
    have hZs : Z.size = cap2 := by rw [← hZ]; simp [size_zeroCells, Value.cells]; omega
    clear hcap hZ hz0 hz1 hz2 hi
    go_enter Tryz.func75, Tryz.ntmps75
    go_wp2_with (at_builtin; refine Lib.wpList_append_run _ rfl _ _ _ _ rfl _ _ rfl rfl _ _ happ ?_)
    go_ret
    refine ⟨_, rfl, ⟨by simp, .inr ⟨w.heap.size, cap2, Z, rfl, Nat.le_refl _, heap_alloc_new w _, Nat.zero_le _, hcaple, by omega, by simp⟩⟩, ?_⟩
    exact ⟨rfl, rfl, rfl, by simp, fun k hk => Below.heap_alloc w _ k hk⟩
/-- A row of bytes that is read: nil, or a row in one block. -/
def RdB (w : World) (v : Value) (bs : List Int) : Prop :=
  (v = .slice none 0 0 ∧ bs = []) ∨ ∃ g off cap, v = .slice (some ⟨g, off, none⟩) bs.length cap ∧ g < w.heap.size ∧ ∀ j, j < bs.length → w.cell? ⟨g, off + j, none⟩ = some (.int .u8 (bs.getD j 0))
theorem RdB.later {w w' : World} {v : Value} {bs : List Int} (h : RdB w v bs) (hb : Below w.heap.size w w') : RdB w' v bs := by
  rcases h with h | ⟨g, off, cap, h1, h2, h3⟩
  · exact .inl h
  · exact .inr ⟨g, off, cap, h1, Nat.lt_of_lt_of_le h2 hb.size, fun j hj => (hb.cell (p := ⟨g, off + j, none⟩) h2).trans (h3 j hj)⟩
theorem OwB.rdb {w : World} {B : Nat} {v : Value} {bs : List Int} (h : OwB B w v bs) : RdB w v bs := by
  rcases h.2 with ⟨q1, q2⟩ | ⟨g, cap, cur, q1, q2, q3, -⟩
  · exact .inl ⟨q1, List.eq_nil_of_length_eq_zero q2⟩
  · refine .inr ⟨g, 0, cap, q1, (Array.getElem?_eq_some_iff.1 q3).1, fun j hj => ?_⟩
    rw [q1] at h
    have e := World.ownsRow.cellAt h j (by omega)
    rw [Nat.zero_add, e]
    simp [hj]
theorem RdB.form {w : World} {v : Value} {bs : List Int} (h : RdB w v bs) : ∃ a c, v = .slice a bs.length c := by
  rcases h with ⟨q1, q2⟩ | ⟨g, off, cap, q1, -⟩
  · exact ⟨none, 0, by rw [q1, q2]; rfl⟩
  · exact ⟨_, cap, q1⟩
theorem wpList_appR {ops : Array Oper} {rest : List Oper} {o : Oper} {a : Act} {Q : Exit → Act → World → Prop} (w : World) (hgd : o.guard = none) (s x : Operand)
    (ho : o.op = .call { callee := .builtin .append, args := #[s, x], argTypes := #[22, 22] })
    (base : Nat) (v : Value) (xs : List Int) (hs : a.eval s = v) (hown : OwB base w v xs) (u : Value) (ys : List Int) (hx : a.eval x = u) (hu : RdB w u ys) (hl : xs.length + ys.length ≤ 100000000) (hbase : base ≤ w.heap.size)
    (h : ∀ v' w', OwB base w' v' (xs ++ ys) → w.grownBy w' v.ownBlock → wpList Tryz.prog ops Q rest (a.put o.dst v') w') : wpList Tryz.prog ops Q (o :: rest) a w := by
  obtain ⟨i0, hi, hz0, hz1, hz2⟩ := info_parts Tryz.infoByte
  rcases hu with ⟨rfl, rfl⟩ | ⟨g, off, cap, rfl, hg, hc⟩
  · exact wpList_append_own_none hgd s x 22 ho base 5 i0 1 Tryz.underlying22 hi v xs.length (xs.map (Value.int .u8)) hs hown hx (h v w (by simpa using hown) (World.grownBy.refl _ _))
  · refine wpList_append_own w hgd s x 22 ho base 5 i0 (.int .u8 0) 1 1 Tryz.underlying22 hi hz0 hz1 hz2 rfl (by decide) v xs.length (xs.map (Value.int .u8)) hs hown ⟨g, off, none⟩ ys.length cap (ys.map (Value.int .u8)) hx (by simp) ?_ (ints_oneCell _ _) (by unfold maxLen; omega) (by omega) hbase (fun v' w' o1 g1 _ => h v' w' ?_ g1)
    · intro j z hj
      have hj' : j < ys.length := by have := (List.getElem?_eq_some_iff.1 hj).1; simpa using this
      have e : (⟨g, off, none⟩ : Addr).add j = ⟨g, off + j, none⟩ := by
        unfold Addr.add
        by_cases h0 : j = 0
        · subst h0; rfl
        · rw [if_neg h0]
      rw [e, hc j hj', ← hj]
      simp [hj']
    · unfold OwB
      rw [List.map_append, List.length_append]
      exact o1
/-- The rows that are put together: each in its place of one block, each read by itself. -/
structure Rws (w : World) (g : Nat) (vs : List Value) (bss : List (List Int)) : Prop where
  blk : ∃ z, w.heap[g]? = some (.cells vs.toArray 22 z)
  len : vs.length = bss.length
  at' : ∀ (k : Nat) (v : Value), vs[k]? = some v → ∃ bs, bss[k]? = some bs ∧ RdB w v bs
theorem Rws.later {w w' : World} {g : Nat} {vs : List Value} {bss : List (List Int)} (h : Rws w g vs bss) (hb : Below w.heap.size w w') : Rws w' g vs bss where
  blk := by
    obtain ⟨z, hz⟩ := h.blk
    exact ⟨z, (hb.block g (Array.getElem?_eq_some_iff.1 hz).1).trans hz⟩
  len := h.len
  at' := fun k v hv => by
    obtain ⟨bs, h1, h2⟩ := h.at' k v hv
    exact ⟨bs, h1, h2.later hb⟩
theorem Rws.get {w : World} {g : Nat} {vs : List Value} {bss : List (List Int)} (h : Rws w g vs bss) {k : Nat} (hk : k < bss.length) : ∃ a c bs, bss[k]? = some bs ∧ w.cell? ⟨g, k, none⟩ = some (.slice a bs.length c) ∧ RdB w (.slice a bs.length c) bs := by
  have hk2 : k < vs.length := by rw [h.len]; exact hk
  obtain ⟨bs, h1, h2⟩ := h.at' k vs[k] (List.getElem?_eq_getElem hk2)
  obtain ⟨a, c, q⟩ := h2.form
  refine ⟨a, c, bs, h1, ?_, q ▸ h2⟩
  obtain ⟨z, hz⟩ := h.blk
  rw [Lib.cell_of_heap hz, ← q]
  simp [hk2]
theorem flat_take {bss : List (List Int)} {k : Nat} {bs : List Int} (h : bss[k]? = some bs) : (bss.take (k + 1)).flatten = (bss.take k).flatten ++ bs := by
  rw [List.take_add_one, h]; simp
theorem flat_take_le (bss : List (List Int)) (k : Nat) : (bss.take k).flatten.length ≤ bss.flatten.length := by
  have h : bss.flatten = (bss.take k).flatten ++ (bss.drop k).flatten := by rw [← List.flatten_append, List.take_append_drop]
  rw [h, List.length_append]; omega
def totk (bss : List (List Int)) (k : Nat) : Nat := (bss.take k).flatten.length
theorem totk_zero (bss : List (List Int)) : totk bss 0 = 0 := rfl
theorem totk_next {bss : List (List Int)} {k : Nat} {bs : List Int} (h : bss[k]? = some bs) : totk bss (k + 1) = totk bss k + bs.length := by
  unfold totk; rw [flat_take h, List.length_append]
theorem totk_le (bss : List (List Int)) (k : Nat) : totk bss k ≤ bss.flatten.length := flat_take_le bss k
set_option maxHeartbeats 4000000 in
set_option maxRecDepth 100000 in
theorem iconcat_any (g : Nat) (vs : List Value) (bss : List (List Int)) (w : World) (n : Nat) (hn : bss.length = n) (hn8 : n ≤ 8) (htot : bss.flatten.length ≤ 100000000) (h : Rws w g vs bss) :
    Calls Tryz.prog 25 #[.slice (some ⟨g, 0, none⟩) n n] w fun e w' => ∃ v, e = .returned v ∧ OwB w.heap.size w' v bss.flatten ∧ Below w.heap.size w w' := by
  have HR := hide h
  have HN := hide hn
  have HT := hide htot
  clear h hn htot
  go_enter Tryz.func25, Tryz.ntmps25
  go_wp2_with fail
  go_loopw [3, 11] (fun v i wr => ∃ k : Nat, k ≤ n ∧ i = .int .i64 k ∧ v = .int .i64 (totk bss k : Nat) ∧ wr = w) (fun _ i _ => n - (intOf i).toNat)
  case atStart => exact ⟨0, by omega, rfl, rfl, rfl⟩
  case round =>
    obtain ⟨k, hk, rfl, rfl, hwr⟩ := hrel
    subst wr
    have e3 := unhide HT
    have e2 := totk_le bss k
    by_cases hlt : k < n
    · obtain ⟨a, c, bs, h1, hc, ho⟩ := (unhide HR).get (k := k) (by have := unhide HN; omega)
      have e1 := totk_next h1
      have e2' := totk_le bss (k + 1)
      have HE := hide e1
      obtain ⟨q, hq⟩ : ∃ q, totk bss k = q := ⟨_, rfl⟩
      obtain ⟨l, hl⟩ : ∃ l, bs.length = l := ⟨_, rfl⟩
      rw [hq, hl] at e1
      have e4 : q + l ≤ 100000000 := by omega
      have e5 : decide ((q : Int) + l < 0) = false := by simp; omega
      have e6 : IntKind.i64.wrap ((q : Int) + l) = q + l := by rw [IntKind.wrap_i64]; omega
      rw [hl] at hc
      rw [hq]
      have HQ := hide hq
      have HL := hide hl
      clear ho h1 e1 e2 e2' e3 hq hl
      go_wp2_with fail
      go_roundw
      case rel =>
        refine ⟨k + 1, by omega, by go_num, ?_⟩
        rw [unhide HE, unhide HQ, unhide HL]
        exact ⟨by rw [Int.natCast_add], trivial⟩
      case measure => simp [intOf]; omega
    · obtain rfl : k = n := by omega
      go_wp2_with fail
      refine (igrow_any (totk bss k) _ (by omega)).mono ?_
      rintro e w2 ⟨v2, rfl, o2, b2⟩
      have O2 := hide o2
      have B2 := hide b2
      clear o2 b2 e2 e3
      have hs2 := (unhide B2).size
      go_wp2_with fail
      go_loopw [6, 27] (fun v i wr' => ∃ j : Nat, j ≤ k ∧ i = .int .i64 j ∧ OwB w.heap.size wr' v (bss.take j).flatten ∧ Below w.heap.size w wr') (fun _ i _ => k - (intOf i).toNat)
      case atStart => exact ⟨0, by omega, rfl, by simpa using unhide O2, unhide B2⟩
      case round =>
        clear O2 B2 hs2
        obtain ⟨j, hj, rfl, hown, hbel⟩ := hrel
        have HO := hide hown
        have HB := hide hbel
        have hsz := hbel.size
        clear hown
        by_cases hlt2 : j < k
        · obtain ⟨a, c, bs, h1, hc, ho⟩ := ((unhide HR).later hbel).get (k := j) (by have := unhide HN; omega)
          have HU := hide ho
          have hl : ((bss.take j).flatten).length + bs.length ≤ 100000000 := by
            have q1 := totk_next h1
            have q2 := totk_le bss (j + 1)
            have q3 := unhide HT
            unfold totk at q1 q2
            omega
          have HE := hide (flat_take h1)
          clear h1 ho hbel
          go_wp2_with (at_builtin; refine wpList_appR _ rfl _ _ rfl w.heap.size _ _ rfl (unhide HO) _ _ rfl (unhide HU) hl hsz ?_; intro v6 w6 hO hG; have HO6 := hide hO; have HB6 := hide ((unhide HB).grown hG hsz (fun q hq => ((unhide HO).lt q hq).1)); clear hO hG)
          go_roundw
          case rel => exact ⟨j + 1, by omega, by go_num, by rw [unhide HE]; exact unhide HO6, unhide HB6⟩
          case measure => simp [intOf]; omega
        · have HT2 : Hid ((bss.take j).flatten = bss.flatten) := hide (by rw [List.take_of_length_le (by have := unhide HN; omega)])
          clear hbel
          go_wp2
          go_ret
          exact ⟨_, rfl, by rw [← unhide HT2]; exact unhide HO, unhide HB⟩
end Go.Proofs.YtjlocbimkfocnaaGreat

namespace Go.Proofs.YtjlocbimkfocnaaGreat
open Go.RowKit

/-- What a call answers: a row of those bytes, and nothing of before is touched. -/
def GivesB (f : FuncId) (arg : Value) (W : World) (bs : List Int) : Prop :=
  Calls Tryz.prog f #[arg] W fun e w' => ∃ v, e = .returned v ∧ RdB w' v bs ∧ Below W.heap.size W w'
theorem rwN_blkT {w : World} {g : Nat} {T : TypeId} {ns : List Int} {fz : Nat × Nat} (h : w.heap[g]? = some (.cells (ns.map (Value.int .i64)).toArray T fz)) : RwN w (.slice (some ⟨g, 0, none⟩) ns.length ns.length) ns := by
  refine ⟨_, _, rfl, Nat.le_refl _, .inr ⟨g, 0, rfl, (Array.getElem?_eq_some_iff.1 h).1, fun i x hx j hj => ?_⟩⟩
  obtain rfl : j = 0 := by omega
  obtain ⟨hi, rfl⟩ := List.getElem?_eq_some_iff.1 hx
  simp only [World.cell?, h]
  simp [encN, hi]
theorem gives_head {m : Mg} (hr : RngM m) {W : World} {g : Nat} {T : TypeId} (h : W.heap[g]? = some (.cells #[.int .i64 m.k, .int .i64 m.f, .int .i64 m.t, .int .i64 m.n, .int .i64 m.h] T (0, 0))) :
    GivesB 26 (.slice (some ⟨g, 0, none⟩) 5 5) W (nums [m.k, m.f, m.t, m.n, m.h]) := by
  have R : RwN W (.slice (some ⟨g, 0, none⟩) 5 5) [m.k, m.f, m.t, m.n, m.h] := rwN_blkT (ns := [m.k, m.f, m.t, m.n, m.h]) h
  refine (iputnums_any (some ⟨g, 0, none⟩) 5 5 [m.k, m.f, m.t, m.n, m.h] W (by omega) (fit5 (rng_fit hr.k) (rng_fit hr.f) (rng_fit hr.t) (rng_fit hr.n) (rng_fit hr.h)) R).mono ?_
  rintro e w2 ⟨v, rfl, o, b⟩
  exact ⟨v, rfl, OwB.rdb o, b⟩
theorem gives_one {x : Int} (hr : Rng x) {W : World} {g : Nat} {T : TypeId} {fz : Nat × Nat} (h : W.heap[g]? = some (.cells #[.int .i64 x] T fz)) :
    GivesB 26 (.slice (some ⟨g, 0, none⟩) 1 1) W (putN x) := by
  have R : RwN W (.slice (some ⟨g, 0, none⟩) 1 1) [x] := rwN_blkT (ns := [x]) h
  refine (iputnums_any (some ⟨g, 0, none⟩) 1 1 [x] W (by omega) (fit1 _ (rng_fit hr)) R).mono ?_
  rintro e w2 ⟨v, rfl, o, b⟩
  rw [nums_one] at o
  exact ⟨v, rfl, OwB.rdb o, b⟩
theorem gives_list {ns : List Int} (hr : ns.length ≤ 5 ∧ ∀ z ∈ ns, Rng z) {W : World} {a : Option Addr} {n c : Nat} (h : RwN W (.slice a n c) ns) : GivesB 27 (.slice a n c) W (lsB ns) := by
  refine (iputlist_any a n c ns W (by have := h.len.1; omega) hr.2 h).mono ?_
  rintro e w2 ⟨v, rfl, o, b⟩
  exact ⟨v, rfl, OwB.rdb o, b⟩
theorem gives_marks {fs : List Flr} (hr : fs.length ≤ 5 ∧ ∀ f ∈ fs, RngF f) {W : World} {a : Option Addr} {n c : Nat} (h : Rw encF 2 W (.slice a n c) fs) : GivesB 30 (.slice a n c) W (putN fs.length ++ sbFs fs) := by
  refine (iputmarks_any a n c fs W (by have := h.len.1; omega) hr.2 h).mono ?_
  rintro e w2 ⟨v, rfl, o, b⟩
  exact ⟨v, rfl, OwB.rdb o, b⟩
theorem gives_state {xs : List Itm} {fs : List Flr} (hr : okS xs fs = true) {W : World} {ai af : Option Addr} {ni ci nf cf : Nat} (hni : ni ≤ 140737488351232) (hnf : nf ≤ 140737488351232) (hx : Rw encI 6 W (.slice ai ni ci) xs) (hf : Rw encF 2 W (.slice af nf cf) fs) :
    GivesB 29 (.agg #[.slice ai ni ci, .slice af nf cf]) W (sb xs fs) := by
  refine (ibytes_any ai ni ci xs af nf cf fs true (hide hr) W hni hnf hx hf).mono ?_
  rintro e w2 ⟨v, rfl, o, b⟩
  have e : sbS xs fs = sb xs fs := by rw [sbS, if_pos hr]
  rw [e] at o
  exact ⟨v, rfl, OwB.rdb o, b⟩
theorem gives_text {s : ByteArray} (hs : s.size ≤ 1048576) (W : World) : GivesB 28 (.string s) W (putT (bl s)) := by
  refine (iputtext_any s W hs).mono ?_
  rintro e w2 ⟨v, rfl, o, b⟩
  exact ⟨v, rfl, OwB.rdb o, b⟩
end Go.Proofs.YtjlocbimkfocnaaGreat

namespace Go.Proofs.YtjlocbimkfocnaaGreat
open Go.RowKit

section
variable {P : Program} {ops : Array Oper} {Q : Exit → Act → World → Prop} {md : Region.Mode} {S : World → Prop}
/-- Operation i waits for operation j. -/
def waitsB (md : Region.Mode) (ops : Array Oper) (i j : Nat) : Bool := ((ops[i]?).map fun o => o.after.any fun e => Region.binds md e && e.on == j).getD false
def dstOf (ops : Array Oper) (i : Nat) : Option Nat := (ops[i]?).bind fun o => o.dst
/-- Operation i waits, in the end, for operation j. -/
inductive Anc (md : Region.Mode) (ops : Array Oper) : Nat → Nat → Prop
  | one {i j : Nat} : waitsB md ops i j = true → Anc md ops i j
  | more {i k j : Nat} : waitsB md ops i k = true → Anc md ops k j → Anc md ops i j
def backB (md : Region.Mode) (ops : Array Oper) : Bool := (List.range ops.size).all fun i => ((ops[i]?).map fun o => o.after.all fun e => !Region.binds md e || decide (e.on < i)).getD true
def freeB (ops : Array Oper) (pend : List Nat) (k : Nat) : Bool := pend.all fun i => dstOf ops i != some k
def distB (ops : Array Oper) (pend : List Nat) : Bool := pend.all fun i => pend.all fun j => i == j || dstOf ops i != dstOf ops j
def roomB (ops : Array Oper) (pend : List Nat) (n : Nat) : Bool := pend.all fun i => ((dstOf ops i).map fun d => decide (d < n)).getD false
/-- What is listed, of what it waits for that is listed too. -/
def closedB (md : Region.Mode) (ops : Array Oper) (listed : Array Bool) : Bool := (List.range ops.size).all fun i => !listed.getD i false || ((ops[i]?).map fun o => o.after.all fun e => !Region.binds md e || listed.getD e.on false).getD true
def outB (ops : Array Oper) (pend : List Nat) (listed : Array Bool) : Bool := (List.range ops.size).all fun i => pend.contains i || listed.getD i true
def noneB (pend : List Nat) (listed : Array Bool) : Bool := pend.all fun i => !listed.getD i true
/-- But for what is pending the state is as it was. -/
structure SameA (ops : Array Oper) (pend : List Nat) (a0 a : Act) : Prop where
  tsz : a.tmps.size = a0.tmps.size
  df : a.defers = a0.defers
  fix : ∀ k, freeB ops pend k = true → a.tmps[k]? = a0.tmps[k]?
/-- What operation i gives is there. -/
def GotA (ops : Array Oper) (G : Nat → Value → World → Prop) (i : Nat) (a : Act) (w : World) : Prop := ∃ d v, dstOf ops i = some d ∧ a.tmps[d]? = some v ∧ G i v w
structure RelA (md : Region.Mode) (ops : Array Oper) (S : World → Prop) (pend : List Nat) (G : Nat → Value → World → Prop) (a0 : Act) (listed : Array Bool) (a : Act) (w : World) : Prop where
  sz : listed.size = ops.size
  st : S w
  sm : SameA ops pend a0 a
  out : ∀ i, i < ops.size → i ∉ pend → listed.getD i true = true
  got : ∀ i ∈ pend, listed.getD i false = true → GotA ops G i a w
  cl : ∀ i, listed.getD i false = true → ∀ j, waitsB md ops i j = true → listed.getD j false = true
theorem cf_set : ∀ (l : List Bool) (i : Nat), l[i]? = some false → (l.set i true).count false + 1 = l.count false
  | [], i, h => by simp at h
  | b :: l, 0, h => by
    simp only [List.getElem?_cons_zero, Option.some.injEq] at h
    subst h
    simp
  | b :: l, i + 1, h => by
    simp only [List.getElem?_cons_succ] at h
    have ih := cf_set l i h
    simp only [List.set_cons_succ, List.count_cons]
    omega
theorem cf_zero {l : List Bool} (h : l.count false = 0) (i : Nat) : l[i]? ≠ some false := fun q => by
  have := List.count_pos_iff.2 (List.mem_of_getElem? q)
  omega
theorem getD_some_true {l : Array Bool} {i : Nat} : l.getD i false = true ↔ l[i]? = some true := by
  rcases Nat.lt_or_ge i l.size with h | h
  · simp [Array.getD, h]
  · simp [Array.getD, h]
    intro x; omega
theorem getD_some_false {l : Array Bool} {i : Nat} : l.getD i true = false ↔ l[i]? = some false := by
  rcases Nat.lt_or_ge i l.size with h | h
  · simp [Array.getD, h]
  · simp [Array.getD, h]
    intro x; omega
theorem RelA.anc {pend : List Nat} {G : Nat → Value → World → Prop} {a0 : Act} {listed : Array Bool} {a : Act} {w : World} (h : RelA md ops S pend G a0 listed a w) {i j : Nat} (k : Anc md ops i j) : listed.getD i false = true → listed.getD j false = true := by
  induction k with
  | one q => exact fun p => h.cl _ p _ q
  | more q _ ih => exact fun p => ih (h.cl _ p _ q)
theorem RelA.all {pend : List Nat} {G : Nat → Value → World → Prop} {a0 : Act} {listed : Array Bool} {a : Act} {w : World} (hb : backB md ops = true) (h : RelA md ops S pend G a0 listed a w) (hr : Region.ready md ops listed = []) : ∀ i, i < ops.size → listed.getD i false = true := by
  intro i
  induction i using Nat.strongRecOn with
  | _ i ih =>
    intro hi
    cases q : listed.getD i true
    · exfalso
      have hm : i ∈ Region.ready md ops listed := by
        refine mem_ready.2 ⟨q, ops[i], Array.getElem?_eq_getElem hi, fun e he hbd => ?_⟩
        unfold backB at hb
        have h1 := List.all_eq_true.1 hb i (List.mem_range.2 hi)
        rw [Array.getElem?_eq_getElem hi, Option.map_some, Option.getD_some] at h1
        have h2 := (Array.all_eq_true_iff_forall_mem.1 h1) e he
        rw [hbd] at h2
        simp only [Bool.not_true, Bool.false_or, decide_eq_true_eq] at h2
        exact ih e.on h2 (by omega)
      rw [hr] at hm
      cases hm
    · have hl : i < listed.size := by rw [h.sz]; exact hi
      rw [Array.getD_eq_getD_getElem?, Array.getElem?_eq_getElem hl] at q ⊢
      simpa using q
theorem wpAnyH_rel_go {pend : List Nat} {G : Nat → Value → World → Prop} {M : Nat → World → World → Prop} {a0 : Act}
    (hback : backB md ops = true) (hdis : distB ops pend = true) (hroom : roomB ops pend a0.tmps.size = true)
    (hG : ∀ i ∈ pend, ∀ j ∈ pend, i ≠ j → ¬ Anc md ops i j → ∀ v w w', S w → G i v w → M j w w' → G i v w')
    (step : ∀ i ∈ pend, ∀ a w, S w → SameA ops pend a0 a → (∀ j ∈ pend, waitsB md ops i j = true → GotA ops G j a w) → wpOp P ops Q i (fun a' w' => ∃ d v, dstOf ops i = some d ∧ a' = a.put (some d) v ∧ G i v w' ∧ M i w w' ∧ S w') a w)
    (fin : ∀ a w, S w → SameA ops pend a0 a → (∀ i ∈ pend, i < ops.size → GotA ops G i a w) → Q .normal a w) :
    ∀ (fuel : Nat) (listed : Array Bool) (a : Act) (w : World), listed.toList.count false ≤ fuel → RelA md ops S pend G a0 listed a w → wpAnyH P md ops Q S fuel listed a w := by
  have hfin : ∀ (listed : Array Bool) (a : Act) (w : World), RelA md ops S pend G a0 listed a w → Region.ready md ops listed = [] → Q .normal a w := fun listed a w h hr =>
    fin a w h.st h.sm (fun i hi hs => h.got i hi (h.all hback hr i hs))
  intro fuel
  induction fuel with
  | zero =>
    intro listed a w hc h
    have hr : Region.ready md ops listed = [] := by
      rw [List.eq_nil_iff_forall_not_mem]
      intro i hi
      have h0 := getD_some_false.1 (mem_ready.1 hi).1
      rw [← Array.getElem?_toList] at h0
      exact cf_zero (by omega) i h0
    exact ⟨hr, hfin _ _ _ h hr⟩
  | succ fuel ih =>
    intro listed a w hc h
    refine ⟨hfin _ _ _ h, fun i hi => ?_⟩
    obtain ⟨hun, oi, hoi, hdep⟩ := mem_ready.1 hi
    have hun' := getD_some_false.1 hun
    have hil : i < listed.size := (Array.getElem?_eq_some_iff.1 hun').1
    have his : i < ops.size := by rw [← h.sz]; exact hil
    have hip : i ∈ pend := by
      refine Classical.byContradiction fun q => ?_
      have := h.out i his q
      rw [hun] at this
      cases this
    have hwait : ∀ j, waitsB md ops i j = true → listed.getD j false = true := by
      intro j hj
      unfold waitsB at hj
      rw [hoi, Option.map_some, Option.getD_some] at hj
      obtain ⟨k, hk, e⟩ := Array.any_eq_true.1 hj
      simp only [Bool.and_eq_true, beq_iff_eq] at e
      rw [← e.2]
      exact hdep _ (Array.getElem_mem hk) e.1
    refine wpOp_mono ?_ (step i hip a w h.st h.sm (fun j hj hw => h.got j hj (hwait j hw)))
    rintro a' w' ⟨d, v, hd, rfl, hg, hm, hs⟩
    refine ⟨hs, ih _ _ _ ?_ ?_⟩
    · rw [Array.toList_setIfInBounds]
      have := cf_set listed.toList i (by rw [Array.getElem?_toList]; exact hun')
      omega
    · have hset : ∀ k, (listed.setIfInBounds i true).getD k false = true → k = i ∨ listed.getD k false = true := by
        intro k hk
        by_cases e : k = i
        · exact .inl e
        · right
          rw [getD_some_true] at hk ⊢
          rw [Array.getElem?_setIfInBounds, if_neg (fun q => e q.symm)] at hk
          exact hk
      have hup : ∀ k, listed.getD k false = true → (listed.setIfInBounds i true).getD k false = true := by
        intro k hk
        rw [getD_some_true] at hk ⊢
        rw [Array.getElem?_setIfInBounds]
        split
        · rename_i e
          subst e
          first | rfl | rw [if_pos hil]
        · exact hk
      have hdr : d < a0.tmps.size := by
        have := List.all_eq_true.1 hroom i hip
        rw [hd] at this
        simpa using this
      have hput : (a.put (some d) v).tmps = a.tmps.setIfInBounds d v := rfl
      refine ⟨by rw [Array.size_setIfInBounds]; exact h.sz, hs, ⟨by rw [hput, Array.size_setIfInBounds]; exact h.sm.tsz, h.sm.df, fun k hk => ?_⟩, fun k hk hn => ?_, fun k hk hl => ?_, fun k hk j hj => ?_⟩
      · have hne : d ≠ k := by
          have := List.all_eq_true.1 hk i hip
          rw [hd] at this
          simpa using this
        rw [hput, Array.getElem?_setIfInBounds, if_neg hne]
        exact h.sm.fix k hk
      · have := h.out k hk hn
        have hlk : k < listed.size := by rw [h.sz]; exact hk
        rw [Array.getD_eq_getD_getElem?, Array.getElem?_eq_getElem hlk] at this
        have h2 : listed.getD k false = true := by
          rw [Array.getD_eq_getD_getElem?, Array.getElem?_eq_getElem hlk]; simpa using this
        have h3 := getD_some_true.1 (hup k h2)
        rw [Array.getD_eq_getD_getElem?, h3]; rfl
      · by_cases e : k = i
        · subst e
          exact ⟨d, v, hd, by rw [hput, Array.getElem?_setIfInBounds, if_pos rfl, if_pos (by rw [h.sm.tsz]; exact hdr)], hg⟩
        · have hlk := (hset k hl).resolve_left e
          obtain ⟨d2, v2, q1, q2, q3⟩ := h.got k hk hlk
          have hne : d ≠ d2 := by
            have := List.all_eq_true.1 (List.all_eq_true.1 hdis k hk) i hip
            rw [hd, q1] at this
            simp only [Bool.or_eq_true, beq_iff_eq, bne_iff_ne, ne_eq, Option.some.injEq] at this
            rcases this with q | q
            · exact absurd q e
            · exact fun z => q z.symm
          refine ⟨d2, v2, q1, by rw [hput, Array.getElem?_setIfInBounds, if_neg hne]; exact q2, hG k hk i hip e (fun an => ?_) v2 w w' h.st q3 hm⟩
          have := h.anc an hlk
          rw [getD_some_true, hun'] at this
          cases this
      · rcases hset k hk with e | e
        · subst e; exact hup j (hwait j hj)
        · exact hup j (h.cl k e j hj)
/-- From where some operations are pending: each is walked once, in whatever state that bears what it waits for. -/
theorem wpAnyH_rel {fuel : Nat} {listed : Array Bool} {a0 : Act} {w : World} (pend : List Nat) (G : Nat → Value → World → Prop) (M : Nat → World → World → Prop)
    (hback : backB md ops = true) (hdis : distB ops pend = true) (hroom : roomB ops pend a0.tmps.size = true) (hsz : (listed.size == ops.size) = true) (hclo : closedB md ops listed = true) (hout : outB ops pend listed = true) (hnone : noneB pend listed = true) (hfuel : decide (listed.toList.count false ≤ fuel) = true) (hS : S w)
    (hG : ∀ i ∈ pend, ∀ j ∈ pend, i ≠ j → ¬ Anc md ops i j → ∀ v w w', S w → G i v w → M j w w' → G i v w')
    (step : ∀ i ∈ pend, ∀ a w, S w → SameA ops pend a0 a → (∀ j ∈ pend, waitsB md ops i j = true → GotA ops G j a w) → wpOp P ops Q i (fun a' w' => ∃ d v, dstOf ops i = some d ∧ a' = a.put (some d) v ∧ G i v w' ∧ M i w w' ∧ S w') a w)
    (fin : ∀ a w, S w → SameA ops pend a0 a → (∀ i ∈ pend, i < ops.size → GotA ops G i a w) → Q .normal a w) : wpAnyH P md ops Q S fuel listed a0 w := by
  have hsz' : listed.size = ops.size := by simpa using hsz
  refine wpAnyH_rel_go hback hdis hroom hG step fin fuel listed a0 w (by simpa using hfuel) ⟨hsz', hS, ⟨rfl, rfl, fun _ _ => rfl⟩, fun i hi hn => ?_, fun i hi hl => ?_, fun i hi j hj => ?_⟩
  · have := List.all_eq_true.1 hout i (List.mem_range.2 hi)
    simp only [Bool.or_eq_true, List.contains_eq_mem, decide_eq_true_eq] at this
    exact this.resolve_left hn
  · have h1 := List.all_eq_true.1 hnone i hi
    simp only [Bool.not_eq_true'] at h1
    rw [getD_some_false] at h1
    rw [getD_some_true, h1] at hl
    cases hl
  · have h0 := getD_some_true.1 hi
    have his : i < ops.size := by rw [← hsz']; exact (Array.getElem?_eq_some_iff.1 h0).1
    have h1 := List.all_eq_true.1 hclo i (List.mem_range.2 his)
    unfold waitsB at hj
    rw [Array.getElem?_eq_getElem his, Option.map_some, Option.getD_some] at h1 hj
    rw [hi] at h1
    simp only [Bool.not_true, Bool.false_or] at h1
    obtain ⟨k, hk, e⟩ := Array.any_eq_true.1 hj
    simp only [Bool.and_eq_true, beq_iff_eq] at e
    have h2 := (Array.all_eq_true_iff_forall_mem.1 h1) _ (Array.getElem_mem hk)
    rw [e.1] at h2
    simp only [Bool.not_true, Bool.false_or] at h2
    rw [← e.2]
    exact h2
/-- One operation, at a state of which the place i is known: what is to be run. -/
theorem wpOp_at {i : Nat} {o : Oper} {a : Act} {w : World} {K0 : Act → World → Prop} (ho : ops[i]? = some o)
    (h : ∀ K : Act → World → Prop, Shut (∀ a' w', K0 a' w' → K a' w') → if Region.wanted o (yielded ops a.tmps) = true then Oper.wp P o a w K Q else K (a.put o.dst undef) w) : wpOp P ops Q i K0 a w :=
  wpOp_step ho (fun K hK => h K hK)
end
/-- No cell of before has another value; a block of cells stays one. -/
structure Mo (w w' : World) : Prop where
  sz : w.heap.size ≤ w'.heap.size
  cell : ∀ p : Addr, p.block < w.heap.size → w'.cell? p = w.cell? p
  obj : ∀ (k : Nat) (C : Array Value) (T : TypeId) (z : Nat × Nat), w.heap[k]? = some (.cells C T z) → ∃ z', w'.heap[k]? = some (.cells C T z')
theorem Mo.refl (w : World) : Mo w w := ⟨Nat.le_refl _, fun _ _ => rfl, fun _ _ _ z h => ⟨z, h⟩⟩
theorem mo_of {w w' : World} (h : Below w.heap.size w w') : Mo w w' :=
  ⟨h.size, fun p hp => h.cell (p := p) hp, fun k _ _ z q => ⟨z, (h.block k (Array.getElem?_eq_some_iff.1 q).1).trans q⟩⟩
theorem mo_alloc (w : World) (o : Obj) : Mo w (w.alloc o) := mo_of ((Below.refl _ _).alloc (Nat.le_refl _) _)
/-- A text's bytes as a row: the block is marked. -/
theorem convert_blk {P : Program} {t e : TypeId} (ht : P.underlying t = some (.slice e)) (he : P.underlying e = some (.int .u8)) {w : World} {B g n c : Nat} {C : Array Value} {z : Nat × Nat} (h : w.heap[g]? = some (.cells C e z)) (hB : B ≤ g) :
    ∃ w', (convert t t (.slice (some ⟨g, 0, none⟩) n c)).run P w = .ok (.slice (some ⟨g, 0, none⟩) n c) w' ∧ Mo w w' ∧ Below B w w' := by
  have hsh : w.shape? g = some (e, C.size) := by unfold World.shape?; rw [h]
  have hmod : ∀ (k : Nat), (w.freeze ⟨g, C.size, none⟩ 1).heap[k]? = if k = g then some (.cells C e (if z.1 == z.2 then (C.size, C.size + 1) else (min z.1 C.size, max z.2 (C.size + 1)))) else w.heap[k]? := by
    intro k
    unfold World.freeze
    rw [if_neg (by decide)]
    simp only [Array.getElem?_modify]
    by_cases q : g = k
    · subst q
      simp [h]
    · rw [if_neg q, if_neg (fun e => q e.symm)]
  refine ⟨w.freeze ⟨g, C.size, none⟩ 1, ?_, ⟨?_, fun p hp => ?_, fun k D T y q => ?_⟩, ?_⟩
  · simp [convert, run_underlying ht, run_underlying he, markStringish, hsh]
  · unfold World.freeze; rw [if_neg (by decide)]; simp
  · unfold World.cell?
    rw [hmod]
    by_cases q : p.block = g
    · rw [if_pos q, q, h]
    · rw [if_neg q]
  · rw [hmod]
    split
    · rename_i q2
      rw [q2, h] at q
      simp only [Option.some.injEq, Obj.cells.injEq] at q
      obtain ⟨rfl, rfl, -⟩ := q
      exact ⟨_, rfl⟩
    · exact ⟨y, q⟩
  · refine ⟨rfl, rfl, rfl, ?_, fun k hk => ?_⟩
    · unfold World.freeze; rw [if_neg (by decide)]; simp
    · rw [hmod, if_neg (by omega)]
end Go.Proofs.YtjlocbimkfocnaaGreat

namespace Go.Proofs.YtjlocbimkfocnaaGreat
open Go.RowKit

theorem keepM1 {P W : World} {bx : Nat} {T : TypeId} {c0 c1 c2 c3 c4 c5 c6 c7 c8 c9 ca cb : Value} (kx : Hid (P.heap[bx]? = some (.cells #[c0, c1, c2, c3, c4, c5, c6, c7, c8, c9, ca, cb] T (0, 0)))) (hb : Below P.heap.size P W) :
    Below P.heap.size P W ∧ (W.cell? ⟨bx, 5, none⟩ = some c5 ∧ W.cell? ⟨bx, 6, none⟩ = some c6 ∧ W.cell? ⟨bx, 7, none⟩ = some c7 ∧ W.cell? ⟨bx, 8, none⟩ = some c8 ∧ W.cell? ⟨bx, 9, none⟩ = some c9 ∧ W.cell? ⟨bx, 10, none⟩ = some ca ∧ W.cell? ⟨bx, 11, none⟩ = some cb) := by
  obtain ⟨p0, p1, p2, p3, p4, p5, p6, p7, p8, p9, pa, pb, -⟩ := msg_cells ((hb.block _ (Array.getElem?_eq_some_iff.1 (unhide kx)).1).trans (unhide kx))
  exact ⟨hb, p5, p6, p7, p8, p9, pa, pb⟩
theorem list43 {L : List Value} (h : L.length = 43) : ∃ y0 y1 y2 y3 y4 y5 y6 y7 y8 y9 y10 y11 y12 y13 y14 y15 y16 y17 y18 y19 y20 y21 y22 y23 y24 y25 y26 y27 y28 y29 y30 y31 y32 y33 y34 y35 y36 y37 y38 y39 y40 y41 y42, L = [y0, y1, y2, y3, y4, y5, y6, y7, y8, y9, y10, y11, y12, y13, y14, y15, y16, y17, y18, y19, y20, y21, y22, y23, y24, y25, y26, y27, y28, y29, y30, y31, y32, y33, y34, y35, y36, y37, y38, y39, y40, y41, y42] := by
  obtain ⟨y0, L, rfl⟩ := List.exists_cons_of_length_eq_add_one h
  replace h := Nat.succ.inj h
  obtain ⟨y1, L, rfl⟩ := List.exists_cons_of_length_eq_add_one h
  replace h := Nat.succ.inj h
  obtain ⟨y2, L, rfl⟩ := List.exists_cons_of_length_eq_add_one h
  replace h := Nat.succ.inj h
  obtain ⟨y3, L, rfl⟩ := List.exists_cons_of_length_eq_add_one h
  replace h := Nat.succ.inj h
  obtain ⟨y4, L, rfl⟩ := List.exists_cons_of_length_eq_add_one h
  replace h := Nat.succ.inj h
  obtain ⟨y5, L, rfl⟩ := List.exists_cons_of_length_eq_add_one h
  replace h := Nat.succ.inj h
  obtain ⟨y6, L, rfl⟩ := List.exists_cons_of_length_eq_add_one h
  replace h := Nat.succ.inj h
  obtain ⟨y7, L, rfl⟩ := List.exists_cons_of_length_eq_add_one h
  replace h := Nat.succ.inj h
  obtain ⟨y8, L, rfl⟩ := List.exists_cons_of_length_eq_add_one h
  replace h := Nat.succ.inj h
  obtain ⟨y9, L, rfl⟩ := List.exists_cons_of_length_eq_add_one h
  replace h := Nat.succ.inj h
  obtain ⟨y10, L, rfl⟩ := List.exists_cons_of_length_eq_add_one h
  replace h := Nat.succ.inj h
  obtain ⟨y11, L, rfl⟩ := List.exists_cons_of_length_eq_add_one h
  replace h := Nat.succ.inj h
  obtain ⟨y12, L, rfl⟩ := List.exists_cons_of_length_eq_add_one h
  replace h := Nat.succ.inj h
  obtain ⟨y13, L, rfl⟩ := List.exists_cons_of_length_eq_add_one h
  replace h := Nat.succ.inj h
  obtain ⟨y14, L, rfl⟩ := List.exists_cons_of_length_eq_add_one h
  replace h := Nat.succ.inj h
  obtain ⟨y15, L, rfl⟩ := List.exists_cons_of_length_eq_add_one h
  replace h := Nat.succ.inj h
  obtain ⟨y16, L, rfl⟩ := List.exists_cons_of_length_eq_add_one h
  replace h := Nat.succ.inj h
  obtain ⟨y17, L, rfl⟩ := List.exists_cons_of_length_eq_add_one h
  replace h := Nat.succ.inj h
  obtain ⟨y18, L, rfl⟩ := List.exists_cons_of_length_eq_add_one h
  replace h := Nat.succ.inj h
  obtain ⟨y19, L, rfl⟩ := List.exists_cons_of_length_eq_add_one h
  replace h := Nat.succ.inj h
  obtain ⟨y20, L, rfl⟩ := List.exists_cons_of_length_eq_add_one h
  replace h := Nat.succ.inj h
  obtain ⟨y21, L, rfl⟩ := List.exists_cons_of_length_eq_add_one h
  replace h := Nat.succ.inj h
  obtain ⟨y22, L, rfl⟩ := List.exists_cons_of_length_eq_add_one h
  replace h := Nat.succ.inj h
  obtain ⟨y23, L, rfl⟩ := List.exists_cons_of_length_eq_add_one h
  replace h := Nat.succ.inj h
  obtain ⟨y24, L, rfl⟩ := List.exists_cons_of_length_eq_add_one h
  replace h := Nat.succ.inj h
  obtain ⟨y25, L, rfl⟩ := List.exists_cons_of_length_eq_add_one h
  replace h := Nat.succ.inj h
  obtain ⟨y26, L, rfl⟩ := List.exists_cons_of_length_eq_add_one h
  replace h := Nat.succ.inj h
  obtain ⟨y27, L, rfl⟩ := List.exists_cons_of_length_eq_add_one h
  replace h := Nat.succ.inj h
  obtain ⟨y28, L, rfl⟩ := List.exists_cons_of_length_eq_add_one h
  replace h := Nat.succ.inj h
  obtain ⟨y29, L, rfl⟩ := List.exists_cons_of_length_eq_add_one h
  replace h := Nat.succ.inj h
  obtain ⟨y30, L, rfl⟩ := List.exists_cons_of_length_eq_add_one h
  replace h := Nat.succ.inj h
  obtain ⟨y31, L, rfl⟩ := List.exists_cons_of_length_eq_add_one h
  replace h := Nat.succ.inj h
  obtain ⟨y32, L, rfl⟩ := List.exists_cons_of_length_eq_add_one h
  replace h := Nat.succ.inj h
  obtain ⟨y33, L, rfl⟩ := List.exists_cons_of_length_eq_add_one h
  replace h := Nat.succ.inj h
  obtain ⟨y34, L, rfl⟩ := List.exists_cons_of_length_eq_add_one h
  replace h := Nat.succ.inj h
  obtain ⟨y35, L, rfl⟩ := List.exists_cons_of_length_eq_add_one h
  replace h := Nat.succ.inj h
  obtain ⟨y36, L, rfl⟩ := List.exists_cons_of_length_eq_add_one h
  replace h := Nat.succ.inj h
  obtain ⟨y37, L, rfl⟩ := List.exists_cons_of_length_eq_add_one h
  replace h := Nat.succ.inj h
  obtain ⟨y38, L, rfl⟩ := List.exists_cons_of_length_eq_add_one h
  replace h := Nat.succ.inj h
  obtain ⟨y39, L, rfl⟩ := List.exists_cons_of_length_eq_add_one h
  replace h := Nat.succ.inj h
  obtain ⟨y40, L, rfl⟩ := List.exists_cons_of_length_eq_add_one h
  replace h := Nat.succ.inj h
  obtain ⟨y41, L, rfl⟩ := List.exists_cons_of_length_eq_add_one h
  replace h := Nat.succ.inj h
  obtain ⟨y42, L, rfl⟩ := List.exists_cons_of_length_eq_add_one h
  replace h := Nat.succ.inj h
  obtain rfl := List.eq_nil_of_length_eq_zero h
  exact ⟨_, _, _, _, _, _, _, _, _, _, _, _, _, _, _, _, _, _, _, _, _, _, _, _, _, _, _, _, _, _, _, _, _, _, _, _, _, _, _, _, _, _, _, rfl⟩
theorem RdB.form3 {w : World} {v : Value} {bs : List Int} (h : RdB w v bs) : ∃ a n c, v = .slice a n c := by
  obtain ⟨a, c, e⟩ := h.form
  exact ⟨a, _, c, e⟩
theorem RdB.mo {w w' : World} {v : Value} {bs : List Int} (h : RdB w v bs) (k : Mo w w') : RdB w' v bs := by
  rcases h with h | ⟨g, off, cap, h1, h2, h3⟩
  · exact .inl h
  · exact .inr ⟨g, off, cap, h1, Nat.lt_of_lt_of_le h2 k.sz, fun j hj => (k.cell ⟨g, off + j, none⟩ h2).trans (h3 j hj)⟩
theorem Rws.mo {w w' : World} {g : Nat} {vs : List Value} {bss : List (List Int)} (h : Rws w g vs bss) (k : Mo w w') : Rws w' g vs bss where
  blk := by
    obtain ⟨z, hz⟩ := h.blk
    exact k.obj _ _ _ _ hz
  len := h.len
  at' := fun j v hv => by
    obtain ⟨bs, h1, h2⟩ := h.at' j v hv
    exact ⟨bs, h1, h2.mo k⟩
theorem convR {w : World} {v : Value} {xs : List Int} {y : ByteArray} (hy : Hid (strOfNums xs = y)) (h : RdB w v xs) : (convert 22 9 v).run Tryz.prog w = .ok (.string y) w := by
  rw [← unhide hy]
  rcases h with ⟨rfl, rfl⟩ | ⟨g, off, cap, rfl, _, hc⟩
  · exact run_convert_bytes_nil (P := Tryz.prog) w 22 5 Tryz.underlying22 Tryz.underlying5 _ _ 9 Tryz.underlying9
  · exact run_convert_bytes_arg (P := Tryz.prog) w 22 5 Tryz.underlying22 Tryz.underlying5 g off xs.length cap xs rfl (fun i hi => hc i hi) 9 Tryz.underlying9
set_option maxHeartbeats 4000000 in
set_option maxRecDepth 100000 in
theorem headofB_any (m : Mg) (p : Mp) (w : World) :
    Calls Tryz.prog 24 #[.agg #[.int .i64 m.k, .int .i64 m.f, .int .i64 m.t, .int .i64 m.n, .int .i64 m.h, .slice p.ta p.tn p.tc, .int .i64 m.tr, .slice p.va p.vn p.vc, .slice p.la p.ln p.lc, .slice p.xa p.xn p.xc, .slice p.ya p.yn p.yc, .slice p.ka p.kn p.kc]] w fun e w' => e = .returned (.agg #[.int .i64 m.k, .int .i64 m.f, .int .i64 m.t, .int .i64 m.n, .int .i64 m.h]) ∧ Below w.heap.size w w' := by
  go_enter Tryz.func24, Tryz.ntmps24
  go_wp2
  exact bodyPost_ret (v := .agg #[.int .i64 m.k, .int .i64 m.f, .int .i64 m.t, .int .i64 m.n, .int .i64 m.h]) (by simp [results, Tryz.results24, go_sem]) rfl ⟨rfl, ((Below.refl _ _).alloc (Nat.le_refl _) _).alloc (by simp) _⟩
theorem rws8 {w : World} {v0 v1 v2 v3 v4 v5 v6 v7 : Value} {b0 b1 b2 b3 b4 b5 b6 b7 : List Int} (h0 : RdB w v0 b0) (h1 : RdB w v1 b1) (h2 : RdB w v2 b2) (h3 : RdB w v3 b3) (h4 : RdB w v4 b4) (h5 : RdB w v5 b5) (h6 : RdB w v6 b6) (h7 : RdB w v7 b7) :
    Rws (w.alloc (.cells #[v0, v1, v2, v3, v4, v5, v6, v7] 22)) w.heap.size [v0, v1, v2, v3, v4, v5, v6, v7] [b0, b1, b2, b3, b4, b5, b6, b7] := by
  have hb : Below w.heap.size w (w.alloc (.cells #[v0, v1, v2, v3, v4, v5, v6, v7] 22)) := (Below.refl _ _).alloc (Nat.le_refl _) _
  refine ⟨⟨_, heap_alloc_new w _⟩, rfl, fun k v hv => ?_⟩
  have hk : k < 8 := by have := (List.getElem?_eq_some_iff.1 hv).1; simpa using this
  have hc : k = 0 ∨ k = 1 ∨ k = 2 ∨ k = 3 ∨ k = 4 ∨ k = 5 ∨ k = 6 ∨ k = 7 := by omega
  rcases hc with rfl | rfl | rfl | rfl | rfl | rfl | rfl | rfl
  · obtain rfl : v0 = v := by simpa using hv
    exact ⟨b0, rfl, h0.later hb⟩
  · obtain rfl : v1 = v := by simpa using hv
    exact ⟨b1, rfl, h1.later hb⟩
  · obtain rfl : v2 = v := by simpa using hv
    exact ⟨b2, rfl, h2.later hb⟩
  · obtain rfl : v3 = v := by simpa using hv
    exact ⟨b3, rfl, h3.later hb⟩
  · obtain rfl : v4 = v := by simpa using hv
    exact ⟨b4, rfl, h4.later hb⟩
  · obtain rfl : v5 = v := by simpa using hv
    exact ⟨b5, rfl, h5.later hb⟩
  · obtain rfl : v6 = v := by simpa using hv
    exact ⟨b6, rfl, h6.later hb⟩
  · obtain rfl : v7 = v := by simpa using hv
    exact ⟨b7, rfl, h7.later hb⟩
set_option maxHeartbeats 8000000 in
set_option maxRecDepth 100000 in
theorem imsgbytes_any (m : Mg) (p : Mp) (ok : Bool) (hok : Hid (okM m = ok)) (w : World) (hp : SzM p 140737488351232) (hm : RwM w m p) :
    Calls Tryz.prog 8 #[.agg #[.int .i64 m.k, .int .i64 m.f, .int .i64 m.t, .int .i64 m.n, .int .i64 m.h, .slice p.ta p.tn p.tc, .int .i64 m.tr, .slice p.va p.vn p.vc, .slice p.la p.ln p.lc, .slice p.xa p.xn p.xc, .slice p.ya p.yn p.yc, .slice p.ka p.kn p.kc]] w fun e w' => ∃ v, e = .returned v ∧ OwB w.heap.size w' v (msB m) ∧ Below w.heap.size w w' := by
  have HM := hide hm
  have B0 := hide (bm_new w #[.int .i64 m.k, .int .i64 m.f, .int .i64 m.t, .int .i64 m.n, .int .i64 m.h, .slice p.ta p.tn p.tc, .int .i64 m.tr, .slice p.va p.vn p.vc, .slice p.la p.ln p.lc, .slice p.xa p.xn p.xc, .slice p.ya p.yn p.yc, .slice p.ka p.kn p.kc] 33)
  clear hm
  go_enter Tryz.func8, Tryz.ntmps8
  go_wp2_with fail
  refine (imsgok_any m p ok hok _ hp ((unhide HM).alloc _)).mono ?_
  rintro e w1 ⟨rfl, b1⟩
  have B := hide ((unhide B0).later b1)
  clear b1 B0
  obtain ⟨c0, c1, c2, c3, c4, c5, c6, c7, c8, c9, ca, cb, -⟩ := msg_cells (unhide B).blk
  have z1 := (unhide B).lt
  cases ok
  · have e0 : msB m = [] := by rw [msB, unhide hok]; rfl
    go_wp2
    go_ret
    refine ⟨_, rfl, ?_, (unhide B).bel⟩
    rw [e0]
    exact OwB.nil _ _
  · have HO := (okM_iff m).1 (unhide hok)
    have HR := hide HO.rng
    have hl := bodyM_len (unhide hok)
    have HE : Hid (msB m = bodyM m ++ sumB (crcOf (bodyM m))) := hide (by rw [msB, if_pos (unhide hok)])
    clear HO
    go_wp2_with fail
    refine (headofB_any m p _).mono ?_
    rintro e w2 ⟨rfl, b2⟩
    have B2 := hide ((unhide B).later b2)
    clear b2 B c0 c1 c2 c3 c4 c5 c6 c7 c8 c9 ca cb z1
    obtain ⟨wH, hwH⟩ : ∃ W, W = w2.alloc (.cells #[.int .i64 m.k, .int .i64 m.f, .int .i64 m.t, .int .i64 m.n, .int .i64 m.h] 47) := ⟨_, rfl⟩
    have KH : Hid (wH.heap[w2.heap.size]? = some (.cells #[.int .i64 m.k, .int .i64 m.f, .int .i64 m.t, .int .i64 m.n, .int .i64 m.h] 47 (0, 0))) := hide (by rw [hwH]; exact newB1 w2 _)
    have bH : Below w2.heap.size w2 wH := by rw [hwH]; exact (Below.refl _ _).alloc (Nat.le_refl _) _
    have BH := hide ((unhide B2).later bH)
    have KM := hide (unhide BH).blk
    obtain ⟨c0, c1, c2, c3, c4, c5, c6, c7, c8, c9, ca, cb, -⟩ := msg_cells (unhide KM)
    have z1 := (unhide BH).lt
    have z2 : w2.heap.size < wH.heap.size := (Array.getElem?_eq_some_iff.1 (unhide KH)).1
    clear B2 bH
    have C1 : Hid (∀ W, Below wH.heap.size wH W → GivesB 26 (.slice (some ⟨w2.heap.size, 0, none⟩) 5 5) W (nums [m.k, m.f, m.t, m.n, m.h])) := hide (fun W h => gives_head (unhide HR) ((h.block _ z2).trans (unhide KH)))
    have HMH := hide ((unhide HM).later (unhide BH).bel)
    have C2 : Hid (∀ W, Below wH.heap.size wH W → GivesB 27 (.slice p.ta p.tn p.tc) W (lsB m.tl)) := hide (fun W h => gives_list ⟨by have := (unhide HR).tl.1; omega, (unhide HR).tl.2⟩ ((unhide HMH).later h).t)
    have C3 : Hid (∀ W g z, W.heap[g]? = some (.cells #[.int .i64 m.tr] 3 z) → GivesB 26 (.slice (some ⟨g, 0, none⟩) 1 1) W (putN m.tr)) := hide (fun W g z h => gives_one (unhide HR).tr h)
    have C4 : Hid (∀ W, Below wH.heap.size wH W → GivesB 27 (.slice p.va p.vn p.vc) W (lsB m.ve)) := hide (fun W h => gives_list (unhide HR).ve ((unhide HMH).later h).v)
    have C5 : Hid (∀ W, Below wH.heap.size wH W → GivesB 27 (.slice p.la p.ln p.lc) W (lsB m.le)) := hide (fun W h => gives_list ⟨by have := (unhide HR).le.1; omega, (unhide HR).le.2⟩ ((unhide HMH).later h).l)
    have HOK6 : Hid (okS m.its m.fls = true) := hide ((okS_iff _ _).2 (unhide HR).st)
    have e6 : sbS m.its m.fls = sb m.its m.fls := by rw [sbS, if_pos (unhide HOK6)]
    have C6 : Hid (∀ W, Below wH.heap.size wH W → Calls Tryz.prog 29 #[.agg #[.slice p.xa p.xn p.xc, .slice p.ya p.yn p.yc]] W fun e w' => ∃ v, e = .returned v ∧ OwB W.heap.size w' v (sb m.its m.fls) ∧ Below W.heap.size W w') := hide (fun W h => by
      have q := ibytes_any p.xa p.xn p.xc m.its p.ya p.yn p.yc m.fls true HOK6 W hp.x hp.y ((unhide HMH).later h).x ((unhide HMH).later h).y
      rw [e6] at q
      exact q)
    obtain ⟨s6, hs6⟩ : ∃ s, Hid (strOfNums (sb m.its m.fls) = s) := ⟨_, hide rfl⟩
    have hb6 : bl s6 = sb m.its m.fls := by rw [← unhide hs6]; exact bl_str _ (sb_bytes _ _)
    have C7 : Hid (∀ W, GivesB 28 (.string s6) W (putN (sb m.its m.fls).length ++ sb m.its m.fls)) := hide (fun W => by
      have h := gives_text (s := s6) (by have h1 := bl_length s6; have h2 := sb_len (unhide HR).st; rw [hb6] at h1; omega) W
      rw [hb6] at h
      exact h)
    clear e6 hb6
    have HF : Hid ([[82, 75], nums [m.k, m.f, m.t, m.n, m.h], lsB m.tl, putN m.tr, lsB m.ve, lsB m.le, putN (sb m.its m.fls).length ++ sb m.its m.fls, putN m.ma.length ++ sbFs m.ma].flatten = bodyM m) := hide (by simp [bodyM])
    have HFL : [[82, 75], nums [m.k, m.f, m.t, m.n, m.h], lsB m.tl, putN m.tr, lsB m.ve, lsB m.le, putN (sb m.its m.fls).length ++ sb m.its m.fls, putN m.ma.length ++ sbFs m.ma].flatten.length ≤ 100000000 := by rw [unhide HF]; omega
    have HFL := hide HFL
    have C8 : Hid (∀ W, Below wH.heap.size wH W → GivesB 30 (.slice p.ka p.kn p.kc) W (putN m.ma.length ++ sbFs m.ma)) := hide (fun W h => gives_marks (unhide HR).ma ((unhide HMH).later h).k)
    go_wp2_with fail
    rw [← hwH]
    clear hwH c0 c1 c2 c3 c4
    refine wp_region_noPanic ?_
    refine wp_region_held_drew (S := (fun W => Below wH.heap.size wH W ∧ (W.cell? ⟨w.heap.size, 5, none⟩ = some (.slice p.ta p.tn p.tc) ∧ W.cell? ⟨w.heap.size, 6, none⟩ = some (.int .i64 m.tr) ∧ W.cell? ⟨w.heap.size, 7, none⟩ = some (.slice p.va p.vn p.vc) ∧ W.cell? ⟨w.heap.size, 8, none⟩ = some (.slice p.la p.ln p.lc) ∧ W.cell? ⟨w.heap.size, 9, none⟩ = some (.slice p.xa p.xn p.xc) ∧ W.cell? ⟨w.heap.size, 10, none⟩ = some (.slice p.ya p.yn p.yc) ∧ W.cell? ⟨w.heap.size, 11, none⟩ = some (.slice p.ka p.kn p.kc)))) (by kernel_rfl) ?_ (fun hHeld => ?_)
    · (try dsimp only); exact keepM1 KM ((Below.refl _ _).drew)
    refine wpAnyH_take (i := 2) (v := ?v2) (by (simp only [List.getElem?_toArray, List.getElem?_cons_succ, List.getElem?_cons_zero]; rfl)) (by kernel_rfl) (by kernel_rfl) (by kernel_rfl) (fun _ _ _ h => h) (Or.inl ⟨by rfl, ?hy2⟩) (by assumption) ?rest2
    case hy2 => (intro w hSw; (try dsimp only at hSw); go_simp <;> with_reducible rfl)
    (try simp only [Act.put, List.setIfInBounds_toArray, List.set_cons_zero, List.set_cons_succ])
    refine wpAnyH_take (i := 4) (v := ?v4) (by (simp only [List.getElem?_toArray, List.getElem?_cons_succ, List.getElem?_cons_zero]; rfl)) (by kernel_rfl) (by kernel_rfl) (by kernel_rfl) (fun _ _ _ h => h) (Or.inl ⟨by rfl, ?hy4⟩) (by assumption) ?rest4
    case hy4 => (intro w hSw; (try dsimp only at hSw); go_simp <;> with_reducible rfl)
    (try simp only [Act.put, List.setIfInBounds_toArray, List.set_cons_zero, List.set_cons_succ])
    refine wpAnyH_take (i := 5) (v := ?v5) (by (simp only [List.getElem?_toArray, List.getElem?_cons_succ, List.getElem?_cons_zero]; rfl)) (by kernel_rfl) (by kernel_rfl) (by kernel_rfl) (fun _ _ _ h => h) (Or.inl ⟨by rfl, ?hy5⟩) (by assumption) ?rest5
    case hy5 => (intro w hSw; (try dsimp only at hSw); go_simp <;> with_reducible rfl)
    (try simp only [Act.put, List.setIfInBounds_toArray, List.set_cons_zero, List.set_cons_succ])
    refine wpAnyH_take (i := 6) (v := ?v6) (by (simp only [List.getElem?_toArray, List.getElem?_cons_succ, List.getElem?_cons_zero]; rfl)) (by kernel_rfl) (by kernel_rfl) (by kernel_rfl) (fun _ _ _ h => h) (Or.inl ⟨by rfl, ?hy6⟩) (by assumption) ?rest6
    case hy6 => (intro w hSw; (try dsimp only at hSw); go_simp <;> with_reducible rfl)
    (try simp only [Act.put, List.setIfInBounds_toArray, List.set_cons_zero, List.set_cons_succ])
    refine wpAnyH_take (i := 8) (v := ?v8) (by (simp only [List.getElem?_toArray, List.getElem?_cons_succ, List.getElem?_cons_zero]; rfl)) (by kernel_rfl) (by kernel_rfl) (by kernel_rfl) (fun _ _ _ h => h) (Or.inl ⟨by rfl, ?hy8⟩) (by assumption) ?rest8
    case hy8 => (intro w hSw; (try dsimp only at hSw); go_simp <;> with_reducible rfl)
    (try simp only [Act.put, List.setIfInBounds_toArray, List.set_cons_zero, List.set_cons_succ])
    refine wpAnyH_take (i := 9) (v := ?v9) (by (simp only [List.getElem?_toArray, List.getElem?_cons_succ, List.getElem?_cons_zero]; rfl)) (by kernel_rfl) (by kernel_rfl) (by kernel_rfl) (fun _ _ _ h => h) (Or.inl ⟨by rfl, ?hy9⟩) (by assumption) ?rest9
    case hy9 => (intro w hSw; (try dsimp only at hSw); go_simp <;> with_reducible rfl)
    (try simp only [Act.put, List.setIfInBounds_toArray, List.set_cons_zero, List.set_cons_succ])
    refine wpAnyH_take (i := 10) (v := ?v10) (by (simp only [List.getElem?_toArray, List.getElem?_cons_succ, List.getElem?_cons_zero]; rfl)) (by kernel_rfl) (by kernel_rfl) (by kernel_rfl) (fun _ _ _ h => h) (Or.inl ⟨by rfl, ?hy10⟩) (by assumption) ?rest10
    case hy10 => (intro w hSw; (try dsimp only at hSw); go_simp <;> with_reducible rfl)
    (try simp only [Act.put, List.setIfInBounds_toArray, List.set_cons_zero, List.set_cons_succ])
    refine wpAnyH_take (i := 13) (v := ?v13) (by (simp only [List.getElem?_toArray, List.getElem?_cons_succ, List.getElem?_cons_zero]; rfl)) (by kernel_rfl) (by kernel_rfl) (by kernel_rfl) (fun _ _ _ h => h) (Or.inl ⟨by rfl, ?hy13⟩) (by assumption) ?rest13
    case hy13 => (intro w hSw; (try dsimp only at hSw); go_simp <;> with_reducible rfl)
    (try simp only [Act.put, List.setIfInBounds_toArray, List.set_cons_zero, List.set_cons_succ])
    refine wpAnyH_take (i := 14) (v := ?v14) (by (simp only [List.getElem?_toArray, List.getElem?_cons_succ, List.getElem?_cons_zero]; rfl)) (by kernel_rfl) (by kernel_rfl) (by kernel_rfl) (fun _ _ _ h => h) (Or.inl ⟨by rfl, ?hy14⟩) (by assumption) ?rest14
    case hy14 => (intro w hSw; (try dsimp only at hSw); go_simp <;> with_reducible rfl)
    (try simp only [Act.put, List.setIfInBounds_toArray, List.set_cons_zero, List.set_cons_succ])
    refine wpAnyH_take (i := 16) (v := ?v16) (by (simp only [List.getElem?_toArray, List.getElem?_cons_succ, List.getElem?_cons_zero]; rfl)) (by kernel_rfl) (by kernel_rfl) (by kernel_rfl) (fun _ _ _ h => h) (Or.inl ⟨by rfl, ?hy16⟩) (by assumption) ?rest16
    case hy16 => (intro w hSw; (try dsimp only at hSw); go_simp <;> with_reducible rfl)
    (try simp only [Act.put, List.setIfInBounds_toArray, List.set_cons_zero, List.set_cons_succ])
    refine wpAnyH_take (i := 17) (v := ?v17) (by (simp only [List.getElem?_toArray, List.getElem?_cons_succ, List.getElem?_cons_zero]; rfl)) (by kernel_rfl) (by kernel_rfl) (by kernel_rfl) (fun _ _ _ h => h) (Or.inl ⟨by rfl, ?hy17⟩) (by assumption) ?rest17
    case hy17 => (intro w hSw; (try dsimp only at hSw); go_simp <;> with_reducible rfl)
    (try simp only [Act.put, List.setIfInBounds_toArray, List.set_cons_zero, List.set_cons_succ])
    refine wpAnyH_take (i := 19) (v := ?v19) (by (simp only [List.getElem?_toArray, List.getElem?_cons_succ, List.getElem?_cons_zero]; rfl)) (by kernel_rfl) (by kernel_rfl) (by kernel_rfl) (fun _ _ _ h => h) (Or.inl ⟨by rfl, ?hy19⟩) (by assumption) ?rest19
    case hy19 => (intro w hSw; (try dsimp only at hSw); go_simp <;> with_reducible rfl)
    (try simp only [Act.put, List.setIfInBounds_toArray, List.set_cons_zero, List.set_cons_succ])
    refine wpAnyH_take (i := 20) (v := ?v20) (by (simp only [List.getElem?_toArray, List.getElem?_cons_succ, List.getElem?_cons_zero]; rfl)) (by kernel_rfl) (by kernel_rfl) (by kernel_rfl) (fun _ _ _ h => h) (Or.inl ⟨by rfl, ?hy20⟩) (by assumption) ?rest20
    case hy20 => (intro w hSw; (try dsimp only at hSw); go_simp <;> with_reducible rfl)
    (try simp only [Act.put, List.setIfInBounds_toArray, List.set_cons_zero, List.set_cons_succ])
    refine wpAnyH_take (i := 24) (v := ?v24) (by (simp only [List.getElem?_toArray, List.getElem?_cons_succ, List.getElem?_cons_zero]; rfl)) (by kernel_rfl) (by kernel_rfl) (by kernel_rfl) (fun _ _ _ h => h) (Or.inl ⟨by rfl, ?hy24⟩) (by assumption) ?rest24
    case hy24 => (intro w hSw; (try dsimp only at hSw); go_simp <;> with_reducible rfl)
    (try simp only [Act.put, List.setIfInBounds_toArray, List.set_cons_zero, List.set_cons_succ])
    refine wpAnyH_take (i := 25) (v := ?v25) (by (simp only [List.getElem?_toArray, List.getElem?_cons_succ, List.getElem?_cons_zero]; rfl)) (by kernel_rfl) (by kernel_rfl) (by kernel_rfl) (fun _ _ _ h => h) (Or.inl ⟨by rfl, ?hy25⟩) (by assumption) ?rest25
    case hy25 => (intro w hSw; (try dsimp only at hSw); go_simp <;> with_reducible rfl)
    (try simp only [Act.put, List.setIfInBounds_toArray, List.set_cons_zero, List.set_cons_succ])
    refine wpAnyH_rel [0, 1, 3, 7, 11, 12, 15, 18, 21, 22, 23, 26, 27, 28, 29] (fun i v W => match i with | 0 => ∃ g z, v = .slice (some ⟨g, 0, none⟩) 2 2 ∧ wH.heap.size ≤ g ∧ W.heap[g]? = some (.cells #[.int .u8 82, .int .u8 75] 5 z) | 1 => RdB W v ([82, 75]) | 3 => RdB W v (nums [m.k, m.f, m.t, m.n, m.h]) | 7 => RdB W v (lsB m.tl) | 11 => ∃ g z, v = .slice (some ⟨g, 0, none⟩) 1 1 ∧ W.heap[g]? = some (.cells #[.int .i64 m.tr] 3 z) | 12 => RdB W v (putN m.tr) | 15 => RdB W v (lsB m.ve) | 18 => RdB W v (lsB m.le) | 21 => RdB W v (sb m.its m.fls) | 22 => v = .string s6 | 23 => RdB W v (putN (sb m.its m.fls).length ++ sb m.its m.fls) | 26 => RdB W v (putN m.ma.length ++ sbFs m.ma) | 27 => ∃ g vs, v = .slice (some ⟨g, 0, none⟩) 8 8 ∧ Rws W g vs [[82, 75], nums [m.k, m.f, m.t, m.n, m.h], lsB m.tl, putN m.tr, lsB m.ve, lsB m.le, putN (sb m.its m.fls).length ++ sb m.its m.fls, putN m.ma.length ++ sbFs m.ma] | 28 => OwB wH.heap.size W v (bodyM m) | 29 => OwB wH.heap.size W v (bodyM m) | _ => False) (fun j w w' => (j = 29 → w' = w) ∧ Mo w w') (by kernel_rfl) (by kernel_rfl) (by kernel_rfl) (by kernel_rfl) (by kernel_rfl) (by kernel_rfl) (by kernel_rfl) (by kernel_rfl) hHeld ?hG ?hstep ?hfin
    case hG =>
      intro i hi j hj hne han v W W' hS hg hm
      simp only [List.mem_cons, List.not_mem_nil, or_false] at hi hj
      have hmo := hm.2
      rcases hi with rfl | rfl | rfl | rfl | rfl | rfl | rfl | rfl | rfl | rfl | rfl | rfl | rfl | rfl | rfl
      · change (fun (v : Value) (W : World) => ∃ g z, v = .slice (some ⟨g, 0, none⟩) 2 2 ∧ wH.heap.size ≤ g ∧ W.heap[g]? = some (.cells #[.int .u8 82, .int .u8 75] 5 z)) v W at hg
        show (fun (v : Value) (W : World) => ∃ g z, v = .slice (some ⟨g, 0, none⟩) 2 2 ∧ wH.heap.size ≤ g ∧ W.heap[g]? = some (.cells #[.int .u8 82, .int .u8 75] 5 z)) v W'
        try dsimp only at hg ⊢
        obtain ⟨g, z, rfl, hB, hz⟩ := hg
        obtain ⟨z2, hz2⟩ := hmo.obj _ _ _ _ hz
        exact ⟨g, z2, rfl, hB, hz2⟩
      · change (fun (v : Value) (W : World) => RdB W v ([82, 75])) v W at hg
        show (fun (v : Value) (W : World) => RdB W v ([82, 75])) v W'
        try dsimp only at hg ⊢
        exact hg.mo hmo
      · change (fun (v : Value) (W : World) => RdB W v (nums [m.k, m.f, m.t, m.n, m.h])) v W at hg
        show (fun (v : Value) (W : World) => RdB W v (nums [m.k, m.f, m.t, m.n, m.h])) v W'
        try dsimp only at hg ⊢
        exact hg.mo hmo
      · change (fun (v : Value) (W : World) => RdB W v (lsB m.tl)) v W at hg
        show (fun (v : Value) (W : World) => RdB W v (lsB m.tl)) v W'
        try dsimp only at hg ⊢
        exact hg.mo hmo
      · change (fun (v : Value) (W : World) => ∃ g z, v = .slice (some ⟨g, 0, none⟩) 1 1 ∧ W.heap[g]? = some (.cells #[.int .i64 m.tr] 3 z)) v W at hg
        show (fun (v : Value) (W : World) => ∃ g z, v = .slice (some ⟨g, 0, none⟩) 1 1 ∧ W.heap[g]? = some (.cells #[.int .i64 m.tr] 3 z)) v W'
        try dsimp only at hg ⊢
        obtain ⟨g, z, rfl, hz⟩ := hg
        obtain ⟨z2, hz2⟩ := hmo.obj _ _ _ _ hz
        exact ⟨g, z2, rfl, hz2⟩
      · change (fun (v : Value) (W : World) => RdB W v (putN m.tr)) v W at hg
        show (fun (v : Value) (W : World) => RdB W v (putN m.tr)) v W'
        try dsimp only at hg ⊢
        exact hg.mo hmo
      · change (fun (v : Value) (W : World) => RdB W v (lsB m.ve)) v W at hg
        show (fun (v : Value) (W : World) => RdB W v (lsB m.ve)) v W'
        try dsimp only at hg ⊢
        exact hg.mo hmo
      · change (fun (v : Value) (W : World) => RdB W v (lsB m.le)) v W at hg
        show (fun (v : Value) (W : World) => RdB W v (lsB m.le)) v W'
        try dsimp only at hg ⊢
        exact hg.mo hmo
      · change (fun (v : Value) (W : World) => RdB W v (sb m.its m.fls)) v W at hg
        show (fun (v : Value) (W : World) => RdB W v (sb m.its m.fls)) v W'
        try dsimp only at hg ⊢
        exact hg.mo hmo
      · change (fun (v : Value) (W : World) => v = .string s6) v W at hg
        show (fun (v : Value) (W : World) => v = .string s6) v W'
        try dsimp only at hg ⊢
        exact hg
      · change (fun (v : Value) (W : World) => RdB W v (putN (sb m.its m.fls).length ++ sb m.its m.fls)) v W at hg
        show (fun (v : Value) (W : World) => RdB W v (putN (sb m.its m.fls).length ++ sb m.its m.fls)) v W'
        try dsimp only at hg ⊢
        exact hg.mo hmo
      · change (fun (v : Value) (W : World) => RdB W v (putN m.ma.length ++ sbFs m.ma)) v W at hg
        show (fun (v : Value) (W : World) => RdB W v (putN m.ma.length ++ sbFs m.ma)) v W'
        try dsimp only at hg ⊢
        exact hg.mo hmo
      · change (fun (v : Value) (W : World) => ∃ g vs, v = .slice (some ⟨g, 0, none⟩) 8 8 ∧ Rws W g vs [[82, 75], nums [m.k, m.f, m.t, m.n, m.h], lsB m.tl, putN m.tr, lsB m.ve, lsB m.le, putN (sb m.its m.fls).length ++ sb m.its m.fls, putN m.ma.length ++ sbFs m.ma]) v W at hg
        show (fun (v : Value) (W : World) => ∃ g vs, v = .slice (some ⟨g, 0, none⟩) 8 8 ∧ Rws W g vs [[82, 75], nums [m.k, m.f, m.t, m.n, m.h], lsB m.tl, putN m.tr, lsB m.ve, lsB m.le, putN (sb m.its m.fls).length ++ sb m.its m.fls, putN m.ma.length ++ sbFs m.ma]) v W'
        try dsimp only at hg ⊢
        obtain ⟨g, vs, rfl, hr⟩ := hg
        exact ⟨g, vs, rfl, hr.mo hmo⟩
      · change (fun (v : Value) (W : World) => OwB wH.heap.size W v (bodyM m)) v W at hg
        show (fun (v : Value) (W : World) => OwB wH.heap.size W v (bodyM m)) v W'
        try dsimp only at hg ⊢
        rcases hj with rfl | rfl | rfl | rfl | rfl | rfl | rfl | rfl | rfl | rfl | rfl | rfl | rfl | rfl | rfl
        · exact absurd (.more (k := 27) (by kernel_rfl) (.more (k := 1) (by kernel_rfl) (.one (by kernel_rfl)))) han
        · exact absurd (.more (k := 27) (by kernel_rfl) (.one (by kernel_rfl))) han
        · exact absurd (.more (k := 27) (by kernel_rfl) (.one (by kernel_rfl))) han
        · exact absurd (.more (k := 27) (by kernel_rfl) (.one (by kernel_rfl))) han
        · exact absurd (.more (k := 27) (by kernel_rfl) (.more (k := 12) (by kernel_rfl) (.one (by kernel_rfl)))) han
        · exact absurd (.more (k := 27) (by kernel_rfl) (.one (by kernel_rfl))) han
        · exact absurd (.more (k := 27) (by kernel_rfl) (.one (by kernel_rfl))) han
        · exact absurd (.more (k := 27) (by kernel_rfl) (.one (by kernel_rfl))) han
        · exact absurd (.more (k := 27) (by kernel_rfl) (.more (k := 23) (by kernel_rfl) (.one (by kernel_rfl)))) han
        · exact absurd (.more (k := 27) (by kernel_rfl) (.more (k := 23) (by kernel_rfl) (.one (by kernel_rfl)))) han
        · exact absurd (.more (k := 27) (by kernel_rfl) (.one (by kernel_rfl))) han
        · exact absurd (.more (k := 27) (by kernel_rfl) (.one (by kernel_rfl))) han
        · exact absurd (.one (by kernel_rfl)) han
        · exact absurd rfl hne
        · (obtain rfl := hm.1 rfl; exact hg)
      · change (fun (v : Value) (W : World) => OwB wH.heap.size W v (bodyM m)) v W at hg
        show (fun (v : Value) (W : World) => OwB wH.heap.size W v (bodyM m)) v W'
        try dsimp only at hg ⊢
        rcases hj with rfl | rfl | rfl | rfl | rfl | rfl | rfl | rfl | rfl | rfl | rfl | rfl | rfl | rfl | rfl
        · exact absurd (.one (by kernel_rfl)) han
        · exact absurd (.one (by kernel_rfl)) han
        · exact absurd (.one (by kernel_rfl)) han
        · exact absurd (.one (by kernel_rfl)) han
        · exact absurd (.one (by kernel_rfl)) han
        · exact absurd (.one (by kernel_rfl)) han
        · exact absurd (.one (by kernel_rfl)) han
        · exact absurd (.one (by kernel_rfl)) han
        · exact absurd (.one (by kernel_rfl)) han
        · exact absurd (.one (by kernel_rfl)) han
        · exact absurd (.one (by kernel_rfl)) han
        · exact absurd (.one (by kernel_rfl)) han
        · exact absurd (.one (by kernel_rfl)) han
        · exact absurd (.one (by kernel_rfl)) han
        · exact absurd rfl hne
    case hstep =>
      intro i hi a W hS hsm hgot
      simp only [List.mem_cons, List.not_mem_nil, or_false] at hi
      rcases hi with rfl | rfl | rfl | rfl | rfl | rfl | rfl | rfl | rfl | rfl | rfl | rfl | rfl | rfl | rfl
      · obtain ⟨T, D⟩ := a
        obtain rfl : D = _ := hsm.df
        obtain ⟨L, rfl⟩ : ∃ L : List Value, T = L.toArray := ⟨T.toList, by simp⟩
        obtain ⟨y0, y1, y2, y3, y4, y5, y6, y7, y8, y9, y10, y11, y12, y13, y14, y15, y16, y17, y18, y19, y20, y21, y22, y23, y24, y25, y26, y27, y28, y29, y30, y31, y32, y33, y34, y35, y36, y37, y38, y39, y40, y41, y42, rfl⟩ := list43 (L := L) (by have := hsm.tsz; simpa using this)
        clear hgot hsm
        clear hHeld
        refine wpOp_at (by (simp only [List.getElem?_toArray, List.getElem?_cons_zero]; rfl)) (fun K hK => ?_)
        go_simp
        refine hK.out _ _ ⟨10, _, rfl, rfl, ?_, ?_, ?_⟩
        · show (fun (v : Value) (W : World) => ∃ g z, v = .slice (some ⟨g, 0, none⟩) 2 2 ∧ wH.heap.size ≤ g ∧ W.heap[g]? = some (.cells #[.int .u8 82, .int .u8 75] 5 z)) _ _
          try dsimp only
          exact ⟨W.heap.size, _, rfl, hS.1.size, heap_alloc_new W _⟩
        · exact ⟨fun h => absurd h (by decide), mo_of ((Below.refl W.heap.size W).alloc (Nat.le_refl _) _)⟩
        · exact keepM1 KM (hS.1.trans (((Below.refl W.heap.size W).alloc (Nat.le_refl _) _).mono hS.1.size))
      · obtain ⟨T, D⟩ := a
        obtain rfl : D = _ := hsm.df
        obtain ⟨L, rfl⟩ : ∃ L : List Value, T = L.toArray := ⟨T.toList, by simp⟩
        obtain ⟨y0, y1, y2, y3, y4, y5, y6, y7, y8, y9, y10, y11, y12, y13, y14, y15, y16, y17, y18, y19, y20, y21, y22, y23, y24, y25, y26, y27, y28, y29, y30, y31, y32, y33, y34, y35, y36, y37, y38, y39, y40, y41, y42, rfl⟩ := list43 (L := L) (by have := hsm.tsz; simpa using this)
        have hgi := hgot 0 (by simp) (by kernel_rfl)
        obtain ⟨d, v, hd, hv, hg⟩ := hgi
        obtain rfl : 10 = d := Option.some.inj hd
        obtain rfl : y10 = v := Option.some.inj hv
        change (fun (v : Value) (W : World) => ∃ g z, v = .slice (some ⟨g, 0, none⟩) 2 2 ∧ wH.heap.size ≤ g ∧ W.heap[g]? = some (.cells #[.int .u8 82, .int .u8 75] 5 z)) y10 W at hg
        try dsimp only at hg
        obtain ⟨g, z, rfl, hgB, hgz⟩ := hg
        clear hgot hsm
        clear hHeld
        refine wpOp_at (by (simp only [List.getElem?_toArray, List.getElem?_cons_succ, List.getElem?_cons_zero]; rfl)) (fun K hK => ?_)
        obtain ⟨u1, hcv, hmo, hbl⟩ := convert_blk (P := Tryz.prog) (n := 2) (c := 2) Tryz.underlying22 Tryz.underlying5 hgz hgB
        go_simp
        refine hK.out _ _ ⟨11, _, rfl, rfl, ?_, ?_, ?_⟩
        · show (fun (v : Value) (W : World) => RdB W v ([82, 75])) _ _
          try dsimp only
          obtain ⟨z2, hz2⟩ := hmo.obj _ _ _ _ hgz
          refine .inr ⟨g, 0, 2, rfl, (Array.getElem?_eq_some_iff.1 hz2).1, fun j hj => ?_⟩
          rw [Lib.cell_of_heap hz2]
          have : j = 0 ∨ j = 1 := by simp at hj; omega
          rcases this with rfl | rfl <;> rfl
        · exact ⟨fun h => absurd h (by decide), hmo⟩
        · exact keepM1 KM (hS.1.trans hbl)
      · obtain ⟨T, D⟩ := a
        obtain rfl : D = _ := hsm.df
        obtain ⟨L, rfl⟩ : ∃ L : List Value, T = L.toArray := ⟨T.toList, by simp⟩
        obtain ⟨y0, y1, y2, y3, y4, y5, y6, y7, y8, y9, y10, y11, y12, y13, y14, y15, y16, y17, y18, y19, y20, y21, y22, y23, y24, y25, y26, y27, y28, y29, y30, y31, y32, y33, y34, y35, y36, y37, y38, y39, y40, y41, y42, rfl⟩ := list43 (L := L) (by have := hsm.tsz; simpa using this)
        obtain rfl : y12 = _ := Option.some.inj (hsm.fix 12 (by kernel_rfl))
        clear hgot hsm
        clear hHeld
        refine wpOp_at (by (simp only [List.getElem?_toArray, List.getElem?_cons_succ, List.getElem?_cons_zero]; rfl)) (fun K hK => ?_)
        go_simp
        refine (unhide C1 _ hS.1).mono ?_
        rintro e u1 ⟨v1, rfl, o1, b1⟩
        (try go_wp2_with fail)
        refine hK.out _ _ ⟨13, _, rfl, rfl, ?_, ?_, ?_⟩
        · show (fun (v : Value) (W : World) => RdB W v (nums [m.k, m.f, m.t, m.n, m.h])) _ _
          try dsimp only
          exact o1
        · exact ⟨fun h => absurd h (by decide), mo_of b1⟩
        · exact keepM1 KM (hS.1.trans (b1.mono hS.1.size))
      · obtain ⟨T, D⟩ := a
        obtain rfl : D = _ := hsm.df
        obtain ⟨L, rfl⟩ : ∃ L : List Value, T = L.toArray := ⟨T.toList, by simp⟩
        obtain ⟨y0, y1, y2, y3, y4, y5, y6, y7, y8, y9, y10, y11, y12, y13, y14, y15, y16, y17, y18, y19, y20, y21, y22, y23, y24, y25, y26, y27, y28, y29, y30, y31, y32, y33, y34, y35, y36, y37, y38, y39, y40, y41, y42, rfl⟩ := list43 (L := L) (by have := hsm.tsz; simpa using this)
        obtain rfl : y16 = _ := Option.some.inj (hsm.fix 16 (by kernel_rfl))
        clear hgot hsm
        clear hHeld
        refine wpOp_at (by (simp only [List.getElem?_toArray, List.getElem?_cons_succ, List.getElem?_cons_zero]; rfl)) (fun K hK => ?_)
        go_simp
        refine (unhide C2 _ hS.1).mono ?_
        rintro e u1 ⟨v1, rfl, o1, b1⟩
        (try go_wp2_with fail)
        refine hK.out _ _ ⟨17, _, rfl, rfl, ?_, ?_, ?_⟩
        · show (fun (v : Value) (W : World) => RdB W v (lsB m.tl)) _ _
          try dsimp only
          exact o1
        · exact ⟨fun h => absurd h (by decide), mo_of b1⟩
        · exact keepM1 KM (hS.1.trans (b1.mono hS.1.size))
      · obtain ⟨T, D⟩ := a
        obtain rfl : D = _ := hsm.df
        obtain ⟨L, rfl⟩ : ∃ L : List Value, T = L.toArray := ⟨T.toList, by simp⟩
        obtain ⟨y0, y1, y2, y3, y4, y5, y6, y7, y8, y9, y10, y11, y12, y13, y14, y15, y16, y17, y18, y19, y20, y21, y22, y23, y24, y25, y26, y27, y28, y29, y30, y31, y32, y33, y34, y35, y36, y37, y38, y39, y40, y41, y42, rfl⟩ := list43 (L := L) (by have := hsm.tsz; simpa using this)
        obtain rfl : y20 = _ := Option.some.inj (hsm.fix 20 (by kernel_rfl))
        clear hgot hsm
        clear hHeld
        refine wpOp_at (by (simp only [List.getElem?_toArray, List.getElem?_cons_succ, List.getElem?_cons_zero]; rfl)) (fun K hK => ?_)
        go_simp
        refine hK.out _ _ ⟨21, _, rfl, rfl, ?_, ?_, ?_⟩
        · show (fun (v : Value) (W : World) => ∃ g z, v = .slice (some ⟨g, 0, none⟩) 1 1 ∧ W.heap[g]? = some (.cells #[.int .i64 m.tr] 3 z)) _ _
          try dsimp only
          exact ⟨W.heap.size, _, rfl, heap_alloc_new W _⟩
        · exact ⟨fun h => absurd h (by decide), mo_of ((Below.refl W.heap.size W).alloc (Nat.le_refl _) _)⟩
        · exact keepM1 KM (hS.1.trans (((Below.refl W.heap.size W).alloc (Nat.le_refl _) _).mono hS.1.size))
      · obtain ⟨T, D⟩ := a
        obtain rfl : D = _ := hsm.df
        obtain ⟨L, rfl⟩ : ∃ L : List Value, T = L.toArray := ⟨T.toList, by simp⟩
        obtain ⟨y0, y1, y2, y3, y4, y5, y6, y7, y8, y9, y10, y11, y12, y13, y14, y15, y16, y17, y18, y19, y20, y21, y22, y23, y24, y25, y26, y27, y28, y29, y30, y31, y32, y33, y34, y35, y36, y37, y38, y39, y40, y41, y42, rfl⟩ := list43 (L := L) (by have := hsm.tsz; simpa using this)
        have hgi := hgot 11 (by simp) (by kernel_rfl)
        obtain ⟨d, v, hd, hv, hg⟩ := hgi
        obtain rfl : 21 = d := Option.some.inj hd
        obtain rfl : y21 = v := Option.some.inj hv
        change (fun (v : Value) (W : World) => ∃ g z, v = .slice (some ⟨g, 0, none⟩) 1 1 ∧ W.heap[g]? = some (.cells #[.int .i64 m.tr] 3 z)) y21 W at hg
        try dsimp only at hg
        obtain ⟨g, z, rfl, hgz⟩ := hg
        clear hgot hsm
        clear hHeld
        refine wpOp_at (by (simp only [List.getElem?_toArray, List.getElem?_cons_succ, List.getElem?_cons_zero]; rfl)) (fun K hK => ?_)
        go_simp
        refine (unhide C3 _ _ _ hgz).mono ?_
        rintro e u1 ⟨v1, rfl, o1, b1⟩
        (try go_wp2_with fail)
        refine hK.out _ _ ⟨22, _, rfl, rfl, ?_, ?_, ?_⟩
        · show (fun (v : Value) (W : World) => RdB W v (putN m.tr)) _ _
          try dsimp only
          exact o1
        · exact ⟨fun h => absurd h (by decide), mo_of b1⟩
        · exact keepM1 KM (hS.1.trans (b1.mono hS.1.size))
      · obtain ⟨T, D⟩ := a
        obtain rfl : D = _ := hsm.df
        obtain ⟨L, rfl⟩ : ∃ L : List Value, T = L.toArray := ⟨T.toList, by simp⟩
        obtain ⟨y0, y1, y2, y3, y4, y5, y6, y7, y8, y9, y10, y11, y12, y13, y14, y15, y16, y17, y18, y19, y20, y21, y22, y23, y24, y25, y26, y27, y28, y29, y30, y31, y32, y33, y34, y35, y36, y37, y38, y39, y40, y41, y42, rfl⟩ := list43 (L := L) (by have := hsm.tsz; simpa using this)
        obtain rfl : y24 = _ := Option.some.inj (hsm.fix 24 (by kernel_rfl))
        clear hgot hsm
        clear hHeld
        refine wpOp_at (by (simp only [List.getElem?_toArray, List.getElem?_cons_succ, List.getElem?_cons_zero]; rfl)) (fun K hK => ?_)
        go_simp
        refine (unhide C4 _ hS.1).mono ?_
        rintro e u1 ⟨v1, rfl, o1, b1⟩
        (try go_wp2_with fail)
        refine hK.out _ _ ⟨25, _, rfl, rfl, ?_, ?_, ?_⟩
        · show (fun (v : Value) (W : World) => RdB W v (lsB m.ve)) _ _
          try dsimp only
          exact o1
        · exact ⟨fun h => absurd h (by decide), mo_of b1⟩
        · exact keepM1 KM (hS.1.trans (b1.mono hS.1.size))
      · obtain ⟨T, D⟩ := a
        obtain rfl : D = _ := hsm.df
        obtain ⟨L, rfl⟩ : ∃ L : List Value, T = L.toArray := ⟨T.toList, by simp⟩
        obtain ⟨y0, y1, y2, y3, y4, y5, y6, y7, y8, y9, y10, y11, y12, y13, y14, y15, y16, y17, y18, y19, y20, y21, y22, y23, y24, y25, y26, y27, y28, y29, y30, y31, y32, y33, y34, y35, y36, y37, y38, y39, y40, y41, y42, rfl⟩ := list43 (L := L) (by have := hsm.tsz; simpa using this)
        obtain rfl : y27 = _ := Option.some.inj (hsm.fix 27 (by kernel_rfl))
        clear hgot hsm
        clear hHeld
        refine wpOp_at (by (simp only [List.getElem?_toArray, List.getElem?_cons_succ, List.getElem?_cons_zero]; rfl)) (fun K hK => ?_)
        go_simp
        refine (unhide C5 _ hS.1).mono ?_
        rintro e u1 ⟨v1, rfl, o1, b1⟩
        (try go_wp2_with fail)
        refine hK.out _ _ ⟨28, _, rfl, rfl, ?_, ?_, ?_⟩
        · show (fun (v : Value) (W : World) => RdB W v (lsB m.le)) _ _
          try dsimp only
          exact o1
        · exact ⟨fun h => absurd h (by decide), mo_of b1⟩
        · exact keepM1 KM (hS.1.trans (b1.mono hS.1.size))
      · obtain ⟨T, D⟩ := a
        obtain rfl : D = _ := hsm.df
        obtain ⟨L, rfl⟩ : ∃ L : List Value, T = L.toArray := ⟨T.toList, by simp⟩
        obtain ⟨y0, y1, y2, y3, y4, y5, y6, y7, y8, y9, y10, y11, y12, y13, y14, y15, y16, y17, y18, y19, y20, y21, y22, y23, y24, y25, y26, y27, y28, y29, y30, y31, y32, y33, y34, y35, y36, y37, y38, y39, y40, y41, y42, rfl⟩ := list43 (L := L) (by have := hsm.tsz; simpa using this)
        obtain rfl : y30 = _ := Option.some.inj (hsm.fix 30 (by kernel_rfl))
        clear hgot hsm
        clear hHeld
        refine wpOp_at (by (simp only [List.getElem?_toArray, List.getElem?_cons_succ, List.getElem?_cons_zero]; rfl)) (fun K hK => ?_)
        go_simp
        refine (unhide C6 _ hS.1).mono ?_
        rintro e u1 ⟨v1, rfl, o1, b1⟩
        (try go_wp2_with fail)
        refine hK.out _ _ ⟨31, _, rfl, rfl, ?_, ?_, ?_⟩
        · show (fun (v : Value) (W : World) => RdB W v (sb m.its m.fls)) _ _
          try dsimp only
          exact OwB.rdb o1
        · exact ⟨fun h => absurd h (by decide), mo_of b1⟩
        · exact keepM1 KM (hS.1.trans (b1.mono hS.1.size))
      · obtain ⟨T, D⟩ := a
        obtain rfl : D = _ := hsm.df
        obtain ⟨L, rfl⟩ : ∃ L : List Value, T = L.toArray := ⟨T.toList, by simp⟩
        obtain ⟨y0, y1, y2, y3, y4, y5, y6, y7, y8, y9, y10, y11, y12, y13, y14, y15, y16, y17, y18, y19, y20, y21, y22, y23, y24, y25, y26, y27, y28, y29, y30, y31, y32, y33, y34, y35, y36, y37, y38, y39, y40, y41, y42, rfl⟩ := list43 (L := L) (by have := hsm.tsz; simpa using this)
        have hgi := hgot 21 (by simp) (by kernel_rfl)
        obtain ⟨d, v, hd, hv, hg⟩ := hgi
        obtain rfl : 31 = d := Option.some.inj hd
        obtain rfl : y31 = v := Option.some.inj hv
        change (fun (v : Value) (W : World) => RdB W v (sb m.its m.fls)) y31 W at hg
        try dsimp only at hg
        have hcv := convR (y := s6) hs6 hg
        clear hgot hsm
        clear hHeld
        refine wpOp_at (by (simp only [List.getElem?_toArray, List.getElem?_cons_succ, List.getElem?_cons_zero]; rfl)) (fun K hK => ?_)
        go_simp
        refine hK.out _ _ ⟨32, _, rfl, rfl, ?_, ?_, ?_⟩
        · show (fun (v : Value) (W : World) => v = .string s6) _ W
          try dsimp only
          all_goals rfl
        · exact ⟨fun h => absurd h (by decide), Mo.refl _⟩
        · exact hS
      · obtain ⟨T, D⟩ := a
        obtain rfl : D = _ := hsm.df
        obtain ⟨L, rfl⟩ : ∃ L : List Value, T = L.toArray := ⟨T.toList, by simp⟩
        obtain ⟨y0, y1, y2, y3, y4, y5, y6, y7, y8, y9, y10, y11, y12, y13, y14, y15, y16, y17, y18, y19, y20, y21, y22, y23, y24, y25, y26, y27, y28, y29, y30, y31, y32, y33, y34, y35, y36, y37, y38, y39, y40, y41, y42, rfl⟩ := list43 (L := L) (by have := hsm.tsz; simpa using this)
        have hgi := hgot 22 (by simp) (by kernel_rfl)
        obtain ⟨d, v, hd, hv, hg⟩ := hgi
        obtain rfl : 32 = d := Option.some.inj hd
        obtain rfl : y32 = v := Option.some.inj hv
        change (fun (v : Value) (W : World) => v = .string s6) y32 W at hg
        try dsimp only at hg
        subst hg
        clear hgot hsm
        clear hHeld
        refine wpOp_at (by (simp only [List.getElem?_toArray, List.getElem?_cons_succ, List.getElem?_cons_zero]; rfl)) (fun K hK => ?_)
        go_simp
        refine (unhide C7 _).mono ?_
        rintro e u1 ⟨v1, rfl, o1, b1⟩
        (try go_wp2_with fail)
        refine hK.out _ _ ⟨33, _, rfl, rfl, ?_, ?_, ?_⟩
        · show (fun (v : Value) (W : World) => RdB W v (putN (sb m.its m.fls).length ++ sb m.its m.fls)) _ _
          try dsimp only
          exact o1
        · exact ⟨fun h => absurd h (by decide), mo_of b1⟩
        · exact keepM1 KM (hS.1.trans (b1.mono hS.1.size))
      · obtain ⟨T, D⟩ := a
        obtain rfl : D = _ := hsm.df
        obtain ⟨L, rfl⟩ : ∃ L : List Value, T = L.toArray := ⟨T.toList, by simp⟩
        obtain ⟨y0, y1, y2, y3, y4, y5, y6, y7, y8, y9, y10, y11, y12, y13, y14, y15, y16, y17, y18, y19, y20, y21, y22, y23, y24, y25, y26, y27, y28, y29, y30, y31, y32, y33, y34, y35, y36, y37, y38, y39, y40, y41, y42, rfl⟩ := list43 (L := L) (by have := hsm.tsz; simpa using this)
        obtain rfl : y35 = _ := Option.some.inj (hsm.fix 35 (by kernel_rfl))
        clear hgot hsm
        clear hHeld
        refine wpOp_at (by (simp only [List.getElem?_toArray, List.getElem?_cons_succ, List.getElem?_cons_zero]; rfl)) (fun K hK => ?_)
        go_simp
        refine (unhide C8 _ hS.1).mono ?_
        rintro e u1 ⟨v1, rfl, o1, b1⟩
        (try go_wp2_with fail)
        refine hK.out _ _ ⟨36, _, rfl, rfl, ?_, ?_, ?_⟩
        · show (fun (v : Value) (W : World) => RdB W v (putN m.ma.length ++ sbFs m.ma)) _ _
          try dsimp only
          exact o1
        · exact ⟨fun h => absurd h (by decide), mo_of b1⟩
        · exact keepM1 KM (hS.1.trans (b1.mono hS.1.size))
      · obtain ⟨T, D⟩ := a
        obtain rfl : D = _ := hsm.df
        obtain ⟨L, rfl⟩ : ∃ L : List Value, T = L.toArray := ⟨T.toList, by simp⟩
        obtain ⟨y0, y1, y2, y3, y4, y5, y6, y7, y8, y9, y10, y11, y12, y13, y14, y15, y16, y17, y18, y19, y20, y21, y22, y23, y24, y25, y26, y27, y28, y29, y30, y31, y32, y33, y34, y35, y36, y37, y38, y39, y40, y41, y42, rfl⟩ := list43 (L := L) (by have := hsm.tsz; simpa using this)
        have hgi := hgot 1 (by simp) (by kernel_rfl)
        obtain ⟨d, v, hd, hv, hg⟩ := hgi
        obtain rfl : 11 = d := Option.some.inj hd
        obtain rfl : y11 = v := Option.some.inj hv
        change (fun (v : Value) (W : World) => RdB W v ([82, 75])) y11 W at hg
        try dsimp only at hg
        obtain ⟨a1, n1, c1, rfl⟩ := hg.form3
        have hr1 := hg
        clear hg
        have hgi := hgot 3 (by simp) (by kernel_rfl)
        obtain ⟨d, v, hd, hv, hg⟩ := hgi
        obtain rfl : 13 = d := Option.some.inj hd
        obtain rfl : y13 = v := Option.some.inj hv
        change (fun (v : Value) (W : World) => RdB W v (nums [m.k, m.f, m.t, m.n, m.h])) y13 W at hg
        try dsimp only at hg
        obtain ⟨a3, n3, c3, rfl⟩ := hg.form3
        have hr3 := hg
        clear hg
        have hgi := hgot 7 (by simp) (by kernel_rfl)
        obtain ⟨d, v, hd, hv, hg⟩ := hgi
        obtain rfl : 17 = d := Option.some.inj hd
        obtain rfl : y17 = v := Option.some.inj hv
        change (fun (v : Value) (W : World) => RdB W v (lsB m.tl)) y17 W at hg
        try dsimp only at hg
        obtain ⟨a7, n7, c7, rfl⟩ := hg.form3
        have hr7 := hg
        clear hg
        have hgi := hgot 12 (by simp) (by kernel_rfl)
        obtain ⟨d, v, hd, hv, hg⟩ := hgi
        obtain rfl : 22 = d := Option.some.inj hd
        obtain rfl : y22 = v := Option.some.inj hv
        change (fun (v : Value) (W : World) => RdB W v (putN m.tr)) y22 W at hg
        try dsimp only at hg
        obtain ⟨a12, n12, c12, rfl⟩ := hg.form3
        have hr12 := hg
        clear hg
        have hgi := hgot 15 (by simp) (by kernel_rfl)
        obtain ⟨d, v, hd, hv, hg⟩ := hgi
        obtain rfl : 25 = d := Option.some.inj hd
        obtain rfl : y25 = v := Option.some.inj hv
        change (fun (v : Value) (W : World) => RdB W v (lsB m.ve)) y25 W at hg
        try dsimp only at hg
        obtain ⟨a15, n15, c15, rfl⟩ := hg.form3
        have hr15 := hg
        clear hg
        have hgi := hgot 18 (by simp) (by kernel_rfl)
        obtain ⟨d, v, hd, hv, hg⟩ := hgi
        obtain rfl : 28 = d := Option.some.inj hd
        obtain rfl : y28 = v := Option.some.inj hv
        change (fun (v : Value) (W : World) => RdB W v (lsB m.le)) y28 W at hg
        try dsimp only at hg
        obtain ⟨a18, n18, c18, rfl⟩ := hg.form3
        have hr18 := hg
        clear hg
        have hgi := hgot 23 (by simp) (by kernel_rfl)
        obtain ⟨d, v, hd, hv, hg⟩ := hgi
        obtain rfl : 33 = d := Option.some.inj hd
        obtain rfl : y33 = v := Option.some.inj hv
        change (fun (v : Value) (W : World) => RdB W v (putN (sb m.its m.fls).length ++ sb m.its m.fls)) y33 W at hg
        try dsimp only at hg
        obtain ⟨a23, n23, c23, rfl⟩ := hg.form3
        have hr23 := hg
        clear hg
        have hgi := hgot 26 (by simp) (by kernel_rfl)
        obtain ⟨d, v, hd, hv, hg⟩ := hgi
        obtain rfl : 36 = d := Option.some.inj hd
        obtain rfl : y36 = v := Option.some.inj hv
        change (fun (v : Value) (W : World) => RdB W v (putN m.ma.length ++ sbFs m.ma)) y36 W at hg
        try dsimp only at hg
        obtain ⟨a26, n26, c26, rfl⟩ := hg.form3
        have hr26 := hg
        clear hg
        clear hgot hsm
        clear hHeld
        refine wpOp_at (by (simp only [List.getElem?_toArray, List.getElem?_cons_succ, List.getElem?_cons_zero]; rfl)) (fun K hK => ?_)
        go_simp
        refine hK.out _ _ ⟨37, _, rfl, rfl, ?_, ?_, ?_⟩
        · show (fun (v : Value) (W : World) => ∃ g vs, v = .slice (some ⟨g, 0, none⟩) 8 8 ∧ Rws W g vs [[82, 75], nums [m.k, m.f, m.t, m.n, m.h], lsB m.tl, putN m.tr, lsB m.ve, lsB m.le, putN (sb m.its m.fls).length ++ sb m.its m.fls, putN m.ma.length ++ sbFs m.ma]) _ _
          try dsimp only
          exact ⟨W.heap.size, _, rfl, rws8 hr1 hr3 hr7 hr12 hr15 hr18 hr23 hr26⟩
        · exact ⟨fun h => absurd h (by decide), mo_of ((Below.refl W.heap.size W).alloc (Nat.le_refl _) _)⟩
        · exact keepM1 KM (hS.1.trans (((Below.refl W.heap.size W).alloc (Nat.le_refl _) _).mono hS.1.size))
      · obtain ⟨T, D⟩ := a
        obtain rfl : D = _ := hsm.df
        obtain ⟨L, rfl⟩ : ∃ L : List Value, T = L.toArray := ⟨T.toList, by simp⟩
        obtain ⟨y0, y1, y2, y3, y4, y5, y6, y7, y8, y9, y10, y11, y12, y13, y14, y15, y16, y17, y18, y19, y20, y21, y22, y23, y24, y25, y26, y27, y28, y29, y30, y31, y32, y33, y34, y35, y36, y37, y38, y39, y40, y41, y42, rfl⟩ := list43 (L := L) (by have := hsm.tsz; simpa using this)
        have hgi := hgot 27 (by simp) (by kernel_rfl)
        obtain ⟨d, v, hd, hv, hg⟩ := hgi
        obtain rfl : 37 = d := Option.some.inj hd
        obtain rfl : y37 = v := Option.some.inj hv
        change (fun (v : Value) (W : World) => ∃ g vs, v = .slice (some ⟨g, 0, none⟩) 8 8 ∧ Rws W g vs [[82, 75], nums [m.k, m.f, m.t, m.n, m.h], lsB m.tl, putN m.tr, lsB m.ve, lsB m.le, putN (sb m.its m.fls).length ++ sb m.its m.fls, putN m.ma.length ++ sbFs m.ma]) y37 W at hg
        try dsimp only at hg
        obtain ⟨g, vs, rfl, hr⟩ := hg
        clear hgot hsm
        clear hHeld
        refine wpOp_at (by (simp only [List.getElem?_toArray, List.getElem?_cons_succ, List.getElem?_cons_zero]; rfl)) (fun K hK => ?_)
        go_simp
        refine (iconcat_any g vs [[82, 75], nums [m.k, m.f, m.t, m.n, m.h], lsB m.tl, putN m.tr, lsB m.ve, lsB m.le, putN (sb m.its m.fls).length ++ sb m.its m.fls, putN m.ma.length ++ sbFs m.ma] W 8 rfl (by omega) (unhide HFL) hr).mono ?_
        rintro e u1 ⟨v1, rfl, o1, b1⟩
        (try go_wp2_with fail)
        refine hK.out _ _ ⟨38, _, rfl, rfl, ?_, ?_, ?_⟩
        · show (fun (v : Value) (W : World) => OwB wH.heap.size W v (bodyM m)) _ _
          try dsimp only
          rw [unhide HF] at o1
          exact owns_base o1 hS.1.size
        · exact ⟨fun h => absurd h (by decide), mo_of b1⟩
        · exact keepM1 KM (hS.1.trans (b1.mono hS.1.size))
      · obtain ⟨T, D⟩ := a
        obtain rfl : D = _ := hsm.df
        obtain ⟨L, rfl⟩ : ∃ L : List Value, T = L.toArray := ⟨T.toList, by simp⟩
        obtain ⟨y0, y1, y2, y3, y4, y5, y6, y7, y8, y9, y10, y11, y12, y13, y14, y15, y16, y17, y18, y19, y20, y21, y22, y23, y24, y25, y26, y27, y28, y29, y30, y31, y32, y33, y34, y35, y36, y37, y38, y39, y40, y41, y42, rfl⟩ := list43 (L := L) (by have := hsm.tsz; simpa using this)
        have hgi := hgot 28 (by simp) (by kernel_rfl)
        obtain ⟨d, v, hd, hv, hg⟩ := hgi
        obtain rfl : 38 = d := Option.some.inj hd
        obtain rfl : y38 = v := Option.some.inj hv
        change (fun (v : Value) (W : World) => OwB wH.heap.size W v (bodyM m)) y38 W at hg
        try dsimp only at hg
        skip
        clear hgot hsm
        clear hHeld
        refine wpOp_at (by (simp only [List.getElem?_toArray, List.getElem?_cons_succ, List.getElem?_cons_zero]; rfl)) (fun K hK => ?_)
        go_simp
        refine hK.out _ _ ⟨4, _, rfl, rfl, ?_, ?_, ?_⟩
        · show (fun (v : Value) (W : World) => OwB wH.heap.size W v (bodyM m)) _ _
          try dsimp only
          exact hg
        · exact ⟨fun _ => rfl, Mo.refl _⟩
        · exact hS
    case hfin =>
      intro a W hS hsm hgot
      obtain ⟨T, D⟩ := a
      obtain rfl : D = _ := hsm.df
      obtain ⟨L, rfl⟩ : ∃ L : List Value, T = L.toArray := ⟨T.toList, by simp⟩
      obtain ⟨y0, y1, y2, y3, y4, y5, y6, y7, y8, y9, y10, y11, y12, y13, y14, y15, y16, y17, y18, y19, y20, y21, y22, y23, y24, y25, y26, y27, y28, y29, y30, y31, y32, y33, y34, y35, y36, y37, y38, y39, y40, y41, y42, rfl⟩ := list43 (L := L) (by have := hsm.tsz; simpa using this)
      obtain rfl : y0 = _ := Option.some.inj (hsm.fix 0 (by kernel_rfl))
      obtain rfl : y1 = _ := Option.some.inj (hsm.fix 1 (by kernel_rfl))
      obtain rfl : y2 = _ := Option.some.inj (hsm.fix 2 (by kernel_rfl))
      obtain rfl : y3 = _ := Option.some.inj (hsm.fix 3 (by kernel_rfl))
      obtain rfl : y5 = _ := Option.some.inj (hsm.fix 5 (by kernel_rfl))
      obtain rfl : y6 = _ := Option.some.inj (hsm.fix 6 (by kernel_rfl))
      obtain rfl : y7 = _ := Option.some.inj (hsm.fix 7 (by kernel_rfl))
      obtain rfl : y8 = _ := Option.some.inj (hsm.fix 8 (by kernel_rfl))
      obtain rfl : y9 = _ := Option.some.inj (hsm.fix 9 (by kernel_rfl))
      have hgi := hgot 29 (by simp) (by decide)
      obtain ⟨d, v, hd, hv, hg⟩ := hgi
      obtain rfl : 4 = d := Option.some.inj hd
      obtain rfl : y4 = v := Option.some.inj hv
      change (fun (v : Value) (W : World) => OwB wH.heap.size W v (bodyM m)) y4 W at hg
      try dsimp only at hg
      skip
      clear hgot hsm hHeld
      refine NoPanic.normal ?_
      have O2 := hide (owns_base (base' := w.heap.size) hg (unhide BH).bel.size)
      have BL := hide ((unhide BH).bel.trans (hS.1.mono (unhide BH).bel.size))
      have HS := hide (seg_of_owns hg)
      clear hS hg
      go_wp2_with fail
      refine (iseal_any y4 (bodyM m) W (by omega) (bodyM_bytes m) (unhide HS)).mono ?_
      rintro e w3 ⟨v3, rfl, o3, b3⟩
      have O3 := hide o3
      have O23 := hide (owns_later (unhide O2) b3 (Nat.le_refl _))
      have BL3 := hide ((unhide BL).trans (b3.mono (unhide BL).size))
      have hs3 := (unhide BL3).size
      have hl3 : (bodyM m).length + (sumB (crcOf (bodyM m))).length ≤ 100000000 := by rw [sumB_len]; omega
      clear o3 b3 O2 BL HS
      go_wp2_with (at_builtin; refine wpList_appB _ rfl _ _ rfl w.heap.size _ _ rfl (unhide O23) _ _ _ rfl (unhide O3) hl3 hs3 ?_; intro v' w4 hO hG; have HO4 := hide hO; have HB4 := hide ((unhide BL3).grown hG hs3 (fun k hk => ((unhide O23).lt k hk).1)); clear hO hG)
      go_ret
      exact ⟨_, rfl, by rw [unhide HE]; exact unhide HO4, unhide HB4⟩
end Go.Proofs.YtjlocbimkfocnaaGreat
