/-
  A node's leaf, the program's and the specification's; whether a number stands in a list. No statement is proved here.
  A state that is sliced to some leaves: the specification's. No statement is proved here.
  What a state lacks of another one: the program's. No statement is proved here.
  A state that is sliced to some leaves: the program's, and the specification's Slice. No statement is proved here.
  The helpers of the laws on slices of numbers: a copy of its own memory, two that read the same, marks and whether they are held. No statement is proved here.
  A law of the walk: append(dst, src...) where both are rows that the call itself owns, the source nil or not. No statement is proved here.
  The program's PutText returns, in memory of its own, the bytes that 'putT' says, and turns nothing that was there. No statement is proved here.
  The specification's PutText returns, in memory of its own, the bytes that 'putT' says, and turns nothing that was there. No statement is proved here.
-/
import Derived.Test.YtdpaocikmijioabGreatSCrc
import Derived.Test.YtdpaocikmijioabGreatSStOk
import Derived.Test.YtdpaocikmijioabGreatIStOk
import Derived.Test.YtdpaocikmijioabGreatApp2
import Derived.Test.YtdpaocikmijioabGreatStT
import Derived.Test.YtdpaocikmijioabGreatStM
import Derived.Test.YtdpaocikmijioabGreatVwP
import Derived.Test.YtdpaocikmijioabGreatSt3
import Derived.Test.YtdpaocikmijioabGreatStBx
import Derived.Test.YtdpaocikmijioabGreatRegs6
import Derived.WalkLawsBesides
import Derived.BigQuiet
import Derived.Deep.QuietTactic
import Derived.Test.YtdpaocikmijioabGreatBase
import Derived.Laws.AppendOwnNone
import Derived.Deep.RegionWith
import Derived.Test.YtdpaocikmijioabGreatPutTP
namespace Go.Proofs.YtdpaocikmijioabGreat
open Go.RowKit

theorem has_yes {ns : List Int} {k : Nat} {z x : Int} (h : ns[k]? = some z) (e : (z == x) = true) : hasN ns x = true := by
  rw [hasN_iff]
  have : z = x := by simpa using e
  subst this
  exact List.mem_of_getElem? h
theorem has_no {ns : List Int} {n : Nat} {x : Int} (hn : n = ns.length) (h : ∀ (j : Nat) (z : Int), j < n → ns[j]? = some z → (z == x) = false) : hasN ns x = false := by
  rw [hasN, List.any_eq_false]
  intro z hz
  obtain ⟨j, hj, e⟩ := List.mem_iff_getElem.1 hz
  have := h j z (by omega) (by rw [List.getElem?_eq_getElem hj, e])
  simpa using this

set_option maxHeartbeats 1000000 in
theorem sleaf_any (id l : Int) (hl : Hid (lf id = l)) (w : World) :
    Calls Tryz.prog 98 #[.int .i64 id] w fun e w' => e = .returned (.int .i64 l) ∧ Below w.heap.size w w' := by
  obtain ⟨k, HK⟩ : ∃ k, Hid (inB id 0 4 = k) := ⟨_, hide rfl⟩
  go_enter Tryz.func98, Tryz.ntmps98
  go_wp2_with fail
  refine (l3node_any id k HK _).mono ?_
  rintro e _ ⟨rfl, rfl⟩
  cases k
  · obtain rfl : l = -1 := by rw [← unhide hl, lf_out (unhide HK)]
    go_wp2
    go_ret
    exact ⟨rfl, Below.refl _ _⟩
  · have hlf := (lf_in (unhide HK)).1
    obtain ⟨i1, i2⟩ := inB_iff.1 (unhide HK)
    go_wp2_with fail
    refine (sputnum_any id _ (by omega) (by omega)).mono ?_
    rintro e w1 ⟨v1, rfl, o1, b1⟩
    have S1 := hide (seg_of_owns o1)
    have B1 := hide b1
    clear o1 b1
    go_wp2_with fail
    refine (scrc_any v1 (putN id) _ (by have := putN_length id; omega) (unhide S1)).mono ?_
    rintro e _ ⟨rfl, rfl⟩
    have c0 := crcOf_nonneg _ (putN_bytes id)
    have c1 := crcOf_range _ (putN_bytes id)
    have HL := hide ((hlf.symm.trans (unhide hl)))
    clear hlf hl S1
    generalize crcOf (putN id) = c at c0 c1 HL ⊢
    go_wp2
    go_ret
    exact ⟨ret_int (unhide HL), unhide B1⟩
set_option maxHeartbeats 1000000 in
theorem ileaf_any (id l : Int) (hl : Hid (lf id = l)) (w : World) :
    Calls Tryz.prog 37 #[.int .i64 id] w fun e w' => e = .returned (.int .i64 l) ∧ Below w.heap.size w w' := by
  obtain ⟨k, HK⟩ : ∃ k, Hid (inB id 0 4 = k) := ⟨_, hide rfl⟩
  go_enter Tryz.func37, Tryz.ntmps37
  go_wp2_with fail
  refine (inode_any id k HK _).mono ?_
  rintro e _ ⟨rfl, rfl⟩
  cases k
  · obtain rfl : l = -1 := by rw [← unhide hl, lf_out (unhide HK)]
    go_wp2
    go_ret
    exact ⟨rfl, Below.refl _ _⟩
  · have hlf := (lf_in (unhide HK)).1
    obtain ⟨i1, i2⟩ := inB_iff.1 (unhide HK)
    go_wp2_with fail
    refine (iputnum_any id _ (by omega) (by omega)).mono ?_
    rintro e w1 ⟨v1, rfl, o1, b1⟩
    have S1 := hide (seg_of_owns o1)
    have B1 := hide b1
    clear o1 b1
    go_wp2_with fail
    refine (icrc_any v1 (putN id) _ (by have := putN_length id; omega) (unhide S1)).mono ?_
    rintro e _ ⟨rfl, rfl⟩
    have c0 := crcOf_nonneg _ (putN_bytes id)
    have c1 := crcOf_range _ (putN_bytes id)
    have HL := hide ((hlf.symm.trans (unhide hl)))
    clear hlf hl S1
    generalize crcOf (putN id) = c at c0 c1 HL ⊢
    go_wp2
    go_ret
    exact ⟨ret_int (unhide HL), unhide B1⟩
set_option maxHeartbeats 1000000 in
theorem l1has_any (a : Option Addr) (n c : Nat) (ns : List Int) (x : Int) (r : Bool) (hr : Hid (hasN ns x = r)) (w : World) (hn : n ≤ 140737488351232) (h : RwN w (.slice a n c) ns) :
    Calls Tryz.prog 97 #[.slice a n c, .int .i64 x] w fun e w' => e = .returned (.bool r) ∧ w = w' := by
  have HR := hide h
  have HN := hide h.len.1
  clear h
  go_enter Tryz.func97, Tryz.ntmps97
  go_wp2
  go_loop [5] (fun i => ∃ k : Nat, k ≤ n ∧ i = .int .i64 k ∧ ∀ (j : Nat) (z : Int), j < k → ns[j]? = some z → (z == x) = false) (fun i => n - (intOf i).toNat)
  case atStart => exact ⟨0, Nat.zero_le _, rfl, fun j z h => by omega⟩
  case round =>
    obtain ⟨k, hk, rfl, hno⟩ := hrel
    have HO := hide hno
    clear hno
    by_cases hlt : k < n
    · obtain ⟨z, b, off, hz, rfl, hb, hc, cz⟩ := (unhide HR).atN hlt
      have HZ := hide hz
      clear hz
      rcases Bool.eq_false_or_eq_true (z == x) with he | he
      · obtain rfl : r = true := by rw [← unhide hr]; exact has_yes (unhide HZ) he
        go_wp2
        go_ret
        exact ⟨rfl, rfl⟩
      · go_wp2
        go_round
        case rel => exact ⟨k + 1, by omega, by go_num, step_no (unhide HZ) he (unhide HO)⟩
        case measure => simp [intOf]; omega
    · obtain rfl : r = false := by rw [← unhide hr]; exact has_no (unhide HN) (fun j z hj hz => unhide HO j z (by omega) hz)
      go_wp2
      go_ret
      exact ⟨rfl, rfl⟩
set_option maxHeartbeats 1000000 in
theorem iindex_any (a : Option Addr) (n c : Nat) (ns : List Int) (x : Int) (r : Bool) (hr : Hid (hasN ns x = r)) (w : World) (hn : n ≤ 140737488351232) (h : RwN w (.slice a n c) ns) :
    Calls Tryz.prog 117 #[.slice a n c, .int .i64 x] w fun e w' => ∃ q : Int, e = .returned (.int .i64 q) ∧ decide (0 ≤ q) = r ∧ w = w' := by
  have HR := hide h
  have HN := hide h.len.1
  clear h
  go_enter Tryz.func117, Tryz.ntmps117
  go_wp2
  go_loop [8] (fun i => ∃ k : Nat, k ≤ n ∧ i = .int .i64 k ∧ ∀ (j : Nat) (z : Int), j < k → ns[j]? = some z → (z == x) = false) (fun i => n - (intOf i).toNat)
  case atStart => exact ⟨0, Nat.zero_le _, rfl, fun j z h => by omega⟩
  case round =>
    obtain ⟨k, hk, rfl, hno⟩ := hrel
    have HO := hide hno
    clear hno
    by_cases hlt : k < n
    · obtain ⟨z, b, off, hz, rfl, hb, hc, cz⟩ := (unhide HR).atN hlt
      have HZ := hide hz
      clear hz
      rcases Bool.eq_false_or_eq_true (z == x) with he | he
      · obtain rfl : r = true := by rw [← unhide hr]; exact has_yes (unhide HZ) he
        have hxz : (x == z) = true := by rw [BEq.comm]; exact he
        go_wp2
        go_ret
        exact ⟨k, rfl, by simp, rfl⟩
      · have hxz : (x == z) = false := by rw [BEq.comm]; exact he
        go_wp2
        go_round
        case rel => exact ⟨k + 1, by omega, by go_num, step_no (unhide HZ) he (unhide HO)⟩
        case measure => simp [intOf]; omega
    · obtain rfl : r = false := by rw [← unhide hr]; exact has_no (unhide HN) (fun j z hj hz => unhide HO j z (by omega) hz)
      go_wp2
      go_ret
      exact ⟨-1, rfl, by decide, rfl⟩
theorem icontains_any (a : Option Addr) (n c : Nat) (ns : List Int) (x : Int) (r : Bool) (hr : Hid (hasN ns x = r)) (w : World) (hn : n ≤ 140737488351232) (h : RwN w (.slice a n c) ns) :
    Calls Tryz.prog 96 #[.slice a n c, .int .i64 x] w fun e w' => e = .returned (.bool r) ∧ w = w' := by
  go_enter Tryz.func96, Tryz.ntmps96
  go_wp2_with fail
  refine (iindex_any a n c ns x r hr _ hn h).mono ?_
  rintro e _ ⟨q, rfl, hq, rfl⟩
  go_wp2
  go_ret
  exact ⟨rfl, rfl⟩
end Go.Proofs.YtdpaocikmijioabGreat

namespace Go.Proofs.YtdpaocikmijioabGreat
open Go.RowKit

abbrev StC (v1 v2 : Value) : Obj := .cells #[v1, v2] 27 (0, 0)
/-- What lies in memory while a slice is made: the argument, the result, and what is made, in blocks H to H + 2. -/
structure J2 (w X : World) (A : Obj) (a1 : Option Addr) (n1 c1 : Nat) (a2 : Option Addr) (n2 c2 : Nat) (its : List Itm) (fls : List Flr) : Prop where
  bel : Below w.heap.size w X
  ka : X.heap[w.heap.size]? = some A
  kr : X.heap[w.heap.size + 1]? = some (StC (.slice none 0 0) (.slice none 0 0))
  ko : X.heap[w.heap.size + 1 + 1]? = some (StC (.slice a1 n1 c1) (.slice a2 n2 c2))
  oi : OwI (w.heap.size + 3) X (.slice a1 n1 c1) its
  of : OwF (w.heap.size + 3) X (.slice a2 n2 c2) fls
section
variable {w X Y : World} {A : Obj} {a1 : Option Addr} {n1 c1 : Nat} {a2 : Option Addr} {n2 c2 : Nat} {its its' : List Itm} {fls fls' : List Flr}
theorem J2.sz (h : J2 w X A a1 n1 c1 a2 n2 c2 its fls) : w.heap.size + 3 ≤ X.heap.size := by
  have := (Array.getElem?_eq_some_iff.mp h.ko).1
  omega
theorem J2.later (h : J2 w X A a1 n1 c1 a2 n2 c2 its fls) (b : Below X.heap.size X Y) : J2 w Y A a1 n1 c1 a2 n2 c2 its fls := by
  have hs := h.sz
  exact ⟨h.bel.trans (b.mono (by omega)), (b.block _ (by omega)).trans h.ka, (b.block _ (by omega)).trans h.kr, (b.block _ (by omega)).trans h.ko, h.oi.later b, h.of.later b⟩
theorem J2.appI (h : J2 w X A a1 n1 c1 a2 n2 c2 its fls) {a' : Option Addr} {n' c' : Nat}
    (ho : OwI (w.heap.size + 3) Y (.slice a' n' c') its') (hg : X.grownBy Y (Value.slice a1 n1 c1).ownBlock) : J2 w (Y.setCell ⟨w.heap.size + 1 + 1, 0, none⟩ (.slice a' n' c')) A a' n' c' a2 n2 c2 its' fls := by
  have hs := h.sz
  have hlt := World.ownsRow.lt h.oi
  have t := Trn.of_grown hg
  have hne : ∀ g, g < w.heap.size + 3 → ¬ (Value.slice a1 n1 c1).ownBlock = some g := fun g hg q => by have := hlt g q; omega
  have hap := owns_apart h.of h.oi (by decide)
  have bl : ∀ g, g < w.heap.size + 1 + 1 → (Y.setCell ⟨w.heap.size + 1 + 1, 0, none⟩ (.slice a' n' c')).heap[g]? = X.heap[g]? := fun g hg' => by
    rw [heap_setCell_other _ _ _ _ (by show g ≠ w.heap.size + 1 + 1; omega)]
    exact t.block g (by omega) (hne g (by omega))
  refine ⟨(t.below h.bel h.bel.size (fun i q => by have := hlt i q; omega)).setCell (p := ⟨w.heap.size + 1 + 1, 0, none⟩) (by simp <;> omega) _, (bl _ (by omega)).trans h.ka, (bl _ (by omega)).trans h.kr, ?_, ho.set _ (by simp <;> omega) _, ?_⟩
  · exact heap_setCell_same _ _ _ _ _ _ ((t.block _ (by omega) (hne _ (by omega))).trans h.ko)
  · exact (t.own h.of (fun i hi q => by rcases hap with e | e; rw [e] at hi; cases hi; exact e (hi.trans q.symm))).set _ (by simp <;> omega) _
theorem J2.appF (h : J2 w X A a1 n1 c1 a2 n2 c2 its fls) {a' : Option Addr} {n' c' : Nat}
    (ho : OwF (w.heap.size + 3) Y (.slice a' n' c') fls') (hg : X.grownBy Y (Value.slice a2 n2 c2).ownBlock) : J2 w (Y.setCell ⟨w.heap.size + 1 + 1, 1, none⟩ (.slice a' n' c')) A a1 n1 c1 a' n' c' its fls' := by
  have hs := h.sz
  have hlt := World.ownsRow.lt h.of
  have t := Trn.of_grown hg
  have hne : ∀ g, g < w.heap.size + 3 → ¬ (Value.slice a2 n2 c2).ownBlock = some g := fun g hg q => by have := hlt g q; omega
  have hap := owns_apart h.oi h.of (by decide)
  have bl : ∀ g, g < w.heap.size + 1 + 1 → (Y.setCell ⟨w.heap.size + 1 + 1, 1, none⟩ (.slice a' n' c')).heap[g]? = X.heap[g]? := fun g hg' => by
    rw [heap_setCell_other _ _ _ _ (by show g ≠ w.heap.size + 1 + 1; omega)]
    exact t.block g (by omega) (hne g (by omega))
  refine ⟨(t.below h.bel h.bel.size (fun i q => by have := hlt i q; omega)).setCell (p := ⟨w.heap.size + 1 + 1, 1, none⟩) (by simp <;> omega) _, (bl _ (by omega)).trans h.ka, (bl _ (by omega)).trans h.kr, ?_, ?_, ho.set _ (by simp <;> omega) _⟩
  · exact heap_setCell_same _ _ _ _ _ _ ((t.block _ (by omega) (hne _ (by omega))).trans h.ko)
  · exact (t.own h.oi (fun i hi q => by rcases hap with e | e; rw [e] at hi; cases hi; exact e (hi.trans q.symm))).set _ (by simp <;> omega) _
end
theorem J2.drew {w X : World} {A : Obj} {a1 : Option Addr} {n1 c1 : Nat} {a2 : Option Addr} {n2 c2 : Nat} {its : List Itm} {fls : List Flr} (h : J2 w X A a1 n1 c1 a2 n2 c2 its fls) : J2 w X.drew A a1 n1 c1 a2 n2 c2 its fls := h.later ((Below.refl _ _).drew)
theorem J2.new (w : World) (v1 v2 : Value) : J2 w (((w.alloc (StC v1 v2)).alloc (StC (.slice none 0 0) (.slice none 0 0))).alloc (StC (.slice none 0 0) (.slice none 0 0))) (StC v1 v2) none 0 0 none 0 0 [] [] :=
  ⟨((((Below.refl w.heap.size w).alloc (Nat.le_refl _) _).alloc (by simp) _).alloc (by simp; omega) _), lowB3 w _ _ _, midB3 w _ _ _, newB3 w _ _ _, World.ownsRow_nil _ _ _ _, World.ownsRow_nil _ _ _ _⟩

set_option maxHeartbeats 8000000 in
set_option maxRecDepth 100000 in
theorem l6slice_any (ai : Option Addr) (ni ci : Nat) (xs : List Itm) (af : Option Addr) (nf cf : Nat) (fs : List Flr) (la : Option Addr) (ln lc : Nat) (ls : List Int) (n1 n2 : Nat) (hn1 : Hid ((slI ls xs).length = n1)) (hn2 : Hid ((slF ls fs).length = n2)) (w : World)
    (m5 : ni ≤ 5) (f5 : nf ≤ 5) (hln : ln ≤ 140737488351232) (hx : Rw encI 6 w (.slice ai ni ci) xs) (hf : Rw encF 2 w (.slice af nf cf) fs) (hl : RwN w (.slice la ln lc) ls) :
    Calls Tryz.prog 60 #[.agg #[.slice ai ni ci, .slice af nf cf], .slice la ln lc] w fun e w' => ∃ a1 c1 a2 c2, e = .returned (.agg #[.slice a1 n1 c1, .slice a2 n2 c2]) ∧ OwI w.heap.size w' (.slice a1 n1 c1) (slI ls xs) ∧ OwF w.heap.size w' (.slice a2 n2 c2) (slF ls fs) ∧ Below w.heap.size w w' := by
  obtain ⟨i0, hi, hz0, hz1, hz2⟩ := info_parts Tryz.infoItem
  obtain ⟨i1, gi, gz0, gz1, gz2⟩ := info_parts Tryz.infoFloor
  have HX := hide hx
  have HF := hide hf
  have HL := hide hl
  clear hx hf hl
  go_enter Tryz.func60, Tryz.ntmps60
  go_wp2
  go_loopw [6] (fun i wr => ∃ (k : Nat) (a1 : Option Addr) (m1 c1 : Nat), k ≤ ni ∧ i = .int .i64 k ∧ J2 w wr (StC (.slice ai ni ci) (.slice af nf cf)) a1 m1 c1 none 0 0 (slI ls (xs.take k)) []) (fun i _ => ni - (intOf i).toNat)
  case atStart => exact ⟨0, none, 0, 0, by omega, rfl, J2.new w _ _⟩
  case round =>
    obtain ⟨k, a1, m1, c1, hk, rfl, hJ⟩ := hrel
    have HJ := hide hJ
    have hsz := hJ.sz
    obtain ⟨pa0, pa1, -⟩ := blk_cells2 hJ.ka
    clear hJ
    by_cases hlt : k < ni
    · obtain ⟨x, b, off, hx, rfl, hb, hcap, hc⟩ := ((unhide HX).later (unhide HJ).bel).at hlt
      obtain ⟨c0, c1', c2', c3, c4, c5⟩ := item_cells hc
      obtain ⟨q, hq⟩ : ∃ q, Hid (lf x.1 = q) := ⟨_, hide rfl⟩
      obtain ⟨r, hr⟩ : ∃ r, Hid (hasN ls q = r) := ⟨_, hide rfl⟩
      have HX1 := hide hx
      clear hx
      go_wp2_with fail
      refine (sleaf_any x.1 q hq _).mono ?_
      rintro e w3 ⟨rfl, b3⟩
      have J4 := hide ((unhide HJ).later b3)
      have hsz4 := (unhide J4).sz
      have hb4 : b < w3.heap.size := Nat.lt_of_lt_of_le hb b3.size
      obtain ⟨pb0, pb1, -⟩ := blk_cells2 (unhide J4).ka
      have HC4 := hide (fun j hj => (b3.cell (p := ⟨b, off + k * 6 + j, none⟩) hb).trans (hc j hj))
      clear b3 HJ c0 c1' c2' c3 c4 c5 pa0 pa1 hc
      go_wp2_with fail
      refine (l1has_any la ln lc ls q r hr _ hln ((unhide HL).later (unhide J4).bel)).mono ?_
      rintro e _ ⟨rfl, rfl⟩
      cases r
      · have HP := hide (slI_neg (ls := ls) (unhide HX1) (by rw [unhide hq]; exact unhide hr))
        go_wp2
        go_roundw
        case rel => exact ⟨k + 1, a1, m1, c1, by omega, by go_num, by rw [unhide HP]; exact unhide J4⟩
        case measure => simp [intOf]; omega
      · have HP := hide (slI_pos (ls := ls) (unhide HX1) (by rw [unhide hq]; exact unhide hr))
        have hm1 : Hid (m1 = (slI ls (xs.take k)).length) := hide ((unhide J4).oi.rw encI_len).len.1
        have hm1l : m1 ≤ k := by have := unhide hm1; have := slI_k (ls := ls) (xs := xs) (k := k); omega
        obtain ⟨po0, po1, pof⟩ := blk_cells2 (unhide J4).ko
        obtain ⟨c0, c1', c2', c3, c4, c5⟩ := item_cells (unhide HC4)
        have JD := hide (unhide J4).drew
        have zo : w.heap.size + 1 + 1 < w3.heap.size := by omega
        go_upto_region 6 with fail
        go_region_law (first | (refine step_app1 encI_len (by omega) oneI 40 24 i0 _ 56 Tryz.underlying24 hi hz0 hz1 hz2 rfl (by omega) w3.drew x rfl _ _ rfl (w.heap.size + 3) _ (slI ls (xs.take k)) m1 hm1 rfl (unhide JD).oi rfl (by omega) (unhide JD).sz ?_; intro a8 c8 w6 hO hG; have po0' := (hG.block _ zo (fun q => by have := World.ownsRow.lt (unhide JD).oi _ q.symm; omega)).trans (unhide JD).ko; obtain ⟨pq0, pq1, pqf⟩ := blk_cells2 po0'; have HJ6 := hide ((unhide JD).appI hO hG); clear hO hG po0'))
        all_goals clear po0 po1 pof c0 c1' c2' c3 c4 c5 pb0 pb1
        all_goals
          go_wp2
          go_roundw
          case rel => exact ⟨k + 1, a8, m1 + 1, c8, by omega, by go_num, by rw [unhide HP]; exact unhide HJ6⟩
          case measure => simp [intOf]; omega
    · have J5 : Hid (J2 w wr (StC (.slice ai ni ci) (.slice af nf cf)) a1 m1 c1 none 0 0 (slI ls xs) []) := hide (by
        have e : slI ls (xs.take k) = slI ls xs := by rw [List.take_of_length_le (by have := (unhide HX).len.1; omega)]
        rw [← e]; exact unhide HJ)
      clear HJ
      obtain rfl : m1 = n1 := by have := ((unhide J5).oi.rw encI_len).len.1; rw [this]; exact unhide hn1
      go_wp2
      go_loopw [7] (fun i wr => ∃ (k : Nat) (a2 : Option Addr) (m2 c2 : Nat), k ≤ nf ∧ i = .int .i64 k ∧ J2 w wr (StC (.slice ai ni ci) (.slice af nf cf)) a1 m1 c1 a2 m2 c2 (slI ls xs) (slF ls (fs.take k))) (fun i _ => nf - (intOf i).toNat)
      case atStart => exact ⟨0, none, 0, 0, by omega, rfl, unhide J5⟩
      case round =>
        clear J5 pa0 pa1 hsz hlt hk
        obtain ⟨k, a2, m2, c2, hk, rfl, hJ⟩ := hrel
        have HJ := hide hJ
        have hsz := hJ.sz
        obtain ⟨pa0, pa1, -⟩ := blk_cells2 hJ.ka
        clear hJ
        by_cases hlt : k < nf
        · obtain ⟨x, b, off, hx, rfl, hb, hcap, hc⟩ := ((unhide HF).later (unhide HJ).bel).at hlt
          have c0 : wr.cell? ⟨b, off + k * 2, none⟩ = some (.int .i64 x.1) := hc 0 (by omega)
          have c1' : wr.cell? ⟨b, off + k * 2 + 1, none⟩ = some (.int .i64 x.2) := hc 1 (by omega)
          obtain ⟨q, hq⟩ : ∃ q, Hid (lf x.1 = q) := ⟨_, hide rfl⟩
          obtain ⟨r, hr⟩ : ∃ r, Hid (hasN ls q = r) := ⟨_, hide rfl⟩
          have HX1 := hide hx
          clear hx
          go_wp2_with fail
          refine (sleaf_any x.1 q hq _).mono ?_
          rintro e w3 ⟨rfl, b3⟩
          have J4 := hide ((unhide HJ).later b3)
          have hsz4 := (unhide J4).sz
          have hb4 : b < w3.heap.size := Nat.lt_of_lt_of_le hb b3.size
          obtain ⟨pb0, pb1, -⟩ := blk_cells2 (unhide J4).ka
          have HC4 := hide (fun j hj => (b3.cell (p := ⟨b, off + k * 2 + j, none⟩) hb).trans (hc j hj))
          clear b3 HJ c0 c1' pa0 pa1 hc
          go_wp2_with fail
          refine (l1has_any la ln lc ls q r hr _ hln ((unhide HL).later (unhide J4).bel)).mono ?_
          rintro e _ ⟨rfl, rfl⟩
          cases r
          · have HP := hide (slF_neg (ls := ls) (unhide HX1) (by rw [unhide hq]; exact unhide hr))
            go_wp2
            go_roundw
            case rel => exact ⟨k + 1, a2, m2, c2, by omega, by go_num, by rw [unhide HP]; exact unhide J4⟩
            case measure => simp [intOf]; omega
          · have HP := hide (slF_pos (ls := ls) (unhide HX1) (by rw [unhide hq]; exact unhide hr))
            have hm2 : Hid (m2 = (slF ls (fs.take k)).length) := hide ((unhide J4).of.rw encF_len).len.1
            have hm2l : m2 ≤ k := by have := unhide hm2; have := slF_k (ls := ls) (xs := fs) (k := k); omega
            obtain ⟨po0, po1, pof⟩ := blk_cells2 (unhide J4).ko
            have c0 : w3.cell? ⟨b, off + k * 2, none⟩ = some (.int .i64 x.1) := unhide HC4 0 (by omega)
            have c1' : w3.cell? ⟨b, off + k * 2 + 1, none⟩ = some (.int .i64 x.2) := unhide HC4 1 (by omega)
            have JD := hide (unhide J4).drew
            have zo : w.heap.size + 1 + 1 < w3.heap.size := by omega
            go_upto_region 11 with fail
            go_region_law (first | (refine step_app1 encF_len (by omega) oneF 84 25 i1 _ 16 Tryz.underlying25 gi gz0 gz1 gz2 rfl (by omega) w3.drew x rfl _ _ rfl (w.heap.size + 3) _ (slF ls (fs.take k)) m2 hm2 rfl (unhide JD).of rfl (by omega) (unhide JD).sz ?_; intro a8 c8 w6 hO hG; have po0' := (hG.block _ zo (fun q => by have := World.ownsRow.lt (unhide JD).of _ q.symm; omega)).trans (unhide JD).ko; obtain ⟨pq0, pq1, pqf⟩ := blk_cells2 po0'; have HJ6 := hide ((unhide JD).appF hO hG); clear hO hG po0'))
            all_goals clear po0 po1 pof c0 c1' pb0 pb1
            all_goals
              go_wp2
              go_roundw
              case rel => exact ⟨k + 1, a8, m2 + 1, c8, by omega, by go_num, by rw [unhide HP]; exact unhide HJ6⟩
              case measure => simp [intOf]; omega
        · have J6 : Hid (J2 w wr (StC (.slice ai ni ci) (.slice af nf cf)) a1 m1 c1 a2 m2 c2 (slI ls xs) (slF ls fs)) := hide (by
            have e : slF ls (fs.take k) = slF ls fs := by rw [List.take_of_length_le (by have := (unhide HF).len.1; omega)]
            rw [← e]; exact unhide HJ)
          clear HJ
          obtain rfl : m2 = n2 := by have := ((unhide J6).of.rw encF_len).len.1; rw [this]; exact unhide hn2
          obtain ⟨po0, po1, pof⟩ := blk_cells2 (unhide J6).ko
          obtain ⟨pr0, pr1, prf⟩ := blk_cells2 (unhide J6).kr
          go_wp2
          exact bodyPost_ret (v := .agg #[.slice a1 m1 c1, .slice a2 m2 c2]) (by simp [results, Tryz.results60, go_sem, pr0, pr1]) rfl ⟨a1, c1, a2, c2, rfl, (Ow.base (((unhide J6).oi.set _ (by simp <;> omega) _).set _ (by simp <;> omega) _) (by omega)), (Ow.base (((unhide J6).of.set _ (by simp <;> omega) _).set _ (by simp <;> omega) _) (by omega)), ((unhide J6).bel.setCell (p := ⟨w.heap.size + 1, 0, none⟩) (by simp <;> omega) _).setCell (p := ⟨w.heap.size + 1, 1, none⟩) (by simp <;> omega) _⟩
end Go.Proofs.YtdpaocikmijioabGreat

namespace Go.Proofs.YtdpaocikmijioabGreat
open Go.RowKit

/-- While an item is copied: the argument, the result's variable. -/
structure C6 (w W : World) (x : Itm) : Prop where
  bel : Below w.heap.size w W
  k1 : W.heap[w.heap.size]? = some (.cells #[.int .i64 x.1, .int .i64 x.2.1, .int .i64 x.2.2.1, .int .i64 x.2.2.2.1, .int .i64 x.2.2.2.2.1, .string x.2.2.2.2.2] 40 (0, 0))
  k2 : W.heap[w.heap.size + 1]? = some (.cells #[.int .i64 0, .int .i64 0, .int .i64 0, .int .i64 0, .int .i64 0, .string ⟨#[]⟩] 40 (0, 0))
theorem C6.lt {w W : World} {x : Itm} (h : C6 w W x) : w.heap.size + 1 < W.heap.size := (Array.getElem?_eq_some_iff.1 h.k2).1
theorem C6.later {w W Y : World} {x : Itm} (h : C6 w W x) (b : Below W.heap.size W Y) : C6 w Y x := by
  have := h.lt
  exact ⟨h.bel.trans (b.mono h.bel.size), (b.block _ (by omega)).trans h.k1, (b.block _ h.lt).trans h.k2⟩
theorem C6.drewH {w W : World} {x : Itm} (h : Hid (C6 w W x)) : Hid (C6 w W.drew x) := hide ⟨(unhide h).bel.drew, (unhide h).k1, (unhide h).k2⟩
theorem kC6 {w W : World} {x : Itm} (h : Hid (C6 w W x)) : Below w.heap.size w W ∧ W.cell? ⟨w.heap.size, 0, none⟩ = some (.int .i64 x.1) ∧ W.cell? ⟨w.heap.size, 1, none⟩ = some (.int .i64 x.2.1) ∧ W.cell? ⟨w.heap.size, 2, none⟩ = some (.int .i64 x.2.2.1) ∧ W.cell? ⟨w.heap.size, 3, none⟩ = some (.int .i64 x.2.2.2.1) ∧ W.cell? ⟨w.heap.size, 4, none⟩ = some (.int .i64 x.2.2.2.2.1) ∧ W.cell? ⟨w.heap.size, 5, none⟩ = some (.string x.2.2.2.2.2) := by
  obtain ⟨h0, h1, h2, h3, h4, h5, -⟩ := blk_cells6 (unhide h).k1
  exact ⟨(unhide h).bel, h0, h1, h2, h3, h4, h5⟩
theorem kC6s {w W : World} {x : Itm} (h : Hid (C6 w W x)) (v0 v1 v2 v3 v4 v5 : Value) : Below w.heap.size w ((((((W.setCell ⟨w.heap.size + 1, 0, none⟩ v0).setCell ⟨w.heap.size + 1, 1, none⟩ v1).setCell ⟨w.heap.size + 1, 2, none⟩ v2).setCell ⟨w.heap.size + 1, 3, none⟩ v3).setCell ⟨w.heap.size + 1, 4, none⟩ v4).setCell ⟨w.heap.size + 1, 5, none⟩ v5) ∧ ((((((W.setCell ⟨w.heap.size + 1, 0, none⟩ v0).setCell ⟨w.heap.size + 1, 1, none⟩ v1).setCell ⟨w.heap.size + 1, 2, none⟩ v2).setCell ⟨w.heap.size + 1, 3, none⟩ v3).setCell ⟨w.heap.size + 1, 4, none⟩ v4).setCell ⟨w.heap.size + 1, 5, none⟩ v5).cell? ⟨w.heap.size, 0, none⟩ = some (.int .i64 x.1) ∧ ((((((W.setCell ⟨w.heap.size + 1, 0, none⟩ v0).setCell ⟨w.heap.size + 1, 1, none⟩ v1).setCell ⟨w.heap.size + 1, 2, none⟩ v2).setCell ⟨w.heap.size + 1, 3, none⟩ v3).setCell ⟨w.heap.size + 1, 4, none⟩ v4).setCell ⟨w.heap.size + 1, 5, none⟩ v5).cell? ⟨w.heap.size, 1, none⟩ = some (.int .i64 x.2.1) ∧ ((((((W.setCell ⟨w.heap.size + 1, 0, none⟩ v0).setCell ⟨w.heap.size + 1, 1, none⟩ v1).setCell ⟨w.heap.size + 1, 2, none⟩ v2).setCell ⟨w.heap.size + 1, 3, none⟩ v3).setCell ⟨w.heap.size + 1, 4, none⟩ v4).setCell ⟨w.heap.size + 1, 5, none⟩ v5).cell? ⟨w.heap.size, 2, none⟩ = some (.int .i64 x.2.2.1) ∧ ((((((W.setCell ⟨w.heap.size + 1, 0, none⟩ v0).setCell ⟨w.heap.size + 1, 1, none⟩ v1).setCell ⟨w.heap.size + 1, 2, none⟩ v2).setCell ⟨w.heap.size + 1, 3, none⟩ v3).setCell ⟨w.heap.size + 1, 4, none⟩ v4).setCell ⟨w.heap.size + 1, 5, none⟩ v5).cell? ⟨w.heap.size, 3, none⟩ = some (.int .i64 x.2.2.2.1) ∧ ((((((W.setCell ⟨w.heap.size + 1, 0, none⟩ v0).setCell ⟨w.heap.size + 1, 1, none⟩ v1).setCell ⟨w.heap.size + 1, 2, none⟩ v2).setCell ⟨w.heap.size + 1, 3, none⟩ v3).setCell ⟨w.heap.size + 1, 4, none⟩ v4).setCell ⟨w.heap.size + 1, 5, none⟩ v5).cell? ⟨w.heap.size, 4, none⟩ = some (.int .i64 x.2.2.2.2.1) ∧ ((((((W.setCell ⟨w.heap.size + 1, 0, none⟩ v0).setCell ⟨w.heap.size + 1, 1, none⟩ v1).setCell ⟨w.heap.size + 1, 2, none⟩ v2).setCell ⟨w.heap.size + 1, 3, none⟩ v3).setCell ⟨w.heap.size + 1, 4, none⟩ v4).setCell ⟨w.heap.size + 1, 5, none⟩ v5).cell? ⟨w.heap.size, 5, none⟩ = some (.string x.2.2.2.2.2) := by
  obtain ⟨hb, h0, h1, h2, h3, h4, h5⟩ := kC6 h
  have ne : w.heap.size ≠ w.heap.size + 1 := by omega
  exact ⟨below_set6 (by omega) hb, blk_far6 ne h0, blk_far6 ne h1, blk_far6 ne h2, blk_far6 ne h3, blk_far6 ne h4, blk_far6 ne h5⟩

set_option maxHeartbeats 4000000 in
set_option maxRecDepth 100000 in
theorem icopyI_any (x : Itm) (hd : x.2.2.2.2.2.size ≤ 281474976710656) (w : World) :
    Calls Tryz.prog 92 #[.agg #[.int .i64 x.1, .int .i64 x.2.1, .int .i64 x.2.2.1, .int .i64 x.2.2.2.1, .int .i64 x.2.2.2.2.1, .string x.2.2.2.2.2]] w fun e w' => e = .returned (.agg #[.int .i64 x.1, .int .i64 x.2.1, .int .i64 x.2.2.1, .int .i64 x.2.2.2.1, .int .i64 x.2.2.2.2.1, .string x.2.2.2.2.2]) ∧ Below w.heap.size w w' := by
  go_enter Tryz.func92, Tryz.ntmps92
  go_upto_region 1 with fail
  obtain ⟨V, hV⟩ : ∃ V, V = (w.alloc (.cells #[.int .i64 x.1, .int .i64 x.2.1, .int .i64 x.2.2.1, .int .i64 x.2.2.2.1, .int .i64 x.2.2.2.2.1, .string x.2.2.2.2.2] 40)).alloc (.cells #[.int .i64 0, .int .i64 0, .int .i64 0, .int .i64 0, .int .i64 0, .string ⟨#[]⟩] 40) := ⟨_, rfl⟩
  have CV := hide (show C6 w V x from by rw [hV]; exact ⟨((Below.refl w.heap.size w).alloc (Nat.le_refl _) _).alloc (by simp) _, lowB2 w _ _, newB2 w _ _⟩)
  rw [← hV]
  clear hV
  have CD := C6.drewH CV
  have z1 := (unhide CV).lt
  have z0 : w.heap.size < V.heap.size := by omega
  go_region_held3 (fun W => Below w.heap.size w W ∧ W.cell? ⟨w.heap.size, 0, none⟩ = some (.int .i64 x.1) ∧ W.cell? ⟨w.heap.size, 1, none⟩ = some (.int .i64 x.2.1) ∧ W.cell? ⟨w.heap.size, 2, none⟩ = some (.int .i64 x.2.2.1) ∧ W.cell? ⟨w.heap.size, 3, none⟩ = some (.int .i64 x.2.2.2.1) ∧ W.cell? ⟨w.heap.size, 4, none⟩ = some (.int .i64 x.2.2.2.2.1) ∧ W.cell? ⟨w.heap.size, 5, none⟩ = some (.string x.2.2.2.2.2))
    (first | (with_reducible exact kC6 CV) | (with_reducible exact kC6 CD) | (with_reducible exact kC6 CA) | (with_reducible exact kC6s CA _ _ _ _ _ _))
    (first | (go_at_call 54; refine (icopy_any x.2.1 x.2.2.1 x.2.2.2.1 x.2.2.2.2.1 x.2.2.2.2.2 hd _).mono ?_; rintro e w6 ⟨rfl, b6⟩; (first | (with_reducible have CA := hide ((unhide CD).later b6)) | (with_reducible have CA := hide ((unhide CV).later b6))); obtain ⟨q0, q1, q2, q3, q4, q5, qf⟩ := blk_cells6 (unhide CA).k2; have zA := (unhide CA).lt; clear b6))
  all_goals go_wp2
  all_goals exact bodyPost_ret (v := .agg #[.int .i64 x.1, .int .i64 x.2.1, .int .i64 x.2.2.1, .int .i64 x.2.2.2.1, .int .i64 x.2.2.2.2.1, .string x.2.2.2.2.2]) (by simp [results, Tryz.results92, go_sem, q0, q1, q2, q3, q4, q5]) rfl ⟨rfl, (kC6s CA _ _ _ _ _ _).1⟩
theorem lkF_pos {fs gs : List Flr} {k : Nat} {x : Flr} (hx : gs[k]? = some x) (h : lkF1 fs x = true) : lkF fs (gs.take (k + 1)) = lkF fs (gs.take k) ++ [x] := by
  rw [lkF, take_filter hx, if_pos h]; rfl
theorem lkF_neg {fs gs : List Flr} {k : Nat} {x : Flr} (hx : gs[k]? = some x) (h : lkF1 fs x = false) : lkF fs (gs.take (k + 1)) = lkF fs (gs.take k) := by
  rw [lkF, take_filter hx, if_neg (by simp [h]), List.append_nil]; rfl
theorem lkI_pos {xs ys : List Itm} {fs : List Flr} {k : Nat} {x : Itm} (hx : ys[k]? = some x) (h : lkI1 xs fs x = true) : lkI xs fs (ys.take (k + 1)) = lkI xs fs (ys.take k) ++ [x] := by
  rw [lkI, take_filter hx, if_pos h]; rfl
theorem lkI_neg {xs ys : List Itm} {fs : List Flr} {k : Nat} {x : Itm} (hx : ys[k]? = some x) (h : lkI1 xs fs x = false) : lkI xs fs (ys.take (k + 1)) = lkI xs fs (ys.take k) := by
  rw [lkI, take_filter hx, if_neg (by simp [h]), List.append_nil]; rfl
theorem lkF_k {fs gs : List Flr} {k : Nat} : (lkF fs (gs.take k)).length ≤ k := Nat.le_trans (lkF_len _ _) (by simp; omega)
theorem lkI_k {xs ys : List Itm} {fs : List Flr} {k : Nat} : (lkI xs fs (ys.take k)).length ≤ k := Nat.le_trans (lkI_len _ _ _) (by simp; omega)
theorem inewerK_v (a b : Key) (r : Bool) (h : Hid (decide (0 < cmpE a.1 a.2.1 a.2.2.1 a.2.2.2.1 a.2.2.2.2 b.1 b.2.1 b.2.2.1 b.2.2.2.1 b.2.2.2.2) = r)) (w : World) : Calls Tryz.prog 112 #[.agg #[.int .i64 a.1, .int .i64 a.2.1, .int .i64 a.2.2.1, .int .i64 a.2.2.2.1, .string a.2.2.2.2], .agg #[.int .i64 b.1, .int .i64 b.2.1, .int .i64 b.2.2.1, .int .i64 b.2.2.2.1, .string b.2.2.2.2]] w fun e w' => e = .returned (.bool r) ∧ Below w.heap.size w w' := by
  rw [← unhide h]; exact inewer_any _ _ _ _ _ _ _ _ _ _ w

end Go.Proofs.YtdpaocikmijioabGreat

namespace Go.Proofs.YtdpaocikmijioabGreat
open Go.RowKit

set_option maxHeartbeats 4000000 in
set_option maxRecDepth 100000 in
theorem iitemsat_any (ai : Option Addr) (ni ci : Nat) (xs : List Itm) (hsm : Sml xs) (la : Option Addr) (ln lc : Nat) (ls : List Int) (w : World)
    (m5 : ni ≤ 5) (hln : ln ≤ 140737488351232) (hx : Rw encI 6 w (.slice ai ni ci) xs) (hl : RwN w (.slice la ln lc) ls) :
    Calls Tryz.prog 58 #[.slice ai ni ci, .slice la ln lc] w fun e w' => ∃ a2 n2 c2, e = .returned (.slice a2 n2 c2) ∧ OwI w.heap.size w' (.slice a2 n2 c2) (slI ls xs) ∧ Below w.heap.size w w' := by
  obtain ⟨i0, hi, hz0, hz1, hz2⟩ := info_parts Tryz.infoItem
  have HX := hide hx
  have HL := hide hl
  clear hx hl
  have SM := hide hsm
  clear hsm
  go_enter Tryz.func58, Tryz.ntmps58
  go_wp2
  go_loopw [5, 10] (fun v i wr => ∃ (k : Nat) (a2 : Option Addr) (n2 c2 : Nat), k ≤ ni ∧ i = .int .i64 k ∧ v = .slice a2 n2 c2 ∧ OwI w.heap.size wr (.slice a2 n2 c2) (slI ls (xs.take k)) ∧ Below w.heap.size w wr) (fun _ i _ => ni - (intOf i).toNat)
  case atStart => exact ⟨0, none, 0, 0, by omega, rfl, rfl, World.ownsRow_nil _ _ _ _, Below.refl _ _⟩
  case round =>
    obtain ⟨k, a2, n2, c2, hk, rfl, rfl, hown, hbel⟩ := hrel
    have HO := hide hown
    have HB := hide hbel
    have hsz := hbel.size
    clear hown
    by_cases hlt : k < ni
    · obtain ⟨x, b, off, hx, rfl, hb, hcap, hc⟩ := ((unhide HX).later hbel).at hlt
      obtain ⟨c0, c1, c2', c3, c4, c5⟩ := item_cells hc
      obtain ⟨q, hq⟩ : ∃ q, Hid (lf x.1 = q) := ⟨_, hide rfl⟩
      obtain ⟨r, hr⟩ : ∃ r, Hid (hasN ls q = r) := ⟨_, hide rfl⟩
      have hxs := unhide SM k x hx
      have HX1 := hide hx
      clear hx hc hbel
      go_wp2_with fail
      have bX : Below wr.heap.size wr (wr.alloc (.cells #[.int .i64 x.1, .int .i64 x.2.1, .int .i64 x.2.2.1, .int .i64 x.2.2.2.1, .int .i64 x.2.2.2.2.1, .string x.2.2.2.2.2] 40)) := (Below.refl _ _).alloc (Nat.le_refl _) _
      refine (ileaf_any x.1 q hq _).mono ?_
      rintro e w2 ⟨rfl, b2⟩
      have b2' := bX.trans (b2.mono (by simp))
      have kx := (b2.block wr.heap.size (by simp)).trans (newB1 wr _)
      have HB2 := hide ((unhide HB).trans (b2'.mono hsz))
      have HO2 := hide ((unhide HO).later b2')
      have hzx2 : wr.heap.size < w2.heap.size := (Array.getElem?_eq_some_iff.mp kx).1
      have KX2 := hide kx
      clear c0 c1 c2' c3 c4 c5 bX b2 b2' kx HB HO
      go_wp2_with fail
      refine (icontains_any la ln lc ls q r hr _ hln ((unhide HL).later (unhide HB2))).mono ?_
      rintro e _ ⟨rfl, rfl⟩
      cases r
      · have HP := hide (slI_neg (ls := ls) (unhide HX1) (by rw [unhide hq]; exact unhide hr))
        go_wp2
        go_roundw
        case rel => exact ⟨k + 1, a2, n2, c2, by omega, by go_num, rfl, by rw [unhide HP]; exact unhide HO2, unhide HB2⟩
        case measure => simp [intOf]; omega
      · have HP := hide (slI_pos (ls := ls) (unhide HX1) (by rw [unhide hq]; exact unhide hr))
        obtain ⟨px0, px1, px2, px3, px4, px5, -⟩ := blk_cells6 (unhide KX2)
        go_wp2_with fail
        refine (icopyI_any x (by omega) _).mono ?_
        rintro e w3 ⟨rfl, b3⟩
        have HO3 := hide ((unhide HO2).later b3)
        have HB3 := hide ((unhide HB2).trans (b3.mono (unhide HB2).size))
        have hw3 : w.heap.size ≤ w3.heap.size := (unhide HB3).size
        have hn2 : Hid (n2 = (slI ls (xs.take k)).length) := hide ((unhide HO3).rw encI_len).len.1
        have hn2l : n2 ≤ k := by have := unhide hn2; have := slI_k (ls := ls) (xs := xs) (k := k); omega
        clear b3 px0 px1 px2 px3 px4 px5 HO2 HB2
        go_wp2_with (first | (at_builtin; refine wpList_app1 encI_len (by omega) oneI 40 24 i0 _ 56 Tryz.underlying24 hi hz0 hz1 hz2 rfl (by omega) w3 x rfl _ _ rfl w.heap.size _ (slI ls (xs.take k)) n2 hn2 rfl (unhide HO3) rfl (by omega) hw3 ?_; intro a8 c8 w4 hO hG; have HO4 := hide hO; have HB4 := hide ((Trn.of_grown hG).below (unhide HB3) hw3 (fun i q => (World.ownsRow.lt (unhide HO3) i q).1)); clear hO hG))
        go_roundw
        case rel => exact ⟨k + 1, a8, n2 + 1, c8, by omega, by go_num, rfl, by rw [unhide HP]; exact unhide HO4, unhide HB4⟩
        case measure => simp [intOf]; omega
    · have HT : Hid (slI ls (xs.take k) = slI ls xs) := hide (by rw [List.take_of_length_le (by have := (unhide HX).len.1; omega)])
      clear hbel
      go_wp2
      go_ret
      exact ⟨a2, n2, c2, rfl, by rw [← unhide HT]; exact unhide HO, unhide HB⟩

set_option maxHeartbeats 4000000 in
set_option maxRecDepth 100000 in
theorem ifloorsat_any (ai : Option Addr) (ni ci : Nat) (xs : List Flr) (la : Option Addr) (ln lc : Nat) (ls : List Int) (w : World)
    (m5 : ni ≤ 5) (hln : ln ≤ 140737488351232) (hx : Rw encF 2 w (.slice ai ni ci) xs) (hl : RwN w (.slice la ln lc) ls) :
    Calls Tryz.prog 59 #[.slice ai ni ci, .slice la ln lc] w fun e w' => ∃ a2 n2 c2, e = .returned (.slice a2 n2 c2) ∧ OwF w.heap.size w' (.slice a2 n2 c2) (slF ls xs) ∧ Below w.heap.size w w' := by
  obtain ⟨i0, hi, hz0, hz1, hz2⟩ := info_parts Tryz.infoFloor
  have HX := hide hx
  have HL := hide hl
  clear hx hl
  go_enter Tryz.func59, Tryz.ntmps59
  go_wp2
  go_loopw [5, 10] (fun v i wr => ∃ (k : Nat) (a2 : Option Addr) (n2 c2 : Nat), k ≤ ni ∧ i = .int .i64 k ∧ v = .slice a2 n2 c2 ∧ OwF w.heap.size wr (.slice a2 n2 c2) (slF ls (xs.take k)) ∧ Below w.heap.size w wr) (fun _ i _ => ni - (intOf i).toNat)
  case atStart => exact ⟨0, none, 0, 0, by omega, rfl, rfl, World.ownsRow_nil _ _ _ _, Below.refl _ _⟩
  case round =>
    obtain ⟨k, a2, n2, c2, hk, rfl, rfl, hown, hbel⟩ := hrel
    have HO := hide hown
    have HB := hide hbel
    have hsz := hbel.size
    clear hown
    by_cases hlt : k < ni
    · obtain ⟨x, b, off, hx, rfl, hb, hcap, hc⟩ := ((unhide HX).later hbel).at hlt
      have c0 : wr.cell? ⟨b, off + k * 2, none⟩ = some (.int .i64 x.1) := hc 0 (by omega)
      have c1 : wr.cell? ⟨b, off + k * 2 + 1, none⟩ = some (.int .i64 x.2) := hc 1 (by omega)
      obtain ⟨q, hq⟩ : ∃ q, Hid (lf x.1 = q) := ⟨_, hide rfl⟩
      obtain ⟨r, hr⟩ : ∃ r, Hid (hasN ls q = r) := ⟨_, hide rfl⟩
      have HX1 := hide hx
      clear hx hc hbel
      go_wp2_with fail
      have bX : Below wr.heap.size wr (wr.alloc (.cells #[.int .i64 x.1, .int .i64 x.2] 84)) := (Below.refl _ _).alloc (Nat.le_refl _) _
      refine (ileaf_any x.1 q hq _).mono ?_
      rintro e w2 ⟨rfl, b2⟩
      have b2' := bX.trans (b2.mono (by simp))
      have kx := (b2.block wr.heap.size (by simp)).trans (newB1 wr _)
      have HB2 := hide ((unhide HB).trans (b2'.mono hsz))
      have HO2 := hide ((unhide HO).later b2')
      have hzx2 : wr.heap.size < w2.heap.size := (Array.getElem?_eq_some_iff.mp kx).1
      have KX2 := hide kx
      clear c0 c1 bX b2 b2' kx HB HO
      go_wp2_with fail
      refine (icontains_any la ln lc ls q r hr _ hln ((unhide HL).later (unhide HB2))).mono ?_
      rintro e _ ⟨rfl, rfl⟩
      cases r
      · have HP := hide (slF_neg (ls := ls) (unhide HX1) (by rw [unhide hq]; exact unhide hr))
        go_wp2
        go_roundw
        case rel => exact ⟨k + 1, a2, n2, c2, by omega, by go_num, rfl, by rw [unhide HP]; exact unhide HO2, unhide HB2⟩
        case measure => simp [intOf]; omega
      · have HP := hide (slF_pos (ls := ls) (unhide HX1) (by rw [unhide hq]; exact unhide hr))
        obtain ⟨px0, px1, -⟩ := blk_cells2 (unhide KX2)
        have HO3 := HO2
        have HB3 := HB2
        have hw3 : w.heap.size ≤ w2.heap.size := (unhide HB3).size
        have hn2 : Hid (n2 = (slF ls (xs.take k)).length) := hide ((unhide HO3).rw encF_len).len.1
        have hn2l : n2 ≤ k := by have := unhide hn2; have := slF_k (ls := ls) (xs := xs) (k := k); omega
        clear HO2 HB2
        go_wp2_with (first | (at_builtin; refine wpList_app1 encF_len (by omega) oneF 84 25 i0 _ 16 Tryz.underlying25 hi hz0 hz1 hz2 rfl (by omega) w2 x rfl _ _ rfl w.heap.size _ (slF ls (xs.take k)) n2 hn2 rfl (unhide HO3) rfl (by omega) hw3 ?_; intro a8 c8 w4 hO hG; have HO4 := hide hO; have HB4 := hide ((Trn.of_grown hG).below (unhide HB3) hw3 (fun i q => (World.ownsRow.lt (unhide HO3) i q).1)); clear hO hG))
        go_roundw
        case rel => exact ⟨k + 1, a8, n2 + 1, c8, by omega, by go_num, rfl, by rw [unhide HP]; exact unhide HO4, unhide HB4⟩
        case measure => simp [intOf]; omega
    · have HT : Hid (slF ls (xs.take k) = slF ls xs) := hide (by rw [List.take_of_length_le (by have := (unhide HX).len.1; omega)])
      clear hbel
      go_wp2
      go_ret
      exact ⟨a2, n2, c2, rfl, by rw [← unhide HT]; exact unhide HO, unhide HB⟩

/-- While a state is sliced: the argument, the result's variable. -/
structure C2 (w W : World) (v1 v2 : Value) : Prop where
  bel : Below w.heap.size w W
  ka : W.heap[w.heap.size]? = some (.cells #[v1, v2] 27 (0, 0))
  kr : W.heap[w.heap.size + 1]? = some (.cells #[.slice none 0 0, .slice none 0 0] 27 (0, 0))
theorem C2.lt {w W : World} {v1 v2 : Value} (h : C2 w W v1 v2) : w.heap.size + 1 < W.heap.size := (Array.getElem?_eq_some_iff.1 h.kr).1
theorem C2.later {w W Y : World} {v1 v2 : Value} (h : C2 w W v1 v2) (b : Below W.heap.size W Y) : C2 w Y v1 v2 := by
  have := h.lt
  exact ⟨h.bel.trans (b.mono h.bel.size), (b.block _ (by omega)).trans h.ka, (b.block _ h.lt).trans h.kr⟩
theorem C2.drewH {w W : World} {v1 v2 : Value} (h : Hid (C2 w W v1 v2)) : Hid (C2 w W.drew v1 v2) := hide ⟨(unhide h).bel.drew, (unhide h).ka, (unhide h).kr⟩
theorem kC2 {w W : World} {v1 v2 : Value} (h : Hid (C2 w W v1 v2)) : Below w.heap.size w W ∧ W.cell? ⟨w.heap.size, 0, none⟩ = some v1 ∧ W.cell? ⟨w.heap.size, 1, none⟩ = some v2 := by
  obtain ⟨h0, h1, -⟩ := blk_cells2 (unhide h).ka
  exact ⟨(unhide h).bel, h0, h1⟩
theorem farT {W : World} {g k o : Nat} {v v0 v1 : Value} (hg : k ≠ g) (c : W.cell? ⟨k, o, none⟩ = some v) : ((W.setCell ⟨g, 0, none⟩ v0).setCell ⟨g, 1, none⟩ v1).cell? ⟨k, o, none⟩ = some v := by
  have hn : ∀ j, (⟨g, j, none⟩ : Addr) ≠ ⟨k, o, none⟩ := fun j e => hg (congrArg Addr.block e).symm
  rw [World.cell?_setCell_other _ _ _ _ (hn 1), World.cell?_setCell_other _ _ _ _ (hn 0)]
  exact c
theorem kC2s {w W : World} {v1 v2 : Value} (h : Hid (C2 w W v1 v2)) (x y : Value) : Below w.heap.size w ((W.setCell ⟨w.heap.size + 1, 0, none⟩ x).setCell ⟨w.heap.size + 1, 1, none⟩ y) ∧ ((W.setCell ⟨w.heap.size + 1, 0, none⟩ x).setCell ⟨w.heap.size + 1, 1, none⟩ y).cell? ⟨w.heap.size, 0, none⟩ = some v1 ∧ ((W.setCell ⟨w.heap.size + 1, 0, none⟩ x).setCell ⟨w.heap.size + 1, 1, none⟩ y).cell? ⟨w.heap.size, 1, none⟩ = some v2 := by
  obtain ⟨hb, h0, h1⟩ := kC2 h
  exact ⟨(hb.setCell (p := ⟨w.heap.size + 1, 0, none⟩) (by simp) _).setCell (p := ⟨w.heap.size + 1, 1, none⟩) (by simp) _, farT (by omega) h0, farT (by omega) h1⟩
theorem C2.new (w : World) (v1 v2 : Value) : C2 w ((w.alloc (.cells #[v1, v2] 27)).alloc (.cells #[.slice none 0 0, .slice none 0 0] 27)) v1 v2 :=
  ⟨((Below.refl w.heap.size w).alloc (Nat.le_refl _) _).alloc (by simp) _, lowB2 w _ _, newB2 w _ _⟩

--@if spec.Slice
set_option maxHeartbeats 8000000 in
set_option maxRecDepth 100000 in
theorem sslice_any (ai : Option Addr) (ni ci : Nat) (xs : List Itm) (af : Option Addr) (nf cf : Nat) (fs : List Flr) (la : Option Addr) (ln lc : Nat) (ls : List Int) (ok : Bool) (h0 : Hid (okS xs fs = ok)) (n1 n2 : Nat) (hn1 : Hid ((scI ok ls xs).length = n1)) (hn2 : Hid ((scF ok ls fs).length = n2)) (w : World)
    (hni : ni ≤ 140737488351232) (hnf : nf ≤ 140737488351232) (hln : ln ≤ 140737488351232) (hx : Rw encI 6 w (.slice ai ni ci) xs) (hf : Rw encF 2 w (.slice af nf cf) fs) (hl : RwN w (.slice la ln lc) ls) :
    Calls Tryz.prog 25 #[.agg #[.slice ai ni ci, .slice af nf cf], .slice la ln lc] w fun e w' => ∃ a1 c1 a2 c2, e = .returned (.agg #[.slice a1 n1 c1, .slice a2 n2 c2]) ∧ OwI w.heap.size w' (.slice a1 n1 c1) (scI ok ls xs) ∧ OwF w.heap.size w' (.slice a2 n2 c2) (scF ok ls fs) ∧ Below w.heap.size w w' := by
  have HX := hide hx
  have HF := hide hf
  have HL := hide hl
  clear hx hf hl
  go_enter Tryz.func25, Tryz.ntmps25
  go_wp2_with fail
  refine (sstateok_any ai ni ci xs af nf cf fs _ h0 _ hni hnf ((unhide HX).later (C2.new w _ _).bel) ((unhide HF).later (C2.new w _ _).bel)).mono ?_
  rintro e w1 ⟨rfl, b1⟩
  have CV := hide ((C2.new w (.slice ai ni ci) (.slice af nf cf)).later b1)
  have z1 := (unhide CV).lt
  have za : w.heap.size < w1.heap.size := by omega
  obtain ⟨p0, p1, pf⟩ := blk_cells2 (unhide CV).kr
  clear b1
  cases ok
  · obtain rfl := unhide hn1
    obtain rfl := unhide hn2
    go_wp2
    exact bodyPost_ret (v := .agg #[.slice none 0 0, .slice none 0 0]) (by simp [results, Tryz.results25, go_sem, p0, p1]) rfl ⟨none, 0, none, 0, rfl, World.ownsRow_nil _ _ _ _, World.ownsRow_nil _ _ _ _, (kC2s CV _ _).1⟩
  · have OA := (okS_iff _ _).1 (unhide h0)
    have m5 : ni ≤ 5 := by have := (unhide HX).len.1; have := OA.len5.1; omega
    have f5 : nf ≤ 5 := by have := (unhide HF).len.1; have := OA.len5.2; omega
    clear OA h0
    obtain ⟨s0, s1, -⟩ := blk_cells2 (unhide CV).ka
    go_wp2_with fail
    refine (l6slice_any ai ni ci xs af nf cf fs la ln lc ls n1 n2 hn1 hn2 _ m5 f5 hln ((unhide HX).later (unhide CV).bel) ((unhide HF).later (unhide CV).bel) ((unhide HL).later (unhide CV).bel)).mono ?_
    rintro e w2 ⟨a1, c1, a2, c2, rfl, o1, o2, b2⟩
    have CW := hide ((unhide CV).later b2)
    have O1 := hide (o1.base (base' := w.heap.size + 1 + 1) z1)
    have O2 := hide (o2.base (base' := w.heap.size + 1 + 1) z1)
    have z2 := (unhide CW).lt
    clear p0 p1 pf s0 s1 o1 o2 b2 CV
    obtain ⟨p0, p1, pf⟩ := blk_cells2 (unhide CW).kr
    go_wp2
    exact bodyPost_ret (v := .agg #[.slice a1 n1 c1, .slice a2 n2 c2]) (by simp [results, Tryz.results25, go_sem, p0, p1]) rfl ⟨a1, c1, a2, c2, rfl, Ow.base (((unhide O1).set ⟨w.heap.size + 1, 0, none⟩ (by simp) _).set ⟨w.heap.size + 1, 1, none⟩ (by simp) _) (by omega), Ow.base (((unhide O2).set ⟨w.heap.size + 1, 0, none⟩ (by simp) _).set ⟨w.heap.size + 1, 1, none⟩ (by simp) _) (by omega), (kC2s CW _ _).1⟩
--@end

set_option maxHeartbeats 8000000 in
set_option maxRecDepth 100000 in
theorem islice_any (ai : Option Addr) (ni ci : Nat) (xs : List Itm) (af : Option Addr) (nf cf : Nat) (fs : List Flr) (la : Option Addr) (ln lc : Nat) (ls : List Int) (ok : Bool) (h0 : Hid (okS xs fs = ok)) (n1 n2 : Nat) (hn1 : Hid ((scI ok ls xs).length = n1)) (hn2 : Hid ((scF ok ls fs).length = n2)) (w : World)
    (hni : ni ≤ 140737488351232) (hnf : nf ≤ 140737488351232) (hln : ln ≤ 140737488351232) (hx : Rw encI 6 w (.slice ai ni ci) xs) (hf : Rw encF 2 w (.slice af nf cf) fs) (hl : RwN w (.slice la ln lc) ls) :
    Calls Tryz.prog 23 #[.agg #[.slice ai ni ci, .slice af nf cf], .slice la ln lc] w fun e w' => ∃ a1 c1 a2 c2, e = .returned (.agg #[.slice a1 n1 c1, .slice a2 n2 c2]) ∧ OwI w.heap.size w' (.slice a1 n1 c1) (scI ok ls xs) ∧ OwF w.heap.size w' (.slice a2 n2 c2) (scF ok ls fs) ∧ Below w.heap.size w w' := by
  have HX := hide hx
  have HF := hide hf
  have HL := hide hl
  clear hx hf hl
  go_enter Tryz.func23, Tryz.ntmps23
  go_wp2_with fail
  refine (istateok_any ai ni ci xs af nf cf fs _ h0 _ hni hnf ((unhide HX).later (C2.new w _ _).bel) ((unhide HF).later (C2.new w _ _).bel)).mono ?_
  rintro e w1 ⟨rfl, b1⟩
  have CV := hide ((C2.new w (.slice ai ni ci) (.slice af nf cf)).later b1)
  have z1 := (unhide CV).lt
  have za : w.heap.size < w1.heap.size := by omega
  obtain ⟨p0, p1, pf⟩ := blk_cells2 (unhide CV).kr
  clear b1
  cases ok
  · obtain rfl := unhide hn1
    obtain rfl := unhide hn2
    go_wp2
    exact bodyPost_ret (v := .agg #[.slice none 0 0, .slice none 0 0]) (by simp [results, Tryz.results23, go_sem, p0, p1]) rfl ⟨none, 0, none, 0, rfl, World.ownsRow_nil _ _ _ _, World.ownsRow_nil _ _ _ _, (kC2s CV _ _).1⟩
  · have OA := (okS_iff _ _).1 (unhide h0)
    have SMX := hide OA.sml
    have m5 : ni ≤ 5 := by have := (unhide HX).len.1; have := OA.len5.1; omega
    have f5 : nf ≤ 5 := by have := (unhide HF).len.1; have := OA.len5.2; omega
    clear OA h0
    clear p0 p1 pf
    have CD := C2.drewH CV
    go_upto_region 3 with fail
    go_region_held3 (fun W => Below w.heap.size w W ∧ W.cell? ⟨w.heap.size, 0, none⟩ = some (.slice ai ni ci) ∧ W.cell? ⟨w.heap.size, 1, none⟩ = some (.slice af nf cf))
      (first | (with_reducible exact kC2 CV) | (with_reducible exact kC2 CD) | (with_reducible exact kC2 CA) | (with_reducible exact kC2 CB) | (with_reducible exact kC2s CB _ _))
      (first
        | (go_at_call 58; refine (iitemsat_any ai ni ci xs (unhide SMX) la ln lc ls _ m5 hln ((unhide HX).later (unhide CD).bel) ((unhide HL).later (unhide CD).bel)).mono ?_; rintro e w3 ⟨a1, m1, c1, rfl, o1, b3⟩; have CA := hide ((unhide CD).later b3); have OI := hide (o1.base (base' := w.heap.size + 1 + 1) (unhide CD).lt); clear o1 b3)
        | (go_at_call 59; refine (ifloorsat_any af nf cf fs la ln lc ls _ f5 hln ((unhide HF).later (unhide CA).bel) ((unhide HL).later (unhide CA).bel)).mono ?_; rintro e w4 ⟨a2, m2, c2, rfl, o2, b4⟩; have CB := hide ((unhide CA).later b4); have OJ := hide ((unhide OI).later b4); have OF := hide (o2.base (base' := w.heap.size + 1 + 1) (unhide CA).lt); obtain ⟨p0, p1, pf⟩ := blk_cells2 (unhide CB).kr; have zB := (unhide CB).lt; clear o2 b4))
    all_goals go_wp2
    all_goals
      obtain rfl : m1 = n1 := (((unhide OJ).rw encI_len).len.1).trans (unhide hn1)
      obtain rfl : m2 = n2 := (((unhide OF).rw encF_len).len.1).trans (unhide hn2)
      exact bodyPost_ret (v := .agg #[.slice a1 m1 c1, .slice a2 m2 c2]) (by simp [results, Tryz.results23, go_sem, p0, p1]) rfl ⟨a1, c1, a2, c2, rfl, Ow.base (((unhide OJ).set ⟨w.heap.size + 1, 0, none⟩ (by simp) _).set ⟨w.heap.size + 1, 1, none⟩ (by simp) _) (by omega), Ow.base (((unhide OF).set ⟨w.heap.size + 1, 0, none⟩ (by simp) _).set ⟨w.heap.size + 1, 1, none⟩ (by simp) _) (by omega), (kC2s CB _ _).1⟩
end Go.Proofs.YtdpaocikmijioabGreat

namespace Go.Proofs.YtdpaocikmijioabGreat
open Go.RowKit

theorem Tryz.infoInt : (Tryz.prog.info? 3).map (fun i => (i.zero, i.size, i.bytes)) = some (some (.int .i64 0), 1, 8) := by kernel_rfl
/-- The slice value v reads as the numbers xs. -/
def SegN (w : World) (v : Value) (xs : List Int) : Prop :=
  ∃ a cap, v = .slice a xs.length cap ∧ xs.length ≤ cap ∧ (xs = [] ∨ ∃ b off, a = some ⟨b, off, none⟩ ∧ b < w.heap.size ∧ ∀ i, i < xs.length → w.cell? ⟨b, off + i, none⟩ = some (.int .i64 (xs.getD i 0)))
theorem segN_of {w : World} {v : Value} {xs : List Int} (h : RwN w v xs) : SegN w v xs := by
  obtain ⟨a, cap, rfl, hcap, h⟩ := h
  refine ⟨a, cap, rfl, hcap, ?_⟩
  rcases h with h | ⟨b, off, rfl, hlt, hc⟩
  · exact .inl h
  · refine .inr ⟨b, off, rfl, hlt, fun i hi => ?_⟩
    have := hc i xs[i] (by simp [hi]) 0 (by omega)
    rw [Nat.mul_one, Nat.add_zero] at this
    rw [this]
    simp [encN, hi]
theorem flatN (xs : List Int) : xs.flatMap encN = xs.map (Value.int .i64) := by
  induction xs with
  | nil => rfl
  | cons x r ih => rw [List.flatMap_cons, ih]; rfl
/-- A row of numbers that the call itself owns. -/
abbrev OwN (base : Nat) (w : World) (v : Value) (ns : List Int) : Prop := Ow encN 1 3 base w v ns
theorem ownN_iff {w : World} {base : Nat} {E : TypeId} {v : Value} {ns : List Int} : Ow encN 1 E base w v ns ↔ w.ownsRow base E 1 v ns.length (ns.map (Value.int .i64)) := by
  unfold Ow; rw [flatN]
theorem oneN (x : Int) : ∀ u ∈ encN x, u.oneCell' = true := by
  intro u hu
  simp [encN] at hu
  subst hu; rfl
theorem setN_take_drop (xs : List Int) (n k : Nat) (hk : k < n) (hn : n = xs.length) :
    ((xs.take k ++ List.replicate (n - k) 0).map (Value.int .i64)).set k (.int .i64 (xs[k]?.getD 0)) = (xs.take (k + 1) ++ List.replicate (n - (k + 1)) 0).map (Value.int .i64) := by
  subst hn
  rw [← fill_set xs 0 k xs[k] (by simp [hk]), List.map_set]
  simp [hk]



theorem grown_on {w w1 w2 : World} {g : Option Nat} (h : w.grownBy w1 g) (k : w1.grownBy w2 g) : w.grownBy w2 g :=
  ⟨k.os.trans h.os, k.tape.trans h.tape, k.output.trans h.output, Nat.le_trans h.size k.size, fun i hi hne => (k.block i (Nat.lt_of_lt_of_le hi h.size) hne).trans (h.block i hi hne)⟩
/-- The marks: from k on, a byte each. -/
def markN (k : Int) (n : Nat) : List Int := (List.range n).map fun i : Nat => k + (i : Int)

theorem markN_length (k : Int) (n : Nat) : (markN k n).length = n := by simp [markN]
theorem markN_succ (k : Int) (n : Nat) : markN k (n + 1) = markN k n ++ [(k + n)] := by simp [markN, List.range_succ]
theorem markN_get (k : Int) (n i : Nat) (h : i < n) : (markN k n).getD i 0 = (k + i) := by simp [markN, h]

theorem markN_set (k : Int) (xs : List Int) (j : Nat) (hj : j < xs.length) :
    ((markN k j ++ xs.drop j).map (Value.int .i64)).set j (.int .i64 ((k + j))) = (markN k (j + 1) ++ xs.drop (j + 1)).map (Value.int .i64) := by
  rw [markN_succ, List.drop_eq_getElem_cons hj]
  simp only [List.map_append, List.map_cons, List.append_assoc, List.cons_append, List.nil_append]
  rw [List.set_append_right _ _ (by simp [markN_length])]
  simp [markN_length]


end Go.Proofs.YtdpaocikmijioabGreat

namespace Go.Proofs.YtdpaocikmijioabGreat
open Go.RowKit

theorem wpList_append_any {P : Program} (w : World) {ops : Array Oper} {rest : List Oper} {o : Oper} {a : Act} {Q : Exit → Act → World → Prop} (hgd : o.guard = none) (s x : Operand) (t : TypeId)
    (ho : o.op = .call { callee := .builtin .append, args := #[s, x], argTypes := #[t, t] })
    (base : Nat) (e : TypeId) (i : TypeInfo) (z : Value) (bytes : Nat) (ht : P.underlying t = some (.slice e)) (hi : P.info? e = some i) (hz : i.zero = some z)
    (hsize : i.size = 1) (hby : i.bytes = bytes) (hzs : z.cells.size = 1)
    (v : Value) (n : Nat) (xs : List Value) (hs : a.eval s = v) (hown : w.ownsRow base e 1 v n xs)
    (B' : Nat) (u : Value) (m : Nat) (news : List Value) (hx : a.eval x = u) (hu : w.ownsRow B' e 1 u m news) (h1 : ∀ u ∈ news, u.oneCell' = true)
    (h63 : n + m ≤ maxLen) (hbytes : (n + m) * bytes ≤ 140737488355328) (hbase : base ≤ w.heap.size)
    (h : ∀ v' w', w'.ownsRow base e 1 v' (n + m) (xs ++ news) → w.grownBy w' v.ownBlock → wpList P ops Q rest (a.put o.dst v') w') : wpList P ops Q (o :: rest) a w := by
  rcases hu.2 with ⟨rfl, h0⟩ | ⟨g, cap, cur, rfl, hb, hg, hnc, hcm, hcs, htake⟩
  · have hn : news = [] := List.eq_nil_of_length_eq_zero (by have := hu.1; omega)
    subst hn h0
    exact wpList_append_own_none hgd s x t ho base e i 1 ht hi v n xs hs hown hx (h v w (by simpa using hown) (World.grownBy.refl _ _))
  · exact wpList_append_own w hgd s x t ho base e i z 1 bytes ht hi hz hsize hby hzs (by decide) v n xs hs hown ⟨g, 0, none⟩ m cap news hx hu.1 (hu.cells rfl) h1 h63 hbytes hbase (fun v' w' a1 a2 _ => h v' w' a1 a2)
end Go.Proofs.YtdpaocikmijioabGreat

namespace Go.Proofs.YtdpaocikmijioabGreat
open Go.RowKit

set_option maxHeartbeats 1000000 in
set_option maxRecDepth 100000 in
theorem iputtext_any (s : ByteArray) (w : World) (hs : s.size ≤ 1048576) :
    Calls Tryz.prog 64 #[.string s] w fun e w' => ∃ v, e = .returned v ∧ w'.ownsRow w.heap.size 5 1 v (putT (bl s)).length ((putT (bl s)).map (Value.int .u8)) ∧ Below w.heap.size w w' := by
  obtain ⟨i0, hi, hz0, hz1, hz2⟩ := info_parts Tryz.infoByte
  have hpl := putN_length s.size
  go_enter Tryz.func64, Tryz.ntmps64
  go_wp2_with fail
  refine (iputnum_any _ _ (by omega) (by omega)).mono ?_
  rintro e w1 ⟨v1, rfl, o1, b1⟩
  have O1 := hide o1
  have B1 := hide b1
  have hs1 := b1.size
  clear o1 b1
  go_wp2_with (at_builtin; refine Lib.wpList_append_own_string _ rfl _ _ 22 9 rfl w.heap.size 5 i0 Tryz.underlying22 Tryz.underlying9 hi hz0 hz1 hz2 _ _ _ rfl (unhide O1) s rfl ?c3 ?c4 ?c5 ?_)
  case c3 => unfold maxLen; omega
  case c4 => omega
  case c5 => omega
  intro v' w2 hown' hgrow _
  have R1 := hide (show w2.ownsRow w.heap.size 5 1 v' (putT (bl s)).length ((putT (bl s)).map (Value.int .u8)) by
    rw [strCells_bl] at hown'
    unfold putT
    rw [List.map_append, List.length_append, bl_length]
    exact hown')
  have R2 := hide ((unhide B1).grown hgrow hs1 (fun k hk => ((unhide O1).lt k hk).1))
  clear hown' hgrow O1 B1
  go_wp2
  go_ret
  exact ⟨_, rfl, R1.out, R2.out⟩

end Go.Proofs.YtdpaocikmijioabGreat

namespace Go.Proofs.YtdpaocikmijioabGreat
open Go.RowKit

set_option maxHeartbeats 1000000 in
set_option maxRecDepth 100000 in
theorem sputtext_any (s : ByteArray) (w : World) (hs : s.size ≤ 1048576) :
    Calls Tryz.prog 120 #[.string s] w fun e w' => ∃ v, e = .returned v ∧ w'.ownsRow w.heap.size 5 1 v (putT (bl s)).length ((putT (bl s)).map (Value.int .u8)) ∧ Below w.heap.size w w' := by
  obtain ⟨i0, hi, hz0, hz1, hz2⟩ := info_parts Tryz.infoByte
  have hpl := putN_length s.size
  have hcv : ∀ wx, (convert 9 22 (.string s)).run Tryz.prog wx = .ok (.slice (some ⟨wx.heap.size, 0, none⟩) s.size (grownCap wx s.size 0 5)) (Lib.bytesWorld wx 5 s) := fun wx =>
    Lib.run_convert_string_bytes wx 9 22 5 s Tryz.underlying9 Tryz.underlying22 Tryz.underlying5
  go_enter Tryz.func120, Tryz.ntmps120
  go_wp2_with fail
  refine (sputnum_any _ _ (by omega) (by omega)).mono ?_
  rintro e w1 ⟨v1, rfl, o1, b1⟩
  have O1 := hide (owns_later o1 (below_bytesWorld w1 5 s) (Nat.le_refl _))
  have hs1 := b1.size
  have B1 := hide (b1.trans ((below_bytesWorld w1 5 s).mono hs1))
  have hs2 := Lib.bytesWorld_size w1 5 s
  have HZ := hide hs2
  clear o1 b1 hs2
  go_wp2_with (at_builtin; refine wpList_append_own _ rfl _ _ 22 rfl w.heap.size 5 i0 (.int .u8 0) 1 1 Tryz.underlying22 hi hz0 hz1 hz2 rfl (by decide) _ _ _ rfl (unhide O1) ⟨w1.heap.size, 0, none⟩ _ _ ((bl s).map (Value.int .u8)) rfl ?c0 ?c1 ?c2 ?c3 ?c4 ?c5 ?_)
  case c0 => rw [List.length_map, bl_length]; omega
  case c1 =>
    intro j u hj
    have hlt : j < s.size := by
      have := (List.getElem?_eq_some_iff.1 hj).1
      rwa [List.length_map, bl_length] at this
    have e : (⟨w1.heap.size, 0, none⟩ : Addr).add j = ⟨w1.heap.size, j, none⟩ := by
      unfold Addr.add
      by_cases h0 : j = 0
      · subst h0; rfl
      · rw [if_neg h0]; simp
    rw [e, Lib.bytesWorld_cell w1 5 s j hlt, ← hj]
    unfold bl
    have hlt' : j < s.data.toList.length := hlt
    rw [List.getElem?_map, List.getElem?_map, List.getD_eq_getElem?_getD, List.getElem?_eq_getElem hlt']
    rfl
  case c2 => exact ints_oneCell _ _
  case c3 => unfold maxLen; omega
  case c4 => omega
  case c5 => rw [unhide HZ]; omega
  intro v' w2 hown' hgrow _
  have R1 := hide (show w2.ownsRow w.heap.size 5 1 v' (putT (bl s)).length ((putT (bl s)).map (Value.int .u8)) by
    unfold putT
    rw [List.map_append, List.length_append, bl_length]
    exact hown')
  have R2 := hide ((unhide B1).grown hgrow (by rw [unhide HZ]; omega) (fun k hk => ((unhide O1).lt k hk).1))
  clear hown' hgrow O1 B1
  go_wp2
  go_ret
  exact ⟨_, rfl, R1.out, R2.out⟩
end Go.Proofs.YtdpaocikmijioabGreat
