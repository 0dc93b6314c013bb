/-
  The marks of a state, floors that are told node by node: plain lists. No program here, no statement is proved here.
  The marks of a state: the specification's and the program's. No statement is proved here.
  What a row of marks tells, what all know, what is pruned: plain lists. No program here, no statement is proved here.
  Tables that a law makes of drawn states. No statement is proved here.
-/
import Derived.Test.YtighiahppjekeaaVwP
import Derived.Test.YtighiahppjekeaaVwL
import Derived.Test.YtighiahppjekeaaApp2
import Derived.Test.YtighiahppjekeaaPrt
import Derived.Test.YtighiahppjekeaaOrd
import Derived.Deep.DeepCutAuto
import Derived.Test.YtighiahppjekeaaTbP
import Derived.Test.YtighiahppjekeaaTbC
namespace Go.Proofs.Ytighiahppjekeaa
open Go.RowKit

/-- For each node of the first n whose number is above 0: that. -/
def mk1 (f : Int → Int) (i : Nat) : List Flr := if 0 < f i then [((i : Int), f i)] else []
def mkK (f : Int → Int) : Nat → List Flr
  | 0 => []
  | n + 1 => mkK f n ++ mk1 f n
def mks (xs : List Itm) (fs : List Flr) : List Flr := mkK (gone xs fs) 5
theorem mem_mk1 {f : Int → Int} {i : Nat} {x : Flr} : x ∈ mk1 f i ↔ x.1 = i ∧ 0 < x.2 ∧ f x.1 = x.2 := by
  unfold mk1
  split
  · rename_i h
    rw [List.mem_singleton]
    constructor
    · rintro rfl; exact ⟨rfl, h, rfl⟩
    · rintro ⟨h1, h2, h3⟩; rw [h1] at h3; exact Prod.ext h1 h3.symm
  · rename_i h
    simp only [List.not_mem_nil, false_iff]
    rintro ⟨h1, h2, h3⟩; rw [h1] at h3; omega
theorem mem_mkK {f : Int → Int} : ∀ {n : Nat} {x : Flr}, x ∈ mkK f n ↔ 0 ≤ x.1 ∧ x.1 < n ∧ 0 < x.2 ∧ f x.1 = x.2
  | 0, x => by simp [mkK]; omega
  | n + 1, x => by
    rw [mkK, List.mem_append, mem_mkK, mem_mk1]
    constructor
    · rintro (⟨h1, h2, h3⟩ | ⟨h1, h3⟩)
      · exact ⟨h1, by omega, h3⟩
      · exact ⟨by omega, by omega, h3⟩
    · rintro ⟨h1, h2, h3⟩
      by_cases h : x.1 = n
      · exact .inr ⟨h, h3⟩
      · exact .inl ⟨h1, by omega, h3⟩
theorem mkK_pair (f : Int → Int) : ∀ n : Nat, (mkK f n).Pairwise (fun a b => a.1 < b.1)
  | 0 => List.Pairwise.nil
  | n + 1 => by
    rw [mkK, List.pairwise_append]
    refine ⟨mkK_pair f n, ?_, fun a ha b hb => ?_⟩
    · unfold mk1; split <;> simp
    · have := mem_mkK.1 ha; have := mem_mk1.1 hb; omega
theorem mkK_len (f : Int → Int) : ∀ n : Nat, (mkK f n).length ≤ n
  | 0 => Nat.le_refl _
  | n + 1 => by
    have := mkK_len f n
    rw [mkK, List.length_append]
    unfold mk1
    split <;> simp <;> omega
theorem mkK_flo (f : Int → Int) (n : Nat) (id : Int) : flo (mkK f n) id = if 0 ≤ id ∧ id < n ∧ 0 < f id then f id else 0 := by
  split
  · rename_i h
    exact flo_mem (mkK_pair f n) (mem_mkK.2 ⟨h.1, h.2.1, h.2.2, rfl⟩)
  · rename_i h
    by_cases hc : flo (mkK f n) id = 0
    · exact hc
    · have := mem_mkK.1 ((flo_pos (mkK_pair f n) hc).1 rfl)
      simp only at this
      exact absurd ⟨this.1, this.2.1, by omega⟩ h
theorem mkK_gF {f : Int → Int} (h : ∀ id, f id ≤ 1000) : gF (-1) (mkK f 5) = true := by
  rw [gF_iff]
  refine ⟨mkK_pair f 5, fun x hx => ?_⟩
  have := mem_mkK.1 hx
  have := h x.1
  omega
theorem gone_le (xs : List Itm) (fs : List Flr) (id : Int) : 0 ≤ gone xs fs id ∧ gone xs fs id ≤ 1000 := by
  unfold gone
  split
  · rename_i h
    have hx := (okS_iff _ _).1 h
    cases he : ent xs id with
    | none => simp only; exact hx.flo_nn id
    | some e =>
      have := okE_inc (hx.ent_in he).2.2.1
      simp only
      split <;> omega
  · omega
theorem mks_ok (xs : List Itm) (fs : List Flr) : gF (-1) (mks xs fs) = true := mkK_gF (fun id => (gone_le xs fs id).2)
theorem mks_len (xs : List Itm) (fs : List Flr) : (mks xs fs).length ≤ 5 := mkK_len _ 5
end Go.Proofs.Ytighiahppjekeaa

namespace Go.Proofs.Ytighiahppjekeaa
open Go.RowKit

abbrev OwK (base : Nat) (w : World) (v : Value) (fs : List Flr) : Prop := Ow encF 2 68 base w v fs
theorem Try.infoMrk : (Try.prog.info? 68).map (fun i => (i.zero, i.size, i.bytes)) = some (some (.agg #[.int .i64 0, .int .i64 0]), 2, 16) := by kernel_rfl
theorem madeK {w : World} {g base : Nat} (hb : base ≤ g) (h : w.heap[g]? = some (.cells #[] 68 (0, 0))) : OwK base w (.slice (some ⟨g, 0, none⟩) 0 0) [] :=
  ⟨by simp, .inr ⟨g, 0, #[], rfl, hb, h, by simp, by simp⟩⟩
theorem grown_below9 {w w' : World} (row : Option Nat) (h : Below w.heap.size w w') : w.grownBy w' row := ⟨h.os, h.tape, h.output, h.size, fun i hi _ => h.block i hi⟩
theorem grown_trans9 {w w1 w2 : World} {row : Option Nat} (h1 : w.grownBy w1 row) (h2 : w1.grownBy w2 row) : w.grownBy w2 row :=
  ⟨h2.os.trans h1.os, h2.tape.trans h1.tape, h2.output.trans h1.output, Nat.le_trans h1.size h2.size, fun i hi hne => (h2.block i (Nat.lt_of_lt_of_le hi h1.size) hne).trans (h1.block i hi hne)⟩
set_option maxHeartbeats 4000000 in
set_option maxRecDepth 100000 in
theorem smarksof_any (ai : Option Addr) (ni ci : Nat) (xs : List Itm) (af : Option Addr) (nf cf : Nat) (fs : List Flr) (w : World)
    (hni : ni ≤ 140737488351232) (hnf : nf ≤ 140737488351232) (hx : Rw encI 6 w (.slice ai ni ci) xs) (hf : Rw encF 2 w (.slice af nf cf) fs) :
    Calls Try.prog 28 #[.agg #[.slice ai ni ci, .slice af nf cf]] w fun e w' => ∃ a c, e = .returned (.slice a (mks xs fs).length c) ∧ OwK w.heap.size w' (.slice a (mks xs fs).length c) (mks xs fs) ∧ Below w.heap.size w w' := by
  obtain ⟨i0, hi, hz0, hz1, hz2⟩ := info_parts Try.infoMrk
  have HZ2 := hide hz2
  have HX := hide hx
  have HF := hide hf
  clear hx hf hz2
  go_enter Try.func28, Try.ntmps28
  go_wp2
  go_loopw [3, 4] (fun v i wr => ∃ (k : Nat) (b : Option Addr) (n d : Nat), k ≤ 5 ∧ i = .int .i64 k ∧ v = .slice b n d ∧ OwK (w.heap.size + 1) wr (.slice b n d) (mkK (gone xs fs) k) ∧ Below w.heap.size w wr ∧ wr.heap[w.heap.size]? = some (.cells #[.slice ai ni ci, .slice af nf cf] 38 (0, 0)) ∧ w.heap.size + 1 < wr.heap.size) (fun _ i _ => 5 - (intOf i).toNat)
  case atStart => exact ⟨0, _, _, _, Nat.zero_le _, rfl, rfl, madeK (Nat.le_refl _) (newB2 w _ _), ((Below.refl _ _).alloc (Nat.le_refl _) _).alloc (by simp) _, lowB2 w _ _, by simp⟩
  case round =>
    obtain ⟨k, b, n, d, hk, rfl, rfl, hown, hbel, hblk, hsw⟩ := hrel
    have HO := hide hown
    have HB := hide hbel
    have HK := hide hblk
    have hsz := hbel.size
    have hlen := (hown.rw encF_len).len.1
    have hl5 := mkK_len (gone xs fs) k
    have hn5 : n ≤ 5 := by omega
    have HL := hide hlen
    by_cases hlt : k < 5
    · obtain ⟨p0, p1, -⟩ := blk_cells2 hblk
      obtain ⟨r, hr⟩ : ∃ r, Hid (gone xs fs (k : Int) = r) := ⟨_, hide rfl⟩
      have HKK : Hid (mkK (gone xs fs) (k + 1) = mkK (gone xs fs) k ++ if 0 < r then [((k : Int), r)] else []) := hide (by rw [mkK, mk1, unhide hr])
      clear hown hbel hblk hl5 hlen
      go_wp2_with fail
      refine (sgone_any ai ni ci xs af nf cf fs k r hr _ hni hnf ((unhide HX).later (unhide HB)) ((unhide HF).later (unhide HB))).mono ?_
      rintro e w1 ⟨rfl, b1⟩
      have HB1 := hide ((unhide HB).trans (b1.mono hsz))
      have HK1 := hide ((b1.block _ (by omega)).trans (unhide HK))
      have HO1 := hide ((unhide HO).later b1)
      have hs1 : w.heap.size + 1 < w1.heap.size := Nat.lt_of_lt_of_le hsw b1.size
      clear b1 HB HK HO p0 p1
      by_cases hr0 : 0 < r
      · have hd : decide (0 < r) = true := by simpa using hr0
        have HN : Hid (mkK (gone xs fs) (k + 1) = mkK (gone xs fs) k ++ [((k : Int), r)]) := hide (by rw [unhide HKK, if_pos hr0])
        go_wp2_with (first | (at_builtin; refine wpList_app1 encF_len (by omega) oneF 68 25 i0 _ 16 Try.underlying25 hi hz0 hz1 (unhide HZ2) rfl (by omega) w1 ((k : Int), r) rfl _ _ rfl (w.heap.size + 1) _ _ n HL rfl (unhide HO1) rfl (by omega) (by omega) ?_))
        intro a' c' w2 hO hG
        have HO2 := hide hO
        have HB2 := hide ((unhide HB1).grown hG (by omega) (fun g hg => by have := (World.ownsRow.lt (unhide HO1) g hg).1; omega))
        have HK2 := hide ((hG.block _ (by omega) (fun e => by have := (World.ownsRow.lt (unhide HO1) _ e.symm).1; omega)).trans (unhide HK1))
        have hs2 : w.heap.size + 1 < w2.heap.size := Nat.lt_of_lt_of_le hs1 hG.size
        clear hO hG HO1 HB1 HK1
        go_wp2
        go_roundw
        case rel => exact ⟨k + 1, _, _, _, by omega, by go_num, rfl, by rw [unhide HN]; exact unhide HO2, unhide HB2, unhide HK2, hs2⟩
        case measure => simp [intOf]; omega
      · have hd : decide (0 < r) = false := by simpa using hr0
        have HN : Hid (mkK (gone xs fs) (k + 1) = mkK (gone xs fs) k) := hide (by rw [unhide HKK, if_neg hr0, List.append_nil])
        go_wp2
        go_roundw
        case rel => exact ⟨k + 1, _, _, _, by omega, by go_num, rfl, by rw [unhide HN]; exact unhide HO1, unhide HB1, unhide HK1, hs1⟩
        case measure => simp [intOf]; omega
    · obtain rfl : k = 5 := by omega
      clear hbel hblk hown
      go_wp2
      go_ret
      refine ⟨b, d, ?_, ?_, unhide HB⟩
      · rw [unhide HL]; rfl
      · have h := unhide HO
        rw [unhide HL] at h
        exact h.base (by omega)
set_option maxHeartbeats 2000000 in
set_option maxRecDepth 100000 in
theorem iwithM_any (base : Nat) (a : Option Addr) (n c : Nat) (fs : List Flr) (x : Flr) (q : Bool) (hq : Hid (inB x.2 1 1000 = q)) (w : World) (hn : n ≤ 100000) (hb : base ≤ w.heap.size) (h : OwK base w (.slice a n c) fs) :
    Calls Try.prog 55 #[.slice a n c, .agg #[.int .i64 x.1, .int .i64 x.2]] w fun e w' => ∃ a' n' c', e = .returned (.slice a' n' c') ∧ OwK base w' (.slice a' n' c') (fs ++ if q then [x] else []) ∧ w.grownBy w' (Value.slice a n c).ownBlock := by
  obtain ⟨i0, hi, hz0, hz1, hz2⟩ := info_parts Try.infoMrk
  have HZ2 := hide hz2
  have HO := hide h
  have HL := hide (h.rw encF_len).len.1
  have hm2 := mright_m (.int .i64 x.1) (.int .i64 x.2)
  clear h hz2
  go_enter Try.func55, Try.ntmps55
  go_wp2_with fail
  refine (mright_any x q hq _).mono ?_
  rintro e w1 ⟨rfl, b1⟩
  have hg1 := grown_below9 (Value.slice a n c).ownBlock (((Below.refl w.heap.size w).alloc (Nat.le_refl _) (.cells #[.int .i64 x.1, .int .i64 x.2] 68)).trans (b1.mono (by simp)))
  have HO1 := hide (((unhide HO).later (((Below.refl w.heap.size w).alloc (Nat.le_refl _) (.cells #[.int .i64 x.1, .int .i64 x.2] 68)).trans (b1.mono (by simp)))))
  have k1 := (b1.block _ (by simp)).trans (heap_alloc_new w _)
  have s1 : w.heap.size < w1.heap.size := by have := b1.size; simp at this; omega
  obtain ⟨p0, p1⟩ := blk_get2 k1
  have HG1 := hide hg1
  clear b1 k1 hg1 HO
  cases q
  · go_wp2
    go_ret
    exact ⟨_, _, _, rfl, by simpa using unhide HO1, unhide HG1⟩
  go_wp2_with (first | (at_builtin; refine wpList_app1 encF_len (by omega) oneF 68 80 i0 _ 16 Try.underlying80 hi hz0 hz1 (unhide HZ2) rfl (by omega) w1 x rfl _ _ rfl base _ _ n HL rfl (unhide HO1) rfl (by omega) (by omega) ?_))
  intro a' c' w2 hO hG
  have HO2 := hide hO
  have HG2 := hide (grown_trans9 (unhide HG1) hG)
  clear hO hG HO1 HG1 p0 p1
  go_wp2
  go_ret
  exact ⟨_, _, _, rfl, by simpa using unhide HO2, unhide HG2⟩
set_option maxHeartbeats 4000000 in
set_option maxRecDepth 100000 in
theorem imarksof_any (ai : Option Addr) (ni ci : Nat) (xs : List Itm) (af : Option Addr) (nf cf : Nat) (fs : List Flr) (w : World)
    (hni : ni ≤ 140737488351232) (hnf : nf ≤ 140737488351232) (hx : Rw encI 6 w (.slice ai ni ci) xs) (hf : Rw encF 2 w (.slice af nf cf) fs) :
    Calls Try.prog 20 #[.agg #[.slice ai ni ci, .slice af nf cf]] w fun e w' => ∃ a c, e = .returned (.slice a (mks xs fs).length c) ∧ OwK w.heap.size w' (.slice a (mks xs fs).length c) (mks xs fs) ∧ Below w.heap.size w w' := by
  have HX := hide hx
  have HF := hide hf
  clear hx hf
  go_enter Try.func20, Try.ntmps20
  go_wp2
  go_loopw [3, 5] (fun v i wr => ∃ (k : Nat) (b : Option Addr) (n d : Nat), k ≤ 5 ∧ i = .int .i64 k ∧ v = .slice b n d ∧ OwK (w.heap.size + 1) wr (.slice b n d) (mkK (gone xs fs) k) ∧ Below w.heap.size w wr ∧ wr.heap[w.heap.size]? = some (.cells #[.slice ai ni ci, .slice af nf cf] 38 (0, 0)) ∧ w.heap.size + 1 ≤ wr.heap.size) (fun _ i _ => 5 - (intOf i).toNat)
  case atStart => exact ⟨0, none, 0, 0, Nat.zero_le _, rfl, rfl, World.ownsRow_nil _ _ _ _, (Below.refl _ _).alloc (Nat.le_refl _) _, heap_alloc_new w _, by simp⟩
  case round =>
    obtain ⟨k, b, n, d, hk, rfl, rfl, hown, hbel, hblk, hsw⟩ := hrel
    have HO := hide hown
    have HB := hide hbel
    have HK := hide hblk
    have hsz := hbel.size
    have hlen := (hown.rw encF_len).len.1
    have hl5 := mkK_len (gone xs fs) k
    have hn5 : n ≤ 5 := by omega
    have HL := hide hlen
    by_cases hlt : k < 5
    · obtain ⟨p0, p1, -⟩ := blk_cells2 hblk
      obtain ⟨r, hr⟩ : ∃ r, Hid (gone xs fs (k : Int) = r) := ⟨_, hide rfl⟩
      have hr3 := gone_le xs fs (k : Int)
      rw [unhide hr] at hr3
      obtain ⟨q, hq⟩ : ∃ q, Hid (inB r 1 1000 = q) := ⟨_, hide rfl⟩
      have HKK : Hid (mkK (gone xs fs) (k + 1) = mkK (gone xs fs) k ++ if q then [((k : Int), r)] else []) := hide (by
        rw [mkK, mk1, unhide hr, ← unhide hq]
        by_cases h : 0 < r
        · rw [if_pos h, if_pos (by simp [inB]; omega)]
        · rw [if_neg h, if_neg (by simp [inB]; omega)])
      clear hown hbel hblk hl5 hlen hr3
      go_wp2_with fail
      refine (igone_any ai ni ci xs af nf cf fs k r hr _ hni hnf ((unhide HX).later (unhide HB)) ((unhide HF).later (unhide HB))).mono ?_
      rintro e w1 ⟨rfl, b1⟩
      have HB1 := hide ((unhide HB).trans (b1.mono hsz))
      have HK1 := hide ((b1.block _ (by omega)).trans (unhide HK))
      have HO1 := hide ((unhide HO).later b1)
      have hs1 : w.heap.size + 1 ≤ w1.heap.size := Nat.le_trans hsw b1.size
      clear b1 HB HK HO p0 p1
      go_wp2_with fail
      refine (iwithM_any (w.heap.size + 1) b n d _ ((k : Int), r) q hq _ (by omega) hs1 (unhide HO1)).mono ?_
      rintro e w2 ⟨a', n', c', rfl, hO, hG⟩
      have HO2 := hide hO
      have HB2 := hide ((unhide HB1).grown hG (by omega) (fun g hg => by have := (World.ownsRow.lt (unhide HO1) g hg).1; omega))
      have HK2 := hide ((hG.block _ (by omega) (fun e => by have := (World.ownsRow.lt (unhide HO1) _ e.symm).1; omega)).trans (unhide HK1))
      have hs2 : w.heap.size + 1 ≤ w2.heap.size := Nat.le_trans hs1 hG.size
      clear hO hG HO1 HB1 HK1
      go_wp2
      go_roundw
      case rel => exact ⟨k + 1, _, _, _, by omega, by go_num, rfl, by rw [unhide HKK]; exact unhide HO2, unhide HB2, unhide HK2, hs2⟩
      case measure => simp [intOf]; omega
    · obtain rfl : k = 5 := by omega
      clear hbel hblk hown
      go_wp2
      go_ret
      refine ⟨b, d, ?_, ?_, unhide HB⟩
      · rw [unhide HL]; rfl
      · have h := unhide HO
        rw [unhide HL] at h
        exact h.base (by omega)
end Go.Proofs.Ytighiahppjekeaa

namespace Go.Proofs.Ytighiahppjekeaa
open Go.RowKit

/-- The greatest of what is there and each mark of that node. -/
def top (ms : List Flr) (i : Int) (z : Int) : Int := ms.foldl (fun z m => if m.1 = i then max z m.2 else z) z
theorem nAt_set {r : List Int} {k i : Nat} {z : Int} : nAt (r.set k z) i = if k = i ∧ k < r.length then z else nAt r i := by
  unfold nAt
  rw [List.getD_eq_getElem?_getD, List.getD_eq_getElem?_getD, List.getElem?_set]
  by_cases h : k = i
  · subst h
    by_cases hk : k < r.length
    · rw [if_pos rfl, if_pos hk, if_pos ⟨rfl, hk⟩]; rfl
    · rw [if_pos rfl, if_neg hk, if_neg (by omega), List.getElem?_eq_none (by omega)]
  · rw [if_neg h, if_neg (by omega)]
theorem nAt_putMs : ∀ (ms : List Flr) (r : List Int) (i : Nat), (∀ m ∈ ms, 0 ≤ m.1 ∧ m.1 < r.length) → nAt (putMs r ms) i = top ms i (nAt r i)
  | [], r, i, _ => rfl
  | m :: ms, r, i, h => by
    show nAt (putMs (putM r m) ms) i = _
    obtain ⟨h0, h1⟩ := h m (by simp)
    rw [nAt_putMs ms (putM r m) i (fun q hq => by rw [putM_len]; exact h q (by simp [hq]))]
    unfold top
    rw [List.foldl_cons]
    congr 1
    unfold putM
    rw [nAt_set]
    by_cases e : m.1 = (i : Int)
    · rw [if_pos e, if_pos (by omega), show m.1.toNat = i by omega]
    · rw [if_neg e, if_neg (by omega)]
theorem top_mkK (f : Int → Int) (i : Int) (z : Int) : ∀ n : Nat, top (mkK f n) i z = if 0 ≤ i ∧ i < n ∧ 0 < f i then max z (f i) else z
  | 0 => by rw [if_neg (by omega)]; rfl
  | n + 1 => by
    have ih := top_mkK f i z n
    unfold top at ih ⊢
    rw [mkK, List.foldl_append, ih]
    unfold mk1
    by_cases hn : 0 < f (n : Int)
    · rw [if_pos hn]
      simp only [List.foldl_cons, List.foldl_nil]
      by_cases e : (n : Int) = i
      · subst e
        rw [if_pos rfl, if_neg (by omega), if_pos (by omega)]
      · rw [if_neg e]
        by_cases h : 0 ≤ i ∧ i < n ∧ 0 < f i
        · rw [if_pos h, if_pos (by omega)]
        · rw [if_neg h, if_neg (by omega)]
    · rw [if_neg hn]
      simp only [List.foldl_nil]
      by_cases e : (n : Int) = i
      · subst e
        rw [if_neg (by omega), if_neg (by omega)]
      · by_cases h : 0 ≤ i ∧ i < n ∧ 0 < f i
        · rw [if_pos h, if_pos (by omega)]
        · rw [if_neg h, if_neg (by omega)]
/-- A row of five numbers into which marks of numbers from 0 on are put. -/
theorem row_mks {r : List Int} (hl : r.length = 5) (h0 : ∀ i, 0 ≤ nAt r i) (f : Int → Int) (hf : ∀ id, 0 ≤ f id) {i : Nat} (hi : i < 5) : nAt (putMs r (mkK f 5)) i = max (nAt r i) (f i) := by
  rw [nAt_putMs _ _ _ (fun m hm => by have := mem_mkK.1 hm; omega), top_mkK]
  have := hf i
  have := h0 i
  split <;> omega
theorem nul_at (i : Nat) : nAt nulR i = 0 := by
  unfold nAt nulR
  rw [List.getD_eq_getElem?_getD, List.getElem?_replicate]
  split <;> rfl
theorem nAt_nn {r : List Int} (h : ∀ i, i < r.length → 0 ≤ nAt r i) (i : Nat) : 0 ≤ nAt r i := by
  by_cases hi : i < r.length
  · exact h i hi
  · rw [nAt_out (by omega)]; omega
/-- Marks are put into one row of a table whose rows have five numbers. -/
theorem addT_row {t : Tb} {k : Nat} {r : List Int} {ms : List Flr} (hr : t[k]? = some r) (hl : 5 ≤ r.length) (hm : gF (-1) ms = true) : addT t (k : Int) ms = t.set k (putMs r ms) := by
  have hk := (List.getElem?_eq_some_iff.1 hr).1
  unfold addT
  rw [if_pos, rowT_in hr]
  · simp
  · rw [addOk, rowT_in hr, hm]
    simp [inB, hl]; omega
theorem com_one {r : List Int} {i : Nat} (hi : i < r.length) : com [r] (i : Int) = nAt r i := by
  unfold com
  rw [if_pos (by simp [hasR, inB]; omega)]
  simp [col, lst]
theorem com_two {r q : List Int} {i : Nat} (hi : i < r.length) (hj : i < q.length) : com [r, q] (i : Int) = min (nAt r i) (nAt q i) := by
  unfold com
  rw [if_pos (by simp [hasR, inB]; omega)]
  simp [col, lst]

/-- The floors that are pruned, and what comes of it. -/
def pf (xs : List Itm) (fs : List Flr) (t : Tb) : List Flr := mkK (fun id => min (com t id) (gone xs fs id)) 5
def prI (xs : List Itm) (fs : List Flr) (t : Tb) : List Itm := if okS xs fs = true then joinI xs fs [] (pf xs fs t) else xs
def prF (xs : List Itm) (fs : List Flr) (t : Tb) : List Flr := if okS xs fs = true then joinF fs (pf xs fs t) else fs
theorem okF_of {f : Int → Int} (h : ∀ id, f id ≤ 1000) : OkS [] (mkK f 5) :=
  ⟨.nil, mkK_pair f 5, fun _ h => by simp at h, fun x hx => by
    have := mem_mkK.1 hx
    have := h x.1
    omega⟩
theorem pf_ok (xs : List Itm) (fs : List Flr) (t : Tb) : OkS [] (pf xs fs t) := okF_of (fun id => by have := gone_le xs fs id; omega)
theorem pf_len (xs : List Itm) (fs : List Flr) (t : Tb) : (pf xs fs t).length ≤ 5 := mkK_len _ 5
theorem pf_flo (xs : List Itm) (fs : List Flr) (t : Tb) (id : Int) : flo (pf xs fs t) id = if 0 ≤ id ∧ id < 5 ∧ 0 < min (com t id) (gone xs fs id) then min (com t id) (gone xs fs id) else 0 := mkK_flo _ 5 id
section
variable {xs : List Itm} {fs : List Flr}
/-- Floors that are no more than what is over turn nothing that is over. -/
theorem OkS.under (hx : OkS xs fs) {gs : List Flr} (hg : OkS [] gs) (h : ∀ id, flo gs id ≤ gone xs fs id) (id : Int) : gone (joinI xs fs [] gs) (joinF fs gs) id = gone xs fs id := by
  have hj := hx.join hg
  have hfl := (hx.fl2_nn hg id).2.2
  have hh := h id
  have hff := hx.flo_nn id
  have hgg := hg.flo_nn id
  rw [gone_ok hx] at hh
  rw [gone_ok hx, gone_ok hj, join_flo hx hg, join_ent' hx hg, ent_nil, jE_none]
  cases he : ent xs id with
  | none =>
    rw [he] at hh
    simp only [keep] at hh ⊢
    omega
  | some e =>
    rw [he] at hh
    have hi := hx.ent_in he
    have hr := okE_rank hi.2.2.1
    simp only [keep] at hh ⊢
    by_cases hz : e.2.1 = 0
    · rw [if_pos hz] at hh ⊢
      rw [if_pos (by omega)]
      simp only [hz, if_true]
    · rw [if_neg hz] at hh ⊢
      by_cases hlt : fl2 fs gs id < e.1
      · rw [if_pos hlt]
        simp only [if_neg hz]
      · rw [if_neg hlt]
        simp only
        omega
/-- .. and nothing that is seen. -/
theorem OkS.under_up (hx : OkS xs fs) {gs : List Flr} (hg : OkS [] gs) (h : ∀ id, flo gs id ≤ gone xs fs id) : upI (joinI xs fs [] gs) = upI xs := by
  have hj := hx.join hg
  refine list_of_mem (hj.px.sublist List.filter_sublist) (hx.px.sublist List.filter_sublist) (fun x => ?_)
  unfold upI
  rw [List.mem_filter, List.mem_filter, show x = (x.1, x.2) from rfl, ← ent_iff hj.px, ← ent_iff hx.px, join_ent' hx hg, ent_nil, jE_none]
  have hfl := (hx.fl2_nn hg x.1).2.2
  have hh := h x.1
  constructor
  · rintro ⟨h1, h2⟩
    refine ⟨?_, h2⟩
    cases he : ent xs x.1 with
    | none => rw [he] at h1; cases h1
    | some e =>
      rw [he] at h1
      simp only [keep] at h1
      split at h1
      · exact h1
      · cases h1
  · rintro ⟨h1, h2⟩
    refine ⟨?_, h2⟩
    have hi := hx.ent_in h1
    rw [h1]
    simp only [keep]
    rw [if_pos]
    rw [gone_ok hx, h1] at hh
    simp only [beq_iff_eq] at h2
    simp only [h2, if_true] at hh
    omega
end
theorem pf_under (xs : List Itm) (fs : List Flr) (t : Tb) (id : Int) : flo (pf xs fs t) id ≤ gone xs fs id := by
  rw [pf_flo]
  have := gone_le xs fs id
  split <;> omega
end Go.Proofs.Ytighiahppjekeaa

namespace Go.Proofs.Ytighiahppjekeaa
open Go.RowKit

theorem new_one : Hid (newT 1 = [nulR]) := hide rfl
theorem inew_v (m : Int) (t : Tb) (ht : Hid (newT m = t)) (n : Nat) (hn : Hid (t.length = n)) (w : World) :
    Calls Try.prog 14 #[.int .i64 m] w fun e w' => ∃ a c, e = .returned (.slice a n c) ∧ OwG w.heap.size w'.heap.size w' (.slice a n c) t ∧ Below w.heap.size w w' := by
  refine (itablenew_any m w).mono ?_
  rintro e w1 ⟨a, m1, c, rfl, o1, b1⟩
  rw [unhide ht] at o1
  obtain rfl : m1 = n := (o1.rw.len.1).trans (unhide hn)
  exact ⟨a, c, rfl, o1, b1⟩
theorem keep2 {w5 W : World} {b : Nat} {v0 v1 : Value} (h : b < w5.heap.size) (c0 : w5.cell? ⟨b, 0, none⟩ = some v0) (c1 : w5.cell? ⟨b, 1, none⟩ = some v1) (bl : Below w5.heap.size w5 W) :
    Below w5.heap.size w5 W ∧ W.cell? ⟨b, 0, none⟩ = some v0 ∧ W.cell? ⟨b, 1, none⟩ = some v1 :=
  ⟨bl, (bl.cell (p := ⟨b, 0, none⟩) h).trans c0, (bl.cell (p := ⟨b, 1, none⟩) h).trans c1⟩
theorem addT_one {r : List Int} {ms : List Flr} (hl : 5 ≤ r.length) (hm : gF (-1) ms = true) : addT [r] 0 ms = [putMs r ms] := by
  have h := addT_row (t := [r]) (k := 0) (r := r) rfl hl hm
  simpa using h
/-- The row of one's marks, of two's. -/
theorem row_one (xs : List Itm) (fs : List Flr) {i : Nat} (hi : i < 5) : nAt (putMs nulR (mks xs fs)) i = gone xs fs i := by
  rw [mks, row_mks rfl (fun i => by rw [nul_at]; exact Int.le_refl _) _ (fun id => (gone_le xs fs id).1) hi, nul_at]
  have := gone_le xs fs i
  omega
theorem row_len (r : List Int) (ms : List Flr) (h : r.length = 5) : (putMs r ms).length = 5 := by rw [putMs_len, h]
theorem row_two (xs : List Itm) (fs : List Flr) (ys : List Itm) (gs : List Flr) {i : Nat} (hi : i < 5) : nAt (putMs (putMs nulR (mks xs fs)) (mks ys gs)) i = max (gone xs fs i) (gone ys gs i) := by
  rw [mks, mks, row_mks (row_len nulR _ rfl) (nAt_nn (fun i hi => ?_)) _ (fun id => (gone_le ys gs id).1) hi]
  · rw [← mks, row_one xs fs hi]
  · rw [row_len nulR _ rfl] at hi
    rw [← mks, row_one xs fs hi]
    exact (gone_le xs fs i).1
/-- The one row of a table. -/
theorem RwG.one {w : World} {a : Option Addr} {c : Nat} {r : List Int} (h : RwG w (.slice a 1 c) [r]) : ∃ b off ri ci, a = some ⟨b, off, none⟩ ∧ b < w.heap.size ∧ 1 ≤ c ∧ w.cell? ⟨b, off, none⟩ = some (.slice ri r.length ci) ∧ RwN w (.slice ri r.length ci) r := by
  obtain ⟨q, ri, ni, ci, b, off, hq, ha, hb, hc, c0, rq, -⟩ := h.at (i := 0) (by omega)
  simp at hq
  subst hq
  obtain rfl := rq.len.1
  exact ⟨b, off, ri, ci, ha, hb, hc, c0, rq⟩
end Go.Proofs.Ytighiahppjekeaa
