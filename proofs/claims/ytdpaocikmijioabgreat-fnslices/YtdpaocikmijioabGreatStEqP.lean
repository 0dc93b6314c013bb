/-
  Rows of bytes that are put together; numbers as bytes, one behind the other: the program's putNums. No statement is proved here.
  The bytes of a state: the program's. No statement is proved here.
  The bytes of a state: the specification's. No statement is proved here.
  The sum of a leaf, the program's and the specification's; the sum of a tree's leaves. No statement is proved here.
  Trees: the program's. No statement is proved here.
  A field of a struct that a call has told. No statement is proved here.
  spec.DrawEntryOf, spec.DrawLookup, spec.DrawSlice: some state, with short texts, and some Id, or some leaves; nothing that was there turns. No statement is proved here.
  Equality of items and of floors, as the model reckons it. No statement is proved here.
-/
import Derived.Test.YtdpaocikmijioabGreatSPutText
import Derived.Test.YtdpaocikmijioabGreatStT
import Derived.Test.YtdpaocikmijioabGreatStM
import Derived.Test.YtdpaocikmijioabGreatApp2
import Derived.Test.YtdpaocikmijioabGreatIStOk
import Derived.Test.YtdpaocikmijioabGreatSt3
import Derived.Test.YtdpaocikmijioabGreatSStOk
import Derived.Test.YtdpaocikmijioabGreatStBx
import Derived.Test.YtdpaocikmijioabGreatL3W
import Derived.Test.YtdpaocikmijioabGreatEntOf
import Derived.Laws.StructEq
import Derived.Lib.Strings
namespace Go.Proofs.YtdpaocikmijioabGreat
open Go.RowKit

/-- A row of bytes that the call itself owns. -/
abbrev OwB (base : Nat) (w : World) (v : Value) (bs : List Int) : Prop := w.ownsRow base 5 1 v bs.length (bs.map (Value.int .u8))
theorem OwB.nil (base : Nat) (w : World) : OwB base w (.slice none 0 0) [] := World.ownsRow_nil _ _ _ _
theorem wpList_appB {ops : Array Oper} {rest : List Oper} {o : Oper} {a : Act} {Q : Exit → Act → World → Prop} (w : World) (hgd : o.guard = none) (s x : Operand)
    (ho : o.op = .call { callee := .builtin .append, args := #[s, x], argTypes := #[22, 22] })
    (base : Nat) (v : Value) (xs : List Int) (hs : a.eval s = v) (hown : OwB base w v xs) (B' : Nat) (u : Value) (ys : List Int) (hx : a.eval x = u) (hu : OwB B' w u ys) (hl : xs.length + ys.length ≤ 100000000) (hbase : base ≤ w.heap.size)
    (h : ∀ v' w', OwB base w' v' (xs ++ ys) → w.grownBy w' v.ownBlock → wpList Tryz.prog ops Q rest (a.put o.dst v') w') : wpList Tryz.prog ops Q (o :: rest) a w := by
  obtain ⟨i0, hi, hz0, hz1, hz2⟩ := info_parts Tryz.infoByte
  refine wpList_append_any w hgd s x 22 ho base 5 i0 (.int .u8 0) 1 Tryz.underlying22 hi hz0 hz1 hz2 rfl v xs.length (xs.map (Value.int .u8)) hs hown B' u ys.length (ys.map (Value.int .u8)) hx hu (ints_oneCell _ _) (by unfold maxLen; omega) (by omega) hbase (fun v' w' o1 g1 => h v' w' ?_ g1)
  unfold OwB
  rw [List.map_append, List.length_append]
  exact o1

set_option maxHeartbeats 2000000 in
set_option maxRecDepth 100000 in
theorem iputnums_any (a : Option Addr) (n c : Nat) (ns : List Int) (w : World) (hn : n ≤ 1000) (hfit : ∀ (k : Nat) (x : Int), ns[k]? = some x → -9223372036854775808 ≤ x ∧ x ≤ 9223372036854775807) (h : RwN w (.slice a n c) ns) :
    Calls Tryz.prog 63 #[.slice a n c] w fun e w' => ∃ v, e = .returned v ∧ OwB w.heap.size w' v (nums ns) ∧ Below w.heap.size w w' := by
  have HR := hide h
  have HF := hide hfit
  have hN := h.len.1
  have HN := hide hN
  clear h hfit hN
  go_enter Tryz.func63, Tryz.ntmps63
  go_wp2
  go_loopw [3, 8] (fun v i wr => ∃ k : Nat, k ≤ n ∧ i = .int .i64 k ∧ OwB w.heap.size wr v (nums (ns.take k)) ∧ Below w.heap.size w wr) (fun _ i _ => n - (intOf i).toNat)
  case atStart => exact ⟨0, by omega, rfl, OwB.nil _ _, Below.refl _ _⟩
  case round =>
    obtain ⟨k, hk, rfl, hown, hbel⟩ := hrel
    have HO := hide hown
    have HB := hide hbel
    have hsz := hbel.size
    clear hown
    by_cases hlt : k < n
    · obtain ⟨z, b, off, hz, rfl, hb, hcap, cz⟩ := ((unhide HR).later hbel).atN hlt
      obtain ⟨f1, f2⟩ := unhide HF k z hz
      have HZ := hide (nums_take hz)
      clear hz hbel
      go_wp2_with fail
      refine (iputnum_any z _ f1 f2).mono ?_
      rintro e w2 ⟨u, rfl, o2, b2⟩
      have HO2 := hide (owns_later (unhide HO) b2 (Nat.le_refl _))
      have HU := hide o2
      have HB2 := hide ((unhide HB).trans (b2.mono hsz))
      have hw2 := (unhide HB2).size
      have hl : (nums (ns.take k)).length + (putN z).length ≤ 100000000 := by
        have h1 := nums_len (ns.take k)
        have h2 := putN_length z
        have h3 : (ns.take k).length ≤ k := by simp; omega
        omega
      clear o2 b2 HO HB
      go_wp2_with (at_builtin; refine wpList_appB _ rfl _ _ rfl w.heap.size _ _ rfl (unhide HO2) _ _ _ rfl (unhide HU) hl hw2 ?_; intro v' w3 hO hG; have HO3 := hide hO; have HB3 := hide ((unhide HB2).grown hG hw2 (fun k hk => ((unhide HO2).lt k hk).1)); clear hO hG)
      go_roundw
      case rel => exact ⟨k + 1, by omega, by go_num, by rw [unhide HZ]; exact unhide HO3, unhide HB3⟩
      case measure => simp [intOf]; omega
    · have HT : Hid (nums (ns.take k) = nums ns) := hide (by rw [List.take_of_length_le (by have := unhide HN; omega)])
      clear hbel
      go_wp2
      go_ret
      exact ⟨_, rfl, by rw [← unhide HT]; exact unhide HO, unhide HB⟩
end Go.Proofs.YtdpaocikmijioabGreat

namespace Go.Proofs.YtdpaocikmijioabGreat
open Go.RowKit

theorem okE_fits {e : Key} (h : okE e.1 e.2.1 e.2.2.1 e.2.2.2.1 e.2.2.2.2 = true) : (0 ≤ e.1 ∧ e.1 ≤ 1000) ∧ (0 ≤ e.2.1 ∧ e.2.1 ≤ 1) ∧ (0 ≤ e.2.2.1 ∧ e.2.2.1 ≤ 100000) ∧ (0 ≤ e.2.2.2.1 ∧ e.2.2.2.1 ≤ 1000) ∧ (e.2.2.2.2.size : Int) ≤ 8 := by
  simp only [okE, Bool.and_eq_true, inB_iff, decide_eq_true_eq] at h
  obtain ⟨⟨⟨⟨a, b⟩, c⟩, d⟩, e⟩ := h
  exact ⟨⟨by omega, a.2⟩, b, c, d, e⟩
/-- A block of numbers, as it is laid for a call, reads as its numbers. -/
theorem rwN_blk {w : World} {g : Nat} {ns : List Int} {fz : Nat × Nat} (h : w.heap[g]? = some (.cells (ns.map (Value.int .i64)).toArray 3 fz)) : RwN w (.slice (some ⟨g, 0, none⟩) ns.length ns.length) ns := by
  refine ⟨_, _, rfl, Nat.le_refl _, .inr ⟨g, 0, rfl, (Array.getElem?_eq_some_iff.1 h).1, fun i x hx j hj => ?_⟩⟩
  obtain rfl : j = 0 := by omega
  obtain ⟨hi, rfl⟩ := List.getElem?_eq_some_iff.1 hx
  simp only [World.cell?, h]
  simp [encN, hi]
/-- While a state's bytes are made: the argument, what is made. -/
structure B2 (w X : World) (v1 v2 : Value) (v : Value) (bs : List Int) : Prop where
  bel : Below w.heap.size w X
  ka : X.heap[w.heap.size]? = some (.cells #[v1, v2] 27 (0, 0))
  ob : OwB w.heap.size X v bs
section
variable {w X Y : World} {v1 v2 v v' : Value} {bs cs : List Int}
theorem B2.lt (h : B2 w X v1 v2 v bs) : w.heap.size < X.heap.size := (Array.getElem?_eq_some_iff.1 h.ka).1
theorem B2.later (h : B2 w X v1 v2 v bs) (b : Below X.heap.size X Y) : B2 w Y v1 v2 v bs := by
  exact ⟨h.bel.trans (b.mono h.bel.size), (b.block _ h.lt).trans h.ka, owns_later h.ob b (Nat.le_refl _)⟩
theorem B2.app (h : B2 w X v1 v2 v bs) (ho : OwB w.heap.size Y v' cs) (hg : X.grownBy Y v.ownBlock) : B2 w Y v1 v2 v' cs :=
  ⟨h.bel.grown hg h.bel.size (fun k hk => (h.ob.lt k hk).1), (hg.block _ h.lt (fun q => own_ne h.ob h.ka (by decide) q.symm)).trans h.ka, ho⟩
/-- A block of another kind stays as it was. -/
theorem B2.keep (h : B2 w X v1 v2 v bs) (hg : X.grownBy Y v.ownBlock) {g : Nat} {zs : Array Value} {T : TypeId} {fz : Nat × Nat} (hk : X.heap[g]? = some (.cells zs T fz)) (hT : (5 : Nat) ≠ T) : Y.heap[g]? = some (.cells zs T fz) :=
  (hg.block _ (Array.getElem?_eq_some_iff.1 hk).1 (fun q => own_ne h.ob hk hT q.symm)).trans hk
end
theorem fit1 (a : Int) (h : -9223372036854775808 ≤ a ∧ a ≤ 9223372036854775807) : ∀ (k : Nat) (x : Int), [a][k]? = some x → -9223372036854775808 ≤ x ∧ x ≤ 9223372036854775807 := by
  intro k x hx
  have := List.mem_of_getElem? hx
  simp at this; subst this; exact h
theorem fit2 {a b : Int} (h1 : -9223372036854775808 ≤ a ∧ a ≤ 9223372036854775807) (h2 : -9223372036854775808 ≤ b ∧ b ≤ 9223372036854775807) : ∀ (k : Nat) (x : Int), [a, b][k]? = some x → -9223372036854775808 ≤ x ∧ x ≤ 9223372036854775807 := by
  intro k x hx
  have := List.mem_of_getElem? hx
  simp at this; rcases this with rfl | rfl <;> assumption
theorem fit5 {a b c d e : Int} (h1 : -9223372036854775808 ≤ a ∧ a ≤ 9223372036854775807) (h2 : -9223372036854775808 ≤ b ∧ b ≤ 9223372036854775807) (h3 : -9223372036854775808 ≤ c ∧ c ≤ 9223372036854775807) (h4 : -9223372036854775808 ≤ d ∧ d ≤ 9223372036854775807) (h5 : -9223372036854775808 ≤ e ∧ e ≤ 9223372036854775807) : ∀ (k : Nat) (x : Int), [a, b, c, d, e][k]? = some x → -9223372036854775808 ≤ x ∧ x ≤ 9223372036854775807 := by
  intro k x hx
  have := List.mem_of_getElem? hx
  simp at this; rcases this with rfl | rfl | rfl | rfl | rfl <;> assumption

set_option maxHeartbeats 8000000 in
set_option maxRecDepth 100000 in
theorem ibytes_any (ai : Option Addr) (ni ci : Nat) (xs : List Itm) (af : Option Addr) (nf cf : Nat) (fs : List Flr) (ok : Bool) (h0 : Hid (okS xs fs = ok)) (w : World)
    (hni : ni ≤ 140737488351232) (hnf : nf ≤ 140737488351232) (hx : Rw encI 6 w (.slice ai ni ci) xs) (hf : Rw encF 2 w (.slice af nf cf) fs) :
    Calls Tryz.prog 27 #[.agg #[.slice ai ni ci, .slice af nf cf]] w fun e w' => ∃ v, e = .returned v ∧ OwB w.heap.size w' v (sbS xs fs) ∧ Below w.heap.size w w' := by
  have HX := hide hx
  have HF := hide hf
  have HNI := hide hx.len.1
  have HNF := hide hf.len.1
  clear hx hf
  go_enter Tryz.func27, Tryz.ntmps27
  go_wp2_with fail
  have bW : Below w.heap.size w (w.alloc (.cells #[.slice ai ni ci, .slice af nf cf] 27)) := (Below.refl w.heap.size w).alloc (Nat.le_refl _) _
  refine (istateok_any ai ni ci xs af nf cf fs _ h0 _ hni hnf ((unhide HX).later bW) ((unhide HF).later bW)).mono ?_
  rintro e w1 ⟨rfl, b1⟩
  have CV : Hid (B2 w w1 (.slice ai ni ci) (.slice af nf cf) (.slice none 0 0) []) := hide ⟨bW.trans (b1.mono (by simp)), (b1.block _ (by simp)).trans (newB1 w _), OwB.nil _ _⟩
  have z1 := (unhide CV).lt
  clear b1 bW
  cases ok
  · have e0 : sbS xs fs = [] := by rw [sbS, unhide h0]; rfl
    go_wp2
    go_ret
    exact ⟨_, rfl, by rw [e0]; exact OwB.nil _ _, (unhide CV).bel⟩
  · have OA := (okS_iff _ _).1 (unhide h0)
    have HA := hide OA
    have m5 : ni ≤ 5 := by have := unhide HNI; have := OA.len5.1; omega
    have f5 : nf ≤ 5 := by have := unhide HNF; have := OA.len5.2; omega
    have HE : Hid (sbS xs fs = sb xs fs) := hide (by rw [sbS, unhide h0]; rfl)
    obtain ⟨p0, p1, -⟩ := blk_cells2 (unhide CV).ka
    clear OA h0
    go_wp2_with fail
    have R1 : RwN (w1.alloc (.cells #[.int .i64 (ni : Int)] 3)) (.slice (some ⟨w1.heap.size, 0, none⟩) 1 1) [(ni : Int)] := rwN_blk (ns := [(ni : Int)]) (newB1 w1 _)
    refine (iputnums_any _ 1 1 [(ni : Int)] _ (by omega) (fit1 _ (by omega)) R1).mono ?_
    rintro e w2 ⟨v2, rfl, o2, b2⟩
    have b2' := ((Below.refl w1.heap.size w1).alloc (Nat.le_refl _) (.cells #[.int .i64 (ni : Int)] 3)).trans (b2.mono (by simp))
    have J2' : Hid (B2 w w2 (.slice ai ni ci) (.slice af nf cf) v2 (putN xs.length)) := hide ⟨((unhide CV).later b2').bel, ((unhide CV).later b2').ka, by rw [nums_one, unhide HNI] at o2; exact owns_base o2 (by simp; omega)⟩
    clear o2 b2 b2' R1 CV p0 p1 z1
    obtain ⟨p0, p1, -⟩ := blk_cells2 (unhide J2').ka
    have z2 := (unhide J2').lt
    go_wp2
    go_loopw [3, 20] (fun v i wr => ∃ k : Nat, k ≤ ni ∧ i = .int .i64 k ∧ B2 w wr (.slice ai ni ci) (.slice af nf cf) v (putN xs.length ++ sbIs (xs.take k))) (fun _ i _ => ni - (intOf i).toNat)
    case atStart => exact ⟨0, by omega, rfl, by simpa [sbIs] using unhide J2'⟩
    case round =>
      clear J2' p0 p1 z2
      obtain ⟨k, hk, rfl, hJ⟩ := hrel
      have HJ := hide hJ
      have hsz := hJ.bel.size
      have hlt0 := hJ.lt
      have hL : (putN xs.length ++ sbIs (xs.take k)).length ≤ 1000 := by
        have h1 := putN_length xs.length
        have h2 := sbIs_len (xs := xs.take k) (fun x hx => (unhide HA).small x (List.mem_of_mem_take hx))
        have h3 : (xs.take k).length ≤ k := by simp; omega
        rw [List.length_append]; omega
      by_cases hlt : k < ni
      · obtain ⟨x, b, off, hx, rfl, hb, hcap, hc⟩ := ((unhide HX).later hJ.bel).at hlt
        obtain ⟨c0, c1, c2, c3, c4, c5⟩ := item_cells hc
        have hin := (unhide HA).ix x (List.mem_of_getElem? hx)
        obtain ⟨q1, q2, q3, q4, q5⟩ := okE_fits hin.2.2.1
        obtain ⟨i1, i2, -⟩ := hin
        have HX1 := hide hx
        clear hx hc hJ
        go_wp2_with fail
        have hW : Below wr.heap.size wr (((wr.alloc (.cells #[.int .i64 x.1, .int .i64 x.2.1, .int .i64 x.2.2.1, .int .i64 x.2.2.2.1, .int .i64 x.2.2.2.2.1, .string x.2.2.2.2.2] 40)).alloc (.cells #[.int .i64 x.2.1, .int .i64 x.2.2.1, .int .i64 x.2.2.2.1, .int .i64 x.2.2.2.2.1, .string x.2.2.2.2.2] 38)).alloc (.cells #[.int .i64 x.1, .int .i64 x.2.1, .int .i64 x.2.2.1, .int .i64 x.2.2.2.1, .int .i64 x.2.2.2.2.1] 3)) := ((((Below.refl wr.heap.size wr).alloc (Nat.le_refl _) _).alloc (by simp) _).alloc (by simp; omega) _)
        refine (iputnums_any _ 5 5 [x.1, x.2.1, x.2.2.1, x.2.2.2.1, x.2.2.2.2.1] _ (by omega) (fit5 (by omega) (by omega) (by omega) (by omega) (by omega)) (rwN_blk (ns := [x.1, x.2.1, x.2.2.1, x.2.2.2.1, x.2.2.2.2.1]) (newB3 wr _ _ _))).mono ?_
        rintro e w3 ⟨v3, rfl, o3, b3⟩
        have b3' := hW.trans (b3.mono (by simp; omega))
        have J3' := hide ((unhide HJ).later b3')
        have KE := hide ((b3.block (wr.heap.size + 1) (by simp)).trans (midB3 wr _ _ _))
        have O3 := hide o3
        have hsz3 := (unhide J3').bel.size
        have hn5 : (nums [x.1, x.2.1, x.2.2.1, x.2.2.2.1, x.2.2.2.2.1]).length ≤ 25 := nums_len [x.1, x.2.1, x.2.2.1, x.2.2.2.1, x.2.2.2.2.1]
        have hl3 : (putN xs.length ++ sbIs (xs.take k)).length + (nums [x.1, x.2.1, x.2.2.1, x.2.2.2.1, x.2.2.2.2.1]).length ≤ 100000000 := by
          omega
        clear c0 c1 c2 c3 c4 c5 b3 b3' hW o3 HJ
        have ze3 : wr.heap.size + 1 < w3.heap.size := (Array.getElem?_eq_some_iff.1 (unhide KE)).1
        obtain ⟨e0, e1, e2, e3, e4, -⟩ := blk_cells5 (unhide KE)
        have E4 := hide e4
        clear e0 e1 e2 e3 e4
        go_upto_region 9 with (at_builtin; refine wpList_appB _ rfl _ _ rfl w.heap.size _ _ rfl (unhide J3').ob _ _ _ rfl (unhide O3) hl3 hsz3 ?_; intro v4 w4 hO hG; have KE4 := hide ((unhide J3').keep hG (unhide KE) (by decide)); have J4 := hide ((unhide J3').app hO hG); clear hO hG)
        obtain ⟨e0, e1, e2, e3, e4, -⟩ := blk_cells5 (unhide KE4)
        have ze4 : wr.heap.size + 1 < w4.heap.size := (Array.getElem?_eq_some_iff.1 (unhide KE4)).1
        clear E4 KE J3' O3
        go_wp2_with fail
        refine (iputtext_any x.2.2.2.2.2 _ (by omega)).mono ?_
        rintro e w5 ⟨v5, rfl, o5, b5⟩
        have J5 := hide ((unhide J4).later b5)
        have O5 := hide o5
        have hsz5 := (unhide J5).bel.size
        have hl5 : ((putN xs.length ++ sbIs (xs.take k)) ++ nums [x.1, x.2.1, x.2.2.1, x.2.2.2.1, x.2.2.2.2.1]).length + (putT (bl x.2.2.2.2.2)).length ≤ 100000000 := by
          have h1 := putT_len (bl x.2.2.2.2.2)
          rw [bl_length] at h1
          rw [List.length_append]; omega
        have HP : Hid (((putN xs.length ++ sbIs (xs.take k)) ++ nums [x.1, x.2.1, x.2.2.1, x.2.2.2.1, x.2.2.2.2.1]) ++ putT (bl x.2.2.2.2.2) = putN xs.length ++ sbIs (xs.take (k + 1))) := hide (by
          rw [sbIs_take (unhide HX1), sbI]; simp only [List.append_assoc])
        clear e0 e1 e2 e3 e4 b5 o5 J4 KE4
        go_wp2_with (at_builtin; refine wpList_appB _ rfl _ _ rfl w.heap.size _ _ rfl (unhide J5).ob _ _ _ rfl (unhide O5) hl5 hsz5 ?_; intro v6 w6 hO hG; have J6 := hide ((unhide J5).app hO hG); clear hO hG)
        go_roundw
        case rel => exact ⟨k + 1, by omega, by go_num, by rw [← unhide HP]; exact unhide J6⟩
        case measure => simp [intOf]; omega
      · have HT : Hid (putN xs.length ++ sbIs (xs.take k) = putN xs.length ++ sbIs xs) := hide (by rw [List.take_of_length_le (by have := unhide HNI; omega)])
        rw [unhide HT] at hL hJ
        replace HJ := hide hJ
        clear hJ HT
        obtain ⟨p0, p1, -⟩ := blk_cells2 (unhide HJ).ka
        go_wp2_with fail
        have R1 : RwN (wr.alloc (.cells #[.int .i64 (nf : Int)] 3)) (.slice (some ⟨wr.heap.size, 0, none⟩) 1 1) [(nf : Int)] := rwN_blk (ns := [(nf : Int)]) (newB1 wr _)
        refine (iputnums_any _ 1 1 [(nf : Int)] _ (by omega) (fit1 _ (by omega)) R1).mono ?_
        rintro e w3 ⟨v3, rfl, o3, b3⟩
        have b3' := ((Below.refl wr.heap.size wr).alloc (Nat.le_refl _) (.cells #[.int .i64 (nf : Int)] 3)).trans (b3.mono (by simp))
        have J3' := hide ((unhide HJ).later b3')
        have O3 : Hid (OwB (wr.alloc (.cells #[.int .i64 (nf : Int)] 3)).heap.size w3 v3 (putN fs.length)) := hide (by
          have e : putN (nf : Int) = putN fs.length := by rw [unhide HNF]
          rw [nums_one, e] at o3; exact o3)
        have hsz3 := (unhide J3').bel.size
        have hl3 : (putN xs.length ++ sbIs xs).length + (putN fs.length).length ≤ 100000000 := by have := putN_length fs.length; omega
        clear o3 b3 b3' R1 HJ p0 p1
        obtain ⟨p0, p1, -⟩ := blk_cells2 (unhide J3').ka
        have P0 := hide p0
        have P1 := hide p1
        clear p0 p1
        go_upto_region 12 with (at_builtin; refine wpList_appB _ rfl _ _ rfl w.heap.size _ _ rfl (unhide J3').ob _ _ _ rfl (unhide O3) hl3 hsz3 ?_; intro v4 w4 hO hG; have J4 := hide ((unhide J3').app hO hG); clear hO hG)
        obtain ⟨p0, p1, -⟩ := blk_cells2 (unhide J4).ka
        have z4 := (unhide J4).lt
        clear P0 P1 J3' O3
        go_wp2
        go_loopw [3, 56] (fun v i wr => ∃ k : Nat, k ≤ nf ∧ i = .int .i64 k ∧ B2 w wr (.slice ai ni ci) (.slice af nf cf) v ((putN xs.length ++ sbIs xs) ++ putN fs.length ++ sbFs (fs.take k))) (fun _ i _ => nf - (intOf i).toNat)
        case atStart => exact ⟨0, by omega, rfl, by simpa [sbFs] using unhide J4⟩
        case round =>
          clear J4 p0 p1 z4 hl3 hsz3 hsz hlt0
          obtain ⟨k, hk, rfl, hJ⟩ := hrel
          have HJ := hide hJ
          have hsz := hJ.bel.size
          have hlt0 := hJ.lt
          have hM : ((putN xs.length ++ sbIs xs) ++ putN fs.length ++ sbFs (fs.take k)).length ≤ 2000 := by
            have h1 := putN_length fs.length
            have h2 := sbFs_len (fs.take k)
            have h3 : (fs.take k).length ≤ k := by simp; omega
            rw [List.length_append, List.length_append]; omega
          by_cases hlt : k < nf
          · obtain ⟨x, b, off, hx, rfl, hb, hcap, hc⟩ := ((unhide HF).later hJ.bel).at hlt
            have c0 : wr.cell? ⟨b, off + k * 2, none⟩ = some (.int .i64 x.1) := hc 0 (by omega)
            have c1 : wr.cell? ⟨b, off + k * 2 + 1, none⟩ = some (.int .i64 x.2) := hc 1 (by omega)
            obtain ⟨i1, i2, i3, i4⟩ := (unhide HA).jf x (List.mem_of_getElem? hx)
            have HX1 := hide hx
            clear hx hc hJ
            go_wp2_with fail
            have hW : Below wr.heap.size wr ((wr.alloc (.cells #[.int .i64 x.1, .int .i64 x.2] 84)).alloc (.cells #[.int .i64 x.1, .int .i64 x.2] 3)) := (((Below.refl wr.heap.size wr).alloc (Nat.le_refl _) _).alloc (by simp) _)
            refine (iputnums_any _ 2 2 [x.1, x.2] _ (by omega) (fit2 (by omega) (by omega)) (rwN_blk (ns := [x.1, x.2]) (newB2 wr _ _))).mono ?_
            rintro e w3 ⟨v3, rfl, o3, b3⟩
            have b3' := hW.trans (b3.mono (by simp; omega))
            have J3' := hide ((unhide HJ).later b3')
            have O3 := hide o3
            have hsz3 := (unhide J3').bel.size
            have hl3 : ((putN xs.length ++ sbIs xs) ++ putN fs.length ++ sbFs (fs.take k)).length + (nums [x.1, x.2]).length ≤ 100000000 := by
              have := nums_len [x.1, x.2]
              simp only [List.length_cons, List.length_nil] at this; omega
            have HP : Hid (((putN xs.length ++ sbIs xs) ++ putN fs.length ++ sbFs (fs.take k)) ++ nums [x.1, x.2] = (putN xs.length ++ sbIs xs) ++ putN fs.length ++ sbFs (fs.take (k + 1))) := hide (by
              rw [sbFs_take (unhide HX1), sbF]; simp only [List.append_assoc])
            clear c0 c1 b3 b3' hW o3 HJ
            go_wp2_with (at_builtin; refine wpList_appB _ rfl _ _ rfl w.heap.size _ _ rfl (unhide J3').ob _ _ _ rfl (unhide O3) hl3 hsz3 ?_; intro v6 w6 hO hG; have J6 := hide ((unhide J3').app hO hG); clear hO hG)
            go_roundw
            case rel => exact ⟨k + 1, by omega, by go_num, by rw [← unhide HP]; exact unhide J6⟩
            case measure => simp [intOf]; omega
          · have HT : Hid ((putN xs.length ++ sbIs xs) ++ putN fs.length ++ sbFs (fs.take k) = sbS xs fs) := hide (by rw [unhide HE, sb, List.take_of_length_le (by have := unhide HNF; omega), List.append_assoc])
            clear hJ
            go_wp2
            go_ret
            exact ⟨_, rfl, by rw [← unhide HT]; exact (unhide HJ).ob, (unhide HJ).bel⟩
end Go.Proofs.YtdpaocikmijioabGreat

namespace Go.Proofs.YtdpaocikmijioabGreat
open Go.RowKit

theorem keepL {V W : World} {b0 o0 b1 o1 g : Nat} {v0 v1 v2 v3 v4 v5 : Value} (h0 : b0 < V.heap.size) (h1 : b1 < V.heap.size) (h2 : g < V.heap.size)
    (c0 : V.cell? ⟨b0, o0, none⟩ = some v0) (c1 : V.cell? ⟨b1, o1, none⟩ = some v1) (c2 : V.cell? ⟨g, 0, none⟩ = some v2) (c3 : V.cell? ⟨g, 1, none⟩ = some v3) (c4 : V.cell? ⟨g, 2, none⟩ = some v4) (c5 : V.cell? ⟨g, 3, none⟩ = some v5) (hb : Below V.heap.size V W) :
    Below V.heap.size V W ∧ W.cell? ⟨b0, o0, none⟩ = some v0 ∧ W.cell? ⟨b1, o1, none⟩ = some v1 ∧ W.cell? ⟨g, 0, none⟩ = some v2 ∧ W.cell? ⟨g, 1, none⟩ = some v3 ∧ W.cell? ⟨g, 2, none⟩ = some v4 ∧ W.cell? ⟨g, 3, none⟩ = some v5 :=
  ⟨hb, (hb.cell (p := ⟨b0, o0, none⟩) h0).trans c0, (hb.cell (p := ⟨b1, o1, none⟩) h1).trans c1, (hb.cell (p := ⟨g, 0, none⟩) h2).trans c2, (hb.cell (p := ⟨g, 1, none⟩) h2).trans c3, (hb.cell (p := ⟨g, 2, none⟩) h2).trans c4, (hb.cell (p := ⟨g, 3, none⟩) h2).trans c5⟩
set_option maxHeartbeats 8000000 in
set_option maxRecDepth 100000 in
theorem l6bytes_any (ai : Option Addr) (ni ci : Nat) (xs : List Itm) (af : Option Addr) (nf cf : Nat) (fs : List Flr) (HA : Hid (OkS xs fs)) (w : World)
    (hx : Rw encI 6 w (.slice ai ni ci) xs) (hf : Rw encF 2 w (.slice af nf cf) fs) :
    Calls Tryz.prog 105 #[.agg #[.slice ai ni ci, .slice af nf cf]] w fun e w' => ∃ v, e = .returned v ∧ OwB w.heap.size w' v (sb xs fs) ∧ Below w.heap.size w w' := by
  have HX := hide hx
  have HF := hide hf
  have HNI := hide hx.len.1
  have HNF := hide hf.len.1
  have m5 : ni ≤ 5 := by have := unhide HNI; have := (unhide HA).len5.1; omega
  have f5 : nf ≤ 5 := by have := unhide HNF; have := (unhide HA).len5.2; omega
  clear hx hf
  go_enter Tryz.func105, Tryz.ntmps105
  go_wp2_with fail
  have bW : Below w.heap.size w (w.alloc (.cells #[.slice ai ni ci, .slice af nf cf] 27)) := (Below.refl w.heap.size w).alloc (Nat.le_refl _) _
  refine (sputnum_any (ni : Int) _ (by omega) (by omega)).mono ?_
  rintro e w2 ⟨v2, rfl, o2, b2⟩
  have J2' : Hid (B2 w w2 (.slice ai ni ci) (.slice af nf cf) v2 (putN xs.length)) := hide ⟨bW.trans (b2.mono (by simp)), (b2.block _ (by simp)).trans (newB1 w _), by
    have e : putN (ni : Int) = putN xs.length := by rw [unhide HNI]
    rw [e] at o2; exact owns_base o2 (by simp)⟩
  clear o2 b2 bW
  obtain ⟨p0, p1, -⟩ := blk_cells2 (unhide J2').ka
  have z2 := (unhide J2').lt
  go_wp2
  go_loopw [3, 4] (fun v i wr => ∃ k : Nat, k ≤ ni ∧ i = .int .i64 k ∧ B2 w wr (.slice ai ni ci) (.slice af nf cf) v (putN xs.length ++ sbIs (xs.take k))) (fun _ i _ => ni - (intOf i).toNat)
  case atStart => exact ⟨0, by omega, rfl, by simpa [sbIs] using unhide J2'⟩
  case round =>
    clear J2' p0 p1 z2
    obtain ⟨k, hk, rfl, hJ⟩ := hrel
    have HJ := hide hJ
    have hsz := hJ.bel.size
    have hlt0 := hJ.lt
    have hL : (putN xs.length ++ sbIs (xs.take k)).length ≤ 1000 := by
      have h1 := putN_length xs.length
      have h2 := sbIs_len (xs := xs.take k) (fun x hx => (unhide HA).small x (List.mem_of_mem_take hx))
      have h3 : (xs.take k).length ≤ k := by simp; omega
      rw [List.length_append]; omega
    obtain ⟨p0, p1, -⟩ := blk_cells2 (unhide HJ).ka
    by_cases hlt : k < ni
    · obtain ⟨x, b, off, hx, rfl, hb, hcap, hc⟩ := ((unhide HX).later hJ.bel).at hlt
      obtain ⟨c0, c1, c2, c3, c4, c5⟩ := item_cells hc
      have hin := (unhide HA).ix x (List.mem_of_getElem? hx)
      obtain ⟨q1, q2, q3, q4, q5⟩ := okE_fits hin.2.2.1
      obtain ⟨i1, i2, -⟩ := hin
      have HX1 := hide hx
      clear hx hc hJ
      go_upto_region 6 with fail
      obtain ⟨V, hV⟩ : ∃ V, V = wr.alloc (.cells #[.int .i64 x.2.1, .int .i64 x.2.2.1, .int .i64 x.2.2.2.1, .int .i64 x.2.2.2.2.1, .string x.2.2.2.2.2] 38) := ⟨_, rfl⟩
      rw [← hV]
      have bV : Below wr.heap.size wr V := by rw [hV]; exact (Below.refl _ _).alloc (Nat.le_refl _) _
      have ke : V.heap[wr.heap.size]? = some (.cells #[.int .i64 x.2.1, .int .i64 x.2.2.1, .int .i64 x.2.2.2.1, .int .i64 x.2.2.2.2.1, .string x.2.2.2.2.2] 38 (0, 0)) := by rw [hV]; exact newB1 wr _
      have zV : V.heap.size = wr.heap.size + 1 := by rw [hV]; simp
      have JV := hide ((unhide HJ).later bV)
      have KE := hide ke
      obtain ⟨e0, e1, e2, e3, -, -⟩ := blk_cells5 ke
      have hbV : b < V.heap.size := by omega
      have d0 := (bV.cell (p := ⟨b, off + k * 6, none⟩) hb).trans c0
      have P0 := hide (fun (W : World) (hb : Below V.heap.size V W) => keepL (V := V) (W := W) (b0 := w.heap.size) (o0 := 0) (b1 := b) (o1 := off + k * 6) (g := wr.heap.size) (by omega) hbV (by omega) (blk_cells2 (unhide JV).ka).1 d0 e0 e1 e2 e3 hb)
      clear p0 p1 c0 c1 c2 c3 c4 c5 e0 e1 e2 e3 d0 bV ke hV
      go_region_held3 (fun W => Below V.heap.size V W ∧ W.cell? ⟨w.heap.size, 0, none⟩ = some (.slice (some ⟨b, off, none⟩) ni ci) ∧ W.cell? ⟨b, off + k * 6, none⟩ = some (.int .i64 x.1) ∧ W.cell? ⟨wr.heap.size, 0, none⟩ = some (.int .i64 x.2.1) ∧ W.cell? ⟨wr.heap.size, 1, none⟩ = some (.int .i64 x.2.2.1) ∧ W.cell? ⟨wr.heap.size, 2, none⟩ = some (.int .i64 x.2.2.2.1) ∧ W.cell? ⟨wr.heap.size, 3, none⟩ = some (.int .i64 x.2.2.2.2.1))
        (first | (with_reducible exact unhide P0 _ (Below.refl _ _)) | (with_reducible exact unhide P0 _ ((Below.refl _ _).drew)) | (with_reducible exact unhide P0 _ (kal ((Below.refl _ _).drew))) | (with_reducible exact unhide P0 _ (kal (Below.refl _ _))) | (with_reducible exact unhide P0 _ ((kal (Below.refl _ _)).drew)))
        (first | fail)
      obtain ⟨U, hU⟩ : ∃ U, U = (V.alloc (.cells #[.int .i64 x.1, .int .i64 x.2.1, .int .i64 x.2.2.1, .int .i64 x.2.2.2.1, .int .i64 x.2.2.2.2.1] 3)).drew := ⟨_, rfl⟩
      rw [← hU]
      have bU : Below V.heap.size V U := by rw [hU]; exact (kal (Below.refl _ _)).drew
      have JU := hide ((unhide JV).later bU)
      have KEU := hide ((bU.block wr.heap.size (by omega)).trans (unhide KE))
      have KLU : Hid (U.heap[wr.heap.size + 1]? = some (.cells #[.int .i64 x.1, .int .i64 x.2.1, .int .i64 x.2.2.1, .int .i64 x.2.2.2.1, .int .i64 x.2.2.2.2.1] 3 (0, 0))) := hide (by rw [hU, ← zV]; exact newB1 V _)
      clear hU bU JV KE P0 HJ
      go_wp2
      go_loopw [3, 7] (fun v i wx => ∃ j : Nat, j ≤ 5 ∧ i = .int .i64 j ∧ B2 w wx (.slice (some ⟨b, off, none⟩) ni ci) (.slice af nf cf) v ((putN xs.length ++ sbIs (xs.take k)) ++ nums (([x.1, x.2.1, x.2.2.1, x.2.2.2.1, x.2.2.2.2.1] : List Int).take j)) ∧ wx.heap[wr.heap.size]? = some (.cells #[.int .i64 x.2.1, .int .i64 x.2.2.1, .int .i64 x.2.2.2.1, .int .i64 x.2.2.2.2.1, .string x.2.2.2.2.2] 38 (0, 0)) ∧ wx.heap[wr.heap.size + 1]? = some (.cells #[.int .i64 x.1, .int .i64 x.2.1, .int .i64 x.2.2.1, .int .i64 x.2.2.2.1, .int .i64 x.2.2.2.2.1] 3 (0, 0))) (fun _ i _ => 5 - (intOf i).toNat)
      case atStart => exact ⟨0, by omega, rfl, by simpa [nums] using unhide JU, unhide KEU, unhide KLU⟩
      case round =>
        rename_i wo _
        clear JU KEU KLU
        obtain ⟨j, hj, rfl, hJ, he, hl⟩ := hrel
        have HJ := hide hJ
        have KE := hide he
        have KL := hide hl
        have hszj := hJ.bel.size
        have hn5 : (nums (([x.1, x.2.1, x.2.2.1, x.2.2.2.1, x.2.2.2.2.1] : List Int).take j)).length ≤ 25 := by
          have h1 := nums_len (([x.1, x.2.1, x.2.2.1, x.2.2.2.1, x.2.2.2.2.1] : List Int).take j)
          have h2 : (([x.1, x.2.1, x.2.2.1, x.2.2.2.1, x.2.2.2.2.1] : List Int).take j).length ≤ 5 := by simp; omega
          omega
        by_cases hlj : j < 5
        · obtain ⟨z, b', off', hz, hp, hb', -, cz⟩ := (rwN_blk (ns := [x.1, x.2.1, x.2.2.1, x.2.2.2.1, x.2.2.2.2.1]) hl).atN (i := j) hlj
          simp only [Option.some.injEq, Addr.mk.injEq, and_true] at hp
          obtain ⟨rfl, rfl⟩ := hp
          rw [Nat.zero_add] at cz
          have hfz := fit5 (a := x.1) (b := x.2.1) (c := x.2.2.1) (d := x.2.2.2.1) (e := x.2.2.2.2.1) (by omega) (by omega) (by omega) (by omega) (by omega) j z hz
          have HZ := hide (nums_take hz)
          clear hz hJ he hl
          obtain ⟨f1, f2⟩ := hfz
          go_wp2_with fail
          refine (sputnum_any z _ f1 f2).mono ?_
          rintro e w3 ⟨v3, rfl, o3, b3⟩
          have J3' := hide ((unhide HJ).later b3)
          have KE3 := hide ((b3.block _ (Array.getElem?_eq_some_iff.1 (unhide KE)).1).trans (unhide KE))
          have KL3 := hide ((b3.block _ (Array.getElem?_eq_some_iff.1 (unhide KL)).1).trans (unhide KL))
          have O3 := hide o3
          have hsz3 := (unhide J3').bel.size
          have hl3 : ((putN xs.length ++ sbIs (xs.take k)) ++ nums (([x.1, x.2.1, x.2.2.1, x.2.2.2.1, x.2.2.2.2.1] : List Int).take j)).length + (putN z).length ≤ 100000000 := by
            have := putN_length z
            rw [List.length_append]; omega
          have HP : Hid (((putN xs.length ++ sbIs (xs.take k)) ++ nums (([x.1, x.2.1, x.2.2.1, x.2.2.2.1, x.2.2.2.2.1] : List Int).take j)) ++ putN z = (putN xs.length ++ sbIs (xs.take k)) ++ nums (([x.1, x.2.1, x.2.2.1, x.2.2.2.1, x.2.2.2.2.1] : List Int).take (j + 1))) := hide (by
            rw [unhide HZ]; simp only [List.append_assoc])
          clear o3 b3 HJ KE KL cz
          go_wp2_with (at_builtin; refine wpList_appB _ rfl _ _ rfl w.heap.size _ _ rfl (unhide J3').ob _ _ _ rfl (unhide O3) hl3 hsz3 ?_; intro v4 w4 hO hG; have KE4 := hide ((unhide J3').keep hG (unhide KE3) (by decide)); have KL4 := hide ((unhide J3').keep hG (unhide KL3) (by decide)); have J4 := hide ((unhide J3').app hO hG); clear hO hG)
          go_roundw
          case rel => exact ⟨j + 1, by omega, by go_num, by rw [← unhide HP]; exact unhide J4, unhide KE4, unhide KL4⟩
          case measure => simp [intOf]; omega
        · have e5 : ([x.1, x.2.1, x.2.2.1, x.2.2.2.1, x.2.2.2.2.1] : List Int).take j = [x.1, x.2.1, x.2.2.1, x.2.2.2.1, x.2.2.2.2.1] := List.take_of_length_le (by simp; omega)
          rw [e5] at hJ hn5
          replace HJ := hide hJ
          obtain ⟨e0, e1, e2, e3, e4, -⟩ := blk_cells5 he
          have ze := (Array.getElem?_eq_some_iff.1 he).1
          clear hJ hl he KL e5
          go_wp2_with fail
          refine (sputtext_any x.2.2.2.2.2 _ (by omega)).mono ?_
          rintro e w5 ⟨v5, rfl, o5, b5⟩
          have J5 := hide ((unhide HJ).later b5)
          have O5 := hide o5
          have hsz5 := (unhide J5).bel.size
          have hl5 : ((putN xs.length ++ sbIs (xs.take k)) ++ nums [x.1, x.2.1, x.2.2.1, x.2.2.2.1, x.2.2.2.2.1]).length + (putT (bl x.2.2.2.2.2)).length ≤ 100000000 := by
            have h1 := putT_len (bl x.2.2.2.2.2)
            rw [bl_length] at h1
            rw [List.length_append]; omega
          have HP : Hid (((putN xs.length ++ sbIs (xs.take k)) ++ nums [x.1, x.2.1, x.2.2.1, x.2.2.2.1, x.2.2.2.2.1]) ++ putT (bl x.2.2.2.2.2) = putN xs.length ++ sbIs (xs.take (k + 1))) := hide (by
            rw [sbIs_take (unhide HX1), sbI]; simp only [List.append_assoc])
          clear e0 e1 e2 e3 e4 b5 o5 HJ KE
          go_wp2_with (at_builtin; refine wpList_appB _ rfl _ _ rfl w.heap.size _ _ rfl (unhide J5).ob _ _ _ rfl (unhide O5) hl5 hsz5 ?_; intro v6 w6 hO hG; have J6 := hide ((unhide J5).app hO hG); clear hO hG)
          go_roundw
          case rel => exact ⟨k + 1, by omega, by go_num, by rw [← unhide HP]; exact unhide J6⟩
          case measure => simp [intOf]; omega
    · have HT : Hid (putN xs.length ++ sbIs (xs.take k) = putN xs.length ++ sbIs xs) := hide (by rw [List.take_of_length_le (by have := unhide HNI; omega)])
      rw [unhide HT] at hL hJ
      replace HJ := hide hJ
      clear hJ HT
      go_wp2_with fail
      refine (sputnum_any (nf : Int) _ (by omega) (by omega)).mono ?_
      rintro e w3 ⟨v3, rfl, o3, b3⟩
      have J3' := hide ((unhide HJ).later b3)
      have O3 : Hid (OwB wr.heap.size w3 v3 (putN fs.length)) := hide (by
        have e : putN (nf : Int) = putN fs.length := by rw [unhide HNF]
        rw [e] at o3; exact o3)
      have hsz3 := (unhide J3').bel.size
      have hl3 : (putN xs.length ++ sbIs xs).length + (putN fs.length).length ≤ 100000000 := by have := putN_length fs.length; omega
      clear o3 b3 HJ p0 p1
      go_wp2_with (at_builtin; refine wpList_appB _ rfl _ _ rfl w.heap.size _ _ rfl (unhide J3').ob _ _ _ rfl (unhide O3) hl3 hsz3 ?_; intro v4 w4 hO hG; have J4 := hide ((unhide J3').app hO hG); clear hO hG)
      go_loopw [3, 8] (fun v i wr => ∃ k : Nat, k ≤ nf ∧ i = .int .i64 k ∧ B2 w wr (.slice ai ni ci) (.slice af nf cf) v ((putN xs.length ++ sbIs xs) ++ putN fs.length ++ sbFs (fs.take k))) (fun _ i _ => nf - (intOf i).toNat)
      case atStart => exact ⟨0, by omega, rfl, by simpa [sbFs] using unhide J4⟩
      case round =>
        clear J4 J3' O3 hl3 hsz3 hsz hlt0
        obtain ⟨k, hk, rfl, hJ⟩ := hrel
        have HJ := hide hJ
        have hsz := hJ.bel.size
        have hlt0 := hJ.lt
        have hM : ((putN xs.length ++ sbIs xs) ++ putN fs.length ++ sbFs (fs.take k)).length ≤ 2000 := by
          have h1 := putN_length fs.length
          have h2 := sbFs_len (fs.take k)
          have h3 : (fs.take k).length ≤ k := by simp; omega
          rw [List.length_append, List.length_append]; omega
        obtain ⟨p0, p1, -⟩ := blk_cells2 hJ.ka
        by_cases hlt : k < nf
        · obtain ⟨x, b, off, hx, rfl, hb, hcap, hc⟩ := ((unhide HF).later hJ.bel).at hlt
          have c0 : wr.cell? ⟨b, off + k * 2, none⟩ = some (.int .i64 x.1) := hc 0 (by omega)
          have c1 : wr.cell? ⟨b, off + k * 2 + 1, none⟩ = some (.int .i64 x.2) := hc 1 (by omega)
          obtain ⟨i1, i2, i3, i4⟩ := (unhide HA).jf x (List.mem_of_getElem? hx)
          have HX1 := hide hx
          have HC := hide hc
          clear hx hc hJ
          go_wp2_with fail
          refine (sputnum_any x.1 _ (by omega) (by omega)).mono ?_
          rintro e w3 ⟨v3, rfl, o3, b3⟩
          have J3' := hide ((unhide HJ).later b3)
          have O3 := hide o3
          have hsz3 := (unhide J3').bel.size
          have hl3 : ((putN xs.length ++ sbIs xs) ++ putN fs.length ++ sbFs (fs.take k)).length + (putN x.1).length ≤ 100000000 := by
            have := putN_length x.1
            omega
          clear c0 c1 p0 p1 b3 o3 HJ
          go_upto_region 17 with (at_builtin; refine wpList_appB _ rfl _ _ rfl w.heap.size _ _ rfl (unhide J3').ob _ _ _ rfl (unhide O3) hl3 hsz3 ?_; intro v4 w4 hO hG; have J4 := hide ((unhide J3').app hO hG); clear hO hG)
          obtain ⟨p0, p1, -⟩ := blk_cells2 (unhide J4).ka
          have hlt4 := (unhide J4).lt
          have hc4 : _ := ((unhide HF).later (unhide J4).bel).at hlt
          clear J3' O3
          obtain ⟨x', b', off', hx', hp', hb4, -, hc4⟩ := hc4
          simp only [Option.some.injEq, Addr.mk.injEq, and_true] at hp'
          obtain ⟨rfl, rfl⟩ := hp'
          obtain rfl : x = x' := Option.some.inj ((unhide HX1).symm.trans hx')
          have c0 : w4.cell? ⟨b, off + k * 2, none⟩ = some (.int .i64 x.1) := hc4 0 (by omega)
          have c1 : w4.cell? ⟨b, off + k * 2 + 1, none⟩ = some (.int .i64 x.2) := hc4 1 (by omega)
          clear hc4 hx'
          go_wp2_with fail
          refine (sputnum_any x.2 _ (by omega) (by omega)).mono ?_
          rintro e w5 ⟨v5, rfl, o5, b5⟩
          have J5 := hide ((unhide J4).later b5)
          have O5 := hide o5
          have hsz5 := (unhide J5).bel.size
          have hl5 : (((putN xs.length ++ sbIs xs) ++ putN fs.length ++ sbFs (fs.take k)) ++ putN x.1).length + (putN x.2).length ≤ 100000000 := by
            have := putN_length x.1
            have := putN_length x.2
            rw [List.length_append]; omega
          have HP : Hid ((((putN xs.length ++ sbIs xs) ++ putN fs.length ++ sbFs (fs.take k)) ++ putN x.1) ++ putN x.2 = (putN xs.length ++ sbIs xs) ++ putN fs.length ++ sbFs (fs.take (k + 1))) := hide (by
            rw [sbFs_take (unhide HX1), sbF, nums_cons, nums_one]; simp only [List.append_assoc])
          clear c0 c1 p0 p1 b5 o5 J4
          go_wp2_with (at_builtin; refine wpList_appB _ rfl _ _ rfl w.heap.size _ _ rfl (unhide J5).ob _ _ _ rfl (unhide O5) hl5 hsz5 ?_; intro v6 w6 hO hG; have J6 := hide ((unhide J5).app hO hG); clear hO hG)
          go_roundw
          case rel => exact ⟨k + 1, by omega, by go_num, by rw [← unhide HP]; exact unhide J6⟩
          case measure => simp [intOf]; omega
        · have HT : Hid ((putN xs.length ++ sbIs xs) ++ putN fs.length ++ sbFs (fs.take k) = sb xs fs) := hide (by rw [sb, List.take_of_length_le (by have := unhide HNF; omega), List.append_assoc])
          clear hJ
          go_wp2
          go_ret
          exact ⟨_, rfl, by rw [← unhide HT]; exact (unhide HJ).ob, (unhide HJ).bel⟩
--@end
end Go.Proofs.YtdpaocikmijioabGreat

namespace Go.Proofs.YtdpaocikmijioabGreat
open Go.RowKit

theorem lsm_in {xs : List Itm} {fs : List Flr} {k : Int} (h : okS xs fs = true) (hk : inB k 0 3 = true) : lsm xs fs k = crcOf (sb (slI [k] xs) (slF [k] fs)) % 1024 := by rw [lsm, h, hk]; rfl
theorem lsm_out {xs : List Itm} {fs : List Flr} {k : Int} {a b : Bool} (h : okS xs fs = a) (hk : inB k 0 3 = b) (hab : (a && b) = false) : lsm xs fs k = 0 := by rw [lsm, h, hk, hab]; rfl

set_option maxHeartbeats 4000000 in
set_option maxRecDepth 100000 in
theorem ileafsum_any (ai : Option Addr) (ni ci : Nat) (xs : List Itm) (af : Option Addr) (nf cf : Nat) (fs : List Flr) (leaf l : Int) (hl : Hid (lsm xs fs leaf = l)) (w : World)
    (hni : ni ≤ 140737488351232) (hnf : nf ≤ 140737488351232) (hx : Rw encI 6 w (.slice ai ni ci) xs) (hf : Rw encF 2 w (.slice af nf cf) fs) :
    Calls Tryz.prog 65 #[.agg #[.slice ai ni ci, .slice af nf cf], .int .i64 leaf] w fun e w' => e = .returned (.int .i64 l) ∧ Below w.heap.size w w' := by
  obtain ⟨k1, HK1⟩ : ∃ k, Hid (okS xs fs = k) := ⟨_, hide rfl⟩
  obtain ⟨k2, HK2⟩ : ∃ k, Hid (inB leaf 0 3 = k) := ⟨_, hide rfl⟩
  have HX := hide hx
  have HF := hide hf
  clear hx hf
  go_enter Tryz.func65, Tryz.ntmps65
  go_wp2_with fail
  have bW : Below w.heap.size w (w.alloc (.cells #[.slice ai ni ci, .slice af nf cf] 27)) := (Below.refl w.heap.size w).alloc (Nat.le_refl _) _
  refine (istateok_any ai ni ci xs af nf cf fs _ HK1 _ hni hnf ((unhide HX).later bW) ((unhide HF).later bW)).mono ?_
  rintro e w1 ⟨rfl, b1⟩
  have CV : Hid (B2 w w1 (.slice ai ni ci) (.slice af nf cf) (.slice none 0 0) []) := hide ⟨bW.trans (b1.mono (by simp)), (b1.block _ (by simp)).trans (newB1 w _), OwB.nil _ _⟩
  have z1 := (unhide CV).lt
  have y1 := (unhide CV).bel.size
  clear b1 bW
  cases k1
  · obtain rfl : l = 0 := by rw [← unhide hl]; exact lsm_out (unhide HK1) (unhide HK2) rfl
    go_wp2
    go_ret
    exact ⟨rfl, (unhide CV).bel⟩
  · go_wp2_with fail
    refine (within_is leaf 0 3 k2 (unhide HK2) _).mono ?_
    rintro e _ ⟨rfl, rfl⟩
    cases k2
    · obtain rfl : l = 0 := by rw [← unhide hl]; exact lsm_out (unhide HK1) (unhide HK2) rfl
      go_wp2
      go_ret
      exact ⟨rfl, (unhide CV).bel⟩
    · have OA := (okS_iff _ _).1 (unhide HK1)
      have HA := hide (OA.slice [leaf])
      have HE : Hid (sbS (slI [leaf] xs) (slF [leaf] fs) = sb (slI [leaf] xs) (slF [leaf] fs)) := hide (by rw [sbS, if_pos ((okS_iff _ _).2 (unhide HA))])
      have HLQ : Hid (crcOf (sb (slI [leaf] xs) (slF [leaf] fs)) % 1024 = l) := hide (by rw [← unhide hl, lsm_in (unhide HK1) (unhide HK2)])
      obtain ⟨n1, hn1⟩ : ∃ n, Hid ((scI true [leaf] xs).length = n) := ⟨_, hide rfl⟩
      obtain ⟨n2, hn2⟩ : ∃ n, Hid ((scF true [leaf] fs).length = n) := ⟨_, hide rfl⟩
      have n15 : n1 ≤ 5 := by have h1 := unhide hn1; have := (unhide HA).len5.1; have e : scI true [leaf] xs = slI [leaf] xs := rfl; rw [e] at h1; omega
      have n25 : n2 ≤ 5 := by have h1 := unhide hn2; have := (unhide HA).len5.2; have e : scF true [leaf] fs = slF [leaf] fs := rfl; rw [e] at h1; omega
      obtain ⟨i1, i2⟩ := inB_iff.1 (unhide HK2)
      obtain ⟨p0, p1, -⟩ := blk_cells2 (unhide CV).ka
      clear OA
      go_wp2_with fail
      have bN : Below w1.heap.size w1 (w1.alloc (.cells #[.int .i64 leaf] 3)) := (Below.refl _ _).alloc (Nat.le_refl _) _
      have CN := (unhide CV).later bN
      refine (islice_any ai ni ci xs af nf cf fs _ 1 1 [leaf] true HK1 n1 n2 hn1 hn2 _ hni hnf (by omega) ((unhide HX).later CN.bel) ((unhide HF).later CN.bel) (rwN_blk (ns := [leaf]) (newB1 w1 _))).mono ?_
      rintro e w2 ⟨a1, c1, a2, c2, rfl, o1, o2, b2⟩
      have RI := hide (o1.rw encI_len)
      have RF := hide (o2.rw encF_len)
      have HB2 := hide (CN.bel.trans (b2.mono (by simp; omega)))
      have y2 := (unhide HB2).size
      clear bN CN o1 o2 b2 p0 p1 CV
      go_wp2_with fail
      refine (ibytes_any a1 n1 c1 (slI [leaf] xs) a2 n2 c2 (slF [leaf] fs) true (hide ((okS_iff _ _).2 (unhide HA))) _ (by omega) (by omega) (unhide RI) (unhide RF)).mono ?_
      rintro e w3 ⟨v3, rfl, o3, b3⟩
      rw [unhide HE] at o3
      have S3 := hide (seg_of_owns o3)
      have HB3 := hide ((unhide HB2).trans (b3.mono y2))
      have hlb := sb_len (unhide HA)
      clear o3 b3 HB2 RI RF
      go_wp2_with fail
      refine (icrc_any v3 _ _ (by omega) (unhide S3)).mono ?_
      rintro e _ ⟨rfl, rfl⟩
      have q0 := crcOf_nonneg _ (sb_bytes (slI [leaf] xs) (slF [leaf] fs))
      have q1 := crcOf_range _ (sb_bytes (slI [leaf] xs) (slF [leaf] fs))
      clear S3 HE hlb
      generalize crcOf (sb (slI [leaf] xs) (slF [leaf] fs)) = c at q0 q1 HLQ ⊢
      go_wp2
      go_ret
      exact ⟨ret_int (unhide HLQ), unhide HB3⟩

set_option maxHeartbeats 4000000 in
set_option maxRecDepth 100000 in
theorem sleafsum_any (ai : Option Addr) (ni ci : Nat) (xs : List Itm) (af : Option Addr) (nf cf : Nat) (fs : List Flr) (leaf l : Int) (hl : Hid (lsm xs fs leaf = l)) (w : World)
    (hni : ni ≤ 140737488351232) (hnf : nf ≤ 140737488351232) (hx : Rw encI 6 w (.slice ai ni ci) xs) (hf : Rw encF 2 w (.slice af nf cf) fs) :
    Calls Tryz.prog 72 #[.agg #[.slice ai ni ci, .slice af nf cf], .int .i64 leaf] w fun e w' => e = .returned (.int .i64 l) ∧ Below w.heap.size w w' := by
  obtain ⟨k1, HK1⟩ : ∃ k, Hid (okS xs fs = k) := ⟨_, hide rfl⟩
  obtain ⟨k2, HK2⟩ : ∃ k, Hid (inB leaf 0 3 = k) := ⟨_, hide rfl⟩
  have hd2 : decide (0 ≤ leaf ∧ leaf ≤ 3) = k2 := by rw [← unhide HK2, inB, Bool.decide_and]
  have HX := hide hx
  have HF := hide hf
  clear hx hf
  go_enter Tryz.func72, Tryz.ntmps72
  go_wp2_with fail
  have bW : Below w.heap.size w (w.alloc (.cells #[.slice ai ni ci, .slice af nf cf] 27)) := (Below.refl w.heap.size w).alloc (Nat.le_refl _) _
  refine (sstateok_any ai ni ci xs af nf cf fs _ HK1 _ hni hnf ((unhide HX).later bW) ((unhide HF).later bW)).mono ?_
  rintro e w1 ⟨rfl, b1⟩
  have CV : Hid (B2 w w1 (.slice ai ni ci) (.slice af nf cf) (.slice none 0 0) []) := hide ⟨bW.trans (b1.mono (by simp)), (b1.block _ (by simp)).trans (newB1 w _), OwB.nil _ _⟩
  have z1 := (unhide CV).lt
  have y1 := (unhide CV).bel.size
  clear b1 bW
  cases k1
  · obtain rfl : l = 0 := by rw [← unhide hl]; exact lsm_out (unhide HK1) (unhide HK2) rfl
    go_wp2
    go_ret
    exact ⟨rfl, (unhide CV).bel⟩
  · go_wp2_with fail
    refine (l1in_any leaf 0 3 _).mono ?_
    rintro e _ ⟨rfl, rfl⟩
    rw [hd2]
    clear hd2
    cases k2
    · obtain rfl : l = 0 := by rw [← unhide hl]; exact lsm_out (unhide HK1) (unhide HK2) rfl
      go_wp2
      go_ret
      exact ⟨rfl, (unhide CV).bel⟩
    · have OA := (okS_iff _ _).1 (unhide HK1)
      have HA := hide (OA.slice [leaf])
      have m5 : ni ≤ 5 := by have := (unhide HX).len.1; have := OA.len5.1; omega
      have f5 : nf ≤ 5 := by have := (unhide HF).len.1; have := OA.len5.2; omega
      have HLQ : Hid (crcOf (sb (slI [leaf] xs) (slF [leaf] fs)) % 1024 = l) := hide (by rw [← unhide hl, lsm_in (unhide HK1) (unhide HK2)])
      obtain ⟨n1, hn1⟩ : ∃ n, Hid ((slI [leaf] xs).length = n) := ⟨_, hide rfl⟩
      obtain ⟨n2, hn2⟩ : ∃ n, Hid ((slF [leaf] fs).length = n) := ⟨_, hide rfl⟩
      obtain ⟨i1, i2⟩ := inB_iff.1 (unhide HK2)
      obtain ⟨p0, p1, -⟩ := blk_cells2 (unhide CV).ka
      clear OA
      go_wp2_with fail
      have bN : Below w1.heap.size w1 (w1.alloc (.cells #[.int .i64 leaf] 3)) := (Below.refl _ _).alloc (Nat.le_refl _) _
      have CN := (unhide CV).later bN
      refine (l6slice_any ai ni ci xs af nf cf fs _ 1 1 [leaf] n1 n2 hn1 hn2 _ m5 f5 (by omega) ((unhide HX).later CN.bel) ((unhide HF).later CN.bel) (rwN_blk (ns := [leaf]) (newB1 w1 _))).mono ?_
      rintro e w2 ⟨a1, c1, a2, c2, rfl, o1, o2, b2⟩
      have RI := hide (o1.rw encI_len)
      have RF := hide (o2.rw encF_len)
      have HB2 := hide (CN.bel.trans (b2.mono (by simp; omega)))
      have y2 := (unhide HB2).size
      clear bN CN o1 o2 b2 p0 p1 CV
      go_wp2_with fail
      refine (l6bytes_any a1 n1 c1 (slI [leaf] xs) a2 n2 c2 (slF [leaf] fs) HA _ (unhide RI) (unhide RF)).mono ?_
      rintro e w3 ⟨v3, rfl, o3, b3⟩
      have S3 := hide (seg_of_owns o3)
      have HB3 := hide ((unhide HB2).trans (b3.mono y2))
      have hlb := sb_len (unhide HA)
      clear o3 b3 HB2 RI RF
      go_wp2_with fail
      refine (scrc_any v3 _ _ (by omega) (unhide S3)).mono ?_
      rintro e _ ⟨rfl, rfl⟩
      have q0 := crcOf_nonneg _ (sb_bytes (slI [leaf] xs) (slF [leaf] fs))
      have q1 := crcOf_range _ (sb_bytes (slI [leaf] xs) (slF [leaf] fs))
      clear S3 hlb
      generalize crcOf (sb (slI [leaf] xs) (slF [leaf] fs)) = c at q0 q1 HLQ ⊢
      go_wp2
      go_ret
      exact ⟨ret_int (unhide HLQ), unhide HB3⟩
set_option maxHeartbeats 4000000 in
set_option maxRecDepth 100000 in
theorem l6root_any (a : Option Addr) (n c : Nat) (ns : List Int) (r : Int) (hr : Hid (rt ns = r)) (w : World) (hn : n ≤ 1000) (hfit : ∀ (k : Nat) (x : Int), ns[k]? = some x → -9223372036854775808 ≤ x ∧ x ≤ 9223372036854775807) (h : RwN w (.slice a n c) ns) :
    Calls Tryz.prog 73 #[.slice a n c] w fun e w' => e = .returned (.int .i64 r) ∧ Below w.heap.size w w' := by
  have HR := hide h
  have HF := hide hfit
  have hN := h.len.1
  have HN := hide hN
  clear h hfit hN
  go_enter Tryz.func73, Tryz.ntmps73
  go_wp2
  go_loopw [3, 4] (fun v i wr => ∃ k : Nat, k ≤ n ∧ i = .int .i64 k ∧ OwB w.heap.size wr v (nums (ns.take k)) ∧ Below w.heap.size w wr) (fun _ i _ => n - (intOf i).toNat)
  case atStart => exact ⟨0, by omega, rfl, World.ownsRow_made _ #[] 0 (Nat.le_refl _) (by simp [maxLen]) rfl, (Below.refl _ _).alloc (Nat.le_refl _) _⟩
  case round =>
    obtain ⟨k, hk, rfl, hown, hbel⟩ := hrel
    have HO := hide hown
    have HB := hide hbel
    have hsz := hbel.size
    clear hown
    by_cases hlt : k < n
    · obtain ⟨z, b, off, hz, rfl, hb, hcap, cz⟩ := ((unhide HR).later hbel).atN hlt
      obtain ⟨f1, f2⟩ := unhide HF k z hz
      have HZ := hide (nums_take hz)
      clear hz hbel
      go_wp2_with fail
      refine (sputnum_any z _ f1 f2).mono ?_
      rintro e w2 ⟨u, rfl, o2, b2⟩
      have HO2 := hide (owns_later (unhide HO) b2 (Nat.le_refl _))
      have HU := hide o2
      have HB2 := hide ((unhide HB).trans (b2.mono hsz))
      have hw2 := (unhide HB2).size
      have hl : (nums (ns.take k)).length + (putN z).length ≤ 100000000 := by
        have h1 := nums_len (ns.take k)
        have h2 := putN_length z
        have h3 : (ns.take k).length ≤ k := by simp; omega
        omega
      clear o2 b2 HO HB
      go_wp2_with (at_builtin; refine wpList_appB _ rfl _ _ rfl w.heap.size _ _ rfl (unhide HO2) _ _ _ rfl (unhide HU) hl hw2 ?_; intro v' w3 hO hG; have HO3 := hide hO; have HB3 := hide ((unhide HB2).grown hG hw2 (fun k hk => ((unhide HO2).lt k hk).1)); clear hO hG)
      go_roundw
      case rel => exact ⟨k + 1, by omega, by go_num, by rw [unhide HZ]; exact unhide HO3, unhide HB3⟩
      case measure => simp [intOf]; omega
    · have e0 : nums (ns.take k) = nums ns := by rw [List.take_of_length_le (by have := unhide HN; omega)]
      have S3 : Hid (Seg wr _ (nums ns)) := hide (by have := seg_of_owns (unhide HO); rw [e0] at this; exact this)
      have hlb : (nums ns).length ≤ 5000 := by have := nums_len ns; have := unhide HN; omega
      clear hbel e0
      go_wp2_with fail
      refine (scrc_any _ _ _ (by omega) (unhide S3)).mono ?_
      rintro e _ ⟨rfl, rfl⟩
      have q0 := crcOf_nonneg _ (nums_bytes ns)
      have q1 := crcOf_range _ (nums_bytes ns)
      have HLQ : Hid (crcOf (nums ns) % 1024 = r) := hr
      clear S3 hlb hr
      generalize crcOf (nums ns) = c at q0 q1 HLQ ⊢
      go_wp2
      go_ret
      exact ⟨ret_int (unhide HLQ), unhide HB⟩
end Go.Proofs.YtdpaocikmijioabGreat

namespace Go.Proofs.YtdpaocikmijioabGreat
open Go.RowKit

abbrev SumB (a b c d : Int) : Obj := .cells #[.int .i64 a, .int .i64 b, .int .i64 c, .int .i64 d] 90 (0, 0)
abbrev TreB (v : Value) (r : Int) : Obj := .cells #[v, .int .i64 r] 50 (0, 0)
def Fit64 (a : Int) : Prop := -9223372036854775808 ≤ a ∧ a ≤ 9223372036854775807
theorem fit4 {a b c d : Int} (h1 : Fit64 a) (h2 : Fit64 b) (h3 : Fit64 c) (h4 : Fit64 d) : ∀ (k : Nat) (x : Int), [a, b, c, d][k]? = some x → -9223372036854775808 ≤ x ∧ x ≤ 9223372036854775807 := by
  intro k x hx
  have := List.mem_of_getElem? hx
  simp at this; rcases this with rfl | rfl | rfl | rfl <;> assumption
theorem icrc_v (v : Value) (xs : List Int) (c : Int) (hc : Hid (crcOf xs = c)) (w : World) (hlen : xs.length ≤ 281474976710656) (hv : Seg w v xs) :
    Calls Tryz.prog 78 #[v] w fun e w' => e = .returned (.int .i64 c) ∧ w = w' := by rw [← unhide hc]; exact icrc_any v xs w hlen hv
/-- A block of numbers, of whatever kind, that the call itself laid. -/
theorem owN_blk {w : World} {g base : Nat} {E : TypeId} {ns : List Int} (hb : base ≤ g) (hl : ns.length ≤ 1000000) (h : w.heap[g]? = some (.cells (ns.map (Value.int .i64)).toArray E (0, 0))) : Ow encN 1 E base w (.slice (some ⟨g, 0, none⟩) ns.length ns.length) ns :=
  ⟨by rw [flatN]; simp, .inr ⟨g, ns.length, _, rfl, hb, h, Nat.le_refl _, by unfold maxLen; omega, by simp, by rw [flatN]; simp [List.take_of_length_le]⟩⟩
theorem rwS_blk {w : World} {g : Nat} {E : TypeId} {ns : List Int} {fz : Nat × Nat} (h : w.heap[g]? = some (.cells (ns.map (Value.int .i64)).toArray E fz)) : RwN w (.slice (some ⟨g, 0, none⟩) ns.length ns.length) ns := by
  refine ⟨_, _, rfl, Nat.le_refl _, .inr ⟨g, 0, rfl, (Array.getElem?_eq_some_iff.1 h).1, fun i x hx j hj => ?_⟩⟩
  obtain rfl : j = 0 := by omega
  obtain ⟨hi, rfl⟩ := List.getElem?_eq_some_iff.1 hx
  simp only [World.cell?, h]
  simp [encN, hi]
/-- While a tree is made of its sums: the sums, the result's variable. -/
structure C9 (w W : World) (a b c d : Int) : Prop where
  bel : Below w.heap.size w W
  ka : W.heap[w.heap.size]? = some (SumB a b c d)
  kr : W.heap[w.heap.size + 1]? = some (TreB (.slice none 0 0) 0)
section
variable {w W Y : World} {a b c d : Int}
theorem C9.lt (h : C9 w W a b c d) : w.heap.size + 1 < W.heap.size := (Array.getElem?_eq_some_iff.1 h.kr).1
theorem C9.later (h : C9 w W a b c d) (k : Below W.heap.size W Y) : C9 w Y a b c d := by
  have := h.lt
  exact ⟨h.bel.trans (k.mono h.bel.size), (k.block _ (by omega)).trans h.ka, (k.block _ h.lt).trans h.kr⟩
theorem C9.drewH (h : Hid (C9 w W a b c d)) : Hid (C9 w W.drew a b c d) := hide ((unhide h).later ((Below.refl _ _).drew))
theorem C9.rw (h : C9 w W a b c d) : RwN W (.slice (some ⟨w.heap.size, 0, none⟩) 4 4) [a, b, c, d] := rwS_blk (ns := [a, b, c, d]) h.ka
theorem C9.bs (h : Hid (C9 w W a b c d)) (x y : Value) : Below w.heap.size w ((W.setCell ⟨w.heap.size + 1, 0, none⟩ x).setCell ⟨w.heap.size + 1, 1, none⟩ y) := ((unhide h).bel.setCell (p := ⟨w.heap.size + 1, 0, none⟩) (by simp) _).setCell (p := ⟨w.heap.size + 1, 1, none⟩) (by simp) _
end
theorem C9.new (w : World) (a b c d : Int) : C9 w ((w.alloc (SumB a b c d)).alloc (TreB (.slice none 0 0) 0)) a b c d :=
  ⟨((Below.refl w.heap.size w).alloc (Nat.le_refl _) _).alloc (by simp) _, lowB2 w _ _, newB2 w _ _⟩

set_option maxHeartbeats 4000000 in
set_option maxRecDepth 100000 in
theorem itreewith_any (a b c d r : Int) (hr : Hid (rt [a, b, c, d] = r)) (w : World) (h1 : Fit64 a) (h2 : Fit64 b) (h3 : Fit64 c) (h4 : Fit64 d) :
    Calls Tryz.prog 66 #[.agg #[.int .i64 a, .int .i64 b, .int .i64 c, .int .i64 d]] w fun e w' => ∃ a1 c1, e = .returned (.agg #[.slice a1 4 c1, .int .i64 r]) ∧ Ow encN 1 90 w.heap.size w' (.slice a1 4 c1) [a, b, c, d] ∧ Below w.heap.size w w' := by
  have HF := hide (fit4 h1 h2 h3 h4)
  have hlb : (nums [a, b, c, d]).length ≤ 20 := nums_len [a, b, c, d]
  have q0 := crcOf_nonneg _ (nums_bytes [a, b, c, d])
  have q1 := crcOf_range _ (nums_bytes [a, b, c, d])
  obtain ⟨cc, HC⟩ : ∃ cc, Hid (crcOf (nums [a, b, c, d]) = cc) := ⟨_, hide rfl⟩
  rw [unhide HC] at q0 q1
  obtain rfl : cc % 1024 = r := by rw [← unhide hr, ← unhide HC]; rfl
  have htm : cc.tmod 1024 = cc % 1024 := Int.tmod_eq_emod_of_nonneg q0
  have HT := hide htm
  clear h1 h2 h3 h4 hr htm
  go_enter Tryz.func66, Tryz.ntmps66
  go_wp2_with fail
  have CV0 := C9.new w a b c d
  obtain ⟨V, hV⟩ : ∃ V, V = (w.alloc (SumB a b c d)).alloc (TreB (.slice none 0 0) 0) := ⟨_, rfl⟩
  have CV : Hid (C9 w V a b c d) := hide (by rw [hV]; exact CV0)
  rw [← hV]
  clear hV CV0
  have CD := C9.drewH CV
  go_region_held3 (fun W => Below w.heap.size w W)
    (first | (with_reducible exact (unhide CV).bel) | (with_reducible exact (unhide CD).bel) | (with_reducible exact (unhide CA).bel) | (with_reducible exact C9.bs CA _ _))
    (first
      | (go_at_call 63; refine (iputnums_any _ 4 4 [a, b, c, d] _ (by omega) (unhide HF) (unhide CD).rw).mono ?_; rintro e w3 ⟨v3, rfl, o3, b3⟩; have CA := hide ((unhide CD).later b3); have S3 := hide (seg_of_owns o3); obtain ⟨p0, p1, pf⟩ := blk_cells2 (unhide CA).kr; have zA := (unhide CA).lt; clear o3 b3)
      | (go_at_call 78; refine (icrc_v v3 (nums [a, b, c, d]) cc HC _ (by omega) (unhide S3)).mono ?_; rintro e _ ⟨rfl, rfl⟩))
  all_goals go_wp2
  all_goals exact bodyPost_ret (v := .agg #[.slice (some ⟨w.heap.size, 0, none⟩) 4 4, .int .i64 (cc % 1024)]) (by simp [results, Tryz.results66, go_sem, p0, p1, unhide HT]) rfl ⟨_, _, rfl, owN_blk (ns := [a, b, c, d]) (Nat.le_refl _) (by simp) (by
    rw [heap_setCell_other _ _ _ _ (by show w.heap.size ≠ w.heap.size + 1; omega), heap_setCell_other _ _ _ _ (by show w.heap.size ≠ w.heap.size + 1; omega)]
    exact (unhide CA).ka), C9.bs CA _ _⟩

theorem fill4 (ls : List Int) (h : ls.length = 4) (k : Nat) (hk : k ≤ 4) : (ls.take k ++ List.replicate (4 - k) 0).length = 4 := by simp; omega
/-- A tree as it is told: its leaves are a row of the call's own. -/
def OwT (base : Nat) (w : World) (v : Value) (ns : List Int) : Prop := ∃ E : TypeId, Ow encN 1 E base w v ns

set_option maxHeartbeats 4000000 in
set_option maxRecDepth 100000 in
theorem itreeof_any (ai : Option Addr) (ni ci : Nat) (xs : List Itm) (af : Option Addr) (nf cf : Nat) (fs : List Flr) (n : Nat) (hn : Hid ((trL xs fs).length = n)) (r : Int) (hr : Hid (trR xs fs = r)) (w : World)
    (hni : ni ≤ 140737488351232) (hnf : nf ≤ 140737488351232) (hx : Rw encI 6 w (.slice ai ni ci) xs) (hf : Rw encF 2 w (.slice af nf cf) fs) :
    Calls Tryz.prog 28 #[.agg #[.slice ai ni ci, .slice af nf cf]] w fun e w' => ∃ a1 c1, e = .returned (.agg #[.slice a1 n c1, .int .i64 r]) ∧ OwT w.heap.size w' (.slice a1 n c1) (trL xs fs) ∧ Below w.heap.size w w' := by
  obtain ⟨k1, HK1⟩ : ∃ k, Hid (okS xs fs = k) := ⟨_, hide rfl⟩
  have HX := hide hx
  have HF := hide hf
  clear hx hf
  obtain ⟨l0, H0⟩ : ∃ l, Hid (lsm xs fs 0 = l) := ⟨_, hide rfl⟩
  obtain ⟨l1, H1⟩ : ∃ l, Hid (lsm xs fs 1 = l) := ⟨_, hide rfl⟩
  obtain ⟨l2, H2⟩ : ∃ l, Hid (lsm xs fs 2 = l) := ⟨_, hide rfl⟩
  obtain ⟨l3, H3⟩ : ∃ l, Hid (lsm xs fs 3 = l) := ⟨_, hide rfl⟩
  have HG : Hid (Fit64 l0 ∧ Fit64 l1 ∧ Fit64 l2 ∧ Fit64 l3) := hide (by
    have r0 := lsm_range xs fs 0; have r1 := lsm_range xs fs 1; have r2 := lsm_range xs fs 2; have r3 := lsm_range xs fs 3
    rw [unhide H0] at r0; rw [unhide H1] at r1; rw [unhide H2] at r2; rw [unhide H3] at r3
    unfold Fit64; omega)
  have HZ : Hid (∀ (k : Nat) (z : Int), [l0, l1, l2, l3][k]? = some z → lsm xs fs (k : Int) = z) := hide (by
    intro k z hz
    match k, hz with
    | 0, hz => simp at hz; rw [← hz]; exact unhide H0
    | 1, hz => simp at hz; rw [← hz]; exact unhide H1
    | 2, hz => simp at hz; rw [← hz]; exact unhide H2
    | 3, hz => simp at hz; rw [← hz]; exact unhide H3
    | k + 4, hz => simp at hz)
  go_enter Tryz.func28, Tryz.ntmps28
  go_wp2_with fail
  have bW : Below w.heap.size w ((w.alloc (.cells #[.slice ai ni ci, .slice af nf cf] 27)).alloc (TreB (.slice none 0 0) 0)) := ((Below.refl w.heap.size w).alloc (Nat.le_refl _) _).alloc (by simp) _
  refine (istateok_any ai ni ci xs af nf cf fs _ HK1 _ hni hnf ((unhide HX).later bW) ((unhide HF).later bW)).mono ?_
  rintro e w1 ⟨rfl, b1⟩
  have BL := hide (bW.trans (b1.mono (by simp; omega)))
  have KA := hide ((b1.block w.heap.size (by simp; omega)).trans (lowB2 w _ _))
  have KR := hide ((b1.block (w.heap.size + 1) (by simp)).trans (newB2 w _ _))
  have z1 : w.heap.size + 1 < w1.heap.size := (Array.getElem?_eq_some_iff.1 (unhide KR)).1
  clear b1 bW
  cases k1
  · have e1 : trL xs fs = [] := by rw [trL, unhide HK1]; rfl
    have e2 : trR xs fs = 0 := by rw [trR, unhide HK1]; rfl
    obtain rfl : n = 0 := by rw [← unhide hn, e1]; rfl
    obtain rfl : r = 0 := by rw [← unhide hr, e2]
    obtain ⟨p0, p1, pf⟩ := blk_cells2 (unhide KR)
    go_wp2
    exact bodyPost_ret (v := .agg #[.slice none 0 0, .int .i64 0]) (by simp [results, Tryz.results28, go_sem, p0, p1]) rfl ⟨none, 0, rfl, ⟨3, by rw [e1]; exact World.ownsRow_nil _ _ _ _⟩, ((unhide BL).setCell (p := ⟨w.heap.size + 1, 0, none⟩) (by simp) _).setCell (p := ⟨w.heap.size + 1, 1, none⟩) (by simp) _⟩
  · have HTL : Hid (trL xs fs = [l0, l1, l2, l3]) := hide (by rw [trL, unhide HK1, unhide H0, unhide H1, unhide H2, unhide H3]; rfl)
    have HTR : Hid (rt [l0, l1, l2, l3] = r) := hide (by rw [← unhide hr, trR, unhide HK1, unhide H0, unhide H1, unhide H2, unhide H3]; rfl)
    obtain rfl : n = 4 := by rw [← unhide hn, unhide HTL]; rfl
    clear H0 H1 H2 H3 hn hr
    go_wp2
    go_loopw [9] (fun i wr => ∃ k : Nat, k ≤ 4 ∧ i = .int .i64 k ∧ Below w.heap.size w wr ∧ wr.heap[w.heap.size]? = some (.cells #[.slice ai ni ci, .slice af nf cf] 27 (0, 0)) ∧ wr.heap[w.heap.size + 1]? = some (TreB (.slice none 0 0) 0) ∧ Ow encN 1 90 w1.heap.size wr (.slice (some ⟨w1.heap.size, 0, none⟩) 4 4) (([l0, l1, l2, l3] : List Int).take k ++ List.replicate (4 - k) 0)) (fun i _ => 4 - (intOf i).toNat)
    case atStart =>
      refine ⟨0, by omega, rfl, (unhide BL).alloc (unhide BL).size _, ?_, ?_, ?_⟩
      · exact (Below.heap_alloc _ _ _ (by omega)).trans (unhide KA)
      · exact (Below.heap_alloc _ _ _ z1).trans (unhide KR)
      · exact owN_blk (ns := [0, 0, 0, 0]) (Nat.le_refl _) (by simp) (newB1 w1 _)
    case round =>
      clear BL KA KR
      obtain ⟨k, hk, rfl, hbel, ha, hr0, hown⟩ := hrel
      have BL := hide hbel
      have KA := hide ha
      have KR := hide hr0
      have HO := hide hown
      have hsz := hbel.size
      have zr : w.heap.size + 1 < wr.heap.size := (Array.getElem?_eq_some_iff.1 hr0).1
      clear hr0
      by_cases hlt : k < 4
      · obtain ⟨z, hz⟩ : ∃ z, [l0, l1, l2, l3][k]? = some z := ⟨_, List.getElem?_eq_getElem (by simpa using hlt)⟩
        have HQ := hide (unhide HZ k z hz)
        have HS : Hid ((([l0, l1, l2, l3] : List Int).take k ++ List.replicate (4 - k) 0).set k z = ([l0, l1, l2, l3] : List Int).take (k + 1) ++ List.replicate (4 - (k + 1)) 0) := hide (fill_set [l0, l1, l2, l3] 0 k z hz)
        obtain ⟨p0, p1, -⟩ := blk_cells2 ha
        have hgl := (World.ownsRow.lt hown w1.heap.size rfl).2
        clear hbel ha hown hz
        go_wp2_with fail
        refine (ileafsum_any ai ni ci xs af nf cf fs (k : Int) z HQ _ hni hnf ((unhide HX).later (unhide BL)) ((unhide HF).later (unhide BL))).mono ?_
        rintro e w2 ⟨rfl, b2⟩
        have BL2 := hide ((unhide BL).trans (b2.mono hsz))
        have KA2 := hide ((b2.block _ (by omega)).trans (unhide KA))
        have KR2 := hide ((b2.block _ zr).trans (unhide KR))
        have HO2 := hide ((unhide HO).later b2)
        have hO2 : w2.ownsRow w1.heap.size 90 1 (.slice (some ⟨w1.heap.size, 0, none⟩) 4 4) 4 ((([l0, l1, l2, l3] : List Int).take k ++ List.replicate (4 - k) 0).flatMap encN) := by
          have h := unhide HO2
          unfold Ow at h
          rwa [fill4 [l0, l1, l2, l3] rfl k hk] at h
        have hfz := hO2.frozenAt k
        have hcy := hO2.cellAt k (by omega)
        obtain ⟨y, hy⟩ : ∃ y, w2.cell? ⟨w1.heap.size, k, none⟩ = some y := by
          rw [hcy, flatN]
          exact ⟨_, List.getElem?_eq_getElem (by simp; omega)⟩
        have R1 := hide (hO2.stored k (.int .i64 z)).1
        clear hcy hO2 b2 p0 p1 BL KA KR HO
        go_wp2
        go_roundw
        case rel =>
          refine ⟨k + 1, by omega, by go_num, (unhide BL2).setCell (p := ⟨w1.heap.size, k, none⟩) (by simp; omega) _, ?_, ?_, ?_⟩
          · rw [heap_setCell_other _ _ _ _ (by show w.heap.size ≠ w1.heap.size; omega)]; exact unhide KA2
          · rw [heap_setCell_other _ _ _ _ (by show w.heap.size + 1 ≠ w1.heap.size; omega)]; exact unhide KR2
          · have h := unhide R1
            rw [flatN, ← List.map_set, unhide HS, ← flatN] at h
            unfold Ow
            rw [fill4 [l0, l1, l2, l3] rfl (k + 1) (by omega)]
            exact h
        case measure => simp [intOf]; omega
      · obtain rfl : k = 4 := by omega
        obtain ⟨g1, g2, g3, g4⟩ := unhide HG
        have c0 := World.ownsRow.cellAt hown 0 (by simp)
        have c1 := World.ownsRow.cellAt hown 1 (by simp)
        have c2 := World.ownsRow.cellAt hown 2 (by simp)
        have c3 := World.ownsRow.cellAt hown 3 (by simp)
        simp [encN] at c0 c1 c2 c3
        have hgl := (World.ownsRow.lt hown w1.heap.size rfl).2
        clear hbel ha hown HO
        go_wp2_with fail
        refine (itreewith_any l0 l1 l2 l3 r HTR _ g1 g2 g3 g4).mono ?_
        rintro e w2 ⟨a1, q1, rfl, o2, b2⟩
        have BL2 := hide ((unhide BL).trans (b2.mono hsz))
        have KR2 := hide ((b2.block _ zr).trans (unhide KR))
        have O2 := hide (o2.base (base' := w.heap.size + 1 + 1) zr)
        obtain ⟨p0, p1, pf⟩ := blk_cells2 (unhide KR2)
        have z2 : w.heap.size + 1 < w2.heap.size := (Array.getElem?_eq_some_iff.1 (unhide KR2)).1
        clear o2 b2 c0 c1 c2 c3 BL KA KR g1 g2 g3 g4
        go_wp2
        exact bodyPost_ret (v := .agg #[.slice a1 4 q1, .int .i64 r]) (by simp [results, Tryz.results28, go_sem, p0, p1]) rfl ⟨a1, q1, rfl, ⟨_, by rw [unhide HTL]; exact Ow.base (((unhide O2).set ⟨w.heap.size + 1, 0, none⟩ (by simp) _).set ⟨w.heap.size + 1, 1, none⟩ (by simp) _) (by omega)⟩, ((unhide BL2).setCell (p := ⟨w.heap.size + 1, 0, none⟩) (by simp) _).setCell (p := ⟨w.heap.size + 1, 1, none⟩) (by simp) _⟩
end Go.Proofs.YtdpaocikmijioabGreat

namespace Go.Proofs.YtdpaocikmijioabGreat
open Go.RowKit

set_option maxRecDepth 100000 in
theorem fld_items (a : Option Addr) (n c : Nat) (v : Value) (W : World) : (Instr.field 27 (.agg #[.slice a n c, v]) 0).run Tryz.prog W = .ok (.slice a n c) W := by
  have a3 := Tryz.isAgg24
  have z3 := Tryz.sizeOf24
  simp only [Instr.field, Sem.run_bind, run_underlying Tryz.underlying27, Result.andThen_ok]
  go_simp
  simp [asAgg]
set_option maxRecDepth 100000 in
theorem fld_leaves (a : Option Addr) (n c : Nat) (v : Value) (W : World) : (Instr.field 50 (.agg #[.slice a n c, v]) 0).run Tryz.prog W = .ok (.slice a n c) W := by
  have a3 := Tryz.isAgg30
  have z3 := Tryz.sizeOf30
  simp only [Instr.field, Sem.run_bind, run_underlying Tryz.underlying50, Result.andThen_ok]
  go_simp
  simp [asAgg]
set_option maxRecDepth 100000 in
theorem fld_root (a : Option Addr) (n c : Nat) (q : Int) (W : World) : (Instr.field 50 (.agg #[.slice a n c, .int .i64 q]) 1).run Tryz.prog W = .ok (.int .i64 q) W := by
  have a3 := Tryz.isAgg3
  have z3 := Tryz.sizeOf3
  simp only [Instr.field, Sem.run_bind, run_underlying Tryz.underlying50, Result.andThen_ok]
  go_simp
  simp [asAgg]
end Go.Proofs.YtdpaocikmijioabGreat

namespace Go.Proofs.YtdpaocikmijioabGreat
open Go.RowKit

theorem blk_cells1 {w : World} {g : Nat} {T : TypeId} {c0 : Value} (h : w.heap[g]? = some (.cells #[c0] T (0, 0))) : w.cell? ⟨g, 0, none⟩ = some c0 ∧ ∀ o, w.frozen? ⟨g, o, none⟩ = false := by
  simp [World.cell?, World.frozen?, h]
theorem keep12 {P W : World} {g h s : Nat} {e0 e1 e2 e3 e4 f0 f1 f2 f3 f4 s0 s1 : Value} (hg : g < P.heap.size) (hh : h < P.heap.size) (hs : s < P.heap.size)
    (c0 : P.cell? ⟨g, 0, none⟩ = some e0) (c1 : P.cell? ⟨g, 1, none⟩ = some e1) (c2 : P.cell? ⟨g, 2, none⟩ = some e2) (c3 : P.cell? ⟨g, 3, none⟩ = some e3) (c4 : P.cell? ⟨g, 4, none⟩ = some e4)
    (d0 : P.cell? ⟨h, 0, none⟩ = some f0) (d1 : P.cell? ⟨h, 1, none⟩ = some f1) (d2 : P.cell? ⟨h, 2, none⟩ = some f2) (d3 : P.cell? ⟨h, 3, none⟩ = some f3) (d4 : P.cell? ⟨h, 4, none⟩ = some f4)
    (k0 : P.cell? ⟨s, 0, none⟩ = some s0) (k1 : P.cell? ⟨s, 1, none⟩ = some s1) (b : Below P.heap.size P W) :
    Below P.heap.size P W ∧ W.cell? ⟨g, 0, none⟩ = some e0 ∧ W.cell? ⟨g, 1, none⟩ = some e1 ∧ W.cell? ⟨g, 2, none⟩ = some e2 ∧ W.cell? ⟨g, 3, none⟩ = some e3 ∧ W.cell? ⟨g, 4, none⟩ = some e4 ∧ W.cell? ⟨h, 0, none⟩ = some f0 ∧ W.cell? ⟨h, 1, none⟩ = some f1 ∧ W.cell? ⟨h, 2, none⟩ = some f2 ∧ W.cell? ⟨h, 3, none⟩ = some f3 ∧ W.cell? ⟨h, 4, none⟩ = some f4 ∧ W.cell? ⟨s, 0, none⟩ = some s0 ∧ W.cell? ⟨s, 1, none⟩ = some s1 := by
  have t : ∀ {q o : Nat} {v : Value}, q < P.heap.size → P.cell? ⟨q, o, none⟩ = some v → W.cell? ⟨q, o, none⟩ = some v := fun {q o v} hq c => (b.cell (p := ⟨q, o, none⟩) hq).trans c
  exact ⟨b, t hg c0, t hg c1, t hg c2, t hg c3, t hg c4, t hh d0, t hh d1, t hh d2, t hh d3, t hh d4, t hs k0, t hs k1⟩
theorem entR_of {xs ys : List Itm} {id : Int} (h : ent ys id = ent xs id) : entR ys id = entR xs id := by unfold entR; rw [h]
theorem entR_none {xs : List Itm} {id : Int} (h : ent xs id = none) : entR xs id = (zeroK, false) := by unfold entR; rw [h]
theorem entR_leaf {xs : List Itm} {id l : Int} (h : lf id = l) : entR (slI [l] xs) id = entR xs id := entR_of (by rw [ent_sl, hasN_one, h]; simp)
theorem entR_else {xs : List Itm} {id l m : Int} (h : lf id = l) (hm : m ≠ l) : entR (slI [m] xs) id = (zeroK, false) := entR_none (by rw [ent_sl, hasN_one, h, if_neg (by simpa using hm)])
theorem sc_none {xs : List Itm} {fs : List Flr} {ok : Bool} (h : okS xs fs = ok) : scI ok [-1] xs = [] := by
  cases ok
  · rfl
  · have hx := (okS_iff _ _).1 h
    show slI [-1] xs = []
    refine List.filter_eq_nil_iff.2 fun x hm => ?_
    have h1 := lf_in (inB_iff.2 ⟨(hx.ix x hm).1, (hx.ix x hm).2.1⟩)
    rw [hasN_one]
    simp
    omega
/-- While a state and more are drawn: the cursor g, the result in the call's first block, the state in block b. -/
structure Q6 (w X : World) (g : Nat) (v : Value) (xs : List Int) (b : Nat) (v1 v2 : Value) (its : List Itm) (fls : List Flr) : Prop where
  bel : Below w.heap.size w X
  cu : Cur X g v xs
  hg : w.heap.size < g
  hb : g < b
  k0 : X.heap[w.heap.size]? = some (StB (.slice none 0 0) (.slice none 0 0))
  k1 : X.heap[b]? = some (StB v1 v2)
  oi : OwI w.heap.size X v1 its
  of : OwF w.heap.size X v2 fls
  li : its.length ≤ 6
  lf : fls.length ≤ 6
  ni : Nine its
section
variable {w X Y : World} {b g : Nat} {v : Value} {xs : List Int} {v1 v2 : Value} {its : List Itm} {fls : List Flr}
theorem Q6.gl (h : Q6 w X g v xs b v1 v2 its fls) : g < X.heap.size := cur_lt h.cu
theorem Q6.bl (h : Q6 w X g v xs b v1 v2 its fls) : b < X.heap.size := (Array.getElem?_eq_some_iff.1 h.k1).1
theorem Q6.call (h : Q6 w X g v xs b v1 v2 its fls) (hc : Cur Y g v xs) (hg : X.grownBy Y (some g)) : Q6 w Y g v xs b v1 v2 its fls := by
  obtain ⟨⟨i, q, hk, _⟩, _⟩ := h.cu
  have h1 := h.hg
  have h2 := h.hb
  exact ⟨h.bel.grown hg h.bel.size (fun q hq => by simp at hq; omega), hc, h.hg, h.hb, blk_grown hg h.k0 (by omega), blk_grown hg h.k1 (by omega), h.oi.other hk (by decide) hg, h.of.other hk (by decide) hg, h.li, h.lf, h.ni⟩
theorem Q6.later (h : Q6 w X g v xs b v1 v2 its fls) (bl : Below X.heap.size X Y) : Q6 w Y g v xs b v1 v2 its fls := by
  have h1 := h.hg
  have h3 := h.gl
  exact ⟨h.bel.trans (bl.mono h.bel.size), h.cu.later bl (Nat.le_refl _), h.hg, h.hb, (bl.block _ (by omega)).trans h.k0, (bl.block _ h.bl).trans h.k1, h.oi.later bl, h.of.later bl, h.li, h.lf, h.ni⟩
theorem Q6.drewH (h : Hid (Q6 w X g v xs b v1 v2 its fls)) : Hid (Q6 w X.drew g v xs b v1 v2 its fls) := hide ((unhide h).later (Below.refl _ _).drew)
theorem Q6.fin (h : Q6 w X g v xs b v1 v2 its fls) : T3 w ((X.setCell ⟨w.heap.size, 0, none⟩ v1).setCell ⟨w.heap.size, 1, none⟩ v2) v1 v2 its fls := by
  have hg := grown_set2 X w.heap.size v1 v2
  exact ⟨(h.bel.setCell (p := ⟨w.heap.size, 0, none⟩) (Nat.le_refl _) _).setCell (p := ⟨w.heap.size, 1, none⟩) (Nat.le_refl _) _, h.oi.other h.k0 (by decide) hg, h.of.other h.k0 (by decide) hg, h.li, h.lf, h.ni⟩
theorem kQ6 (h : Hid (Q6 w X g v xs b v1 v2 its fls)) : X.cell? ⟨b, 0, none⟩ = some v1 ∧ X.cell? ⟨b, 1, none⟩ = some v2 := by
  obtain ⟨p0, p1, _⟩ := blk_cells2 (unhide h).k1
  exact ⟨p0, p1⟩
theorem kQ6s (h : Hid (Q6 w X g v xs b v1 v2 its fls)) (x y : Value) : ((X.setCell ⟨w.heap.size, 0, none⟩ x).setCell ⟨w.heap.size, 1, none⟩ y).cell? ⟨b, 0, none⟩ = some v1 ∧ ((X.setCell ⟨w.heap.size, 0, none⟩ x).setCell ⟨w.heap.size, 1, none⟩ y).cell? ⟨b, 1, none⟩ = some v2 := by
  obtain ⟨p0, p1⟩ := kQ6 h
  have := (unhide h).hg; have := (unhide h).hb
  exact ⟨farT (by omega) p0, farT (by omega) p1⟩
end
theorem T3.resd {w X : World} {O : Obj} {v1 v2 : Value} {its : List Itm} {fls : List Flr} (hO : O = StB (.slice none 0 0) (.slice none 0 0)) (h : T3 (w.alloc O) X v1 v2 its fls) : T3 w ((X.setCell ⟨w.heap.size, 0, none⟩ v1).setCell ⟨w.heap.size, 1, none⟩ v2) v1 v2 its fls := by
  have hg := grown_set2 X w.heap.size v1 v2
  have hs : (w.alloc O).heap.size = w.heap.size + 1 := by simp
  have bA : Below w.heap.size w (w.alloc O) := (Below.refl _ _).alloc (Nat.le_refl _) _
  have k0 := (h.bel.block w.heap.size (by omega)).trans (heap_alloc_new w O)
  rw [hO] at k0
  have bl := bA.trans (h.bel.mono (by omega))
  exact ⟨(bl.setCell (p := ⟨w.heap.size, 0, none⟩) (Nat.le_refl _) _).setCell (p := ⟨w.heap.size, 1, none⟩) (Nat.le_refl _) _, Ow.base (h.oi.other k0 (by decide) hg) (by omega), Ow.base (h.of.other k0 (by decide) hg) (by omega), h.li, h.lf, h.ni⟩
set_option maxHeartbeats 8000000 in
set_option maxRecDepth 100000 in
theorem drawent_any (v : Value) (xs : List Int) (w : World) (hlen : xs.length ≤ 1048576) (hbd : ∀ z ∈ xs, 0 ≤ z ∧ z ≤ 255) (hv : Seg w v xs) :
    Calls Tryz.prog 31 #[v] w fun e w' => ∃ a1 n1 c1 a2 n2 c2 its fls id, e = .returned (.tuple #[.agg #[.slice a1 n1 c1, .slice a2 n2 c2], .int .i64 id]) ∧ (-1 ≤ id ∧ id ≤ 5) ∧ T3 w w' (.slice a1 n1 c1) (.slice a2 n2 c2) its fls := by
  have HD := hide hbd
  have bA : Below w.heap.size w (w.alloc (StB (.slice none 0 0) (.slice none 0 0))) := (Below.refl _ _).alloc (Nat.le_refl _) _
  have HS := hide (hv.below bA (Nat.le_refl _))
  have BA := hide bA
  clear hbd hv bA
  go_enter Tryz.func31, Tryz.ntmps31
  go_wp2_with fail
  refine (new_any v xs _ hlen (unhide HD) (unhide HS)).mono ?_
  rintro e w1 ⟨rfl, c1, b1, s1⟩
  have hw0 : (w.alloc (StB (.slice none 0 0) (.slice none 0 0))).heap.size = w.heap.size + 1 := by simp
  have B1 := hide ((unhide BA).trans (b1.mono (by rw [hw0]; omega)))
  have K1 := hide ((b1.block _ (by rw [hw0]; omega)).trans (heap_alloc_new w _))
  rw [hw0] at c1 s1
  have C1 := hide c1
  obtain ⟨g, hg⟩ : ∃ g, g = w.heap.size + 1 := ⟨_, rfl⟩
  rw [hw0, ← hg]
  rw [← hg] at C1
  have hgA : w.heap.size < g := by omega
  clear hg c1 b1 s1 hw0 HS BA
  go_wp2_with fail
  refine (l3draw_any g v xs _ hlen (unhide HD) (unhide C1)).mono ?_
  rintro e w2 ⟨a1, n1, c1, a2, n2, c2, its, fls, rfl, d⟩
  go_upto_region 3 with fail
  obtain ⟨wa, hwa⟩ : ∃ W, W = w2.alloc (StB (.slice a1 n1 c1) (.slice a2 n2 c2)) := ⟨_, rfl⟩
  obtain ⟨b, hb⟩ : ∃ b, b = w2.heap.size := ⟨_, rfl⟩
  rw [← hwa, ← hb]
  have hgb : g < b := by rw [hb]; exact Nat.lt_of_lt_of_le (cur_lt (unhide C1)) d.gr.size
  have Q := hide (show Q6 w wa g v xs b (.slice a1 n1 c1) (.slice a2 n2 c2) its fls from by
    have t := T3.of_draw (unhide B1) (by omega) d
    have bl : Below w2.heap.size w2 wa := by rw [hwa]; exact (Below.refl _ _).alloc (Nat.le_refl _) _
    exact ⟨t.bel.trans (bl.mono t.bel.size), d.cu.later bl (Nat.le_refl _), hgA, hgb, (bl.block _ (by have := (Array.getElem?_eq_some_iff.1 (blk_grown d.gr (unhide K1) (by omega))).1; omega)).trans (blk_grown d.gr (unhide K1) (by omega)), by rw [hwa, hb]; exact heap_alloc_new _ _, t.oi.later bl, t.of.later bl, t.li, t.lf, t.ni⟩)
  clear d hwa hb C1 B1 K1
  have hbl := (unhide Q).bl
  have QD := Q6.drewH Q
  have hbw : w.heap.size < b := by omega
  go_region_held3 (fun W => W.cell? ⟨b, 0, none⟩ = some (.slice a1 n1 c1) ∧ W.cell? ⟨b, 1, none⟩ = some (.slice a2 n2 c2))
    (first | (with_reducible exact kQ6 Q) | (with_reducible exact kQ6 QD) | (with_reducible exact kQ6 QC) | (with_reducible exact kQ6s QC _ _))
    (first | (go_at_call 70; refine (below_any g v xs 7 _ hlen (unhide HD) (by omega) (by omega) (unhide QD).cu).mono ?_; rintro e w3 ⟨⟨x, rfl, xa, xb⟩, c3, g3⟩; have QC := hide ((unhide QD).call c3 g3); obtain ⟨r0, r1, rz⟩ := blk_cells2 (unhide QC).k0; have hl3 := (unhide QC).bl; have HWX : Hid (IntKind.i64.wrap (x - 1) = x - 1) := hide (by rw [IntKind.wrap_i64]; omega); clear c3 g3))
  all_goals go_wp2
  all_goals exact bodyPost_ret (v := .tuple #[.agg #[.slice a1 n1 c1, .slice a2 n2 c2], .int .i64 (x - 1)]) (by simp [results, Tryz.results31, go_sem, r0, r1, unhide HWX]) rfl ⟨_, _, _, _, _, _, _, _, _, rfl, ⟨by omega, by omega⟩, (unhide QC).fin⟩
--@end
/-- A row of numbers is not the cursor's variable. -/
theorem own_cur {base : Nat} {X Y : World} {g : Nat} {v u : Value} {xs ns : List Int} (hc : Cur X g v xs) (h : OwN base X u ns) (hg : X.grownBy Y (some g)) : OwN base Y u ns := by
  obtain ⟨⟨i, q, hk, _⟩, _⟩ := hc
  exact h.other hk (by decide) hg
theorem grown_row {w X Y : World} {g : Nat} {u : Value} {ns : List Int} (hg : w.grownBy X (some g)) (h : OwN w.heap.size X u ns) (hG : X.grownBy Y u.ownBlock) : w.grownBy Y (some g) :=
  ⟨hG.os.trans hg.os, hG.tape.trans hg.tape, hG.output.trans hg.output, Nat.le_trans hg.size hG.size, fun i hi hne => (hG.block i (Nat.lt_of_lt_of_le hi hg.size) (fun q => by have := (World.ownsRow.lt h i q.symm).1; omega)).trans (hg.block i hi hne)⟩
theorem cur_row {w X Y : World} {g : Nat} {v u : Value} {xs ns : List Int} (hc0 : Cur w g v xs) (hg : w.grownBy X (some g)) (hc : Cur X g v xs) (h : OwN w.heap.size X u ns) (hgl : g < w.heap.size) (hG : X.grownBy Y u.ownBlock) : Cur Y g v xs := by
  have hY := grown_row hg h hG
  obtain ⟨⟨i, q, hk, hi⟩, _, hne⟩ := hc
  exact ⟨⟨i, q, (hG.block g (Array.getElem?_eq_some_iff.1 hk).1 (fun q => by have := (World.ownsRow.lt h g q.symm).1; omega)).trans hk, hi⟩, hc0.2.1.grown hY hne, hne⟩
--@if spec.l6Leaves
set_option maxHeartbeats 4000000 in
set_option maxRecDepth 100000 in
theorem l6leaves_any (g : Nat) (v : Value) (xs : List Int) (w : World) (hlen : xs.length ≤ 1048576) (hbd : ∀ z ∈ xs, 0 ≤ z ∧ z ≤ 255) (hc : Cur w g v xs) :
    Calls Tryz.prog 57 #[.pointer (some ⟨g, 0, none⟩)] w fun e w' => ∃ a1 n1 c1, e = .returned (.slice a1 n1 c1) ∧ n1 ≤ 3 ∧ (∃ ns, OwN w.heap.size w' (.slice a1 n1 c1) ns) ∧ Cur w' g v xs ∧ w.grownBy w' (some g) := by
  obtain ⟨i0, hi, hz0, hz1, hz2⟩ := info_parts Tryz.infoInt
  have HD := hide hbd
  have HC := hide hc
  have hgl := cur_lt hc
  clear hbd hc
  have hO : Hid (OwN w.heap.size (w.alloc (.cells #[] 3)) (.slice (some ⟨w.heap.size, 0, none⟩) 0 0) []) := hide ⟨by simp, .inr ⟨w.heap.size, 0, #[], rfl, Nat.le_refl _, newB1 w _, by simp, by simp⟩⟩
  have bA : Below w.heap.size w (w.alloc (.cells #[] 3)) := (Below.refl _ _).alloc (Nat.le_refl _) _
  have CA := hide ((unhide HC).later bA (Nat.le_refl _))
  have GA := hide (World.grownBy_alloc w (.cells #[] 3) (some g))
  clear bA
  go_enter Tryz.func57, Tryz.ntmps57
  go_wp2_with fail
  refine (below_any g v xs 4 _ hlen (unhide HD) (by omega) (by omega) (unhide CA)).mono ?_
  rintro e w1 ⟨⟨n, rfl, na, nb⟩, c1, g1⟩
  have C1 := hide c1
  have G1 := hide (grown_trans (unhide GA) g1)
  have O1 := hide (own_cur (unhide CA) (unhide hO) g1)
  clear c1 g1 CA GA hO
  go_wp2
  go_loopw [3, 5] (fun u i wr => ∃ (k : Nat) (a1 : Option Addr) (c1 : Nat) (ns : List Int), (k : Int) ≤ n ∧ i = .int .i64 k ∧ u = .slice a1 k c1 ∧ OwN w.heap.size wr (.slice a1 k c1) ns ∧ Cur wr g v xs ∧ w.grownBy wr (some g)) (fun _ i _ => (n - intOf i).toNat)
  case atStart => exact ⟨0, _, 0, [], by omega, rfl, rfl, unhide O1, unhide C1, unhide G1⟩
  case round =>
    clear C1 G1 O1
    obtain ⟨k, a1, c1, ns, hk, rfl, rfl, hown, hcur, hgr⟩ := hrel
    have HO := hide hown
    have HC1 := hide hcur
    have HG1 := hide hgr
    have hn1 : Hid (k = ns.length) := hide (hown.rw encN_len).len.1
    have hgl1 := cur_lt hcur
    have hsz := hgr.size
    clear hown hcur hgr
    by_cases hlt : (k : Int) < n
    · have hd : decide ((k : Int) < n) = true := by simpa using hlt
      go_wp2_with fail
      refine (below_any g v xs 6 _ hlen (unhide HD) (by omega) (by omega) (unhide HC1)).mono ?_
      rintro e w2 ⟨⟨x, rfl, xa, xb⟩, c2, g2⟩
      have HO2 := hide (own_cur (unhide HC1) (unhide HO) g2)
      have HC2 := hide c2
      have HG2 := hide (grown_trans (unhide HG1) g2)
      have hs2 : w.heap.size ≤ w2.heap.size := (unhide HG2).size
      clear c2 g2 HO HC1 HG1
      go_wp2_with (first | (at_builtin; refine wpList_app1 encN_len (by omega) oneN 3 30 i0 _ 8 Tryz.underlying30 hi hz0 hz1 hz2 rfl (by omega) w2 (x - 1) rfl _ _ rfl w.heap.size _ ns k hn1 rfl (unhide HO2) rfl (by omega) hs2 ?_; intro a8 c8 w4 hO hG; have HO4 := hide hO; have HC4 := hide (cur_row (unhide HC) (unhide HG2) (unhide HC2) (unhide HO2) hgl hG); have HG4 := hide (grown_row (unhide HG2) (unhide HO2) hG); clear hO hG))
      go_roundw
      case rel => exact ⟨k + 1, a8, c8, _, by omega, by go_num, rfl, unhide HO4, unhide HC4, unhide HG4⟩
      case measure => simp [intOf]; omega
    · have hd : decide ((k : Int) < n) = false := by simpa using hlt
      go_wp2
      go_ret
      exact ⟨a1, k, c1, rfl, by omega, ⟨ns, unhide HO⟩, unhide HC1, unhide HG1⟩
set_option maxHeartbeats 8000000 in
set_option maxRecDepth 100000 in
theorem drawslice_any (v : Value) (xs : List Int) (w : World) (hlen : xs.length ≤ 1048576) (hbd : ∀ z ∈ xs, 0 ≤ z ∧ z ≤ 255) (hv : Seg w v xs) :
    Calls Tryz.prog 22 #[v] w fun e w' => ∃ a1 n1 c1 a2 n2 c2 its fls la ln lc ls, e = .returned (.tuple #[.agg #[.slice a1 n1 c1, .slice a2 n2 c2], .slice la ln lc]) ∧ ln ≤ 3 ∧ RwN w' (.slice la ln lc) ls ∧ T3 w w' (.slice a1 n1 c1) (.slice a2 n2 c2) its fls := by
  have HD := hide hbd
  have bA : Below w.heap.size w (w.alloc (StB (.slice none 0 0) (.slice none 0 0))) := (Below.refl _ _).alloc (Nat.le_refl _) _
  have HS := hide (hv.below bA (Nat.le_refl _))
  have BA := hide bA
  clear hbd hv bA
  go_enter Tryz.func22, Tryz.ntmps22
  go_wp2_with fail
  refine (new_any v xs _ hlen (unhide HD) (unhide HS)).mono ?_
  rintro e w1 ⟨rfl, c1, b1, s1⟩
  have hw0 : (w.alloc (StB (.slice none 0 0) (.slice none 0 0))).heap.size = w.heap.size + 1 := by simp
  have B1 := hide ((unhide BA).trans (b1.mono (by rw [hw0]; omega)))
  have K1 := hide ((b1.block _ (by rw [hw0]; omega)).trans (heap_alloc_new w _))
  rw [hw0] at c1 s1
  have C1 := hide c1
  obtain ⟨g, hg⟩ : ∃ g, g = w.heap.size + 1 := ⟨_, rfl⟩
  rw [hw0, ← hg]
  rw [← hg] at C1
  have hgA : w.heap.size < g := by omega
  clear hg c1 b1 s1 hw0 HS BA
  go_wp2_with fail
  refine (l3draw_any g v xs _ hlen (unhide HD) (unhide C1)).mono ?_
  rintro e w2 ⟨a1, n1, c1, a2, n2, c2, its, fls, rfl, d⟩
  go_upto_region 3 with fail
  obtain ⟨wa, hwa⟩ : ∃ W, W = w2.alloc (StB (.slice a1 n1 c1) (.slice a2 n2 c2)) := ⟨_, rfl⟩
  obtain ⟨b, hb⟩ : ∃ b, b = w2.heap.size := ⟨_, rfl⟩
  rw [← hwa, ← hb]
  have hgb : g < b := by rw [hb]; exact Nat.lt_of_lt_of_le (cur_lt (unhide C1)) d.gr.size
  have Q := hide (show Q6 w wa g v xs b (.slice a1 n1 c1) (.slice a2 n2 c2) its fls from by
    have t := T3.of_draw (unhide B1) (by omega) d
    have bl : Below w2.heap.size w2 wa := by rw [hwa]; exact (Below.refl _ _).alloc (Nat.le_refl _) _
    exact ⟨t.bel.trans (bl.mono t.bel.size), d.cu.later bl (Nat.le_refl _), hgA, hgb, (bl.block _ (by have := (Array.getElem?_eq_some_iff.1 (blk_grown d.gr (unhide K1) (by omega))).1; omega)).trans (blk_grown d.gr (unhide K1) (by omega)), by rw [hwa, hb]; exact heap_alloc_new _ _, t.oi.later bl, t.of.later bl, t.li, t.lf, t.ni⟩)
  clear d hwa hb C1 B1 K1
  have hbl := (unhide Q).bl
  have QD := Q6.drewH Q
  have hbw : w.heap.size < b := by omega
  go_region_held3 (fun W => W.cell? ⟨b, 0, none⟩ = some (.slice a1 n1 c1) ∧ W.cell? ⟨b, 1, none⟩ = some (.slice a2 n2 c2))
    (first | (with_reducible exact kQ6 Q) | (with_reducible exact kQ6 QD) | (with_reducible exact kQ6 QC) | (with_reducible exact kQ6s QC _ _))
    (first | (go_at_call 57; refine (l6leaves_any g v xs _ hlen (unhide HD) (unhide QD).cu).mono ?_; rintro e w3 ⟨la, ln, lc, rfl, hln, ⟨ls, ol⟩, c3, g3⟩; have QC := hide ((unhide QD).call c3 g3); have OL := hide (Ow.base (base' := w.heap.size + 1) ol (by have := (unhide QD).bl; omega)); obtain ⟨r0, r1, rz⟩ := blk_cells2 (unhide QC).k0; have hl3 := (unhide QC).bl; clear c3 g3 ol))
  all_goals go_wp2
  all_goals exact bodyPost_ret (v := .tuple #[.agg #[.slice a1 n1 c1, .slice a2 n2 c2], .slice la ln lc]) (by simp [results, Tryz.results22, go_sem, r0, r1]) rfl ⟨_, _, _, _, _, _, _, _, _, _, _, ls, rfl, hln, (((unhide OL).set ⟨w.heap.size, 0, none⟩ (by simp) _).set ⟨w.heap.size, 1, none⟩ (by simp) _).rw encN_len, (unhide QC).fin⟩
--@end
end Go.Proofs.YtdpaocikmijioabGreat

namespace Go.Proofs.YtdpaocikmijioabGreat
open Go.RowKit

theorem bytes_eq (x y : ByteArray) : x.toList = y.toList ↔ x = y := by
  refine ⟨fun h => ?_, fun h => by rw [h]⟩
  rw [Lib.toList_data, Lib.toList_data] at h
  obtain ⟨⟨x⟩⟩ := x
  obtain ⟨⟨y⟩⟩ := y
  simp at h
  rw [h]
theorem eqI_iff (x y : Itm) : x = y ↔ x.1 = y.1 ∧ x.2.1 = y.2.1 ∧ x.2.2.1 = y.2.2.1 ∧ x.2.2.2.1 = y.2.2.2.1 ∧ x.2.2.2.2.1 = y.2.2.2.2.1 ∧ x.2.2.2.2.2.toList = y.2.2.2.2.2.toList := by
  rw [bytes_eq]
  obtain ⟨a0, a1, a2, a3, a4, a5⟩ := x
  obtain ⟨b0, b1, b2, b3, b4, b5⟩ := y
  simp only [Prod.mk.injEq]
set_option maxHeartbeats 1000000 in
theorem eqI_run (x y : Itm) (b : Bool) (hb : decide (x = y) = b) (W : World) : (Op.equalIn 10000 40 (.agg #[.int .i64 x.1, .int .i64 x.2.1, .int .i64 x.2.2.1, .int .i64 x.2.2.2.1, .int .i64 x.2.2.2.2.1, .string x.2.2.2.2.2]) (.agg #[.int .i64 y.1, .int .i64 y.2.1, .int .i64 y.2.2.1, .int .i64 y.2.2.2.1, .int .i64 y.2.2.2.2.1, .string y.2.2.2.2.2])).run Tryz.prog W = .ok b W := by
  subst hb
  have e : decide (x = y) = decide (x.1 = y.1 ∧ x.2.1 = y.2.1 ∧ x.2.2.1 = y.2.2.1 ∧ x.2.2.2.1 = y.2.2.2.1 ∧ x.2.2.2.2.1 = y.2.2.2.2.1 ∧ x.2.2.2.2.2.toList = y.2.2.2.2.2.toList) := decide_eq_decide.mpr (eqI_iff x y)
  rw [e]
  clear e
  generalize x.1 = a0
  generalize y.1 = b0
  obtain ⟨a1, a2, a3, a4, a5⟩ := x.2
  obtain ⟨b1, b2, b3, b4, b5⟩ := y.2
  go_simp
  repeat' split
  all_goals simp_all
set_option maxHeartbeats 1000000 in
theorem eqF_run (x y : Flr) (b : Bool) (hb : decide (x = y) = b) (W : World) : (Op.equalIn 10000 84 (.agg #[.int .i64 x.1, .int .i64 x.2]) (.agg #[.int .i64 y.1, .int .i64 y.2])).run Tryz.prog W = .ok b W := by
  subst hb
  obtain ⟨a0, a1⟩ := x
  obtain ⟨b0, b1⟩ := y
  have e : decide ((a0, a1) = (b0, b1)) = decide (a0 = b0 ∧ a1 = b1) := decide_eq_decide.mpr (by simp)
  rw [e]
  clear e
  go_simp
  repeat' split
  all_goals simp_all

theorem same_all {α : Type} {xs ys : List α} {n : Nat} (h1 : n = xs.length) (h2 : n = ys.length) (h : ∀ j : Nat, j < n → xs[j]? = ys[j]?) : xs = ys := by
  apply List.ext_getElem?
  intro i
  by_cases hi : i < n
  · exact h i hi
  · rw [List.getElem?_eq_none (by omega), List.getElem?_eq_none (by omega)]
theorem same_step {α : Type} {xs ys : List α} {k : Nat} {x y : α} (hx : xs[k]? = some x) (hy : ys[k]? = some y) (e : x = y) (h : ∀ j : Nat, j < k → xs[j]? = ys[j]?) : ∀ j : Nat, j < k + 1 → xs[j]? = ys[j]? := by
  intro j hj
  by_cases c : j = k
  · subst c; rw [hx, hy, e]
  · exact h j (by omega)
theorem same_not {α : Type} {xs ys : List α} {k : Nat} {x y : α} (hx : xs[k]? = some x) (hy : ys[k]? = some y) (e : x ≠ y) : xs ≠ ys := by
  intro h
  subst h
  rw [hx] at hy
  exact e (Option.some.inj hy)
theorem same_len {α : Type} {xs ys : List α} {n m : Nat} (h1 : n = xs.length) (h2 : m = ys.length) (h : n ≠ m) : xs ≠ ys := by
  intro e; subst e; omega
theorem nb_false {a b : Nat} (h : a ≠ b) : ((a : Int) != (b : Int)) = true := by
  simp; omega
end Go.Proofs.YtdpaocikmijioabGreat
