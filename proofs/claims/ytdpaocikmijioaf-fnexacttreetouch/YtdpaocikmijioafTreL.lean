/-
  The specification's PutText returns, in memory of its own, the bytes that 'putT' says, and turns nothing that was there. No statement is proved here.
  Rows of bytes that are put together; numbers as bytes, one behind the other: the program's putNums. No statement is proved here.
  The bytes of a state: the program's. No statement is proved here.
  The bytes of a state: the specification's. No statement is proved here.
  The sum of a leaf, the program's and the specification's; the sum of a tree's leaves. No statement is proved here.
  Trees: the program's. No statement is proved here.
  A slice of numbers, and a tree, as an argument, opened; the laws' helpers on slices of numbers, said of values. No statement is proved here.
  The helpers of the laws on trees. No statement is proved here.
-/
import Derived.Test.YtdpaocikmijioafPutTP
import Derived.Test.YtdpaocikmijioafSPutNum
import Derived.Test.YtdpaocikmijioafIntS
import Derived.Test.YtdpaocikmijioafAppAny
import Derived.Test.YtdpaocikmijioafStT
import Derived.Test.YtdpaocikmijioafStM
import Derived.Test.YtdpaocikmijioafApp2
import Derived.Test.YtdpaocikmijioafIPutText
import Derived.Test.YtdpaocikmijioafIStOk
import Derived.Test.YtdpaocikmijioafSt3
import Derived.Test.YtdpaocikmijioafSStOk
import Derived.Test.YtdpaocikmijioafStBx
import Derived.Test.YtdpaocikmijioafTrI
import Derived.Test.YtdpaocikmijioafRwI
import Derived.Test.YtdpaocikmijioafStO
namespace Go.Proofs.Ytdpaocikmijioaf
open Go.RowKit

set_option maxHeartbeats 1000000 in
set_option maxRecDepth 100000 in
theorem sputtext_any (s : ByteArray) (w : World) (hs : s.size ≤ 1048576) :
    Calls Try.prog 98 #[.string s] w fun e w' => ∃ v, e = .returned v ∧ w'.ownsRow w.heap.size 5 1 v (putT (bl s)).length ((putT (bl s)).map (Value.int .u8)) ∧ Below w.heap.size w w' := by
  obtain ⟨i0, hi, hz0, hz1, hz2⟩ := info_parts Try.infoByte
  have hpl := putN_length s.size
  have hcv : ∀ wx, (convert 9 106 (.string s)).run Try.prog wx = .ok (.slice (some ⟨wx.heap.size, 0, none⟩) s.size (grownCap wx s.size 0 5)) (Lib.bytesWorld wx 5 s) := fun wx =>
    Lib.run_convert_string_bytes wx 9 106 5 s Try.underlying9 Try.underlying106 Try.underlying5
  go_enter Try.func98, Try.ntmps98
  go_wp2_with fail
  refine (sputnum_any _ _ (by omega) (by omega)).mono ?_
  rintro e w1 ⟨v1, rfl, o1, b1⟩
  have O1 := hide (owns_later o1 (below_bytesWorld w1 5 s) (Nat.le_refl _))
  have hs1 := b1.size
  have B1 := hide (b1.trans ((below_bytesWorld w1 5 s).mono hs1))
  have hs2 := Lib.bytesWorld_size w1 5 s
  have HZ := hide hs2
  clear o1 b1 hs2
  go_wp2_with (at_builtin; refine wpList_append_own _ rfl _ _ 106 rfl w.heap.size 5 i0 (.int .u8 0) 1 1 Try.underlying106 hi hz0 hz1 hz2 rfl (by decide) _ _ _ rfl (unhide O1) ⟨w1.heap.size, 0, none⟩ _ _ ((bl s).map (Value.int .u8)) rfl ?c0 ?c1 ?c2 ?c3 ?c4 ?c5 ?_)
  case c0 => rw [List.length_map, bl_length]; omega
  case c1 =>
    intro j u hj
    have hlt : j < s.size := by
      have := (List.getElem?_eq_some_iff.1 hj).1
      rwa [List.length_map, bl_length] at this
    have e : (⟨w1.heap.size, 0, none⟩ : Addr).add j = ⟨w1.heap.size, j, none⟩ := by
      unfold Addr.add
      by_cases h0 : j = 0
      · subst h0; rfl
      · rw [if_neg h0]; simp
    rw [e, Lib.bytesWorld_cell w1 5 s j hlt, ← hj]
    unfold bl
    have hlt' : j < s.data.toList.length := hlt
    rw [List.getElem?_map, List.getElem?_map, List.getD_eq_getElem?_getD, List.getElem?_eq_getElem hlt']
    rfl
  case c2 => exact ints_oneCell _ _
  case c3 => unfold maxLen; omega
  case c4 => omega
  case c5 => rw [unhide HZ]; omega
  intro v' w2 hown' hgrow _
  have R1 := hide (show w2.ownsRow w.heap.size 5 1 v' (putT (bl s)).length ((putT (bl s)).map (Value.int .u8)) by
    unfold putT
    rw [List.map_append, List.length_append, bl_length]
    exact hown')
  have R2 := hide ((unhide B1).grown hgrow (by rw [unhide HZ]; omega) (fun k hk => ((unhide O1).lt k hk).1))
  clear hown' hgrow O1 B1
  go_wp2
  go_ret
  exact ⟨_, rfl, R1.out, R2.out⟩
end Go.Proofs.Ytdpaocikmijioaf

namespace Go.Proofs.Ytdpaocikmijioaf
open Go.RowKit

/-- A row of bytes that the call itself owns. -/
abbrev OwB (base : Nat) (w : World) (v : Value) (bs : List Int) : Prop := w.ownsRow base 5 1 v bs.length (bs.map (Value.int .u8))
theorem OwB.nil (base : Nat) (w : World) : OwB base w (.slice none 0 0) [] := World.ownsRow_nil _ _ _ _
theorem wpList_appB {ops : Array Oper} {rest : List Oper} {o : Oper} {a : Act} {Q : Exit → Act → World → Prop} (w : World) (hgd : o.guard = none) (s x : Operand)
    (ho : o.op = .call { callee := .builtin .append, args := #[s, x], argTypes := #[106, 106] })
    (base : Nat) (v : Value) (xs : List Int) (hs : a.eval s = v) (hown : OwB base w v xs) (B' : Nat) (u : Value) (ys : List Int) (hx : a.eval x = u) (hu : OwB B' w u ys) (hl : xs.length + ys.length ≤ 100000000) (hbase : base ≤ w.heap.size)
    (h : ∀ v' w', OwB base w' v' (xs ++ ys) → w.grownBy w' v.ownBlock → wpList Try.prog ops Q rest (a.put o.dst v') w') : wpList Try.prog ops Q (o :: rest) a w := by
  obtain ⟨i0, hi, hz0, hz1, hz2⟩ := info_parts Try.infoByte
  refine wpList_append_any w hgd s x 106 ho base 5 i0 (.int .u8 0) 1 Try.underlying106 hi hz0 hz1 hz2 rfl v xs.length (xs.map (Value.int .u8)) hs hown B' u ys.length (ys.map (Value.int .u8)) hx hu (ints_oneCell _ _) (by unfold maxLen; omega) (by omega) hbase (fun v' w' o1 g1 => h v' w' ?_ g1)
  unfold OwB
  rw [List.map_append, List.length_append]
  exact o1

set_option maxHeartbeats 2000000 in
set_option maxRecDepth 100000 in
theorem iputnums_any (a : Option Addr) (n c : Nat) (ns : List Int) (w : World) (hn : n ≤ 1000) (hfit : ∀ (k : Nat) (x : Int), ns[k]? = some x → -9223372036854775808 ≤ x ∧ x ≤ 9223372036854775807) (h : RwN w (.slice a n c) ns) :
    Calls Try.prog 90 #[.slice a n c] w fun e w' => ∃ v, e = .returned v ∧ OwB w.heap.size w' v (nums ns) ∧ Below w.heap.size w w' := by
  have HR := hide h
  have HF := hide hfit
  have hN := h.len.1
  have HN := hide hN
  clear h hfit hN
  go_enter Try.func90, Try.ntmps90
  go_wp2
  go_loopw [3, 8] (fun v i wr => ∃ k : Nat, k ≤ n ∧ i = .int .i64 k ∧ OwB w.heap.size wr v (nums (ns.take k)) ∧ Below w.heap.size w wr) (fun _ i _ => n - (intOf i).toNat)
  case atStart => exact ⟨0, by omega, rfl, OwB.nil _ _, Below.refl _ _⟩
  case round =>
    obtain ⟨k, hk, rfl, hown, hbel⟩ := hrel
    have HO := hide hown
    have HB := hide hbel
    have hsz := hbel.size
    clear hown
    by_cases hlt : k < n
    · obtain ⟨z, b, off, hz, rfl, hb, hcap, cz⟩ := ((unhide HR).later hbel).atN hlt
      obtain ⟨f1, f2⟩ := unhide HF k z hz
      have HZ := hide (nums_take hz)
      clear hz hbel
      go_wp2_with fail
      refine (iputnum_any z _ f1 f2).mono ?_
      rintro e w2 ⟨u, rfl, o2, b2⟩
      have HO2 := hide (owns_later (unhide HO) b2 (Nat.le_refl _))
      have HU := hide o2
      have HB2 := hide ((unhide HB).trans (b2.mono hsz))
      have hw2 := (unhide HB2).size
      have hl : (nums (ns.take k)).length + (putN z).length ≤ 100000000 := by
        have h1 := nums_len (ns.take k)
        have h2 := putN_length z
        have h3 : (ns.take k).length ≤ k := by simp; omega
        omega
      clear o2 b2 HO HB
      go_wp2_with (at_builtin; refine wpList_appB _ rfl _ _ rfl w.heap.size _ _ rfl (unhide HO2) _ _ _ rfl (unhide HU) hl hw2 ?_; intro v' w3 hO hG; have HO3 := hide hO; have HB3 := hide ((unhide HB2).grown hG hw2 (fun k hk => ((unhide HO2).lt k hk).1)); clear hO hG)
      go_roundw
      case rel => exact ⟨k + 1, by omega, by go_num, by rw [unhide HZ]; exact unhide HO3, unhide HB3⟩
      case measure => simp [intOf]; omega
    · have HT : Hid (nums (ns.take k) = nums ns) := hide (by rw [List.take_of_length_le (by have := unhide HN; omega)])
      clear hbel
      go_wp2
      go_ret
      exact ⟨_, rfl, by rw [← unhide HT]; exact unhide HO, unhide HB⟩
end Go.Proofs.Ytdpaocikmijioaf

namespace Go.Proofs.Ytdpaocikmijioaf
open Go.RowKit

theorem okE_fits {e : Key} (h : okE e.1 e.2.1 e.2.2.1 e.2.2.2.1 e.2.2.2.2 = true) : (0 ≤ e.1 ∧ e.1 ≤ 1000) ∧ (0 ≤ e.2.1 ∧ e.2.1 ≤ 1) ∧ (0 ≤ e.2.2.1 ∧ e.2.2.1 ≤ 100000) ∧ (0 ≤ e.2.2.2.1 ∧ e.2.2.2.1 ≤ 1000) ∧ (e.2.2.2.2.size : Int) ≤ 8 := by
  simp only [okE, Bool.and_eq_true, inB_iff, decide_eq_true_eq] at h
  obtain ⟨⟨⟨⟨a, b⟩, c⟩, d⟩, e⟩ := h
  exact ⟨⟨by omega, a.2⟩, b, c, d, e⟩
/-- A block of numbers, as it is laid for a call, reads as its numbers. -/
theorem rwN_blk {w : World} {g : Nat} {ns : List Int} {fz : Nat × Nat} (h : w.heap[g]? = some (.cells (ns.map (Value.int .i64)).toArray 3 fz)) : RwN w (.slice (some ⟨g, 0, none⟩) ns.length ns.length) ns := by
  refine ⟨_, _, rfl, Nat.le_refl _, .inr ⟨g, 0, rfl, (Array.getElem?_eq_some_iff.1 h).1, fun i x hx j hj => ?_⟩⟩
  obtain rfl : j = 0 := by omega
  obtain ⟨hi, rfl⟩ := List.getElem?_eq_some_iff.1 hx
  simp only [World.cell?, h]
  simp [encN, hi]
/-- While a state's bytes are made: the argument, what is made. -/
structure B2 (w X : World) (v1 v2 : Value) (v : Value) (bs : List Int) : Prop where
  bel : Below w.heap.size w X
  ka : X.heap[w.heap.size]? = some (.cells #[v1, v2] 37 (0, 0))
  ob : OwB w.heap.size X v bs
section
variable {w X Y : World} {v1 v2 v v' : Value} {bs cs : List Int}
theorem B2.lt (h : B2 w X v1 v2 v bs) : w.heap.size < X.heap.size := (Array.getElem?_eq_some_iff.1 h.ka).1
theorem B2.later (h : B2 w X v1 v2 v bs) (b : Below X.heap.size X Y) : B2 w Y v1 v2 v bs := by
  exact ⟨h.bel.trans (b.mono h.bel.size), (b.block _ h.lt).trans h.ka, owns_later h.ob b (Nat.le_refl _)⟩
theorem B2.app (h : B2 w X v1 v2 v bs) (ho : OwB w.heap.size Y v' cs) (hg : X.grownBy Y v.ownBlock) : B2 w Y v1 v2 v' cs :=
  ⟨h.bel.grown hg h.bel.size (fun k hk => (h.ob.lt k hk).1), (hg.block _ h.lt (fun q => own_ne h.ob h.ka (by decide) q.symm)).trans h.ka, ho⟩
/-- A block of another kind stays as it was. -/
theorem B2.keep (h : B2 w X v1 v2 v bs) (hg : X.grownBy Y v.ownBlock) {g : Nat} {zs : Array Value} {T : TypeId} {fz : Nat × Nat} (hk : X.heap[g]? = some (.cells zs T fz)) (hT : (5 : Nat) ≠ T) : Y.heap[g]? = some (.cells zs T fz) :=
  (hg.block _ (Array.getElem?_eq_some_iff.1 hk).1 (fun q => own_ne h.ob hk hT q.symm)).trans hk
end
theorem fit1 (a : Int) (h : -9223372036854775808 ≤ a ∧ a ≤ 9223372036854775807) : ∀ (k : Nat) (x : Int), [a][k]? = some x → -9223372036854775808 ≤ x ∧ x ≤ 9223372036854775807 := by
  intro k x hx
  have := List.mem_of_getElem? hx
  simp at this; subst this; exact h
theorem fit2 {a b : Int} (h1 : -9223372036854775808 ≤ a ∧ a ≤ 9223372036854775807) (h2 : -9223372036854775808 ≤ b ∧ b ≤ 9223372036854775807) : ∀ (k : Nat) (x : Int), [a, b][k]? = some x → -9223372036854775808 ≤ x ∧ x ≤ 9223372036854775807 := by
  intro k x hx
  have := List.mem_of_getElem? hx
  simp at this; rcases this with rfl | rfl <;> assumption
theorem fit5 {a b c d e : Int} (h1 : -9223372036854775808 ≤ a ∧ a ≤ 9223372036854775807) (h2 : -9223372036854775808 ≤ b ∧ b ≤ 9223372036854775807) (h3 : -9223372036854775808 ≤ c ∧ c ≤ 9223372036854775807) (h4 : -9223372036854775808 ≤ d ∧ d ≤ 9223372036854775807) (h5 : -9223372036854775808 ≤ e ∧ e ≤ 9223372036854775807) : ∀ (k : Nat) (x : Int), [a, b, c, d, e][k]? = some x → -9223372036854775808 ≤ x ∧ x ≤ 9223372036854775807 := by
  intro k x hx
  have := List.mem_of_getElem? hx
  simp at this; rcases this with rfl | rfl | rfl | rfl | rfl <;> assumption

set_option maxHeartbeats 8000000 in
set_option maxRecDepth 100000 in
theorem ibytes_any (ai : Option Addr) (ni ci : Nat) (xs : List Itm) (af : Option Addr) (nf cf : Nat) (fs : List Flr) (ok : Bool) (h0 : Hid (okS xs fs = ok)) (w : World)
    (hni : ni ≤ 140737488351232) (hnf : nf ≤ 140737488351232) (hx : Rw encI 6 w (.slice ai ni ci) xs) (hf : Rw encF 2 w (.slice af nf cf) fs) :
    Calls Try.prog 88 #[.agg #[.slice ai ni ci, .slice af nf cf]] w fun e w' => ∃ v, e = .returned v ∧ OwB w.heap.size w' v (sbS xs fs) ∧ Below w.heap.size w w' := by
  have HX := hide hx
  have HF := hide hf
  have HNI := hide hx.len.1
  have HNF := hide hf.len.1
  clear hx hf
  go_enter Try.func88, Try.ntmps88
  go_wp2_with fail
  have bW : Below w.heap.size w (w.alloc (.cells #[.slice ai ni ci, .slice af nf cf] 37)) := (Below.refl w.heap.size w).alloc (Nat.le_refl _) _
  refine (istateok_any ai ni ci xs af nf cf fs _ h0 _ hni hnf ((unhide HX).later bW) ((unhide HF).later bW)).mono ?_
  rintro e w1 ⟨rfl, b1⟩
  have CV : Hid (B2 w w1 (.slice ai ni ci) (.slice af nf cf) (.slice none 0 0) []) := hide ⟨bW.trans (b1.mono (by simp)), (b1.block _ (by simp)).trans (newB1 w _), OwB.nil _ _⟩
  have z1 := (unhide CV).lt
  clear b1 bW
  cases ok
  · have e0 : sbS xs fs = [] := by rw [sbS, unhide h0]; rfl
    go_wp2
    go_ret
    exact ⟨_, rfl, by rw [e0]; exact OwB.nil _ _, (unhide CV).bel⟩
  · have OA := (okS_iff _ _).1 (unhide h0)
    have HA := hide OA
    have m5 : ni ≤ 5 := by have := unhide HNI; have := OA.len5.1; omega
    have f5 : nf ≤ 5 := by have := unhide HNF; have := OA.len5.2; omega
    have HE : Hid (sbS xs fs = sb xs fs) := hide (by rw [sbS, unhide h0]; rfl)
    obtain ⟨p0, p1, -⟩ := blk_cells2 (unhide CV).ka
    clear OA h0
    go_wp2_with fail
    have R1 : RwN (w1.alloc (.cells #[.int .i64 (ni : Int)] 3)) (.slice (some ⟨w1.heap.size, 0, none⟩) 1 1) [(ni : Int)] := rwN_blk (ns := [(ni : Int)]) (newB1 w1 _)
    refine (iputnums_any _ 1 1 [(ni : Int)] _ (by omega) (fit1 _ (by omega)) R1).mono ?_
    rintro e w2 ⟨v2, rfl, o2, b2⟩
    have b2' := ((Below.refl w1.heap.size w1).alloc (Nat.le_refl _) (.cells #[.int .i64 (ni : Int)] 3)).trans (b2.mono (by simp))
    have J2' : Hid (B2 w w2 (.slice ai ni ci) (.slice af nf cf) v2 (putN xs.length)) := hide ⟨((unhide CV).later b2').bel, ((unhide CV).later b2').ka, by rw [nums_one, unhide HNI] at o2; exact owns_base o2 (by simp; omega)⟩
    clear o2 b2 b2' R1 CV p0 p1 z1
    obtain ⟨p0, p1, -⟩ := blk_cells2 (unhide J2').ka
    have z2 := (unhide J2').lt
    go_wp2
    go_loopw [3, 20] (fun v i wr => ∃ k : Nat, k ≤ ni ∧ i = .int .i64 k ∧ B2 w wr (.slice ai ni ci) (.slice af nf cf) v (putN xs.length ++ sbIs (xs.take k))) (fun _ i _ => ni - (intOf i).toNat)
    case atStart => exact ⟨0, by omega, rfl, by simpa [sbIs] using unhide J2'⟩
    case round =>
      clear J2' p0 p1 z2
      obtain ⟨k, hk, rfl, hJ⟩ := hrel
      have HJ := hide hJ
      have hsz := hJ.bel.size
      have hlt0 := hJ.lt
      have hL : (putN xs.length ++ sbIs (xs.take k)).length ≤ 1000 := by
        have h1 := putN_length xs.length
        have h2 := sbIs_len (xs := xs.take k) (fun x hx => (unhide HA).small x (List.mem_of_mem_take hx))
        have h3 : (xs.take k).length ≤ k := by simp; omega
        rw [List.length_append]; omega
      by_cases hlt : k < ni
      · obtain ⟨x, b, off, hx, rfl, hb, hcap, hc⟩ := ((unhide HX).later hJ.bel).at hlt
        obtain ⟨c0, c1, c2, c3, c4, c5⟩ := item_cells hc
        have hin := (unhide HA).ix x (List.mem_of_getElem? hx)
        obtain ⟨q1, q2, q3, q4, q5⟩ := okE_fits hin.2.2.1
        obtain ⟨i1, i2, -⟩ := hin
        have HX1 := hide hx
        clear hx hc hJ
        go_wp2_with fail
        have hW : Below wr.heap.size wr (((wr.alloc (.cells #[.int .i64 x.1, .int .i64 x.2.1, .int .i64 x.2.2.1, .int .i64 x.2.2.2.1, .int .i64 x.2.2.2.2.1, .string x.2.2.2.2.2] 101)).alloc (.cells #[.int .i64 x.2.1, .int .i64 x.2.2.1, .int .i64 x.2.2.2.1, .int .i64 x.2.2.2.2.1, .string x.2.2.2.2.2] 99)).alloc (.cells #[.int .i64 x.1, .int .i64 x.2.1, .int .i64 x.2.2.1, .int .i64 x.2.2.2.1, .int .i64 x.2.2.2.2.1] 3)) := ((((Below.refl wr.heap.size wr).alloc (Nat.le_refl _) _).alloc (by simp) _).alloc (by simp; omega) _)
        refine (iputnums_any _ 5 5 [x.1, x.2.1, x.2.2.1, x.2.2.2.1, x.2.2.2.2.1] _ (by omega) (fit5 (by omega) (by omega) (by omega) (by omega) (by omega)) (rwN_blk (ns := [x.1, x.2.1, x.2.2.1, x.2.2.2.1, x.2.2.2.2.1]) (newB3 wr _ _ _))).mono ?_
        rintro e w3 ⟨v3, rfl, o3, b3⟩
        have b3' := hW.trans (b3.mono (by simp; omega))
        have J3' := hide ((unhide HJ).later b3')
        have KE := hide ((b3.block (wr.heap.size + 1) (by simp)).trans (midB3 wr _ _ _))
        have O3 := hide o3
        have hsz3 := (unhide J3').bel.size
        have hn5 : (nums [x.1, x.2.1, x.2.2.1, x.2.2.2.1, x.2.2.2.2.1]).length ≤ 25 := nums_len [x.1, x.2.1, x.2.2.1, x.2.2.2.1, x.2.2.2.2.1]
        have hl3 : (putN xs.length ++ sbIs (xs.take k)).length + (nums [x.1, x.2.1, x.2.2.1, x.2.2.2.1, x.2.2.2.2.1]).length ≤ 100000000 := by
          omega
        clear c0 c1 c2 c3 c4 c5 b3 b3' hW o3 HJ
        have ze3 : wr.heap.size + 1 < w3.heap.size := (Array.getElem?_eq_some_iff.1 (unhide KE)).1
        obtain ⟨e0, e1, e2, e3, e4, -⟩ := blk_cells5 (unhide KE)
        have E4 := hide e4
        clear e0 e1 e2 e3 e4
        go_upto_region 9 with (at_builtin; refine wpList_appB _ rfl _ _ rfl w.heap.size _ _ rfl (unhide J3').ob _ _ _ rfl (unhide O3) hl3 hsz3 ?_; intro v4 w4 hO hG; have KE4 := hide ((unhide J3').keep hG (unhide KE) (by decide)); have J4 := hide ((unhide J3').app hO hG); clear hO hG)
        obtain ⟨e0, e1, e2, e3, e4, -⟩ := blk_cells5 (unhide KE4)
        have ze4 : wr.heap.size + 1 < w4.heap.size := (Array.getElem?_eq_some_iff.1 (unhide KE4)).1
        clear E4 KE J3' O3
        go_wp2_with fail
        refine (iputtext_any x.2.2.2.2.2 _ (by omega)).mono ?_
        rintro e w5 ⟨v5, rfl, o5, b5⟩
        have J5 := hide ((unhide J4).later b5)
        have O5 := hide o5
        have hsz5 := (unhide J5).bel.size
        have hl5 : ((putN xs.length ++ sbIs (xs.take k)) ++ nums [x.1, x.2.1, x.2.2.1, x.2.2.2.1, x.2.2.2.2.1]).length + (putT (bl x.2.2.2.2.2)).length ≤ 100000000 := by
          have h1 := putT_len (bl x.2.2.2.2.2)
          rw [bl_length] at h1
          rw [List.length_append]; omega
        have HP : Hid (((putN xs.length ++ sbIs (xs.take k)) ++ nums [x.1, x.2.1, x.2.2.1, x.2.2.2.1, x.2.2.2.2.1]) ++ putT (bl x.2.2.2.2.2) = putN xs.length ++ sbIs (xs.take (k + 1))) := hide (by
          rw [sbIs_take (unhide HX1), sbI]; simp only [List.append_assoc])
        clear e0 e1 e2 e3 e4 b5 o5 J4 KE4
        go_wp2_with (at_builtin; refine wpList_appB _ rfl _ _ rfl w.heap.size _ _ rfl (unhide J5).ob _ _ _ rfl (unhide O5) hl5 hsz5 ?_; intro v6 w6 hO hG; have J6 := hide ((unhide J5).app hO hG); clear hO hG)
        go_roundw
        case rel => exact ⟨k + 1, by omega, by go_num, by rw [← unhide HP]; exact unhide J6⟩
        case measure => simp [intOf]; omega
      · have HT : Hid (putN xs.length ++ sbIs (xs.take k) = putN xs.length ++ sbIs xs) := hide (by rw [List.take_of_length_le (by have := unhide HNI; omega)])
        rw [unhide HT] at hL hJ
        replace HJ := hide hJ
        clear hJ HT
        obtain ⟨p0, p1, -⟩ := blk_cells2 (unhide HJ).ka
        go_wp2_with fail
        have R1 : RwN (wr.alloc (.cells #[.int .i64 (nf : Int)] 3)) (.slice (some ⟨wr.heap.size, 0, none⟩) 1 1) [(nf : Int)] := rwN_blk (ns := [(nf : Int)]) (newB1 wr _)
        refine (iputnums_any _ 1 1 [(nf : Int)] _ (by omega) (fit1 _ (by omega)) R1).mono ?_
        rintro e w3 ⟨v3, rfl, o3, b3⟩
        have b3' := ((Below.refl wr.heap.size wr).alloc (Nat.le_refl _) (.cells #[.int .i64 (nf : Int)] 3)).trans (b3.mono (by simp))
        have J3' := hide ((unhide HJ).later b3')
        have O3 : Hid (OwB (wr.alloc (.cells #[.int .i64 (nf : Int)] 3)).heap.size w3 v3 (putN fs.length)) := hide (by
          have e : putN (nf : Int) = putN fs.length := by rw [unhide HNF]
          rw [nums_one, e] at o3; exact o3)
        have hsz3 := (unhide J3').bel.size
        have hl3 : (putN xs.length ++ sbIs xs).length + (putN fs.length).length ≤ 100000000 := by have := putN_length fs.length; omega
        clear o3 b3 b3' R1 HJ p0 p1
        obtain ⟨p0, p1, -⟩ := blk_cells2 (unhide J3').ka
        have P0 := hide p0
        have P1 := hide p1
        clear p0 p1
        go_upto_region 12 with (at_builtin; refine wpList_appB _ rfl _ _ rfl w.heap.size _ _ rfl (unhide J3').ob _ _ _ rfl (unhide O3) hl3 hsz3 ?_; intro v4 w4 hO hG; have J4 := hide ((unhide J3').app hO hG); clear hO hG)
        obtain ⟨p0, p1, -⟩ := blk_cells2 (unhide J4).ka
        have z4 := (unhide J4).lt
        clear P0 P1 J3' O3
        go_wp2
        go_loopw [3, 56] (fun v i wr => ∃ k : Nat, k ≤ nf ∧ i = .int .i64 k ∧ B2 w wr (.slice ai ni ci) (.slice af nf cf) v ((putN xs.length ++ sbIs xs) ++ putN fs.length ++ sbFs (fs.take k))) (fun _ i _ => nf - (intOf i).toNat)
        case atStart => exact ⟨0, by omega, rfl, by simpa [sbFs] using unhide J4⟩
        case round =>
          clear J4 p0 p1 z4 hl3 hsz3 hsz hlt0
          obtain ⟨k, hk, rfl, hJ⟩ := hrel
          have HJ := hide hJ
          have hsz := hJ.bel.size
          have hlt0 := hJ.lt
          have hM : ((putN xs.length ++ sbIs xs) ++ putN fs.length ++ sbFs (fs.take k)).length ≤ 2000 := by
            have h1 := putN_length fs.length
            have h2 := sbFs_len (fs.take k)
            have h3 : (fs.take k).length ≤ k := by simp; omega
            rw [List.length_append, List.length_append]; omega
          by_cases hlt : k < nf
          · obtain ⟨x, b, off, hx, rfl, hb, hcap, hc⟩ := ((unhide HF).later hJ.bel).at hlt
            have c0 : wr.cell? ⟨b, off + k * 2, none⟩ = some (.int .i64 x.1) := hc 0 (by omega)
            have c1 : wr.cell? ⟨b, off + k * 2 + 1, none⟩ = some (.int .i64 x.2) := hc 1 (by omega)
            obtain ⟨i1, i2, i3, i4⟩ := (unhide HA).jf x (List.mem_of_getElem? hx)
            have HX1 := hide hx
            clear hx hc hJ
            go_wp2_with fail
            have hW : Below wr.heap.size wr ((wr.alloc (.cells #[.int .i64 x.1, .int .i64 x.2] 104)).alloc (.cells #[.int .i64 x.1, .int .i64 x.2] 3)) := (((Below.refl wr.heap.size wr).alloc (Nat.le_refl _) _).alloc (by simp) _)
            refine (iputnums_any _ 2 2 [x.1, x.2] _ (by omega) (fit2 (by omega) (by omega)) (rwN_blk (ns := [x.1, x.2]) (newB2 wr _ _))).mono ?_
            rintro e w3 ⟨v3, rfl, o3, b3⟩
            have b3' := hW.trans (b3.mono (by simp; omega))
            have J3' := hide ((unhide HJ).later b3')
            have O3 := hide o3
            have hsz3 := (unhide J3').bel.size
            have hl3 : ((putN xs.length ++ sbIs xs) ++ putN fs.length ++ sbFs (fs.take k)).length + (nums [x.1, x.2]).length ≤ 100000000 := by
              have := nums_len [x.1, x.2]
              simp only [List.length_cons, List.length_nil] at this; omega
            have HP : Hid (((putN xs.length ++ sbIs xs) ++ putN fs.length ++ sbFs (fs.take k)) ++ nums [x.1, x.2] = (putN xs.length ++ sbIs xs) ++ putN fs.length ++ sbFs (fs.take (k + 1))) := hide (by
              rw [sbFs_take (unhide HX1), sbF]; simp only [List.append_assoc])
            clear c0 c1 b3 b3' hW o3 HJ
            go_wp2_with (at_builtin; refine wpList_appB _ rfl _ _ rfl w.heap.size _ _ rfl (unhide J3').ob _ _ _ rfl (unhide O3) hl3 hsz3 ?_; intro v6 w6 hO hG; have J6 := hide ((unhide J3').app hO hG); clear hO hG)
            go_roundw
            case rel => exact ⟨k + 1, by omega, by go_num, by rw [← unhide HP]; exact unhide J6⟩
            case measure => simp [intOf]; omega
          · have HT : Hid ((putN xs.length ++ sbIs xs) ++ putN fs.length ++ sbFs (fs.take k) = sbS xs fs) := hide (by rw [unhide HE, sb, List.take_of_length_le (by have := unhide HNF; omega), List.append_assoc])
            clear hJ
            go_wp2
            go_ret
            exact ⟨_, rfl, by rw [← unhide HT]; exact (unhide HJ).ob, (unhide HJ).bel⟩
end Go.Proofs.Ytdpaocikmijioaf

namespace Go.Proofs.Ytdpaocikmijioaf
open Go.RowKit

theorem keepL {V W : World} {b0 o0 b1 o1 g : Nat} {v0 v1 v2 v3 v4 v5 : Value} (h0 : b0 < V.heap.size) (h1 : b1 < V.heap.size) (h2 : g < V.heap.size)
    (c0 : V.cell? ⟨b0, o0, none⟩ = some v0) (c1 : V.cell? ⟨b1, o1, none⟩ = some v1) (c2 : V.cell? ⟨g, 0, none⟩ = some v2) (c3 : V.cell? ⟨g, 1, none⟩ = some v3) (c4 : V.cell? ⟨g, 2, none⟩ = some v4) (c5 : V.cell? ⟨g, 3, none⟩ = some v5) (hb : Below V.heap.size V W) :
    Below V.heap.size V W ∧ W.cell? ⟨b0, o0, none⟩ = some v0 ∧ W.cell? ⟨b1, o1, none⟩ = some v1 ∧ W.cell? ⟨g, 0, none⟩ = some v2 ∧ W.cell? ⟨g, 1, none⟩ = some v3 ∧ W.cell? ⟨g, 2, none⟩ = some v4 ∧ W.cell? ⟨g, 3, none⟩ = some v5 :=
  ⟨hb, (hb.cell (p := ⟨b0, o0, none⟩) h0).trans c0, (hb.cell (p := ⟨b1, o1, none⟩) h1).trans c1, (hb.cell (p := ⟨g, 0, none⟩) h2).trans c2, (hb.cell (p := ⟨g, 1, none⟩) h2).trans c3, (hb.cell (p := ⟨g, 2, none⟩) h2).trans c4, (hb.cell (p := ⟨g, 3, none⟩) h2).trans c5⟩
set_option maxHeartbeats 8000000 in
set_option maxRecDepth 100000 in
theorem l6bytes_any (ai : Option Addr) (ni ci : Nat) (xs : List Itm) (af : Option Addr) (nf cf : Nat) (fs : List Flr) (HA : Hid (OkS xs fs)) (w : World)
    (hx : Rw encI 6 w (.slice ai ni ci) xs) (hf : Rw encF 2 w (.slice af nf cf) fs) :
    Calls Try.prog 77 #[.agg #[.slice ai ni ci, .slice af nf cf]] w fun e w' => ∃ v, e = .returned v ∧ OwB w.heap.size w' v (sb xs fs) ∧ Below w.heap.size w w' := by
  have HX := hide hx
  have HF := hide hf
  have HNI := hide hx.len.1
  have HNF := hide hf.len.1
  have m5 : ni ≤ 5 := by have := unhide HNI; have := (unhide HA).len5.1; omega
  have f5 : nf ≤ 5 := by have := unhide HNF; have := (unhide HA).len5.2; omega
  clear hx hf
  go_enter Try.func77, Try.ntmps77
  go_wp2_with fail
  have bW : Below w.heap.size w (w.alloc (.cells #[.slice ai ni ci, .slice af nf cf] 37)) := (Below.refl w.heap.size w).alloc (Nat.le_refl _) _
  refine (sputnum_any (ni : Int) _ (by omega) (by omega)).mono ?_
  rintro e w2 ⟨v2, rfl, o2, b2⟩
  have J2' : Hid (B2 w w2 (.slice ai ni ci) (.slice af nf cf) v2 (putN xs.length)) := hide ⟨bW.trans (b2.mono (by simp)), (b2.block _ (by simp)).trans (newB1 w _), by
    have e : putN (ni : Int) = putN xs.length := by rw [unhide HNI]
    rw [e] at o2; exact owns_base o2 (by simp)⟩
  clear o2 b2 bW
  obtain ⟨p0, p1, -⟩ := blk_cells2 (unhide J2').ka
  have z2 := (unhide J2').lt
  go_wp2
  go_loopw [3, 4] (fun v i wr => ∃ k : Nat, k ≤ ni ∧ i = .int .i64 k ∧ B2 w wr (.slice ai ni ci) (.slice af nf cf) v (putN xs.length ++ sbIs (xs.take k))) (fun _ i _ => ni - (intOf i).toNat)
  case atStart => exact ⟨0, by omega, rfl, by simpa [sbIs] using unhide J2'⟩
  case round =>
    clear J2' p0 p1 z2
    obtain ⟨k, hk, rfl, hJ⟩ := hrel
    have HJ := hide hJ
    have hsz := hJ.bel.size
    have hlt0 := hJ.lt
    have hL : (putN xs.length ++ sbIs (xs.take k)).length ≤ 1000 := by
      have h1 := putN_length xs.length
      have h2 := sbIs_len (xs := xs.take k) (fun x hx => (unhide HA).small x (List.mem_of_mem_take hx))
      have h3 : (xs.take k).length ≤ k := by simp; omega
      rw [List.length_append]; omega
    obtain ⟨p0, p1, -⟩ := blk_cells2 (unhide HJ).ka
    by_cases hlt : k < ni
    · obtain ⟨x, b, off, hx, rfl, hb, hcap, hc⟩ := ((unhide HX).later hJ.bel).at hlt
      obtain ⟨c0, c1, c2, c3, c4, c5⟩ := item_cells hc
      have hin := (unhide HA).ix x (List.mem_of_getElem? hx)
      obtain ⟨q1, q2, q3, q4, q5⟩ := okE_fits hin.2.2.1
      obtain ⟨i1, i2, -⟩ := hin
      have HX1 := hide hx
      clear hx hc hJ
      go_upto_region 6 with fail
      obtain ⟨V, hV⟩ : ∃ V, V = wr.alloc (.cells #[.int .i64 x.2.1, .int .i64 x.2.2.1, .int .i64 x.2.2.2.1, .int .i64 x.2.2.2.2.1, .string x.2.2.2.2.2] 99) := ⟨_, rfl⟩
      rw [← hV]
      have bV : Below wr.heap.size wr V := by rw [hV]; exact (Below.refl _ _).alloc (Nat.le_refl _) _
      have ke : V.heap[wr.heap.size]? = some (.cells #[.int .i64 x.2.1, .int .i64 x.2.2.1, .int .i64 x.2.2.2.1, .int .i64 x.2.2.2.2.1, .string x.2.2.2.2.2] 99 (0, 0)) := by rw [hV]; exact newB1 wr _
      have zV : V.heap.size = wr.heap.size + 1 := by rw [hV]; simp
      have JV := hide ((unhide HJ).later bV)
      have KE := hide ke
      obtain ⟨e0, e1, e2, e3, -, -⟩ := blk_cells5 ke
      have hbV : b < V.heap.size := by omega
      have d0 := (bV.cell (p := ⟨b, off + k * 6, none⟩) hb).trans c0
      have P0 := hide (fun (W : World) (hb : Below V.heap.size V W) => keepL (V := V) (W := W) (b0 := w.heap.size) (o0 := 0) (b1 := b) (o1 := off + k * 6) (g := wr.heap.size) (by omega) hbV (by omega) (blk_cells2 (unhide JV).ka).1 d0 e0 e1 e2 e3 hb)
      clear p0 p1 c0 c1 c2 c3 c4 c5 e0 e1 e2 e3 d0 bV ke hV
      go_region_held3 (fun W => Below V.heap.size V W ∧ W.cell? ⟨w.heap.size, 0, none⟩ = some (.slice (some ⟨b, off, none⟩) ni ci) ∧ W.cell? ⟨b, off + k * 6, none⟩ = some (.int .i64 x.1) ∧ W.cell? ⟨wr.heap.size, 0, none⟩ = some (.int .i64 x.2.1) ∧ W.cell? ⟨wr.heap.size, 1, none⟩ = some (.int .i64 x.2.2.1) ∧ W.cell? ⟨wr.heap.size, 2, none⟩ = some (.int .i64 x.2.2.2.1) ∧ W.cell? ⟨wr.heap.size, 3, none⟩ = some (.int .i64 x.2.2.2.2.1))
        (first | (with_reducible exact unhide P0 _ (Below.refl _ _)) | (with_reducible exact unhide P0 _ ((Below.refl _ _).drew)) | (with_reducible exact unhide P0 _ (kal ((Below.refl _ _).drew))) | (with_reducible exact unhide P0 _ (kal (Below.refl _ _))) | (with_reducible exact unhide P0 _ ((kal (Below.refl _ _)).drew)))
        (first | fail)
      obtain ⟨U, hU⟩ : ∃ U, U = (V.alloc (.cells #[.int .i64 x.1, .int .i64 x.2.1, .int .i64 x.2.2.1, .int .i64 x.2.2.2.1, .int .i64 x.2.2.2.2.1] 3)).drew := ⟨_, rfl⟩
      rw [← hU]
      have bU : Below V.heap.size V U := by rw [hU]; exact (kal (Below.refl _ _)).drew
      have JU := hide ((unhide JV).later bU)
      have KEU := hide ((bU.block wr.heap.size (by omega)).trans (unhide KE))
      have KLU : Hid (U.heap[wr.heap.size + 1]? = some (.cells #[.int .i64 x.1, .int .i64 x.2.1, .int .i64 x.2.2.1, .int .i64 x.2.2.2.1, .int .i64 x.2.2.2.2.1] 3 (0, 0))) := hide (by rw [hU, ← zV]; exact newB1 V _)
      clear hU bU JV KE P0 HJ
      go_wp2
      go_loopw [3, 7] (fun v i wx => ∃ j : Nat, j ≤ 5 ∧ i = .int .i64 j ∧ B2 w wx (.slice (some ⟨b, off, none⟩) ni ci) (.slice af nf cf) v ((putN xs.length ++ sbIs (xs.take k)) ++ nums (([x.1, x.2.1, x.2.2.1, x.2.2.2.1, x.2.2.2.2.1] : List Int).take j)) ∧ wx.heap[wr.heap.size]? = some (.cells #[.int .i64 x.2.1, .int .i64 x.2.2.1, .int .i64 x.2.2.2.1, .int .i64 x.2.2.2.2.1, .string x.2.2.2.2.2] 99 (0, 0)) ∧ wx.heap[wr.heap.size + 1]? = some (.cells #[.int .i64 x.1, .int .i64 x.2.1, .int .i64 x.2.2.1, .int .i64 x.2.2.2.1, .int .i64 x.2.2.2.2.1] 3 (0, 0))) (fun _ i _ => 5 - (intOf i).toNat)
      case atStart => exact ⟨0, by omega, rfl, by simpa [nums] using unhide JU, unhide KEU, unhide KLU⟩
      case round =>
        rename_i wo _
        clear JU KEU KLU
        obtain ⟨j, hj, rfl, hJ, he, hl⟩ := hrel
        have HJ := hide hJ
        have KE := hide he
        have KL := hide hl
        have hszj := hJ.bel.size
        have hn5 : (nums (([x.1, x.2.1, x.2.2.1, x.2.2.2.1, x.2.2.2.2.1] : List Int).take j)).length ≤ 25 := by
          have h1 := nums_len (([x.1, x.2.1, x.2.2.1, x.2.2.2.1, x.2.2.2.2.1] : List Int).take j)
          have h2 : (([x.1, x.2.1, x.2.2.1, x.2.2.2.1, x.2.2.2.2.1] : List Int).take j).length ≤ 5 := by simp; omega
          omega
        by_cases hlj : j < 5
        · obtain ⟨z, b', off', hz, hp, hb', -, cz⟩ := (rwN_blk (ns := [x.1, x.2.1, x.2.2.1, x.2.2.2.1, x.2.2.2.2.1]) hl).atN (i := j) hlj
          simp only [Option.some.injEq, Addr.mk.injEq, and_true] at hp
          obtain ⟨rfl, rfl⟩ := hp
          rw [Nat.zero_add] at cz
          have hfz := fit5 (a := x.1) (b := x.2.1) (c := x.2.2.1) (d := x.2.2.2.1) (e := x.2.2.2.2.1) (by omega) (by omega) (by omega) (by omega) (by omega) j z hz
          have HZ := hide (nums_take hz)
          clear hz hJ he hl
          obtain ⟨f1, f2⟩ := hfz
          go_wp2_with fail
          refine (sputnum_any z _ f1 f2).mono ?_
          rintro e w3 ⟨v3, rfl, o3, b3⟩
          have J3' := hide ((unhide HJ).later b3)
          have KE3 := hide ((b3.block _ (Array.getElem?_eq_some_iff.1 (unhide KE)).1).trans (unhide KE))
          have KL3 := hide ((b3.block _ (Array.getElem?_eq_some_iff.1 (unhide KL)).1).trans (unhide KL))
          have O3 := hide o3
          have hsz3 := (unhide J3').bel.size
          have hl3 : ((putN xs.length ++ sbIs (xs.take k)) ++ nums (([x.1, x.2.1, x.2.2.1, x.2.2.2.1, x.2.2.2.2.1] : List Int).take j)).length + (putN z).length ≤ 100000000 := by
            have := putN_length z
            rw [List.length_append]; omega
          have HP : Hid (((putN xs.length ++ sbIs (xs.take k)) ++ nums (([x.1, x.2.1, x.2.2.1, x.2.2.2.1, x.2.2.2.2.1] : List Int).take j)) ++ putN z = (putN xs.length ++ sbIs (xs.take k)) ++ nums (([x.1, x.2.1, x.2.2.1, x.2.2.2.1, x.2.2.2.2.1] : List Int).take (j + 1))) := hide (by
            rw [unhide HZ]; simp only [List.append_assoc])
          clear o3 b3 HJ KE KL cz
          go_wp2_with (at_builtin; refine wpList_appB _ rfl _ _ rfl w.heap.size _ _ rfl (unhide J3').ob _ _ _ rfl (unhide O3) hl3 hsz3 ?_; intro v4 w4 hO hG; have KE4 := hide ((unhide J3').keep hG (unhide KE3) (by decide)); have KL4 := hide ((unhide J3').keep hG (unhide KL3) (by decide)); have J4 := hide ((unhide J3').app hO hG); clear hO hG)
          go_roundw
          case rel => exact ⟨j + 1, by omega, by go_num, by rw [← unhide HP]; exact unhide J4, unhide KE4, unhide KL4⟩
          case measure => simp [intOf]; omega
        · have e5 : ([x.1, x.2.1, x.2.2.1, x.2.2.2.1, x.2.2.2.2.1] : List Int).take j = [x.1, x.2.1, x.2.2.1, x.2.2.2.1, x.2.2.2.2.1] := List.take_of_length_le (by simp; omega)
          rw [e5] at hJ hn5
          replace HJ := hide hJ
          obtain ⟨e0, e1, e2, e3, e4, -⟩ := blk_cells5 he
          have ze := (Array.getElem?_eq_some_iff.1 he).1
          clear hJ hl he KL e5
          go_wp2_with fail
          refine (sputtext_any x.2.2.2.2.2 _ (by omega)).mono ?_
          rintro e w5 ⟨v5, rfl, o5, b5⟩
          have J5 := hide ((unhide HJ).later b5)
          have O5 := hide o5
          have hsz5 := (unhide J5).bel.size
          have hl5 : ((putN xs.length ++ sbIs (xs.take k)) ++ nums [x.1, x.2.1, x.2.2.1, x.2.2.2.1, x.2.2.2.2.1]).length + (putT (bl x.2.2.2.2.2)).length ≤ 100000000 := by
            have h1 := putT_len (bl x.2.2.2.2.2)
            rw [bl_length] at h1
            rw [List.length_append]; omega
          have HP : Hid (((putN xs.length ++ sbIs (xs.take k)) ++ nums [x.1, x.2.1, x.2.2.1, x.2.2.2.1, x.2.2.2.2.1]) ++ putT (bl x.2.2.2.2.2) = putN xs.length ++ sbIs (xs.take (k + 1))) := hide (by
            rw [sbIs_take (unhide HX1), sbI]; simp only [List.append_assoc])
          clear e0 e1 e2 e3 e4 b5 o5 HJ KE
          go_wp2_with (at_builtin; refine wpList_appB _ rfl _ _ rfl w.heap.size _ _ rfl (unhide J5).ob _ _ _ rfl (unhide O5) hl5 hsz5 ?_; intro v6 w6 hO hG; have J6 := hide ((unhide J5).app hO hG); clear hO hG)
          go_roundw
          case rel => exact ⟨k + 1, by omega, by go_num, by rw [← unhide HP]; exact unhide J6⟩
          case measure => simp [intOf]; omega
    · have HT : Hid (putN xs.length ++ sbIs (xs.take k) = putN xs.length ++ sbIs xs) := hide (by rw [List.take_of_length_le (by have := unhide HNI; omega)])
      rw [unhide HT] at hL hJ
      replace HJ := hide hJ
      clear hJ HT
      go_wp2_with fail
      refine (sputnum_any (nf : Int) _ (by omega) (by omega)).mono ?_
      rintro e w3 ⟨v3, rfl, o3, b3⟩
      have J3' := hide ((unhide HJ).later b3)
      have O3 : Hid (OwB wr.heap.size w3 v3 (putN fs.length)) := hide (by
        have e : putN (nf : Int) = putN fs.length := by rw [unhide HNF]
        rw [e] at o3; exact o3)
      have hsz3 := (unhide J3').bel.size
      have hl3 : (putN xs.length ++ sbIs xs).length + (putN fs.length).length ≤ 100000000 := by have := putN_length fs.length; omega
      clear o3 b3 HJ p0 p1
      go_wp2_with (at_builtin; refine wpList_appB _ rfl _ _ rfl w.heap.size _ _ rfl (unhide J3').ob _ _ _ rfl (unhide O3) hl3 hsz3 ?_; intro v4 w4 hO hG; have J4 := hide ((unhide J3').app hO hG); clear hO hG)
      go_loopw [3, 8] (fun v i wr => ∃ k : Nat, k ≤ nf ∧ i = .int .i64 k ∧ B2 w wr (.slice ai ni ci) (.slice af nf cf) v ((putN xs.length ++ sbIs xs) ++ putN fs.length ++ sbFs (fs.take k))) (fun _ i _ => nf - (intOf i).toNat)
      case atStart => exact ⟨0, by omega, rfl, by simpa [sbFs] using unhide J4⟩
      case round =>
        clear J4 J3' O3 hl3 hsz3 hsz hlt0
        obtain ⟨k, hk, rfl, hJ⟩ := hrel
        have HJ := hide hJ
        have hsz := hJ.bel.size
        have hlt0 := hJ.lt
        have hM : ((putN xs.length ++ sbIs xs) ++ putN fs.length ++ sbFs (fs.take k)).length ≤ 2000 := by
          have h1 := putN_length fs.length
          have h2 := sbFs_len (fs.take k)
          have h3 : (fs.take k).length ≤ k := by simp; omega
          rw [List.length_append, List.length_append]; omega
        obtain ⟨p0, p1, -⟩ := blk_cells2 hJ.ka
        by_cases hlt : k < nf
        · obtain ⟨x, b, off, hx, rfl, hb, hcap, hc⟩ := ((unhide HF).later hJ.bel).at hlt
          have c0 : wr.cell? ⟨b, off + k * 2, none⟩ = some (.int .i64 x.1) := hc 0 (by omega)
          have c1 : wr.cell? ⟨b, off + k * 2 + 1, none⟩ = some (.int .i64 x.2) := hc 1 (by omega)
          obtain ⟨i1, i2, i3, i4⟩ := (unhide HA).jf x (List.mem_of_getElem? hx)
          have HX1 := hide hx
          have HC := hide hc
          clear hx hc hJ
          go_wp2_with fail
          refine (sputnum_any x.1 _ (by omega) (by omega)).mono ?_
          rintro e w3 ⟨v3, rfl, o3, b3⟩
          have J3' := hide ((unhide HJ).later b3)
          have O3 := hide o3
          have hsz3 := (unhide J3').bel.size
          have hl3 : ((putN xs.length ++ sbIs xs) ++ putN fs.length ++ sbFs (fs.take k)).length + (putN x.1).length ≤ 100000000 := by
            have := putN_length x.1
            omega
          clear c0 c1 p0 p1 b3 o3 HJ
          go_upto_region 17 with (at_builtin; refine wpList_appB _ rfl _ _ rfl w.heap.size _ _ rfl (unhide J3').ob _ _ _ rfl (unhide O3) hl3 hsz3 ?_; intro v4 w4 hO hG; have J4 := hide ((unhide J3').app hO hG); clear hO hG)
          obtain ⟨p0, p1, -⟩ := blk_cells2 (unhide J4).ka
          have hlt4 := (unhide J4).lt
          have hc4 : _ := ((unhide HF).later (unhide J4).bel).at hlt
          clear J3' O3
          obtain ⟨x', b', off', hx', hp', hb4, -, hc4⟩ := hc4
          simp only [Option.some.injEq, Addr.mk.injEq, and_true] at hp'
          obtain ⟨rfl, rfl⟩ := hp'
          obtain rfl : x = x' := Option.some.inj ((unhide HX1).symm.trans hx')
          have c0 : w4.cell? ⟨b, off + k * 2, none⟩ = some (.int .i64 x.1) := hc4 0 (by omega)
          have c1 : w4.cell? ⟨b, off + k * 2 + 1, none⟩ = some (.int .i64 x.2) := hc4 1 (by omega)
          clear hc4 hx'
          go_wp2_with fail
          refine (sputnum_any x.2 _ (by omega) (by omega)).mono ?_
          rintro e w5 ⟨v5, rfl, o5, b5⟩
          have J5 := hide ((unhide J4).later b5)
          have O5 := hide o5
          have hsz5 := (unhide J5).bel.size
          have hl5 : (((putN xs.length ++ sbIs xs) ++ putN fs.length ++ sbFs (fs.take k)) ++ putN x.1).length + (putN x.2).length ≤ 100000000 := by
            have := putN_length x.1
            have := putN_length x.2
            rw [List.length_append]; omega
          have HP : Hid ((((putN xs.length ++ sbIs xs) ++ putN fs.length ++ sbFs (fs.take k)) ++ putN x.1) ++ putN x.2 = (putN xs.length ++ sbIs xs) ++ putN fs.length ++ sbFs (fs.take (k + 1))) := hide (by
            rw [sbFs_take (unhide HX1), sbF, nums_cons, nums_one]; simp only [List.append_assoc])
          clear c0 c1 p0 p1 b5 o5 J4
          go_wp2_with (at_builtin; refine wpList_appB _ rfl _ _ rfl w.heap.size _ _ rfl (unhide J5).ob _ _ _ rfl (unhide O5) hl5 hsz5 ?_; intro v6 w6 hO hG; have J6 := hide ((unhide J5).app hO hG); clear hO hG)
          go_roundw
          case rel => exact ⟨k + 1, by omega, by go_num, by rw [← unhide HP]; exact unhide J6⟩
          case measure => simp [intOf]; omega
        · have HT : Hid ((putN xs.length ++ sbIs xs) ++ putN fs.length ++ sbFs (fs.take k) = sb xs fs) := hide (by rw [sb, List.take_of_length_le (by have := unhide HNF; omega), List.append_assoc])
          clear hJ
          go_wp2
          go_ret
          exact ⟨_, rfl, by rw [← unhide HT]; exact (unhide HJ).ob, (unhide HJ).bel⟩
--@end
end Go.Proofs.Ytdpaocikmijioaf

namespace Go.Proofs.Ytdpaocikmijioaf
open Go.RowKit

theorem lsm_in {xs : List Itm} {fs : List Flr} {k : Int} (h : okS xs fs = true) (hk : inB k 0 3 = true) : lsm xs fs k = crcOf (sb (slI [k] xs) (slF [k] fs)) % 1024 := by rw [lsm, h, hk]; rfl
theorem lsm_out {xs : List Itm} {fs : List Flr} {k : Int} {a b : Bool} (h : okS xs fs = a) (hk : inB k 0 3 = b) (hab : (a && b) = false) : lsm xs fs k = 0 := by rw [lsm, h, hk, hab]; rfl

set_option maxHeartbeats 4000000 in
set_option maxRecDepth 100000 in
theorem ileafsum_any (ai : Option Addr) (ni ci : Nat) (xs : List Itm) (af : Option Addr) (nf cf : Nat) (fs : List Flr) (leaf l : Int) (hl : Hid (lsm xs fs leaf = l)) (w : World)
    (hni : ni ≤ 140737488351232) (hnf : nf ≤ 140737488351232) (hx : Rw encI 6 w (.slice ai ni ci) xs) (hf : Rw encF 2 w (.slice af nf cf) fs) :
    Calls Try.prog 49 #[.agg #[.slice ai ni ci, .slice af nf cf], .int .i64 leaf] w fun e w' => e = .returned (.int .i64 l) ∧ Below w.heap.size w w' := by
  obtain ⟨k1, HK1⟩ : ∃ k, Hid (okS xs fs = k) := ⟨_, hide rfl⟩
  obtain ⟨k2, HK2⟩ : ∃ k, Hid (inB leaf 0 3 = k) := ⟨_, hide rfl⟩
  have HX := hide hx
  have HF := hide hf
  clear hx hf
  go_enter Try.func49, Try.ntmps49
  go_wp2_with fail
  have bW : Below w.heap.size w (w.alloc (.cells #[.slice ai ni ci, .slice af nf cf] 37)) := (Below.refl w.heap.size w).alloc (Nat.le_refl _) _
  refine (istateok_any ai ni ci xs af nf cf fs _ HK1 _ hni hnf ((unhide HX).later bW) ((unhide HF).later bW)).mono ?_
  rintro e w1 ⟨rfl, b1⟩
  have CV : Hid (B2 w w1 (.slice ai ni ci) (.slice af nf cf) (.slice none 0 0) []) := hide ⟨bW.trans (b1.mono (by simp)), (b1.block _ (by simp)).trans (newB1 w _), OwB.nil _ _⟩
  have z1 := (unhide CV).lt
  have y1 := (unhide CV).bel.size
  clear b1 bW
  cases k1
  · obtain rfl : l = 0 := by rw [← unhide hl]; exact lsm_out (unhide HK1) (unhide HK2) rfl
    go_wp2
    go_ret
    exact ⟨rfl, (unhide CV).bel⟩
  · go_wp2_with fail
    refine (within_is leaf 0 3 k2 (unhide HK2) _).mono ?_
    rintro e _ ⟨rfl, rfl⟩
    cases k2
    · obtain rfl : l = 0 := by rw [← unhide hl]; exact lsm_out (unhide HK1) (unhide HK2) rfl
      go_wp2
      go_ret
      exact ⟨rfl, (unhide CV).bel⟩
    · have OA := (okS_iff _ _).1 (unhide HK1)
      have HA := hide (OA.slice [leaf])
      have HE : Hid (sbS (slI [leaf] xs) (slF [leaf] fs) = sb (slI [leaf] xs) (slF [leaf] fs)) := hide (by rw [sbS, if_pos ((okS_iff _ _).2 (unhide HA))])
      have HLQ : Hid (crcOf (sb (slI [leaf] xs) (slF [leaf] fs)) % 1024 = l) := hide (by rw [← unhide hl, lsm_in (unhide HK1) (unhide HK2)])
      obtain ⟨n1, hn1⟩ : ∃ n, Hid ((scI true [leaf] xs).length = n) := ⟨_, hide rfl⟩
      obtain ⟨n2, hn2⟩ : ∃ n, Hid ((scF true [leaf] fs).length = n) := ⟨_, hide rfl⟩
      have n15 : n1 ≤ 5 := by have h1 := unhide hn1; have := (unhide HA).len5.1; have e : scI true [leaf] xs = slI [leaf] xs := rfl; rw [e] at h1; omega
      have n25 : n2 ≤ 5 := by have h1 := unhide hn2; have := (unhide HA).len5.2; have e : scF true [leaf] fs = slF [leaf] fs := rfl; rw [e] at h1; omega
      obtain ⟨i1, i2⟩ := inB_iff.1 (unhide HK2)
      obtain ⟨p0, p1, -⟩ := blk_cells2 (unhide CV).ka
      clear OA
      go_wp2_with fail
      have bN : Below w1.heap.size w1 (w1.alloc (.cells #[.int .i64 leaf] 3)) := (Below.refl _ _).alloc (Nat.le_refl _) _
      have CN := (unhide CV).later bN
      refine (islice_any ai ni ci xs af nf cf fs _ 1 1 [leaf] true HK1 n1 n2 hn1 hn2 _ hni hnf (by omega) ((unhide HX).later CN.bel) ((unhide HF).later CN.bel) (rwN_blk (ns := [leaf]) (newB1 w1 _))).mono ?_
      rintro e w2 ⟨a1, c1, a2, c2, rfl, o1, o2, b2⟩
      have RI := hide (o1.rw encI_len)
      have RF := hide (o2.rw encF_len)
      have HB2 := hide (CN.bel.trans (b2.mono (by simp; omega)))
      have y2 := (unhide HB2).size
      clear bN CN o1 o2 b2 p0 p1 CV
      go_wp2_with fail
      refine (ibytes_any a1 n1 c1 (slI [leaf] xs) a2 n2 c2 (slF [leaf] fs) true (hide ((okS_iff _ _).2 (unhide HA))) _ (by omega) (by omega) (unhide RI) (unhide RF)).mono ?_
      rintro e w3 ⟨v3, rfl, o3, b3⟩
      rw [unhide HE] at o3
      have S3 := hide (seg_of_owns o3)
      have HB3 := hide ((unhide HB2).trans (b3.mono y2))
      have hlb := sb_len (unhide HA)
      clear o3 b3 HB2 RI RF
      go_wp2_with fail
      refine (icrc_any v3 _ _ (by omega) (unhide S3)).mono ?_
      rintro e _ ⟨rfl, rfl⟩
      have q0 := crcOf_nonneg _ (sb_bytes (slI [leaf] xs) (slF [leaf] fs))
      have q1 := crcOf_range _ (sb_bytes (slI [leaf] xs) (slF [leaf] fs))
      clear S3 HE hlb
      generalize crcOf (sb (slI [leaf] xs) (slF [leaf] fs)) = c at q0 q1 HLQ ⊢
      go_wp2
      go_ret
      exact ⟨ret_int (unhide HLQ), unhide HB3⟩

set_option maxHeartbeats 4000000 in
set_option maxRecDepth 100000 in
theorem sleafsum_any (ai : Option Addr) (ni ci : Nat) (xs : List Itm) (af : Option Addr) (nf cf : Nat) (fs : List Flr) (leaf l : Int) (hl : Hid (lsm xs fs leaf = l)) (w : World)
    (hni : ni ≤ 140737488351232) (hnf : nf ≤ 140737488351232) (hx : Rw encI 6 w (.slice ai ni ci) xs) (hf : Rw encF 2 w (.slice af nf cf) fs) :
    Calls Try.prog 38 #[.agg #[.slice ai ni ci, .slice af nf cf], .int .i64 leaf] w fun e w' => e = .returned (.int .i64 l) ∧ Below w.heap.size w w' := by
  obtain ⟨k1, HK1⟩ : ∃ k, Hid (okS xs fs = k) := ⟨_, hide rfl⟩
  obtain ⟨k2, HK2⟩ : ∃ k, Hid (inB leaf 0 3 = k) := ⟨_, hide rfl⟩
  have hd2 : decide (0 ≤ leaf ∧ leaf ≤ 3) = k2 := by rw [← unhide HK2, inB, Bool.decide_and]
  have HX := hide hx
  have HF := hide hf
  clear hx hf
  go_enter Try.func38, Try.ntmps38
  go_wp2_with fail
  have bW : Below w.heap.size w (w.alloc (.cells #[.slice ai ni ci, .slice af nf cf] 37)) := (Below.refl w.heap.size w).alloc (Nat.le_refl _) _
  refine (sstateok_any ai ni ci xs af nf cf fs _ HK1 _ hni hnf ((unhide HX).later bW) ((unhide HF).later bW)).mono ?_
  rintro e w1 ⟨rfl, b1⟩
  have CV : Hid (B2 w w1 (.slice ai ni ci) (.slice af nf cf) (.slice none 0 0) []) := hide ⟨bW.trans (b1.mono (by simp)), (b1.block _ (by simp)).trans (newB1 w _), OwB.nil _ _⟩
  have z1 := (unhide CV).lt
  have y1 := (unhide CV).bel.size
  clear b1 bW
  cases k1
  · obtain rfl : l = 0 := by rw [← unhide hl]; exact lsm_out (unhide HK1) (unhide HK2) rfl
    go_wp2
    go_ret
    exact ⟨rfl, (unhide CV).bel⟩
  · go_wp2_with fail
    refine (l1in_any leaf 0 3 _).mono ?_
    rintro e _ ⟨rfl, rfl⟩
    rw [hd2]
    clear hd2
    cases k2
    · obtain rfl : l = 0 := by rw [← unhide hl]; exact lsm_out (unhide HK1) (unhide HK2) rfl
      go_wp2
      go_ret
      exact ⟨rfl, (unhide CV).bel⟩
    · have OA := (okS_iff _ _).1 (unhide HK1)
      have HA := hide (OA.slice [leaf])
      have m5 : ni ≤ 5 := by have := (unhide HX).len.1; have := OA.len5.1; omega
      have f5 : nf ≤ 5 := by have := (unhide HF).len.1; have := OA.len5.2; omega
      have HLQ : Hid (crcOf (sb (slI [leaf] xs) (slF [leaf] fs)) % 1024 = l) := hide (by rw [← unhide hl, lsm_in (unhide HK1) (unhide HK2)])
      obtain ⟨n1, hn1⟩ : ∃ n, Hid ((slI [leaf] xs).length = n) := ⟨_, hide rfl⟩
      obtain ⟨n2, hn2⟩ : ∃ n, Hid ((slF [leaf] fs).length = n) := ⟨_, hide rfl⟩
      obtain ⟨i1, i2⟩ := inB_iff.1 (unhide HK2)
      obtain ⟨p0, p1, -⟩ := blk_cells2 (unhide CV).ka
      clear OA
      go_wp2_with fail
      have bN : Below w1.heap.size w1 (w1.alloc (.cells #[.int .i64 leaf] 3)) := (Below.refl _ _).alloc (Nat.le_refl _) _
      have CN := (unhide CV).later bN
      refine (l6slice_any ai ni ci xs af nf cf fs _ 1 1 [leaf] n1 n2 hn1 hn2 _ m5 f5 (by omega) ((unhide HX).later CN.bel) ((unhide HF).later CN.bel) (rwN_blk (ns := [leaf]) (newB1 w1 _))).mono ?_
      rintro e w2 ⟨a1, c1, a2, c2, rfl, o1, o2, b2⟩
      have RI := hide (o1.rw encI_len)
      have RF := hide (o2.rw encF_len)
      have HB2 := hide (CN.bel.trans (b2.mono (by simp; omega)))
      have y2 := (unhide HB2).size
      clear bN CN o1 o2 b2 p0 p1 CV
      go_wp2_with fail
      refine (l6bytes_any a1 n1 c1 (slI [leaf] xs) a2 n2 c2 (slF [leaf] fs) HA _ (unhide RI) (unhide RF)).mono ?_
      rintro e w3 ⟨v3, rfl, o3, b3⟩
      have S3 := hide (seg_of_owns o3)
      have HB3 := hide ((unhide HB2).trans (b3.mono y2))
      have hlb := sb_len (unhide HA)
      clear o3 b3 HB2 RI RF
      go_wp2_with fail
      refine (scrc_any v3 _ _ (by omega) (unhide S3)).mono ?_
      rintro e _ ⟨rfl, rfl⟩
      have q0 := crcOf_nonneg _ (sb_bytes (slI [leaf] xs) (slF [leaf] fs))
      have q1 := crcOf_range _ (sb_bytes (slI [leaf] xs) (slF [leaf] fs))
      clear S3 hlb
      generalize crcOf (sb (slI [leaf] xs) (slF [leaf] fs)) = c at q0 q1 HLQ ⊢
      go_wp2
      go_ret
      exact ⟨ret_int (unhide HLQ), unhide HB3⟩
set_option maxHeartbeats 4000000 in
set_option maxRecDepth 100000 in
theorem l6root_any (a : Option Addr) (n c : Nat) (ns : List Int) (r : Int) (hr : Hid (rt ns = r)) (w : World) (hn : n ≤ 1000) (hfit : ∀ (k : Nat) (x : Int), ns[k]? = some x → -9223372036854775808 ≤ x ∧ x ≤ 9223372036854775807) (h : RwN w (.slice a n c) ns) :
    Calls Try.prog 40 #[.slice a n c] w fun e w' => e = .returned (.int .i64 r) ∧ Below w.heap.size w w' := by
  have HR := hide h
  have HF := hide hfit
  have hN := h.len.1
  have HN := hide hN
  clear h hfit hN
  go_enter Try.func40, Try.ntmps40
  go_wp2
  go_loopw [3, 4] (fun v i wr => ∃ k : Nat, k ≤ n ∧ i = .int .i64 k ∧ OwB w.heap.size wr v (nums (ns.take k)) ∧ Below w.heap.size w wr) (fun _ i _ => n - (intOf i).toNat)
  case atStart => exact ⟨0, by omega, rfl, World.ownsRow_made _ #[] 0 (Nat.le_refl _) (by simp [maxLen]) rfl, (Below.refl _ _).alloc (Nat.le_refl _) _⟩
  case round =>
    obtain ⟨k, hk, rfl, hown, hbel⟩ := hrel
    have HO := hide hown
    have HB := hide hbel
    have hsz := hbel.size
    clear hown
    by_cases hlt : k < n
    · obtain ⟨z, b, off, hz, rfl, hb, hcap, cz⟩ := ((unhide HR).later hbel).atN hlt
      obtain ⟨f1, f2⟩ := unhide HF k z hz
      have HZ := hide (nums_take hz)
      clear hz hbel
      go_wp2_with fail
      refine (sputnum_any z _ f1 f2).mono ?_
      rintro e w2 ⟨u, rfl, o2, b2⟩
      have HO2 := hide (owns_later (unhide HO) b2 (Nat.le_refl _))
      have HU := hide o2
      have HB2 := hide ((unhide HB).trans (b2.mono hsz))
      have hw2 := (unhide HB2).size
      have hl : (nums (ns.take k)).length + (putN z).length ≤ 100000000 := by
        have h1 := nums_len (ns.take k)
        have h2 := putN_length z
        have h3 : (ns.take k).length ≤ k := by simp; omega
        omega
      clear o2 b2 HO HB
      go_wp2_with (at_builtin; refine wpList_appB _ rfl _ _ rfl w.heap.size _ _ rfl (unhide HO2) _ _ _ rfl (unhide HU) hl hw2 ?_; intro v' w3 hO hG; have HO3 := hide hO; have HB3 := hide ((unhide HB2).grown hG hw2 (fun k hk => ((unhide HO2).lt k hk).1)); clear hO hG)
      go_roundw
      case rel => exact ⟨k + 1, by omega, by go_num, by rw [unhide HZ]; exact unhide HO3, unhide HB3⟩
      case measure => simp [intOf]; omega
    · have e0 : nums (ns.take k) = nums ns := by rw [List.take_of_length_le (by have := unhide HN; omega)]
      have S3 : Hid (Seg wr _ (nums ns)) := hide (by have := seg_of_owns (unhide HO); rw [e0] at this; exact this)
      have hlb : (nums ns).length ≤ 5000 := by have := nums_len ns; have := unhide HN; omega
      clear hbel e0
      go_wp2_with fail
      refine (scrc_any _ _ _ (by omega) (unhide S3)).mono ?_
      rintro e _ ⟨rfl, rfl⟩
      have q0 := crcOf_nonneg _ (nums_bytes ns)
      have q1 := crcOf_range _ (nums_bytes ns)
      have HLQ : Hid (crcOf (nums ns) % 1024 = r) := hr
      clear S3 hlb hr
      generalize crcOf (nums ns) = c at q0 q1 HLQ ⊢
      go_wp2
      go_ret
      exact ⟨ret_int (unhide HLQ), unhide HB⟩
end Go.Proofs.Ytdpaocikmijioaf

namespace Go.Proofs.Ytdpaocikmijioaf
open Go.RowKit

abbrev SumB (a b c d : Int) : Obj := .cells #[.int .i64 a, .int .i64 b, .int .i64 c, .int .i64 d] 74 (0, 0)
abbrev TreB (v : Value) (r : Int) : Obj := .cells #[v, .int .i64 r] 31 (0, 0)
def Fit64 (a : Int) : Prop := -9223372036854775808 ≤ a ∧ a ≤ 9223372036854775807
theorem fit4 {a b c d : Int} (h1 : Fit64 a) (h2 : Fit64 b) (h3 : Fit64 c) (h4 : Fit64 d) : ∀ (k : Nat) (x : Int), [a, b, c, d][k]? = some x → -9223372036854775808 ≤ x ∧ x ≤ 9223372036854775807 := by
  intro k x hx
  have := List.mem_of_getElem? hx
  simp at this; rcases this with rfl | rfl | rfl | rfl <;> assumption
theorem icrc_v (v : Value) (xs : List Int) (c : Int) (hc : Hid (crcOf xs = c)) (w : World) (hlen : xs.length ≤ 281474976710656) (hv : Seg w v xs) :
    Calls Try.prog 86 #[v] w fun e w' => e = .returned (.int .i64 c) ∧ w = w' := by rw [← unhide hc]; exact icrc_any v xs w hlen hv
/-- A block of numbers, of whatever kind, that the call itself laid. -/
theorem owN_blk {w : World} {g base : Nat} {E : TypeId} {ns : List Int} (hb : base ≤ g) (hl : ns.length ≤ 1000000) (h : w.heap[g]? = some (.cells (ns.map (Value.int .i64)).toArray E (0, 0))) : Ow encN 1 E base w (.slice (some ⟨g, 0, none⟩) ns.length ns.length) ns :=
  ⟨by rw [flatN]; simp, .inr ⟨g, ns.length, _, rfl, hb, h, Nat.le_refl _, by unfold maxLen; omega, by simp, by rw [flatN]; simp [List.take_of_length_le]⟩⟩
theorem rwS_blk {w : World} {g : Nat} {E : TypeId} {ns : List Int} {fz : Nat × Nat} (h : w.heap[g]? = some (.cells (ns.map (Value.int .i64)).toArray E fz)) : RwN w (.slice (some ⟨g, 0, none⟩) ns.length ns.length) ns := by
  refine ⟨_, _, rfl, Nat.le_refl _, .inr ⟨g, 0, rfl, (Array.getElem?_eq_some_iff.1 h).1, fun i x hx j hj => ?_⟩⟩
  obtain rfl : j = 0 := by omega
  obtain ⟨hi, rfl⟩ := List.getElem?_eq_some_iff.1 hx
  simp only [World.cell?, h]
  simp [encN, hi]
/-- While a tree is made of its sums: the sums, the result's variable. -/
structure C9 (w W : World) (a b c d : Int) : Prop where
  bel : Below w.heap.size w W
  ka : W.heap[w.heap.size]? = some (SumB a b c d)
  kr : W.heap[w.heap.size + 1]? = some (TreB (.slice none 0 0) 0)
section
variable {w W Y : World} {a b c d : Int}
theorem C9.lt (h : C9 w W a b c d) : w.heap.size + 1 < W.heap.size := (Array.getElem?_eq_some_iff.1 h.kr).1
theorem C9.later (h : C9 w W a b c d) (k : Below W.heap.size W Y) : C9 w Y a b c d := by
  have := h.lt
  exact ⟨h.bel.trans (k.mono h.bel.size), (k.block _ (by omega)).trans h.ka, (k.block _ h.lt).trans h.kr⟩
theorem C9.drewH (h : Hid (C9 w W a b c d)) : Hid (C9 w W.drew a b c d) := hide ((unhide h).later ((Below.refl _ _).drew))
theorem C9.rw (h : C9 w W a b c d) : RwN W (.slice (some ⟨w.heap.size, 0, none⟩) 4 4) [a, b, c, d] := rwS_blk (ns := [a, b, c, d]) h.ka
theorem C9.bs (h : Hid (C9 w W a b c d)) (x y : Value) : Below w.heap.size w ((W.setCell ⟨w.heap.size + 1, 0, none⟩ x).setCell ⟨w.heap.size + 1, 1, none⟩ y) := ((unhide h).bel.setCell (p := ⟨w.heap.size + 1, 0, none⟩) (by simp) _).setCell (p := ⟨w.heap.size + 1, 1, none⟩) (by simp) _
end
theorem C9.new (w : World) (a b c d : Int) : C9 w ((w.alloc (SumB a b c d)).alloc (TreB (.slice none 0 0) 0)) a b c d :=
  ⟨((Below.refl w.heap.size w).alloc (Nat.le_refl _) _).alloc (by simp) _, lowB2 w _ _, newB2 w _ _⟩

set_option maxHeartbeats 4000000 in
set_option maxRecDepth 100000 in
theorem itreewith_any (a b c d r : Int) (hr : Hid (rt [a, b, c, d] = r)) (w : World) (h1 : Fit64 a) (h2 : Fit64 b) (h3 : Fit64 c) (h4 : Fit64 d) :
    Calls Try.prog 50 #[.agg #[.int .i64 a, .int .i64 b, .int .i64 c, .int .i64 d]] w fun e w' => ∃ a1 c1, e = .returned (.agg #[.slice a1 4 c1, .int .i64 r]) ∧ Ow encN 1 74 w.heap.size w' (.slice a1 4 c1) [a, b, c, d] ∧ Below w.heap.size w w' := by
  have HF := hide (fit4 h1 h2 h3 h4)
  have hlb : (nums [a, b, c, d]).length ≤ 20 := nums_len [a, b, c, d]
  have q0 := crcOf_nonneg _ (nums_bytes [a, b, c, d])
  have q1 := crcOf_range _ (nums_bytes [a, b, c, d])
  obtain ⟨cc, HC⟩ : ∃ cc, Hid (crcOf (nums [a, b, c, d]) = cc) := ⟨_, hide rfl⟩
  rw [unhide HC] at q0 q1
  obtain rfl : cc % 1024 = r := by rw [← unhide hr, ← unhide HC]; rfl
  have htm : cc.tmod 1024 = cc % 1024 := Int.tmod_eq_emod_of_nonneg q0
  have HT := hide htm
  clear h1 h2 h3 h4 hr htm
  go_enter Try.func50, Try.ntmps50
  go_wp2_with fail
  have CV0 := C9.new w a b c d
  obtain ⟨V, hV⟩ : ∃ V, V = (w.alloc (SumB a b c d)).alloc (TreB (.slice none 0 0) 0) := ⟨_, rfl⟩
  have CV : Hid (C9 w V a b c d) := hide (by rw [hV]; exact CV0)
  rw [← hV]
  clear hV CV0
  have CD := C9.drewH CV
  go_region_held3 (fun W => Below w.heap.size w W)
    (first | (with_reducible exact (unhide CV).bel) | (with_reducible exact (unhide CD).bel) | (with_reducible exact (unhide CA).bel) | (with_reducible exact C9.bs CA _ _))
    (first
      | (go_at_call 90; refine (iputnums_any _ 4 4 [a, b, c, d] _ (by omega) (unhide HF) (unhide CD).rw).mono ?_; rintro e w3 ⟨v3, rfl, o3, b3⟩; have CA := hide ((unhide CD).later b3); have S3 := hide (seg_of_owns o3); obtain ⟨p0, p1, pf⟩ := blk_cells2 (unhide CA).kr; have zA := (unhide CA).lt; clear o3 b3)
      | (go_at_call 86; refine (icrc_v v3 (nums [a, b, c, d]) cc HC _ (by omega) (unhide S3)).mono ?_; rintro e _ ⟨rfl, rfl⟩))
  all_goals go_wp2
  all_goals exact bodyPost_ret (v := .agg #[.slice (some ⟨w.heap.size, 0, none⟩) 4 4, .int .i64 (cc % 1024)]) (by simp [results, Try.results50, go_sem, p0, p1, unhide HT]) rfl ⟨_, _, rfl, owN_blk (ns := [a, b, c, d]) (Nat.le_refl _) (by simp) (by
    rw [heap_setCell_other _ _ _ _ (by show w.heap.size ≠ w.heap.size + 1; omega), heap_setCell_other _ _ _ _ (by show w.heap.size ≠ w.heap.size + 1; omega)]
    exact (unhide CA).ka), C9.bs CA _ _⟩

theorem fill4 (ls : List Int) (h : ls.length = 4) (k : Nat) (hk : k ≤ 4) : (ls.take k ++ List.replicate (4 - k) 0).length = 4 := by simp; omega
/-- A tree as it is told: its leaves are a row of the call's own. -/
def OwT (base : Nat) (w : World) (v : Value) (ns : List Int) : Prop := ∃ E : TypeId, Ow encN 1 E base w v ns

end Go.Proofs.Ytdpaocikmijioaf

namespace Go.Proofs.Ytdpaocikmijioaf
open Go.RowKit

def FitNs (ns : List Int) : Prop := ∀ (k : Nat) (x : Int), ns[k]? = some x → FitN x
section
variable {H : Type} {enc : TypeId × Value → H} {w : World} {base : Nat} {spare : Nat → Bool} {held : Bool}
theorem int_of_cells {fuel : Nat} {cs : List Value} {x : DataW H × List MemPlace} (h : DataW.trod enc Try.prog w base spare held fuel 3 cs = some x) : ∃ y : Int, cs = encN y ∧ FitN y := by
  obtain ⟨n0, e0, -, f0⟩ := DataW.trod_int Try.underlying3 h
  exact ⟨n0, by rw [e0]; rfl, fit_of f0⟩
set_option maxRecDepth 100000 in
theorem open_numrow {r : Reach} {b0 : Nat} {v : Value} {d : DataW H} {p : List MemPlace}
    (hv : Value.okWide Try.prog w r b0 22 v) (h : DataW.Trod enc Try.prog w base spare held 22 v d p) :
    ∃ a n c ns, v = .slice a n c ∧ n ≤ 9223372036854775807 ∧ RwN w (.slice a n c) ns ∧ FitNs ns := by
  obtain ⟨a0, l0, c0, rfl⟩ := Go.WideShapes.okWide_slice Try.underlying22 hv
  obtain ⟨fuel, hf⟩ := h
  obtain ⟨a, n, c, ns, e, l1, r1, q1⟩ := rw_of_slice (ec := encN) (k := 1) (Q := FitN) Try.underlying22 (by kernel_rfl) (by omega) (fun _ _ _ h => int_of_cells h) (c := .slice a0 l0 c0) (by simpa [Value.cells] using hf)
  unfold maxLen at l1
  exact ⟨a, n, c, ns, e, l1, r1, q1⟩
set_option maxRecDepth 100000 in
theorem open_tree {r : Reach} {b0 : Nat} {v : Value} {d : DataW H} {p : List MemPlace}
    (hv : Value.okWide Try.prog w r b0 24 v) (h : DataW.Trod enc Try.prog w base spare held 24 v d p) :
    ∃ a n c ns q, v = .agg #[.slice a n c, .int .i64 q] ∧ n ≤ 9223372036854775807 ∧ RwN w (.slice a n c) ns ∧ FitNs ns ∧ FitN q := by
  obtain ⟨cs, rfl, hsz⟩ := Go.WideShapes.okWide_struct Try.underlying24 hv
  have hs2 : cs.size = 2 := hsz.trans (by kernel_rfl)
  have c1 : Try.prog.cellsOf 22 = 1 := by kernel_rfl
  have c2 : Try.prog.cellsOf 3 = 1 := by kernel_rfl
  obtain ⟨l⟩ := cs
  match l, hs2 with
  | [v0, v1], _ =>
    obtain ⟨fuel, hf⟩ := h
    obtain ⟨xs, n, _, hx, hl, hlen, hfs⟩ := DataW.trod_struct Try.underlying24 hf
    have h0 : DataW.trod enc Try.prog w base spare held n 22 [v0] = xs[0]? := by
      have := hfs 0 _ rfl
      simpa [Value.cells, c1] using this
    have h1 : DataW.trod enc Try.prog w base spare held n 3 [v1] = xs[1]? := by
      have := hfs 1 _ rfl
      simpa [Value.cells, c1, c2] using this
    match xs, hlen with
    | [y0, y1], _ =>
      simp only [List.getElem?_cons_zero, List.getElem?_cons_succ] at h0 h1
      obtain ⟨a, n, c, ns, rfl, l1, r1, q1⟩ := rw_of_slice (ec := encN) (k := 1) (Q := FitN) Try.underlying22 (by kernel_rfl) (by omega) (fun _ _ _ h => int_of_cells h) h0
      obtain ⟨q, e1, f1⟩ := int_of_cells h1
      simp only [encN, List.cons.injEq, and_true] at e1
      subst e1
      unfold maxLen at l1
      exact ⟨a, n, c, ns, q, rfl, l1, r1, q1, f1⟩
end
theorem toints_v (a : Option Addr) (n c : Nat) (ns : List Int) (w : World) (hn : n ≤ 1073741824) (h : RwN w (.slice a n c) ns) :
    Calls Try.prog 41 #[.slice a n c] w fun e w' => ∃ a1 c1, e = .returned (.slice a1 n c1) ∧ OwN w.heap.size w' (.slice a1 n c1) ns ∧ Below w.heap.size w w' := by
  obtain rfl := h.len.1
  refine (toints_any _ ns w hn (segN_of h)).mono ?_
  rintro e w1 ⟨u, rfl, o, b⟩
  have o := ownN_iff.2 o
  obtain ⟨a1, c1, rfl⟩ := o.form
  exact ⟨a1, c1, rfl, o, b⟩
theorem eqints_v (a a1 : Option Addr) (n c c1 : Nat) (ns : List Int) (w : World) (hn : n ≤ 140737488351232) (h : RwN w (.slice a n c) ns) (h1 : RwN w (.slice a1 n c1) ns) :
    Calls Try.prog 51 #[.slice a n c, .slice a1 n c1] w fun e w' => e = .returned (.bool true) ∧ Below w.heap.size w w' := by
  obtain rfl := h.len.1
  refine (eqints_same _ _ ns w hn (segN_of h) (segN_of h1)).mono ?_
  rintro e w1 ⟨rfl, b⟩
  exact ⟨rfl, b _⟩
theorem markints_v {E : TypeId} (base : Nat) (a : Option Addr) (n c : Nat) (ns : List Int) (k : Int) (w : World) (hn : n ≤ 140737488351232) (hk0 : 0 ≤ k) (hk1 : k ≤ 140737488351232) (h : Ow encN 1 E base w (.slice a n c) ns) :
    Calls Try.prog 54 #[.slice a n c, .int .i64 k] w fun e w' => e = .returned (.int .i64 (k + n)) ∧ Ow encN 1 E base w' (.slice a n c) (markN k n) ∧ w.grownBy w' (Value.slice a n c).ownBlock := by
  obtain rfl := (h.rw encN_len).len.1
  refine (markN_any E base _ ns k ns.length w hn hk0 hk1 (ownN_iff.1 h)).mono ?_
  rintro e w1 ⟨rfl, o, b⟩
  exact ⟨rfl, ownN_iff.2 (by rw [markN_length]; exact o), b⟩
theorem heldints_v (a : Option Addr) (n c : Nat) (k : Int) (w : World) (hn : n ≤ 140737488351232) (hk0 : 0 ≤ k) (hk1 : k ≤ 140737488351232) (h : RwN w (.slice a n c) (markN k n)) :
    Calls Try.prog 57 #[.slice a n c, .int .i64 k] w fun e w' => e = .returned (.int .i64 (k + n)) ∧ w = w' :=
  heldN_any _ k n w hn hk0 hk1 (segN_of h)
end Go.Proofs.Ytdpaocikmijioaf

namespace Go.Proofs.Ytdpaocikmijioaf
open Go.RowKit

set_option maxHeartbeats 4000000 in
set_option maxRecDepth 100000 in
theorem totree_any (a : Option Addr) (n c : Nat) (ns : List Int) (q : Int) (w : World) (hn : n ≤ 1073741824) (h : RwN w (.slice a n c) ns) :
    Calls Try.prog 11 #[.agg #[.slice a n c, .int .i64 q]] w fun e w' => ∃ a1 c1, e = .returned (.agg #[.slice a1 n c1, .int .i64 q]) ∧ OwN w.heap.size w' (.slice a1 n c1) ns ∧ Below w.heap.size w w' := by
  have HR := hide h
  clear h
  go_enter Try.func11, Try.ntmps11
  go_wp2_with fail
  have bW : Below w.heap.size w (((w.alloc (.cells #[.slice a n c, .int .i64 q] 24)).alloc (TreB (.slice none 0 0) 0)).alloc (TreB (.slice none 0 0) 0)) := (((Below.refl w.heap.size w).alloc (Nat.le_refl _) _).alloc (by simp) _).alloc (by simp <;> omega) _
  refine (toints_v a n c ns _ hn ((unhide HR).later bW)).mono ?_
  rintro e w1 ⟨a1, c1, rfl, o1, b1⟩
  have BL := hide (bW.trans (b1.mono (by simp; omega)))
  have KA := hide ((b1.block w.heap.size (by simp; omega)).trans (lowB3 w _ _ _))
  have KR := hide ((b1.block (w.heap.size + 1) (by simp)).trans (midB3 w _ _ _))
  have KO := hide ((b1.block (w.heap.size + 1 + 1) (by simp)).trans (newB3 w _ _ _))
  have O1 := hide (Ow.base (base' := w.heap.size + 1 + 1 + 1) o1 (by simp))
  have z1 : w.heap.size + 1 + 1 < w1.heap.size := (Array.getElem?_eq_some_iff.1 (unhide KO)).1
  clear bW b1 o1
  obtain ⟨a0, a1', -⟩ := blk_cells2 (unhide KA)
  obtain ⟨r0, r1, rf⟩ := blk_cells2 (unhide KR)
  obtain ⟨t0, t1, tf⟩ := blk_cells2 (unhide KO)
  have zA : w.heap.size < w1.heap.size := by omega
  go_wp2
  exact bodyPost_ret (v := .agg #[.slice a1 n c1, .int .i64 q]) (by simp [results, Try.results11, go_sem, r0, r1]) rfl ⟨a1, c1, rfl, Ow.base (((((unhide O1).set ⟨w.heap.size + 1 + 1, 0, none⟩ (by simp) _).set ⟨w.heap.size + 1 + 1, 1, none⟩ (by simp) _).set ⟨w.heap.size + 1, 0, none⟩ (by simp <;> omega) _).set ⟨w.heap.size + 1, 1, none⟩ (by simp <;> omega) _) (by omega), ((((unhide BL).setCell (p := ⟨w.heap.size + 1 + 1, 0, none⟩) (by simp <;> omega) _).setCell (p := ⟨w.heap.size + 1 + 1, 1, none⟩) (by simp <;> omega) _).setCell (p := ⟨w.heap.size + 1, 0, none⟩) (by simp) _).setCell (p := ⟨w.heap.size + 1, 1, none⟩) (by simp) _⟩
set_option maxHeartbeats 4000000 in
set_option maxRecDepth 100000 in
theorem eqtree_same (a a1 : Option Addr) (n c c1 : Nat) (ns : List Int) (q : Int) (w : World) (hn : n ≤ 140737488351232) (h : RwN w (.slice a n c) ns) (h1 : RwN w (.slice a1 n c1) ns) :
    Calls Try.prog 14 #[.agg #[.slice a n c, .int .i64 q], .agg #[.slice a1 n c1, .int .i64 q]] w fun e w' => e = .returned (.bool true) ∧ Below w.heap.size w w' := by
  have HR := hide h
  have HR1 := hide h1
  have hne : (q != q) = false := by simp
  clear h h1
  go_enter Try.func14, Try.ntmps14
  go_wp2_with fail
  have bW : Below w.heap.size w ((w.alloc (TreB (.slice a n c) q)).alloc (TreB (.slice a1 n c1) q)) := ((Below.refl w.heap.size w).alloc (Nat.le_refl _) _).alloc (by simp) _
  refine (eqints_v a a1 n c c1 ns _ hn ((unhide HR).later bW) ((unhide HR1).later bW)).mono ?_
  rintro e w1 ⟨rfl, b1⟩
  have BL := hide (bW.trans (b1.mono (by simp <;> omega)))
  obtain ⟨a0, a1', -⟩ := blk_cells2 ((b1.block w.heap.size (by simp <;> omega)).trans (lowB2 w _ _))
  obtain ⟨r0, r1, -⟩ := blk_cells2 ((b1.block (w.heap.size + 1) (by simp)).trans (newB2 w _ _))
  have z1 : w.heap.size + 1 < w1.heap.size := by have := b1.size; simp at this; omega
  have zA : w.heap.size < w1.heap.size := by omega
  clear bW b1
  go_wp2
  go_ret
  exact ⟨rfl, unhide BL⟩
set_option maxHeartbeats 4000000 in
theorem marktree_v {E : TypeId} (base : Nat) (a : Option Addr) (n c : Nat) (ns : List Int) (q k : Int) (w : World) (hn : n ≤ 140737488351232) (hk0 : 0 ≤ k) (hk1 : k ≤ 140737488351232) (h : Ow encN 1 E base w (.slice a n c) ns) :
    Calls Try.prog 16 #[.agg #[.slice a n c, .int .i64 q], .int .i64 k] w fun e w' => e = .returned (.int .i64 (k + n)) ∧ Ow encN 1 E base w' (.slice a n c) (markN k n) ∧ w.grownBy w' (Value.slice a n c).ownBlock := by
  have HO := hide (World.ownsRow.alloc h (TreB (.slice a n c) q))
  clear h
  go_enter Try.func16, Try.ntmps16
  go_wp2_with fail
  refine (markints_v base a n c ns k _ hn hk0 hk1 (unhide HO)).mono ?_
  rintro e w1 ⟨rfl, o1, g1⟩
  have O1 := hide o1
  have G1 := hide (grown_on (World.grownBy_alloc w (TreB (.slice a n c) q) (Value.slice a n c).ownBlock) g1)
  clear o1 g1
  go_wp2
  go_ret
  exact ⟨rfl, unhide O1, unhide G1⟩
set_option maxHeartbeats 4000000 in
theorem heldtree_v (a : Option Addr) (n c : Nat) (q k : Int) (w : World) (hn : n ≤ 140737488351232) (hk0 : 0 ≤ k) (hk1 : k ≤ 140737488351232) (h : RwN w (.slice a n c) (markN k n)) :
    Calls Try.prog 18 #[.agg #[.slice a n c, .int .i64 q], .int .i64 k] w fun e w' => e = .returned (.int .i64 (k + n)) ∧ Below w.heap.size w w' := by
  have HR := hide (h.alloc (TreB (.slice a n c) q))
  have hd : decide (k + (n : Int) < 0) = false := by simp; omega
  clear h
  go_enter Try.func18, Try.ntmps18
  go_wp2_with fail
  refine (heldints_v a n c k _ hn hk0 hk1 (unhide HR)).mono ?_
  rintro e _ ⟨rfl, rfl⟩
  go_wp2
  go_ret
  exact ⟨rfl, (Below.refl _ _).alloc (Nat.le_refl _) _⟩
set_option maxHeartbeats 4000000 in
theorem sztree_any (a : Option Addr) (n c : Nat) (q left : Int) (w : World) (hn : n ≤ 9223372036854775807) (h0 : 0 ≤ left) (h1 : left ≤ 1048576) :
    Calls Try.prog 8 #[.agg #[.slice a n c, .int .i64 q], .int .i64 left] w fun e w' => ((e = .returned (.int .i64 (-1)) ∧ left < n) ∨ (e = .returned (.int .i64 (left - n)) ∧ (n : Int) ≤ left)) ∧ Below w.heap.size w w' := by
  have hsz : Calls Try.prog 32 #[.slice a n c, .int .i64 left] (w.alloc (.cells #[.slice a n c, .int .i64 q] 24)) fun e w' => e = .returned (.int .i64 (if left < n then -1 else left - n)) ∧ w.alloc (.cells #[.slice a n c, .int .i64 q] 24) = w' := by
    by_cases hl : left < n
    · have hd : decide (left - (n : Int) < 0) = true := by simp; omega
      rw [if_pos hl]
      go_enter Try.func32, Try.ntmps32
      go_wp2
      go_ret
      exact ⟨rfl, rfl⟩
    · have hd : decide (left - (n : Int) < 0) = false := by simp; omega
      rw [if_neg hl]
      go_enter Try.func32, Try.ntmps32
      go_wp2
      go_ret
      exact ⟨rfl, rfl⟩
  by_cases hl : left < n
  · rw [if_pos hl] at hsz
    go_enter Try.func8, Try.ntmps8
    go_wp2_with fail
    refine hsz.mono ?_
    rintro e _ ⟨rfl, rfl⟩
    clear hsz
    go_wp2
    go_ret
    exact ⟨.inl ⟨rfl, hl⟩, (Below.refl _ _).alloc (Nat.le_refl _) _⟩
  · rw [if_neg hl] at hsz
    have hd : decide (left - (n : Int) < 0) = false := by simp; omega
    go_enter Try.func8, Try.ntmps8
    go_wp2_with fail
    refine hsz.mono ?_
    rintro e _ ⟨rfl, rfl⟩
    clear hsz
    go_wp2
    go_ret
    exact ⟨.inr ⟨rfl, by omega⟩, (Below.refl _ _).alloc (Nat.le_refl _) _⟩
end Go.Proofs.Ytdpaocikmijioaf
