/-
  The program's PutText returns, in memory of its own, the bytes that 'putT' says, and turns nothing that was there. No statement is proved here.
  The specification's PutText returns, in memory of its own, the bytes that 'putT' says, and turns nothing that was there. No statement is proved here.
  Rows of bytes that are put together; numbers as bytes, one behind the other: the program's putNums. No statement is proved here.
  The bytes of a state: the program's. No statement is proved here.
  The bytes of a state: the specification's. No statement is proved here.
  The sum of a leaf, the program's and the specification's; the sum of a tree's leaves. No statement is proved here.
  Trees: the program's. No statement is proved here.
  A field of a struct that a call has told. No statement is proved here.
-/
import Derived.Test.YtdpaocikmijioabPutTP
import Derived.Test.YtdpaocikmijioabSPutNum
import Derived.Test.YtdpaocikmijioabAppAny
import Derived.Test.YtdpaocikmijioabStT
import Derived.Test.YtdpaocikmijioabStM
import Derived.Test.YtdpaocikmijioabApp2
import Derived.Test.YtdpaocikmijioabIStOk
import Derived.Test.YtdpaocikmijioabSt3
import Derived.Test.YtdpaocikmijioabSStOk
import Derived.Test.YtdpaocikmijioabStBx
namespace Go.Proofs.Ytdpaocikmijioab
open Go.RowKit

set_option maxHeartbeats 1000000 in
set_option maxRecDepth 100000 in
theorem iputtext_any (s : ByteArray) (w : World) (hs : s.size ≤ 1048576) :
    Calls Try.prog 87 #[.string s] w fun e w' => ∃ v, e = .returned v ∧ w'.ownsRow w.heap.size 5 1 v (putT (bl s)).length ((putT (bl s)).map (Value.int .u8)) ∧ Below w.heap.size w w' := by
  obtain ⟨i0, hi, hz0, hz1, hz2⟩ := info_parts Try.infoByte
  have hpl := putN_length s.size
  go_enter Try.func87, Try.ntmps87
  go_wp2_with fail
  refine (iputnum_any _ _ (by omega) (by omega)).mono ?_
  rintro e w1 ⟨v1, rfl, o1, b1⟩
  have O1 := hide o1
  have B1 := hide b1
  have hs1 := b1.size
  clear o1 b1
  go_wp2_with (at_builtin; refine Lib.wpList_append_own_string _ rfl _ _ 22 9 rfl w.heap.size 5 i0 Try.underlying22 Try.underlying9 hi hz0 hz1 hz2 _ _ _ rfl (unhide O1) s rfl ?c3 ?c4 ?c5 ?_)
  case c3 => unfold maxLen; omega
  case c4 => omega
  case c5 => omega
  intro v' w2 hown' hgrow _
  have R1 := hide (show w2.ownsRow w.heap.size 5 1 v' (putT (bl s)).length ((putT (bl s)).map (Value.int .u8)) by
    rw [strCells_bl] at hown'
    unfold putT
    rw [List.map_append, List.length_append, bl_length]
    exact hown')
  have R2 := hide ((unhide B1).grown hgrow hs1 (fun k hk => ((unhide O1).lt k hk).1))
  clear hown' hgrow O1 B1
  go_wp2
  go_ret
  exact ⟨_, rfl, R1.out, R2.out⟩

end Go.Proofs.Ytdpaocikmijioab

namespace Go.Proofs.Ytdpaocikmijioab
open Go.RowKit

end Go.Proofs.Ytdpaocikmijioab

namespace Go.Proofs.Ytdpaocikmijioab
open Go.RowKit

/-- A row of bytes that the call itself owns. -/
abbrev OwB (base : Nat) (w : World) (v : Value) (bs : List Int) : Prop := w.ownsRow base 5 1 v bs.length (bs.map (Value.int .u8))
theorem OwB.nil (base : Nat) (w : World) : OwB base w (.slice none 0 0) [] := World.ownsRow_nil _ _ _ _
theorem wpList_appB {ops : Array Oper} {rest : List Oper} {o : Oper} {a : Act} {Q : Exit → Act → World → Prop} (w : World) (hgd : o.guard = none) (s x : Operand)
    (ho : o.op = .call { callee := .builtin .append, args := #[s, x], argTypes := #[22, 22] })
    (base : Nat) (v : Value) (xs : List Int) (hs : a.eval s = v) (hown : OwB base w v xs) (B' : Nat) (u : Value) (ys : List Int) (hx : a.eval x = u) (hu : OwB B' w u ys) (hl : xs.length + ys.length ≤ 100000000) (hbase : base ≤ w.heap.size)
    (h : ∀ v' w', OwB base w' v' (xs ++ ys) → w.grownBy w' v.ownBlock → wpList Try.prog ops Q rest (a.put o.dst v') w') : wpList Try.prog ops Q (o :: rest) a w := by
  obtain ⟨i0, hi, hz0, hz1, hz2⟩ := info_parts Try.infoByte
  refine wpList_append_any w hgd s x 22 ho base 5 i0 (.int .u8 0) 1 Try.underlying22 hi hz0 hz1 hz2 rfl v xs.length (xs.map (Value.int .u8)) hs hown B' u ys.length (ys.map (Value.int .u8)) hx hu (ints_oneCell _ _) (by unfold maxLen; omega) (by omega) hbase (fun v' w' o1 g1 => h v' w' ?_ g1)
  unfold OwB
  rw [List.map_append, List.length_append]
  exact o1

set_option maxHeartbeats 2000000 in
set_option maxRecDepth 100000 in
theorem iputnums_any (a : Option Addr) (n c : Nat) (ns : List Int) (w : World) (hn : n ≤ 1000) (hfit : ∀ (k : Nat) (x : Int), ns[k]? = some x → -9223372036854775808 ≤ x ∧ x ≤ 9223372036854775807) (h : RwN w (.slice a n c) ns) :
    Calls Try.prog 86 #[.slice a n c] w fun e w' => ∃ v, e = .returned v ∧ OwB w.heap.size w' v (nums ns) ∧ Below w.heap.size w w' := by
  have HR := hide h
  have HF := hide hfit
  have hN := h.len.1
  have HN := hide hN
  clear h hfit hN
  go_enter Try.func86, Try.ntmps86
  go_wp2
  go_loopw [3, 8] (fun v i wr => ∃ k : Nat, k ≤ n ∧ i = .int .i64 k ∧ OwB w.heap.size wr v (nums (ns.take k)) ∧ Below w.heap.size w wr) (fun _ i _ => n - (intOf i).toNat)
  case atStart => exact ⟨0, by omega, rfl, OwB.nil _ _, Below.refl _ _⟩
  case round =>
    obtain ⟨k, hk, rfl, hown, hbel⟩ := hrel
    have HO := hide hown
    have HB := hide hbel
    have hsz := hbel.size
    clear hown
    by_cases hlt : k < n
    · obtain ⟨z, b, off, hz, rfl, hb, hcap, cz⟩ := ((unhide HR).later hbel).atN hlt
      obtain ⟨f1, f2⟩ := unhide HF k z hz
      have HZ := hide (nums_take hz)
      clear hz hbel
      go_wp2_with fail
      refine (iputnum_any z _ f1 f2).mono ?_
      rintro e w2 ⟨u, rfl, o2, b2⟩
      have HO2 := hide (owns_later (unhide HO) b2 (Nat.le_refl _))
      have HU := hide o2
      have HB2 := hide ((unhide HB).trans (b2.mono hsz))
      have hw2 := (unhide HB2).size
      have hl : (nums (ns.take k)).length + (putN z).length ≤ 100000000 := by
        have h1 := nums_len (ns.take k)
        have h2 := putN_length z
        have h3 : (ns.take k).length ≤ k := by simp; omega
        omega
      clear o2 b2 HO HB
      go_wp2_with (at_builtin; refine wpList_appB _ rfl _ _ rfl w.heap.size _ _ rfl (unhide HO2) _ _ _ rfl (unhide HU) hl hw2 ?_; intro v' w3 hO hG; have HO3 := hide hO; have HB3 := hide ((unhide HB2).grown hG hw2 (fun k hk => ((unhide HO2).lt k hk).1)); clear hO hG)
      go_roundw
      case rel => exact ⟨k + 1, by omega, by go_num, by rw [unhide HZ]; exact unhide HO3, unhide HB3⟩
      case measure => simp [intOf]; omega
    · have HT : Hid (nums (ns.take k) = nums ns) := hide (by rw [List.take_of_length_le (by have := unhide HN; omega)])
      clear hbel
      go_wp2
      go_ret
      exact ⟨_, rfl, by rw [← unhide HT]; exact unhide HO, unhide HB⟩
end Go.Proofs.Ytdpaocikmijioab

namespace Go.Proofs.Ytdpaocikmijioab
open Go.RowKit

theorem okE_fits {e : Key} (h : okE e.1 e.2.1 e.2.2.1 e.2.2.2.1 e.2.2.2.2 = true) : (0 ≤ e.1 ∧ e.1 ≤ 1000) ∧ (0 ≤ e.2.1 ∧ e.2.1 ≤ 1) ∧ (0 ≤ e.2.2.1 ∧ e.2.2.1 ≤ 100000) ∧ (0 ≤ e.2.2.2.1 ∧ e.2.2.2.1 ≤ 1000) ∧ (e.2.2.2.2.size : Int) ≤ 8 := by
  simp only [okE, Bool.and_eq_true, inB_iff, decide_eq_true_eq] at h
  obtain ⟨⟨⟨⟨a, b⟩, c⟩, d⟩, e⟩ := h
  exact ⟨⟨by omega, a.2⟩, b, c, d, e⟩
/-- A block of numbers, as it is laid for a call, reads as its numbers. -/
theorem rwN_blk {w : World} {g : Nat} {ns : List Int} {fz : Nat × Nat} (h : w.heap[g]? = some (.cells (ns.map (Value.int .i64)).toArray 3 fz)) : RwN w (.slice (some ⟨g, 0, none⟩) ns.length ns.length) ns := by
  refine ⟨_, _, rfl, Nat.le_refl _, .inr ⟨g, 0, rfl, (Array.getElem?_eq_some_iff.1 h).1, fun i x hx j hj => ?_⟩⟩
  obtain rfl : j = 0 := by omega
  obtain ⟨hi, rfl⟩ := List.getElem?_eq_some_iff.1 hx
  simp only [World.cell?, h]
  simp [encN, hi]
/-- While a state's bytes are made: the argument, what is made. -/
structure B2 (w X : World) (v1 v2 : Value) (v : Value) (bs : List Int) : Prop where
  bel : Below w.heap.size w X
  ka : X.heap[w.heap.size]? = some (.cells #[v1, v2] 27 (0, 0))
  ob : OwB w.heap.size X v bs
section
variable {w X Y : World} {v1 v2 v v' : Value} {bs cs : List Int}
theorem B2.lt (h : B2 w X v1 v2 v bs) : w.heap.size < X.heap.size := (Array.getElem?_eq_some_iff.1 h.ka).1
theorem B2.later (h : B2 w X v1 v2 v bs) (b : Below X.heap.size X Y) : B2 w Y v1 v2 v bs := by
  exact ⟨h.bel.trans (b.mono h.bel.size), (b.block _ h.lt).trans h.ka, owns_later h.ob b (Nat.le_refl _)⟩
theorem B2.app (h : B2 w X v1 v2 v bs) (ho : OwB w.heap.size Y v' cs) (hg : X.grownBy Y v.ownBlock) : B2 w Y v1 v2 v' cs :=
  ⟨h.bel.grown hg h.bel.size (fun k hk => (h.ob.lt k hk).1), (hg.block _ h.lt (fun q => own_ne h.ob h.ka (by decide) q.symm)).trans h.ka, ho⟩
/-- A block of another kind stays as it was. -/
theorem B2.keep (h : B2 w X v1 v2 v bs) (hg : X.grownBy Y v.ownBlock) {g : Nat} {zs : Array Value} {T : TypeId} {fz : Nat × Nat} (hk : X.heap[g]? = some (.cells zs T fz)) (hT : (5 : Nat) ≠ T) : Y.heap[g]? = some (.cells zs T fz) :=
  (hg.block _ (Array.getElem?_eq_some_iff.1 hk).1 (fun q => own_ne h.ob hk hT q.symm)).trans hk
end
theorem fit1 (a : Int) (h : -9223372036854775808 ≤ a ∧ a ≤ 9223372036854775807) : ∀ (k : Nat) (x : Int), [a][k]? = some x → -9223372036854775808 ≤ x ∧ x ≤ 9223372036854775807 := by
  intro k x hx
  have := List.mem_of_getElem? hx
  simp at this; subst this; exact h
theorem fit2 {a b : Int} (h1 : -9223372036854775808 ≤ a ∧ a ≤ 9223372036854775807) (h2 : -9223372036854775808 ≤ b ∧ b ≤ 9223372036854775807) : ∀ (k : Nat) (x : Int), [a, b][k]? = some x → -9223372036854775808 ≤ x ∧ x ≤ 9223372036854775807 := by
  intro k x hx
  have := List.mem_of_getElem? hx
  simp at this; rcases this with rfl | rfl <;> assumption
theorem fit5 {a b c d e : Int} (h1 : -9223372036854775808 ≤ a ∧ a ≤ 9223372036854775807) (h2 : -9223372036854775808 ≤ b ∧ b ≤ 9223372036854775807) (h3 : -9223372036854775808 ≤ c ∧ c ≤ 9223372036854775807) (h4 : -9223372036854775808 ≤ d ∧ d ≤ 9223372036854775807) (h5 : -9223372036854775808 ≤ e ∧ e ≤ 9223372036854775807) : ∀ (k : Nat) (x : Int), [a, b, c, d, e][k]? = some x → -9223372036854775808 ≤ x ∧ x ≤ 9223372036854775807 := by
  intro k x hx
  have := List.mem_of_getElem? hx
  simp at this; rcases this with rfl | rfl | rfl | rfl | rfl <;> assumption

set_option maxHeartbeats 8000000 in
set_option maxRecDepth 100000 in
theorem ibytes_any (ai : Option Addr) (ni ci : Nat) (xs : List Itm) (af : Option Addr) (nf cf : Nat) (fs : List Flr) (ok : Bool) (h0 : Hid (okS xs fs = ok)) (w : World)
    (hni : ni ≤ 140737488351232) (hnf : nf ≤ 140737488351232) (hx : Rw encI 6 w (.slice ai ni ci) xs) (hf : Rw encF 2 w (.slice af nf cf) fs) :
    Calls Try.prog 55 #[.agg #[.slice ai ni ci, .slice af nf cf]] w fun e w' => ∃ v, e = .returned v ∧ OwB w.heap.size w' v (sbS xs fs) ∧ Below w.heap.size w w' := by
  have HX := hide hx
  have HF := hide hf
  have HNI := hide hx.len.1
  have HNF := hide hf.len.1
  clear hx hf
  go_enter Try.func55, Try.ntmps55
  go_wp2_with fail
  have bW : Below w.heap.size w (w.alloc (.cells #[.slice ai ni ci, .slice af nf cf] 27)) := (Below.refl w.heap.size w).alloc (Nat.le_refl _) _
  refine (istateok_any ai ni ci xs af nf cf fs _ h0 _ hni hnf ((unhide HX).later bW) ((unhide HF).later bW)).mono ?_
  rintro e w1 ⟨rfl, b1⟩
  have CV : Hid (B2 w w1 (.slice ai ni ci) (.slice af nf cf) (.slice none 0 0) []) := hide ⟨bW.trans (b1.mono (by simp)), (b1.block _ (by simp)).trans (newB1 w _), OwB.nil _ _⟩
  have z1 := (unhide CV).lt
  clear b1 bW
  cases ok
  · have e0 : sbS xs fs = [] := by rw [sbS, unhide h0]; rfl
    go_wp2
    go_ret
    exact ⟨_, rfl, by rw [e0]; exact OwB.nil _ _, (unhide CV).bel⟩
  · have OA := (okS_iff _ _).1 (unhide h0)
    have HA := hide OA
    have m5 : ni ≤ 5 := by have := unhide HNI; have := OA.len5.1; omega
    have f5 : nf ≤ 5 := by have := unhide HNF; have := OA.len5.2; omega
    have HE : Hid (sbS xs fs = sb xs fs) := hide (by rw [sbS, unhide h0]; rfl)
    obtain ⟨p0, p1, -⟩ := blk_cells2 (unhide CV).ka
    clear OA h0
    go_wp2_with fail
    have R1 : RwN (w1.alloc (.cells #[.int .i64 (ni : Int)] 3)) (.slice (some ⟨w1.heap.size, 0, none⟩) 1 1) [(ni : Int)] := rwN_blk (ns := [(ni : Int)]) (newB1 w1 _)
    refine (iputnums_any _ 1 1 [(ni : Int)] _ (by omega) (fit1 _ (by omega)) R1).mono ?_
    rintro e w2 ⟨v2, rfl, o2, b2⟩
    have b2' := ((Below.refl w1.heap.size w1).alloc (Nat.le_refl _) (.cells #[.int .i64 (ni : Int)] 3)).trans (b2.mono (by simp))
    have J2' : Hid (B2 w w2 (.slice ai ni ci) (.slice af nf cf) v2 (putN xs.length)) := hide ⟨((unhide CV).later b2').bel, ((unhide CV).later b2').ka, by rw [nums_one, unhide HNI] at o2; exact owns_base o2 (by simp; omega)⟩
    clear o2 b2 b2' R1 CV p0 p1 z1
    obtain ⟨p0, p1, -⟩ := blk_cells2 (unhide J2').ka
    have z2 := (unhide J2').lt
    go_wp2
    go_loopw [3, 20] (fun v i wr => ∃ k : Nat, k ≤ ni ∧ i = .int .i64 k ∧ B2 w wr (.slice ai ni ci) (.slice af nf cf) v (putN xs.length ++ sbIs (xs.take k))) (fun _ i _ => ni - (intOf i).toNat)
    case atStart => exact ⟨0, by omega, rfl, by simpa [sbIs] using unhide J2'⟩
    case round =>
      clear J2' p0 p1 z2
      obtain ⟨k, hk, rfl, hJ⟩ := hrel
      have HJ := hide hJ
      have hsz := hJ.bel.size
      have hlt0 := hJ.lt
      have hL : (putN xs.length ++ sbIs (xs.take k)).length ≤ 1000 := by
        have h1 := putN_length xs.length
        have h2 := sbIs_len (xs := xs.take k) (fun x hx => (unhide HA).small x (List.mem_of_mem_take hx))
        have h3 : (xs.take k).length ≤ k := by simp; omega
        rw [List.length_append]; omega
      by_cases hlt : k < ni
      · obtain ⟨x, b, off, hx, rfl, hb, hcap, hc⟩ := ((unhide HX).later hJ.bel).at hlt
        obtain ⟨c0, c1, c2, c3, c4, c5⟩ := item_cells hc
        have hin := (unhide HA).ix x (List.mem_of_getElem? hx)
        obtain ⟨q1, q2, q3, q4, q5⟩ := okE_fits hin.2.2.1
        obtain ⟨i1, i2, -⟩ := hin
        have HX1 := hide hx
        clear hx hc hJ
        go_wp2_with fail
        have hW : Below wr.heap.size wr (((wr.alloc (.cells #[.int .i64 x.1, .int .i64 x.2.1, .int .i64 x.2.2.1, .int .i64 x.2.2.2.1, .int .i64 x.2.2.2.2.1, .string x.2.2.2.2.2] 42)).alloc (.cells #[.int .i64 x.2.1, .int .i64 x.2.2.1, .int .i64 x.2.2.2.1, .int .i64 x.2.2.2.2.1, .string x.2.2.2.2.2] 38)).alloc (.cells #[.int .i64 x.1, .int .i64 x.2.1, .int .i64 x.2.2.1, .int .i64 x.2.2.2.1, .int .i64 x.2.2.2.2.1] 3)) := ((((Below.refl wr.heap.size wr).alloc (Nat.le_refl _) _).alloc (by simp) _).alloc (by simp; omega) _)
        refine (iputnums_any _ 5 5 [x.1, x.2.1, x.2.2.1, x.2.2.2.1, x.2.2.2.2.1] _ (by omega) (fit5 (by omega) (by omega) (by omega) (by omega) (by omega)) (rwN_blk (ns := [x.1, x.2.1, x.2.2.1, x.2.2.2.1, x.2.2.2.2.1]) (newB3 wr _ _ _))).mono ?_
        rintro e w3 ⟨v3, rfl, o3, b3⟩
        have b3' := hW.trans (b3.mono (by simp; omega))
        have J3' := hide ((unhide HJ).later b3')
        have KE := hide ((b3.block (wr.heap.size + 1) (by simp)).trans (midB3 wr _ _ _))
        have O3 := hide o3
        have hsz3 := (unhide J3').bel.size
        have hn5 : (nums [x.1, x.2.1, x.2.2.1, x.2.2.2.1, x.2.2.2.2.1]).length ≤ 25 := nums_len [x.1, x.2.1, x.2.2.1, x.2.2.2.1, x.2.2.2.2.1]
        have hl3 : (putN xs.length ++ sbIs (xs.take k)).length + (nums [x.1, x.2.1, x.2.2.1, x.2.2.2.1, x.2.2.2.2.1]).length ≤ 100000000 := by
          omega
        clear c0 c1 c2 c3 c4 c5 b3 b3' hW o3 HJ
        have ze3 : wr.heap.size + 1 < w3.heap.size := (Array.getElem?_eq_some_iff.1 (unhide KE)).1
        obtain ⟨e0, e1, e2, e3, e4, -⟩ := blk_cells5 (unhide KE)
        have E4 := hide e4
        clear e0 e1 e2 e3 e4
        go_upto_region 9 with (at_builtin; refine wpList_appB _ rfl _ _ rfl w.heap.size _ _ rfl (unhide J3').ob _ _ _ rfl (unhide O3) hl3 hsz3 ?_; intro v4 w4 hO hG; have KE4 := hide ((unhide J3').keep hG (unhide KE) (by decide)); have J4 := hide ((unhide J3').app hO hG); clear hO hG)
        obtain ⟨e0, e1, e2, e3, e4, -⟩ := blk_cells5 (unhide KE4)
        have ze4 : wr.heap.size + 1 < w4.heap.size := (Array.getElem?_eq_some_iff.1 (unhide KE4)).1
        clear E4 KE J3' O3
        go_wp2_with fail
        refine (iputtext_any x.2.2.2.2.2 _ (by omega)).mono ?_
        rintro e w5 ⟨v5, rfl, o5, b5⟩
        have J5 := hide ((unhide J4).later b5)
        have O5 := hide o5
        have hsz5 := (unhide J5).bel.size
        have hl5 : ((putN xs.length ++ sbIs (xs.take k)) ++ nums [x.1, x.2.1, x.2.2.1, x.2.2.2.1, x.2.2.2.2.1]).length + (putT (bl x.2.2.2.2.2)).length ≤ 100000000 := by
          have h1 := putT_len (bl x.2.2.2.2.2)
          rw [bl_length] at h1
          rw [List.length_append]; omega
        have HP : Hid (((putN xs.length ++ sbIs (xs.take k)) ++ nums [x.1, x.2.1, x.2.2.1, x.2.2.2.1, x.2.2.2.2.1]) ++ putT (bl x.2.2.2.2.2) = putN xs.length ++ sbIs (xs.take (k + 1))) := hide (by
          rw [sbIs_take (unhide HX1), sbI]; simp only [List.append_assoc])
        clear e0 e1 e2 e3 e4 b5 o5 J4 KE4
        go_wp2_with (at_builtin; refine wpList_appB _ rfl _ _ rfl w.heap.size _ _ rfl (unhide J5).ob _ _ _ rfl (unhide O5) hl5 hsz5 ?_; intro v6 w6 hO hG; have J6 := hide ((unhide J5).app hO hG); clear hO hG)
        go_roundw
        case rel => exact ⟨k + 1, by omega, by go_num, by rw [← unhide HP]; exact unhide J6⟩
        case measure => simp [intOf]; omega
      · have HT : Hid (putN xs.length ++ sbIs (xs.take k) = putN xs.length ++ sbIs xs) := hide (by rw [List.take_of_length_le (by have := unhide HNI; omega)])
        rw [unhide HT] at hL hJ
        replace HJ := hide hJ
        clear hJ HT
        obtain ⟨p0, p1, -⟩ := blk_cells2 (unhide HJ).ka
        go_wp2_with fail
        have R1 : RwN (wr.alloc (.cells #[.int .i64 (nf : Int)] 3)) (.slice (some ⟨wr.heap.size, 0, none⟩) 1 1) [(nf : Int)] := rwN_blk (ns := [(nf : Int)]) (newB1 wr _)
        refine (iputnums_any _ 1 1 [(nf : Int)] _ (by omega) (fit1 _ (by omega)) R1).mono ?_
        rintro e w3 ⟨v3, rfl, o3, b3⟩
        have b3' := ((Below.refl wr.heap.size wr).alloc (Nat.le_refl _) (.cells #[.int .i64 (nf : Int)] 3)).trans (b3.mono (by simp))
        have J3' := hide ((unhide HJ).later b3')
        have O3 : Hid (OwB (wr.alloc (.cells #[.int .i64 (nf : Int)] 3)).heap.size w3 v3 (putN fs.length)) := hide (by
          have e : putN (nf : Int) = putN fs.length := by rw [unhide HNF]
          rw [nums_one, e] at o3; exact o3)
        have hsz3 := (unhide J3').bel.size
        have hl3 : (putN xs.length ++ sbIs xs).length + (putN fs.length).length ≤ 100000000 := by have := putN_length fs.length; omega
        clear o3 b3 b3' R1 HJ p0 p1
        obtain ⟨p0, p1, -⟩ := blk_cells2 (unhide J3').ka
        have P0 := hide p0
        have P1 := hide p1
        clear p0 p1
        go_upto_region 12 with (at_builtin; refine wpList_appB _ rfl _ _ rfl w.heap.size _ _ rfl (unhide J3').ob _ _ _ rfl (unhide O3) hl3 hsz3 ?_; intro v4 w4 hO hG; have J4 := hide ((unhide J3').app hO hG); clear hO hG)
        obtain ⟨p0, p1, -⟩ := blk_cells2 (unhide J4).ka
        have z4 := (unhide J4).lt
        clear P0 P1 J3' O3
        go_wp2
        go_loopw [3, 56] (fun v i wr => ∃ k : Nat, k ≤ nf ∧ i = .int .i64 k ∧ B2 w wr (.slice ai ni ci) (.slice af nf cf) v ((putN xs.length ++ sbIs xs) ++ putN fs.length ++ sbFs (fs.take k))) (fun _ i _ => nf - (intOf i).toNat)
        case atStart => exact ⟨0, by omega, rfl, by simpa [sbFs] using unhide J4⟩
        case round =>
          clear J4 p0 p1 z4 hl3 hsz3 hsz hlt0
          obtain ⟨k, hk, rfl, hJ⟩ := hrel
          have HJ := hide hJ
          have hsz := hJ.bel.size
          have hlt0 := hJ.lt
          have hM : ((putN xs.length ++ sbIs xs) ++ putN fs.length ++ sbFs (fs.take k)).length ≤ 2000 := by
            have h1 := putN_length fs.length
            have h2 := sbFs_len (fs.take k)
            have h3 : (fs.take k).length ≤ k := by simp; omega
            rw [List.length_append, List.length_append]; omega
          by_cases hlt : k < nf
          · obtain ⟨x, b, off, hx, rfl, hb, hcap, hc⟩ := ((unhide HF).later hJ.bel).at hlt
            have c0 : wr.cell? ⟨b, off + k * 2, none⟩ = some (.int .i64 x.1) := hc 0 (by omega)
            have c1 : wr.cell? ⟨b, off + k * 2 + 1, none⟩ = some (.int .i64 x.2) := hc 1 (by omega)
            obtain ⟨i1, i2, i3, i4⟩ := (unhide HA).jf x (List.mem_of_getElem? hx)
            have HX1 := hide hx
            clear hx hc hJ
            go_wp2_with fail
            have hW : Below wr.heap.size wr ((wr.alloc (.cells #[.int .i64 x.1, .int .i64 x.2] 35)).alloc (.cells #[.int .i64 x.1, .int .i64 x.2] 3)) := (((Below.refl wr.heap.size wr).alloc (Nat.le_refl _) _).alloc (by simp) _)
            refine (iputnums_any _ 2 2 [x.1, x.2] _ (by omega) (fit2 (by omega) (by omega)) (rwN_blk (ns := [x.1, x.2]) (newB2 wr _ _))).mono ?_
            rintro e w3 ⟨v3, rfl, o3, b3⟩
            have b3' := hW.trans (b3.mono (by simp; omega))
            have J3' := hide ((unhide HJ).later b3')
            have O3 := hide o3
            have hsz3 := (unhide J3').bel.size
            have hl3 : ((putN xs.length ++ sbIs xs) ++ putN fs.length ++ sbFs (fs.take k)).length + (nums [x.1, x.2]).length ≤ 100000000 := by
              have := nums_len [x.1, x.2]
              simp only [List.length_cons, List.length_nil] at this; omega
            have HP : Hid (((putN xs.length ++ sbIs xs) ++ putN fs.length ++ sbFs (fs.take k)) ++ nums [x.1, x.2] = (putN xs.length ++ sbIs xs) ++ putN fs.length ++ sbFs (fs.take (k + 1))) := hide (by
              rw [sbFs_take (unhide HX1), sbF]; simp only [List.append_assoc])
            clear c0 c1 b3 b3' hW o3 HJ
            go_wp2_with (at_builtin; refine wpList_appB _ rfl _ _ rfl w.heap.size _ _ rfl (unhide J3').ob _ _ _ rfl (unhide O3) hl3 hsz3 ?_; intro v6 w6 hO hG; have J6 := hide ((unhide J3').app hO hG); clear hO hG)
            go_roundw
            case rel => exact ⟨k + 1, by omega, by go_num, by rw [← unhide HP]; exact unhide J6⟩
            case measure => simp [intOf]; omega
          · have HT : Hid ((putN xs.length ++ sbIs xs) ++ putN fs.length ++ sbFs (fs.take k) = sbS xs fs) := hide (by rw [unhide HE, sb, List.take_of_length_le (by have := unhide HNF; omega), List.append_assoc])
            clear hJ
            go_wp2
            go_ret
            exact ⟨_, rfl, by rw [← unhide HT]; exact (unhide HJ).ob, (unhide HJ).bel⟩
end Go.Proofs.Ytdpaocikmijioab

namespace Go.Proofs.Ytdpaocikmijioab
open Go.RowKit

theorem keepL {V W : World} {b0 o0 b1 o1 g : Nat} {v0 v1 v2 v3 v4 v5 : Value} (h0 : b0 < V.heap.size) (h1 : b1 < V.heap.size) (h2 : g < V.heap.size)
    (c0 : V.cell? ⟨b0, o0, none⟩ = some v0) (c1 : V.cell? ⟨b1, o1, none⟩ = some v1) (c2 : V.cell? ⟨g, 0, none⟩ = some v2) (c3 : V.cell? ⟨g, 1, none⟩ = some v3) (c4 : V.cell? ⟨g, 2, none⟩ = some v4) (c5 : V.cell? ⟨g, 3, none⟩ = some v5) (hb : Below V.heap.size V W) :
    Below V.heap.size V W ∧ W.cell? ⟨b0, o0, none⟩ = some v0 ∧ W.cell? ⟨b1, o1, none⟩ = some v1 ∧ W.cell? ⟨g, 0, none⟩ = some v2 ∧ W.cell? ⟨g, 1, none⟩ = some v3 ∧ W.cell? ⟨g, 2, none⟩ = some v4 ∧ W.cell? ⟨g, 3, none⟩ = some v5 :=
  ⟨hb, (hb.cell (p := ⟨b0, o0, none⟩) h0).trans c0, (hb.cell (p := ⟨b1, o1, none⟩) h1).trans c1, (hb.cell (p := ⟨g, 0, none⟩) h2).trans c2, (hb.cell (p := ⟨g, 1, none⟩) h2).trans c3, (hb.cell (p := ⟨g, 2, none⟩) h2).trans c4, (hb.cell (p := ⟨g, 3, none⟩) h2).trans c5⟩
--@end
end Go.Proofs.Ytdpaocikmijioab

namespace Go.Proofs.Ytdpaocikmijioab
open Go.RowKit

theorem lsm_in {xs : List Itm} {fs : List Flr} {k : Int} (h : okS xs fs = true) (hk : inB k 0 3 = true) : lsm xs fs k = crcOf (sb (slI [k] xs) (slF [k] fs)) % 1024 := by rw [lsm, h, hk]; rfl
theorem lsm_out {xs : List Itm} {fs : List Flr} {k : Int} {a b : Bool} (h : okS xs fs = a) (hk : inB k 0 3 = b) (hab : (a && b) = false) : lsm xs fs k = 0 := by rw [lsm, h, hk, hab]; rfl

set_option maxHeartbeats 4000000 in
set_option maxRecDepth 100000 in
theorem ileafsum_any (ai : Option Addr) (ni ci : Nat) (xs : List Itm) (af : Option Addr) (nf cf : Nat) (fs : List Flr) (leaf l : Int) (hl : Hid (lsm xs fs leaf = l)) (w : World)
    (hni : ni ≤ 140737488351232) (hnf : nf ≤ 140737488351232) (hx : Rw encI 6 w (.slice ai ni ci) xs) (hf : Rw encF 2 w (.slice af nf cf) fs) :
    Calls Try.prog 19 #[.agg #[.slice ai ni ci, .slice af nf cf], .int .i64 leaf] w fun e w' => e = .returned (.int .i64 l) ∧ Below w.heap.size w w' := by
  obtain ⟨k1, HK1⟩ : ∃ k, Hid (okS xs fs = k) := ⟨_, hide rfl⟩
  obtain ⟨k2, HK2⟩ : ∃ k, Hid (inB leaf 0 3 = k) := ⟨_, hide rfl⟩
  have HX := hide hx
  have HF := hide hf
  clear hx hf
  go_enter Try.func19, Try.ntmps19
  go_wp2_with fail
  have bW : Below w.heap.size w (w.alloc (.cells #[.slice ai ni ci, .slice af nf cf] 27)) := (Below.refl w.heap.size w).alloc (Nat.le_refl _) _
  refine (istateok_any ai ni ci xs af nf cf fs _ HK1 _ hni hnf ((unhide HX).later bW) ((unhide HF).later bW)).mono ?_
  rintro e w1 ⟨rfl, b1⟩
  have CV : Hid (B2 w w1 (.slice ai ni ci) (.slice af nf cf) (.slice none 0 0) []) := hide ⟨bW.trans (b1.mono (by simp)), (b1.block _ (by simp)).trans (newB1 w _), OwB.nil _ _⟩
  have z1 := (unhide CV).lt
  have y1 := (unhide CV).bel.size
  clear b1 bW
  cases k1
  · obtain rfl : l = 0 := by rw [← unhide hl]; exact lsm_out (unhide HK1) (unhide HK2) rfl
    go_wp2
    go_ret
    exact ⟨rfl, (unhide CV).bel⟩
  · go_wp2_with fail
    refine (within_is leaf 0 3 k2 (unhide HK2) _).mono ?_
    rintro e _ ⟨rfl, rfl⟩
    cases k2
    · obtain rfl : l = 0 := by rw [← unhide hl]; exact lsm_out (unhide HK1) (unhide HK2) rfl
      go_wp2
      go_ret
      exact ⟨rfl, (unhide CV).bel⟩
    · have OA := (okS_iff _ _).1 (unhide HK1)
      have HA := hide (OA.slice [leaf])
      have HE : Hid (sbS (slI [leaf] xs) (slF [leaf] fs) = sb (slI [leaf] xs) (slF [leaf] fs)) := hide (by rw [sbS, if_pos ((okS_iff _ _).2 (unhide HA))])
      have HLQ : Hid (crcOf (sb (slI [leaf] xs) (slF [leaf] fs)) % 1024 = l) := hide (by rw [← unhide hl, lsm_in (unhide HK1) (unhide HK2)])
      obtain ⟨n1, hn1⟩ : ∃ n, Hid ((scI true [leaf] xs).length = n) := ⟨_, hide rfl⟩
      obtain ⟨n2, hn2⟩ : ∃ n, Hid ((scF true [leaf] fs).length = n) := ⟨_, hide rfl⟩
      have n15 : n1 ≤ 5 := by have h1 := unhide hn1; have := (unhide HA).len5.1; have e : scI true [leaf] xs = slI [leaf] xs := rfl; rw [e] at h1; omega
      have n25 : n2 ≤ 5 := by have h1 := unhide hn2; have := (unhide HA).len5.2; have e : scF true [leaf] fs = slF [leaf] fs := rfl; rw [e] at h1; omega
      obtain ⟨i1, i2⟩ := inB_iff.1 (unhide HK2)
      obtain ⟨p0, p1, -⟩ := blk_cells2 (unhide CV).ka
      clear OA
      go_wp2_with fail
      have bN : Below w1.heap.size w1 (w1.alloc (.cells #[.int .i64 leaf] 3)) := (Below.refl _ _).alloc (Nat.le_refl _) _
      have CN := (unhide CV).later bN
      refine (islice_any ai ni ci xs af nf cf fs _ 1 1 [leaf] true HK1 n1 n2 hn1 hn2 _ hni hnf (by omega) ((unhide HX).later CN.bel) ((unhide HF).later CN.bel) (rwN_blk (ns := [leaf]) (newB1 w1 _))).mono ?_
      rintro e w2 ⟨a1, c1, a2, c2, rfl, o1, o2, b2⟩
      have RI := hide (o1.rw encI_len)
      have RF := hide (o2.rw encF_len)
      have HB2 := hide (CN.bel.trans (b2.mono (by simp; omega)))
      have y2 := (unhide HB2).size
      clear bN CN o1 o2 b2 p0 p1 CV
      go_wp2_with fail
      refine (ibytes_any a1 n1 c1 (slI [leaf] xs) a2 n2 c2 (slF [leaf] fs) true (hide ((okS_iff _ _).2 (unhide HA))) _ (by omega) (by omega) (unhide RI) (unhide RF)).mono ?_
      rintro e w3 ⟨v3, rfl, o3, b3⟩
      rw [unhide HE] at o3
      have S3 := hide (seg_of_owns o3)
      have HB3 := hide ((unhide HB2).trans (b3.mono y2))
      have hlb := sb_len (unhide HA)
      clear o3 b3 HB2 RI RF
      go_wp2_with fail
      refine (icrc_any v3 _ _ (by omega) (unhide S3)).mono ?_
      rintro e _ ⟨rfl, rfl⟩
      have q0 := crcOf_nonneg _ (sb_bytes (slI [leaf] xs) (slF [leaf] fs))
      have q1 := crcOf_range _ (sb_bytes (slI [leaf] xs) (slF [leaf] fs))
      clear S3 HE hlb
      generalize crcOf (sb (slI [leaf] xs) (slF [leaf] fs)) = c at q0 q1 HLQ ⊢
      go_wp2
      go_ret
      exact ⟨ret_int (unhide HLQ), unhide HB3⟩

end Go.Proofs.Ytdpaocikmijioab

namespace Go.Proofs.Ytdpaocikmijioab
open Go.RowKit

abbrev SumB (a b c d : Int) : Obj := .cells #[.int .i64 a, .int .i64 b, .int .i64 c, .int .i64 d] 82 (0, 0)
abbrev TreB (v : Value) (r : Int) : Obj := .cells #[v, .int .i64 r] 47 (0, 0)
def Fit64 (a : Int) : Prop := -9223372036854775808 ≤ a ∧ a ≤ 9223372036854775807
theorem fit4 {a b c d : Int} (h1 : Fit64 a) (h2 : Fit64 b) (h3 : Fit64 c) (h4 : Fit64 d) : ∀ (k : Nat) (x : Int), [a, b, c, d][k]? = some x → -9223372036854775808 ≤ x ∧ x ≤ 9223372036854775807 := by
  intro k x hx
  have := List.mem_of_getElem? hx
  simp at this; rcases this with rfl | rfl | rfl | rfl <;> assumption
theorem icrc_v (v : Value) (xs : List Int) (c : Int) (hc : Hid (crcOf xs = c)) (w : World) (hlen : xs.length ≤ 281474976710656) (hv : Seg w v xs) :
    Calls Try.prog 47 #[v] w fun e w' => e = .returned (.int .i64 c) ∧ w = w' := by rw [← unhide hc]; exact icrc_any v xs w hlen hv
/-- A block of numbers, of whatever kind, that the call itself laid. -/
theorem owN_blk {w : World} {g base : Nat} {E : TypeId} {ns : List Int} (hb : base ≤ g) (hl : ns.length ≤ 1000000) (h : w.heap[g]? = some (.cells (ns.map (Value.int .i64)).toArray E (0, 0))) : Ow encN 1 E base w (.slice (some ⟨g, 0, none⟩) ns.length ns.length) ns :=
  ⟨by rw [flatN]; simp, .inr ⟨g, ns.length, _, rfl, hb, h, Nat.le_refl _, by unfold maxLen; omega, by simp, by rw [flatN]; simp [List.take_of_length_le]⟩⟩
theorem rwS_blk {w : World} {g : Nat} {E : TypeId} {ns : List Int} {fz : Nat × Nat} (h : w.heap[g]? = some (.cells (ns.map (Value.int .i64)).toArray E fz)) : RwN w (.slice (some ⟨g, 0, none⟩) ns.length ns.length) ns := by
  refine ⟨_, _, rfl, Nat.le_refl _, .inr ⟨g, 0, rfl, (Array.getElem?_eq_some_iff.1 h).1, fun i x hx j hj => ?_⟩⟩
  obtain rfl : j = 0 := by omega
  obtain ⟨hi, rfl⟩ := List.getElem?_eq_some_iff.1 hx
  simp only [World.cell?, h]
  simp [encN, hi]
/-- While a tree is made of its sums: the sums, the result's variable. -/
structure C9 (w W : World) (a b c d : Int) : Prop where
  bel : Below w.heap.size w W
  ka : W.heap[w.heap.size]? = some (SumB a b c d)
  kr : W.heap[w.heap.size + 1]? = some (TreB (.slice none 0 0) 0)
section
variable {w W Y : World} {a b c d : Int}
theorem C9.lt (h : C9 w W a b c d) : w.heap.size + 1 < W.heap.size := (Array.getElem?_eq_some_iff.1 h.kr).1
theorem C9.later (h : C9 w W a b c d) (k : Below W.heap.size W Y) : C9 w Y a b c d := by
  have := h.lt
  exact ⟨h.bel.trans (k.mono h.bel.size), (k.block _ (by omega)).trans h.ka, (k.block _ h.lt).trans h.kr⟩
theorem C9.drewH (h : Hid (C9 w W a b c d)) : Hid (C9 w W.drew a b c d) := hide ((unhide h).later ((Below.refl _ _).drew))
theorem C9.rw (h : C9 w W a b c d) : RwN W (.slice (some ⟨w.heap.size, 0, none⟩) 4 4) [a, b, c, d] := rwS_blk (ns := [a, b, c, d]) h.ka
theorem C9.bs (h : Hid (C9 w W a b c d)) (x y : Value) : Below w.heap.size w ((W.setCell ⟨w.heap.size + 1, 0, none⟩ x).setCell ⟨w.heap.size + 1, 1, none⟩ y) := ((unhide h).bel.setCell (p := ⟨w.heap.size + 1, 0, none⟩) (by simp) _).setCell (p := ⟨w.heap.size + 1, 1, none⟩) (by simp) _
end
theorem C9.new (w : World) (a b c d : Int) : C9 w ((w.alloc (SumB a b c d)).alloc (TreB (.slice none 0 0) 0)) a b c d :=
  ⟨((Below.refl w.heap.size w).alloc (Nat.le_refl _) _).alloc (by simp) _, lowB2 w _ _, newB2 w _ _⟩

set_option maxHeartbeats 4000000 in
set_option maxRecDepth 100000 in
theorem itreewith_any (a b c d r : Int) (hr : Hid (rt [a, b, c, d] = r)) (w : World) (h1 : Fit64 a) (h2 : Fit64 b) (h3 : Fit64 c) (h4 : Fit64 d) :
    Calls Try.prog 56 #[.agg #[.int .i64 a, .int .i64 b, .int .i64 c, .int .i64 d]] w fun e w' => ∃ a1 c1, e = .returned (.agg #[.slice a1 4 c1, .int .i64 r]) ∧ Ow encN 1 82 w.heap.size w' (.slice a1 4 c1) [a, b, c, d] ∧ Below w.heap.size w w' := by
  have HF := hide (fit4 h1 h2 h3 h4)
  have hlb : (nums [a, b, c, d]).length ≤ 20 := nums_len [a, b, c, d]
  have q0 := crcOf_nonneg _ (nums_bytes [a, b, c, d])
  have q1 := crcOf_range _ (nums_bytes [a, b, c, d])
  obtain ⟨cc, HC⟩ : ∃ cc, Hid (crcOf (nums [a, b, c, d]) = cc) := ⟨_, hide rfl⟩
  rw [unhide HC] at q0 q1
  obtain rfl : cc % 1024 = r := by rw [← unhide hr, ← unhide HC]; rfl
  have htm : cc.tmod 1024 = cc % 1024 := Int.tmod_eq_emod_of_nonneg q0
  have HT := hide htm
  clear h1 h2 h3 h4 hr htm
  go_enter Try.func56, Try.ntmps56
  go_wp2_with fail
  have CV0 := C9.new w a b c d
  obtain ⟨V, hV⟩ : ∃ V, V = (w.alloc (SumB a b c d)).alloc (TreB (.slice none 0 0) 0) := ⟨_, rfl⟩
  have CV : Hid (C9 w V a b c d) := hide (by rw [hV]; exact CV0)
  rw [← hV]
  clear hV CV0
  have CD := C9.drewH CV
  go_region_held3 (fun W => Below w.heap.size w W)
    (first | (with_reducible exact (unhide CV).bel) | (with_reducible exact (unhide CD).bel) | (with_reducible exact (unhide CA).bel) | (with_reducible exact C9.bs CA _ _))
    (first
      | (go_at_call 86; refine (iputnums_any _ 4 4 [a, b, c, d] _ (by omega) (unhide HF) (unhide CD).rw).mono ?_; rintro e w3 ⟨v3, rfl, o3, b3⟩; have CA := hide ((unhide CD).later b3); have S3 := hide (seg_of_owns o3); obtain ⟨p0, p1, pf⟩ := blk_cells2 (unhide CA).kr; have zA := (unhide CA).lt; clear o3 b3)
      | (go_at_call 47; refine (icrc_v v3 (nums [a, b, c, d]) cc HC _ (by omega) (unhide S3)).mono ?_; rintro e _ ⟨rfl, rfl⟩))
  all_goals go_wp2
  all_goals exact bodyPost_ret (v := .agg #[.slice (some ⟨w.heap.size, 0, none⟩) 4 4, .int .i64 (cc % 1024)]) (by simp [results, Try.results56, go_sem, p0, p1, unhide HT]) rfl ⟨_, _, rfl, owN_blk (ns := [a, b, c, d]) (Nat.le_refl _) (by simp) (by
    rw [heap_setCell_other _ _ _ _ (by show w.heap.size ≠ w.heap.size + 1; omega), heap_setCell_other _ _ _ _ (by show w.heap.size ≠ w.heap.size + 1; omega)]
    exact (unhide CA).ka), C9.bs CA _ _⟩

theorem fill4 (ls : List Int) (h : ls.length = 4) (k : Nat) (hk : k ≤ 4) : (ls.take k ++ List.replicate (4 - k) 0).length = 4 := by simp; omega
/-- A tree as it is told: its leaves are a row of the call's own. -/
def OwT (base : Nat) (w : World) (v : Value) (ns : List Int) : Prop := ∃ E : TypeId, Ow encN 1 E base w v ns

set_option maxHeartbeats 4000000 in
set_option maxRecDepth 100000 in
theorem itreeof_any (ai : Option Addr) (ni ci : Nat) (xs : List Itm) (af : Option Addr) (nf cf : Nat) (fs : List Flr) (n : Nat) (hn : Hid ((trL xs fs).length = n)) (r : Int) (hr : Hid (trR xs fs = r)) (w : World)
    (hni : ni ≤ 140737488351232) (hnf : nf ≤ 140737488351232) (hx : Rw encI 6 w (.slice ai ni ci) xs) (hf : Rw encF 2 w (.slice af nf cf) fs) :
    Calls Try.prog 20 #[.agg #[.slice ai ni ci, .slice af nf cf]] w fun e w' => ∃ a1 c1, e = .returned (.agg #[.slice a1 n c1, .int .i64 r]) ∧ OwT w.heap.size w' (.slice a1 n c1) (trL xs fs) ∧ Below w.heap.size w w' := by
  obtain ⟨k1, HK1⟩ : ∃ k, Hid (okS xs fs = k) := ⟨_, hide rfl⟩
  have HX := hide hx
  have HF := hide hf
  clear hx hf
  obtain ⟨l0, H0⟩ : ∃ l, Hid (lsm xs fs 0 = l) := ⟨_, hide rfl⟩
  obtain ⟨l1, H1⟩ : ∃ l, Hid (lsm xs fs 1 = l) := ⟨_, hide rfl⟩
  obtain ⟨l2, H2⟩ : ∃ l, Hid (lsm xs fs 2 = l) := ⟨_, hide rfl⟩
  obtain ⟨l3, H3⟩ : ∃ l, Hid (lsm xs fs 3 = l) := ⟨_, hide rfl⟩
  have HG : Hid (Fit64 l0 ∧ Fit64 l1 ∧ Fit64 l2 ∧ Fit64 l3) := hide (by
    have r0 := lsm_range xs fs 0; have r1 := lsm_range xs fs 1; have r2 := lsm_range xs fs 2; have r3 := lsm_range xs fs 3
    rw [unhide H0] at r0; rw [unhide H1] at r1; rw [unhide H2] at r2; rw [unhide H3] at r3
    unfold Fit64; omega)
  have HZ : Hid (∀ (k : Nat) (z : Int), [l0, l1, l2, l3][k]? = some z → lsm xs fs (k : Int) = z) := hide (by
    intro k z hz
    match k, hz with
    | 0, hz => simp at hz; rw [← hz]; exact unhide H0
    | 1, hz => simp at hz; rw [← hz]; exact unhide H1
    | 2, hz => simp at hz; rw [← hz]; exact unhide H2
    | 3, hz => simp at hz; rw [← hz]; exact unhide H3
    | k + 4, hz => simp at hz)
  go_enter Try.func20, Try.ntmps20
  go_wp2_with fail
  have bW : Below w.heap.size w ((w.alloc (.cells #[.slice ai ni ci, .slice af nf cf] 27)).alloc (TreB (.slice none 0 0) 0)) := ((Below.refl w.heap.size w).alloc (Nat.le_refl _) _).alloc (by simp) _
  refine (istateok_any ai ni ci xs af nf cf fs _ HK1 _ hni hnf ((unhide HX).later bW) ((unhide HF).later bW)).mono ?_
  rintro e w1 ⟨rfl, b1⟩
  have BL := hide (bW.trans (b1.mono (by simp; omega)))
  have KA := hide ((b1.block w.heap.size (by simp; omega)).trans (lowB2 w _ _))
  have KR := hide ((b1.block (w.heap.size + 1) (by simp)).trans (newB2 w _ _))
  have z1 : w.heap.size + 1 < w1.heap.size := (Array.getElem?_eq_some_iff.1 (unhide KR)).1
  clear b1 bW
  cases k1
  · have e1 : trL xs fs = [] := by rw [trL, unhide HK1]; rfl
    have e2 : trR xs fs = 0 := by rw [trR, unhide HK1]; rfl
    obtain rfl : n = 0 := by rw [← unhide hn, e1]; rfl
    obtain rfl : r = 0 := by rw [← unhide hr, e2]
    obtain ⟨p0, p1, pf⟩ := blk_cells2 (unhide KR)
    go_wp2
    exact bodyPost_ret (v := .agg #[.slice none 0 0, .int .i64 0]) (by simp [results, Try.results20, go_sem, p0, p1]) rfl ⟨none, 0, rfl, ⟨3, by rw [e1]; exact World.ownsRow_nil _ _ _ _⟩, ((unhide BL).setCell (p := ⟨w.heap.size + 1, 0, none⟩) (by simp) _).setCell (p := ⟨w.heap.size + 1, 1, none⟩) (by simp) _⟩
  · have HTL : Hid (trL xs fs = [l0, l1, l2, l3]) := hide (by rw [trL, unhide HK1, unhide H0, unhide H1, unhide H2, unhide H3]; rfl)
    have HTR : Hid (rt [l0, l1, l2, l3] = r) := hide (by rw [← unhide hr, trR, unhide HK1, unhide H0, unhide H1, unhide H2, unhide H3]; rfl)
    obtain rfl : n = 4 := by rw [← unhide hn, unhide HTL]; rfl
    clear H0 H1 H2 H3 hn hr
    go_wp2
    go_loopw [9] (fun i wr => ∃ k : Nat, k ≤ 4 ∧ i = .int .i64 k ∧ Below w.heap.size w wr ∧ wr.heap[w.heap.size]? = some (.cells #[.slice ai ni ci, .slice af nf cf] 27 (0, 0)) ∧ wr.heap[w.heap.size + 1]? = some (TreB (.slice none 0 0) 0) ∧ Ow encN 1 82 w1.heap.size wr (.slice (some ⟨w1.heap.size, 0, none⟩) 4 4) (([l0, l1, l2, l3] : List Int).take k ++ List.replicate (4 - k) 0)) (fun i _ => 4 - (intOf i).toNat)
    case atStart =>
      refine ⟨0, by omega, rfl, (unhide BL).alloc (unhide BL).size _, ?_, ?_, ?_⟩
      · exact (Below.heap_alloc _ _ _ (by omega)).trans (unhide KA)
      · exact (Below.heap_alloc _ _ _ z1).trans (unhide KR)
      · exact owN_blk (ns := [0, 0, 0, 0]) (Nat.le_refl _) (by simp) (newB1 w1 _)
    case round =>
      clear BL KA KR
      obtain ⟨k, hk, rfl, hbel, ha, hr0, hown⟩ := hrel
      have BL := hide hbel
      have KA := hide ha
      have KR := hide hr0
      have HO := hide hown
      have hsz := hbel.size
      have zr : w.heap.size + 1 < wr.heap.size := (Array.getElem?_eq_some_iff.1 hr0).1
      clear hr0
      by_cases hlt : k < 4
      · obtain ⟨z, hz⟩ : ∃ z, [l0, l1, l2, l3][k]? = some z := ⟨_, List.getElem?_eq_getElem (by simpa using hlt)⟩
        have HQ := hide (unhide HZ k z hz)
        have HS : Hid ((([l0, l1, l2, l3] : List Int).take k ++ List.replicate (4 - k) 0).set k z = ([l0, l1, l2, l3] : List Int).take (k + 1) ++ List.replicate (4 - (k + 1)) 0) := hide (fill_set [l0, l1, l2, l3] 0 k z hz)
        obtain ⟨p0, p1, -⟩ := blk_cells2 ha
        have hgl := (World.ownsRow.lt hown w1.heap.size rfl).2
        clear hbel ha hown hz
        go_wp2_with fail
        refine (ileafsum_any ai ni ci xs af nf cf fs (k : Int) z HQ _ hni hnf ((unhide HX).later (unhide BL)) ((unhide HF).later (unhide BL))).mono ?_
        rintro e w2 ⟨rfl, b2⟩
        have BL2 := hide ((unhide BL).trans (b2.mono hsz))
        have KA2 := hide ((b2.block _ (by omega)).trans (unhide KA))
        have KR2 := hide ((b2.block _ zr).trans (unhide KR))
        have HO2 := hide ((unhide HO).later b2)
        have hO2 : w2.ownsRow w1.heap.size 82 1 (.slice (some ⟨w1.heap.size, 0, none⟩) 4 4) 4 ((([l0, l1, l2, l3] : List Int).take k ++ List.replicate (4 - k) 0).flatMap encN) := by
          have h := unhide HO2
          unfold Ow at h
          rwa [fill4 [l0, l1, l2, l3] rfl k hk] at h
        have hfz := hO2.frozenAt k
        have hcy := hO2.cellAt k (by omega)
        obtain ⟨y, hy⟩ : ∃ y, w2.cell? ⟨w1.heap.size, k, none⟩ = some y := by
          rw [hcy, flatN]
          exact ⟨_, List.getElem?_eq_getElem (by simp; omega)⟩
        have R1 := hide (hO2.stored k (.int .i64 z)).1
        clear hcy hO2 b2 p0 p1 BL KA KR HO
        go_wp2
        go_roundw
        case rel =>
          refine ⟨k + 1, by omega, by go_num, (unhide BL2).setCell (p := ⟨w1.heap.size, k, none⟩) (by simp; omega) _, ?_, ?_, ?_⟩
          · rw [heap_setCell_other _ _ _ _ (by show w.heap.size ≠ w1.heap.size; omega)]; exact unhide KA2
          · rw [heap_setCell_other _ _ _ _ (by show w.heap.size + 1 ≠ w1.heap.size; omega)]; exact unhide KR2
          · have h := unhide R1
            rw [flatN, ← List.map_set, unhide HS, ← flatN] at h
            unfold Ow
            rw [fill4 [l0, l1, l2, l3] rfl (k + 1) (by omega)]
            exact h
        case measure => simp [intOf]; omega
      · obtain rfl : k = 4 := by omega
        obtain ⟨g1, g2, g3, g4⟩ := unhide HG
        have c0 := World.ownsRow.cellAt hown 0 (by simp)
        have c1 := World.ownsRow.cellAt hown 1 (by simp)
        have c2 := World.ownsRow.cellAt hown 2 (by simp)
        have c3 := World.ownsRow.cellAt hown 3 (by simp)
        simp [encN] at c0 c1 c2 c3
        have hgl := (World.ownsRow.lt hown w1.heap.size rfl).2
        clear hbel ha hown HO
        go_wp2_with fail
        refine (itreewith_any l0 l1 l2 l3 r HTR _ g1 g2 g3 g4).mono ?_
        rintro e w2 ⟨a1, q1, rfl, o2, b2⟩
        have BL2 := hide ((unhide BL).trans (b2.mono hsz))
        have KR2 := hide ((b2.block _ zr).trans (unhide KR))
        have O2 := hide (o2.base (base' := w.heap.size + 1 + 1) zr)
        obtain ⟨p0, p1, pf⟩ := blk_cells2 (unhide KR2)
        have z2 : w.heap.size + 1 < w2.heap.size := (Array.getElem?_eq_some_iff.1 (unhide KR2)).1
        clear o2 b2 c0 c1 c2 c3 BL KA KR g1 g2 g3 g4
        go_wp2
        exact bodyPost_ret (v := .agg #[.slice a1 4 q1, .int .i64 r]) (by simp [results, Try.results20, go_sem, p0, p1]) rfl ⟨a1, q1, rfl, ⟨_, by rw [unhide HTL]; exact Ow.base (((unhide O2).set ⟨w.heap.size + 1, 0, none⟩ (by simp) _).set ⟨w.heap.size + 1, 1, none⟩ (by simp) _) (by omega)⟩, ((unhide BL2).setCell (p := ⟨w.heap.size + 1, 0, none⟩) (by simp) _).setCell (p := ⟨w.heap.size + 1, 1, none⟩) (by simp) _⟩
end Go.Proofs.Ytdpaocikmijioab

namespace Go.Proofs.Ytdpaocikmijioab
open Go.RowKit

set_option maxRecDepth 100000 in
theorem fld_items (a : Option Addr) (n c : Nat) (v : Value) (W : World) : (Instr.field 27 (.agg #[.slice a n c, v]) 0).run Try.prog W = .ok (.slice a n c) W := by
  have a3 := Try.isAgg24
  have z3 := Try.sizeOf24
  simp only [Instr.field, Sem.run_bind, run_underlying Try.underlying27, Result.andThen_ok]
  go_simp
  simp [asAgg]
set_option maxRecDepth 100000 in
theorem fld_leaves (a : Option Addr) (n c : Nat) (v : Value) (W : World) : (Instr.field 47 (.agg #[.slice a n c, v]) 0).run Try.prog W = .ok (.slice a n c) W := by
  have a3 := Try.isAgg45
  have z3 := Try.sizeOf45
  simp only [Instr.field, Sem.run_bind, run_underlying Try.underlying47, Result.andThen_ok]
  go_simp
  simp [asAgg]
set_option maxRecDepth 100000 in
theorem fld_root (a : Option Addr) (n c : Nat) (q : Int) (W : World) : (Instr.field 47 (.agg #[.slice a n c, .int .i64 q]) 1).run Try.prog W = .ok (.int .i64 q) W := by
  have a3 := Try.isAgg3
  have z3 := Try.sizeOf3
  simp only [Instr.field, Sem.run_bind, run_underlying Try.underlying47, Result.andThen_ok]
  go_simp
  simp [asAgg]
end Go.Proofs.Ytdpaocikmijioab
