/-
  Rows of bytes that are put together; numbers as bytes, one behind the other: the program's putNums. No statement is proved here.
  The bytes of a state: the program's. No statement is proved here.
  The bytes of a state: the specification's. No statement is proved here.
-/
import Derived.Test.YtjlocbimkfocnaaMsX
import Derived.Test.YtjlocbimkfocnaaIntS
import Derived.Test.YtjlocbimkfocnaaAppAny
import Derived.Test.YtjlocbimkfocnaaStT
import Derived.Test.YtjlocbimkfocnaaStM
import Derived.Test.YtjlocbimkfocnaaApp2
import Derived.Test.YtjlocbimkfocnaaIPutText
import Derived.Test.YtjlocbimkfocnaaSPutText
import Derived.Test.YtjlocbimkfocnaaIStOk
import Derived.Test.YtjlocbimkfocnaaSStOk
import Derived.Test.YtjlocbimkfocnaaStBx
namespace Go.Proofs.Ytjlocbimkfocnaa
open Go.RowKit

/-- A row of bytes that the call itself owns. -/
abbrev OwB (base : Nat) (w : World) (v : Value) (bs : List Int) : Prop := w.ownsRow base 5 1 v bs.length (bs.map (Value.int .u8))
theorem OwB.nil (base : Nat) (w : World) : OwB base w (.slice none 0 0) [] := World.ownsRow_nil _ _ _ _
theorem wpList_appB {ops : Array Oper} {rest : List Oper} {o : Oper} {a : Act} {Q : Exit → Act → World → Prop} (w : World) (hgd : o.guard = none) (s x : Operand)
    (ho : o.op = .call { callee := .builtin .append, args := #[s, x], argTypes := #[22, 22] })
    (base : Nat) (v : Value) (xs : List Int) (hs : a.eval s = v) (hown : OwB base w v xs) (B' : Nat) (u : Value) (ys : List Int) (hx : a.eval x = u) (hu : OwB B' w u ys) (hl : xs.length + ys.length ≤ 100000000) (hbase : base ≤ w.heap.size)
    (h : ∀ v' w', OwB base w' v' (xs ++ ys) → w.grownBy w' v.ownBlock → wpList Try.prog ops Q rest (a.put o.dst v') w') : wpList Try.prog ops Q (o :: rest) a w := by
  obtain ⟨i0, hi, hz0, hz1, hz2⟩ := info_parts Try.infoByte
  refine wpList_append_any w hgd s x 22 ho base 5 i0 (.int .u8 0) 1 Try.underlying22 hi hz0 hz1 hz2 rfl v xs.length (xs.map (Value.int .u8)) hs hown B' u ys.length (ys.map (Value.int .u8)) hx hu (ints_oneCell _ _) (by unfold maxLen; omega) (by omega) hbase (fun v' w' o1 g1 => h v' w' ?_ g1)
  unfold OwB
  rw [List.map_append, List.length_append]
  exact o1

set_option maxHeartbeats 2000000 in
set_option maxRecDepth 100000 in
theorem iputnums_any (a : Option Addr) (n c : Nat) (ns : List Int) (w : World) (hn : n ≤ 1000) (hfit : ∀ (k : Nat) (x : Int), ns[k]? = some x → -9223372036854775808 ≤ x ∧ x ≤ 9223372036854775807) (h : RwN w (.slice a n c) ns) :
    Calls Try.prog 25 #[.slice a n c] w fun e w' => ∃ v, e = .returned v ∧ OwB w.heap.size w' v (nums ns) ∧ Below w.heap.size w w' := by
  have HR := hide h
  have HF := hide hfit
  have hN := h.len.1
  have HN := hide hN
  clear h hfit hN
  go_enter Try.func25, Try.ntmps25
  go_wp2
  go_loopw [3, 8] (fun v i wr => ∃ k : Nat, k ≤ n ∧ i = .int .i64 k ∧ OwB w.heap.size wr v (nums (ns.take k)) ∧ Below w.heap.size w wr) (fun _ i _ => n - (intOf i).toNat)
  case atStart => exact ⟨0, by omega, rfl, OwB.nil _ _, Below.refl _ _⟩
  case round =>
    obtain ⟨k, hk, rfl, hown, hbel⟩ := hrel
    have HO := hide hown
    have HB := hide hbel
    have hsz := hbel.size
    clear hown
    by_cases hlt : k < n
    · obtain ⟨z, b, off, hz, rfl, hb, hcap, cz⟩ := ((unhide HR).later hbel).atN hlt
      obtain ⟨f1, f2⟩ := unhide HF k z hz
      have HZ := hide (nums_take hz)
      clear hz hbel
      go_wp2_with fail
      refine (iputnum_any z _ f1 f2).mono ?_
      rintro e w2 ⟨u, rfl, o2, b2⟩
      have HO2 := hide (owns_later (unhide HO) b2 (Nat.le_refl _))
      have HU := hide o2
      have HB2 := hide ((unhide HB).trans (b2.mono hsz))
      have hw2 := (unhide HB2).size
      have hl : (nums (ns.take k)).length + (putN z).length ≤ 100000000 := by
        have h1 := nums_len (ns.take k)
        have h2 := putN_length z
        have h3 : (ns.take k).length ≤ k := by simp; omega
        omega
      clear o2 b2 HO HB
      go_wp2_with (at_builtin; refine wpList_appB _ rfl _ _ rfl w.heap.size _ _ rfl (unhide HO2) _ _ _ rfl (unhide HU) hl hw2 ?_; intro v' w3 hO hG; have HO3 := hide hO; have HB3 := hide ((unhide HB2).grown hG hw2 (fun k hk => ((unhide HO2).lt k hk).1)); clear hO hG)
      go_roundw
      case rel => exact ⟨k + 1, by omega, by go_num, by rw [unhide HZ]; exact unhide HO3, unhide HB3⟩
      case measure => simp [intOf]; omega
    · have HT : Hid (nums (ns.take k) = nums ns) := hide (by rw [List.take_of_length_le (by have := unhide HN; omega)])
      clear hbel
      go_wp2
      go_ret
      exact ⟨_, rfl, by rw [← unhide HT]; exact unhide HO, unhide HB⟩
end Go.Proofs.Ytjlocbimkfocnaa

namespace Go.Proofs.Ytjlocbimkfocnaa
open Go.RowKit

theorem okE_fits {e : Key} (h : okE e.1 e.2.1 e.2.2.1 e.2.2.2.1 e.2.2.2.2 = true) : (0 ≤ e.1 ∧ e.1 ≤ 1000) ∧ (0 ≤ e.2.1 ∧ e.2.1 ≤ 1) ∧ (0 ≤ e.2.2.1 ∧ e.2.2.1 ≤ 100000) ∧ (0 ≤ e.2.2.2.1 ∧ e.2.2.2.1 ≤ 1000) ∧ (e.2.2.2.2.size : Int) ≤ 8 := by
  simp only [okE, Bool.and_eq_true, inB_iff, decide_eq_true_eq] at h
  obtain ⟨⟨⟨⟨a, b⟩, c⟩, d⟩, e⟩ := h
  exact ⟨⟨by omega, a.2⟩, b, c, d, e⟩
/-- A block of numbers, as it is laid for a call, reads as its numbers. -/
theorem rwN_blk {w : World} {g : Nat} {ns : List Int} {fz : Nat × Nat} (h : w.heap[g]? = some (.cells (ns.map (Value.int .i64)).toArray 3 fz)) : RwN w (.slice (some ⟨g, 0, none⟩) ns.length ns.length) ns := by
  refine ⟨_, _, rfl, Nat.le_refl _, .inr ⟨g, 0, rfl, (Array.getElem?_eq_some_iff.1 h).1, fun i x hx j hj => ?_⟩⟩
  obtain rfl : j = 0 := by omega
  obtain ⟨hi, rfl⟩ := List.getElem?_eq_some_iff.1 hx
  simp only [World.cell?, h]
  simp [encN, hi]
/-- While a state's bytes are made: the argument, what is made. -/
structure B2 (w X : World) (v1 v2 : Value) (v : Value) (bs : List Int) : Prop where
  bel : Below w.heap.size w X
  ka : X.heap[w.heap.size]? = some (.cells #[v1, v2] 27 (0, 0))
  ob : OwB w.heap.size X v bs
section
variable {w X Y : World} {v1 v2 v v' : Value} {bs cs : List Int}
theorem B2.lt (h : B2 w X v1 v2 v bs) : w.heap.size < X.heap.size := (Array.getElem?_eq_some_iff.1 h.ka).1
theorem B2.later (h : B2 w X v1 v2 v bs) (b : Below X.heap.size X Y) : B2 w Y v1 v2 v bs := by
  exact ⟨h.bel.trans (b.mono h.bel.size), (b.block _ h.lt).trans h.ka, owns_later h.ob b (Nat.le_refl _)⟩
theorem B2.app (h : B2 w X v1 v2 v bs) (ho : OwB w.heap.size Y v' cs) (hg : X.grownBy Y v.ownBlock) : B2 w Y v1 v2 v' cs :=
  ⟨h.bel.grown hg h.bel.size (fun k hk => (h.ob.lt k hk).1), (hg.block _ h.lt (fun q => own_ne h.ob h.ka (by decide) q.symm)).trans h.ka, ho⟩
/-- A block of another kind stays as it was. -/
theorem B2.keep (h : B2 w X v1 v2 v bs) (hg : X.grownBy Y v.ownBlock) {g : Nat} {zs : Array Value} {T : TypeId} {fz : Nat × Nat} (hk : X.heap[g]? = some (.cells zs T fz)) (hT : (5 : Nat) ≠ T) : Y.heap[g]? = some (.cells zs T fz) :=
  (hg.block _ (Array.getElem?_eq_some_iff.1 hk).1 (fun q => own_ne h.ob hk hT q.symm)).trans hk
end
theorem fit1 (a : Int) (h : -9223372036854775808 ≤ a ∧ a ≤ 9223372036854775807) : ∀ (k : Nat) (x : Int), [a][k]? = some x → -9223372036854775808 ≤ x ∧ x ≤ 9223372036854775807 := by
  intro k x hx
  have := List.mem_of_getElem? hx
  simp at this; subst this; exact h
theorem fit2 {a b : Int} (h1 : -9223372036854775808 ≤ a ∧ a ≤ 9223372036854775807) (h2 : -9223372036854775808 ≤ b ∧ b ≤ 9223372036854775807) : ∀ (k : Nat) (x : Int), [a, b][k]? = some x → -9223372036854775808 ≤ x ∧ x ≤ 9223372036854775807 := by
  intro k x hx
  have := List.mem_of_getElem? hx
  simp at this; rcases this with rfl | rfl <;> assumption
theorem fit5 {a b c d e : Int} (h1 : -9223372036854775808 ≤ a ∧ a ≤ 9223372036854775807) (h2 : -9223372036854775808 ≤ b ∧ b ≤ 9223372036854775807) (h3 : -9223372036854775808 ≤ c ∧ c ≤ 9223372036854775807) (h4 : -9223372036854775808 ≤ d ∧ d ≤ 9223372036854775807) (h5 : -9223372036854775808 ≤ e ∧ e ≤ 9223372036854775807) : ∀ (k : Nat) (x : Int), [a, b, c, d, e][k]? = some x → -9223372036854775808 ≤ x ∧ x ≤ 9223372036854775807 := by
  intro k x hx
  have := List.mem_of_getElem? hx
  simp at this; rcases this with rfl | rfl | rfl | rfl | rfl <;> assumption

set_option maxHeartbeats 8000000 in
set_option maxRecDepth 100000 in
theorem ibytes_any (ai : Option Addr) (ni ci : Nat) (xs : List Itm) (af : Option Addr) (nf cf : Nat) (fs : List Flr) (ok : Bool) (h0 : Hid (okS xs fs = ok)) (w : World)
    (hni : ni ≤ 140737488351232) (hnf : nf ≤ 140737488351232) (hx : Rw encI 6 w (.slice ai ni ci) xs) (hf : Rw encF 2 w (.slice af nf cf) fs) :
    Calls Try.prog 7 #[.agg #[.slice ai ni ci, .slice af nf cf]] w fun e w' => ∃ v, e = .returned v ∧ OwB w.heap.size w' v (sbS xs fs) ∧ Below w.heap.size w w' := by
  have HX := hide hx
  have HF := hide hf
  have HNI := hide hx.len.1
  have HNF := hide hf.len.1
  clear hx hf
  go_enter Try.func7, Try.ntmps7
  go_wp2_with fail
  have bW : Below w.heap.size w (w.alloc (.cells #[.slice ai ni ci, .slice af nf cf] 27)) := (Below.refl w.heap.size w).alloc (Nat.le_refl _) _
  refine (istateok_any ai ni ci xs af nf cf fs _ h0 _ hni hnf ((unhide HX).later bW) ((unhide HF).later bW)).mono ?_
  rintro e w1 ⟨rfl, b1⟩
  have CV : Hid (B2 w w1 (.slice ai ni ci) (.slice af nf cf) (.slice none 0 0) []) := hide ⟨bW.trans (b1.mono (by simp)), (b1.block _ (by simp)).trans (newB1 w _), OwB.nil _ _⟩
  have z1 := (unhide CV).lt
  clear b1 bW
  cases ok
  · have e0 : sbS xs fs = [] := by rw [sbS, unhide h0]; rfl
    go_wp2
    go_ret
    exact ⟨_, rfl, by rw [e0]; exact OwB.nil _ _, (unhide CV).bel⟩
  · have OA := (okS_iff _ _).1 (unhide h0)
    have HA := hide OA
    have m5 : ni ≤ 5 := by have := unhide HNI; have := OA.len5.1; omega
    have f5 : nf ≤ 5 := by have := unhide HNF; have := OA.len5.2; omega
    have HE : Hid (sbS xs fs = sb xs fs) := hide (by rw [sbS, unhide h0]; rfl)
    obtain ⟨p0, p1, -⟩ := blk_cells2 (unhide CV).ka
    clear OA h0
    go_wp2_with fail
    have R1 : RwN (w1.alloc (.cells #[.int .i64 (ni : Int)] 3)) (.slice (some ⟨w1.heap.size, 0, none⟩) 1 1) [(ni : Int)] := rwN_blk (ns := [(ni : Int)]) (newB1 w1 _)
    refine (iputnums_any _ 1 1 [(ni : Int)] _ (by omega) (fit1 _ (by omega)) R1).mono ?_
    rintro e w2 ⟨v2, rfl, o2, b2⟩
    have b2' := ((Below.refl w1.heap.size w1).alloc (Nat.le_refl _) (.cells #[.int .i64 (ni : Int)] 3)).trans (b2.mono (by simp))
    have J2' : Hid (B2 w w2 (.slice ai ni ci) (.slice af nf cf) v2 (putN xs.length)) := hide ⟨((unhide CV).later b2').bel, ((unhide CV).later b2').ka, by rw [nums_one, unhide HNI] at o2; exact owns_base o2 (by simp; omega)⟩
    clear o2 b2 b2' R1 CV p0 p1 z1
    obtain ⟨p0, p1, -⟩ := blk_cells2 (unhide J2').ka
    have z2 := (unhide J2').lt
    go_wp2
    go_loopw [3, 20] (fun v i wr => ∃ k : Nat, k ≤ ni ∧ i = .int .i64 k ∧ B2 w wr (.slice ai ni ci) (.slice af nf cf) v (putN xs.length ++ sbIs (xs.take k))) (fun _ i _ => ni - (intOf i).toNat)
    case atStart => exact ⟨0, by omega, rfl, by simpa [sbIs] using unhide J2'⟩
    case round =>
      clear J2' p0 p1 z2
      obtain ⟨k, hk, rfl, hJ⟩ := hrel
      have HJ := hide hJ
      have hsz := hJ.bel.size
      have hlt0 := hJ.lt
      have hL : (putN xs.length ++ sbIs (xs.take k)).length ≤ 1000 := by
        have h1 := putN_length xs.length
        have h2 := sbIs_len (xs := xs.take k) (fun x hx => (unhide HA).small x (List.mem_of_mem_take hx))
        have h3 : (xs.take k).length ≤ k := by simp; omega
        rw [List.length_append]; omega
      by_cases hlt : k < ni
      · obtain ⟨x, b, off, hx, rfl, hb, hcap, hc⟩ := ((unhide HX).later hJ.bel).at hlt
        obtain ⟨c0, c1, c2, c3, c4, c5⟩ := item_cells hc
        have hin := (unhide HA).ix x (List.mem_of_getElem? hx)
        obtain ⟨q1, q2, q3, q4, q5⟩ := okE_fits hin.2.2.1
        obtain ⟨i1, i2, -⟩ := hin
        have HX1 := hide hx
        clear hx hc hJ
        go_wp2_with fail
        have hW : Below wr.heap.size wr (((wr.alloc (.cells #[.int .i64 x.1, .int .i64 x.2.1, .int .i64 x.2.2.1, .int .i64 x.2.2.2.1, .int .i64 x.2.2.2.2.1, .string x.2.2.2.2.2] 64)).alloc (.cells #[.int .i64 x.2.1, .int .i64 x.2.2.1, .int .i64 x.2.2.2.1, .int .i64 x.2.2.2.2.1, .string x.2.2.2.2.2] 62)).alloc (.cells #[.int .i64 x.1, .int .i64 x.2.1, .int .i64 x.2.2.1, .int .i64 x.2.2.2.1, .int .i64 x.2.2.2.2.1] 3)) := ((((Below.refl wr.heap.size wr).alloc (Nat.le_refl _) _).alloc (by simp) _).alloc (by simp; omega) _)
        refine (iputnums_any _ 5 5 [x.1, x.2.1, x.2.2.1, x.2.2.2.1, x.2.2.2.2.1] _ (by omega) (fit5 (by omega) (by omega) (by omega) (by omega) (by omega)) (rwN_blk (ns := [x.1, x.2.1, x.2.2.1, x.2.2.2.1, x.2.2.2.2.1]) (newB3 wr _ _ _))).mono ?_
        rintro e w3 ⟨v3, rfl, o3, b3⟩
        have b3' := hW.trans (b3.mono (by simp; omega))
        have J3' := hide ((unhide HJ).later b3')
        have KE := hide ((b3.block (wr.heap.size + 1) (by simp)).trans (midB3 wr _ _ _))
        have O3 := hide o3
        have hsz3 := (unhide J3').bel.size
        have hn5 : (nums [x.1, x.2.1, x.2.2.1, x.2.2.2.1, x.2.2.2.2.1]).length ≤ 25 := nums_len [x.1, x.2.1, x.2.2.1, x.2.2.2.1, x.2.2.2.2.1]
        have hl3 : (putN xs.length ++ sbIs (xs.take k)).length + (nums [x.1, x.2.1, x.2.2.1, x.2.2.2.1, x.2.2.2.2.1]).length ≤ 100000000 := by
          omega
        clear c0 c1 c2 c3 c4 c5 b3 b3' hW o3 HJ
        have ze3 : wr.heap.size + 1 < w3.heap.size := (Array.getElem?_eq_some_iff.1 (unhide KE)).1
        obtain ⟨e0, e1, e2, e3, e4, -⟩ := blk_cells5 (unhide KE)
        have E4 := hide e4
        clear e0 e1 e2 e3 e4
        go_upto_region 9 with (at_builtin; refine wpList_appB _ rfl _ _ rfl w.heap.size _ _ rfl (unhide J3').ob _ _ _ rfl (unhide O3) hl3 hsz3 ?_; intro v4 w4 hO hG; have KE4 := hide ((unhide J3').keep hG (unhide KE) (by decide)); have J4 := hide ((unhide J3').app hO hG); clear hO hG)
        obtain ⟨e0, e1, e2, e3, e4, -⟩ := blk_cells5 (unhide KE4)
        have ze4 : wr.heap.size + 1 < w4.heap.size := (Array.getElem?_eq_some_iff.1 (unhide KE4)).1
        clear E4 KE J3' O3
        go_wp2_with fail
        refine (iputtext_any x.2.2.2.2.2 _ (by omega)).mono ?_
        rintro e w5 ⟨v5, rfl, o5, b5⟩
        have J5 := hide ((unhide J4).later b5)
        have O5 := hide o5
        have hsz5 := (unhide J5).bel.size
        have hl5 : ((putN xs.length ++ sbIs (xs.take k)) ++ nums [x.1, x.2.1, x.2.2.1, x.2.2.2.1, x.2.2.2.2.1]).length + (putT (bl x.2.2.2.2.2)).length ≤ 100000000 := by
          have h1 := putT_len (bl x.2.2.2.2.2)
          rw [bl_length] at h1
          rw [List.length_append]; omega
        have HP : Hid (((putN xs.length ++ sbIs (xs.take k)) ++ nums [x.1, x.2.1, x.2.2.1, x.2.2.2.1, x.2.2.2.2.1]) ++ putT (bl x.2.2.2.2.2) = putN xs.length ++ sbIs (xs.take (k + 1))) := hide (by
          rw [sbIs_take (unhide HX1), sbI]; simp only [List.append_assoc])
        clear e0 e1 e2 e3 e4 b5 o5 J4 KE4
        go_wp2_with (at_builtin; refine wpList_appB _ rfl _ _ rfl w.heap.size _ _ rfl (unhide J5).ob _ _ _ rfl (unhide O5) hl5 hsz5 ?_; intro v6 w6 hO hG; have J6 := hide ((unhide J5).app hO hG); clear hO hG)
        go_roundw
        case rel => exact ⟨k + 1, by omega, by go_num, by rw [← unhide HP]; exact unhide J6⟩
        case measure => simp [intOf]; omega
      · have HT : Hid (putN xs.length ++ sbIs (xs.take k) = putN xs.length ++ sbIs xs) := hide (by rw [List.take_of_length_le (by have := unhide HNI; omega)])
        rw [unhide HT] at hL hJ
        replace HJ := hide hJ
        clear hJ HT
        obtain ⟨p0, p1, -⟩ := blk_cells2 (unhide HJ).ka
        go_wp2_with fail
        have R1 : RwN (wr.alloc (.cells #[.int .i64 (nf : Int)] 3)) (.slice (some ⟨wr.heap.size, 0, none⟩) 1 1) [(nf : Int)] := rwN_blk (ns := [(nf : Int)]) (newB1 wr _)
        refine (iputnums_any _ 1 1 [(nf : Int)] _ (by omega) (fit1 _ (by omega)) R1).mono ?_
        rintro e w3 ⟨v3, rfl, o3, b3⟩
        have b3' := ((Below.refl wr.heap.size wr).alloc (Nat.le_refl _) (.cells #[.int .i64 (nf : Int)] 3)).trans (b3.mono (by simp))
        have J3' := hide ((unhide HJ).later b3')
        have O3 : Hid (OwB (wr.alloc (.cells #[.int .i64 (nf : Int)] 3)).heap.size w3 v3 (putN fs.length)) := hide (by
          have e : putN (nf : Int) = putN fs.length := by rw [unhide HNF]
          rw [nums_one, e] at o3; exact o3)
        have hsz3 := (unhide J3').bel.size
        have hl3 : (putN xs.length ++ sbIs xs).length + (putN fs.length).length ≤ 100000000 := by have := putN_length fs.length; omega
        clear o3 b3 b3' R1 HJ p0 p1
        obtain ⟨p0, p1, -⟩ := blk_cells2 (unhide J3').ka
        have P0 := hide p0
        have P1 := hide p1
        clear p0 p1
        go_upto_region 12 with (at_builtin; refine wpList_appB _ rfl _ _ rfl w.heap.size _ _ rfl (unhide J3').ob _ _ _ rfl (unhide O3) hl3 hsz3 ?_; intro v4 w4 hO hG; have J4 := hide ((unhide J3').app hO hG); clear hO hG)
        obtain ⟨p0, p1, -⟩ := blk_cells2 (unhide J4).ka
        have z4 := (unhide J4).lt
        clear P0 P1 J3' O3
        go_wp2
        go_loopw [3, 56] (fun v i wr => ∃ k : Nat, k ≤ nf ∧ i = .int .i64 k ∧ B2 w wr (.slice ai ni ci) (.slice af nf cf) v ((putN xs.length ++ sbIs xs) ++ putN fs.length ++ sbFs (fs.take k))) (fun _ i _ => nf - (intOf i).toNat)
        case atStart => exact ⟨0, by omega, rfl, by simpa [sbFs] using unhide J4⟩
        case round =>
          clear J4 p0 p1 z4 hl3 hsz3 hsz hlt0
          obtain ⟨k, hk, rfl, hJ⟩ := hrel
          have HJ := hide hJ
          have hsz := hJ.bel.size
          have hlt0 := hJ.lt
          have hM : ((putN xs.length ++ sbIs xs) ++ putN fs.length ++ sbFs (fs.take k)).length ≤ 2000 := by
            have h1 := putN_length fs.length
            have h2 := sbFs_len (fs.take k)
            have h3 : (fs.take k).length ≤ k := by simp; omega
            rw [List.length_append, List.length_append]; omega
          by_cases hlt : k < nf
          · obtain ⟨x, b, off, hx, rfl, hb, hcap, hc⟩ := ((unhide HF).later hJ.bel).at hlt
            have c0 : wr.cell? ⟨b, off + k * 2, none⟩ = some (.int .i64 x.1) := hc 0 (by omega)
            have c1 : wr.cell? ⟨b, off + k * 2 + 1, none⟩ = some (.int .i64 x.2) := hc 1 (by omega)
            obtain ⟨i1, i2, i3, i4⟩ := (unhide HA).jf x (List.mem_of_getElem? hx)
            have HX1 := hide hx
            clear hx hc hJ
            go_wp2_with fail
            have hW : Below wr.heap.size wr ((wr.alloc (.cells #[.int .i64 x.1, .int .i64 x.2] 67)).alloc (.cells #[.int .i64 x.1, .int .i64 x.2] 3)) := (((Below.refl wr.heap.size wr).alloc (Nat.le_refl _) _).alloc (by simp) _)
            refine (iputnums_any _ 2 2 [x.1, x.2] _ (by omega) (fit2 (by omega) (by omega)) (rwN_blk (ns := [x.1, x.2]) (newB2 wr _ _))).mono ?_
            rintro e w3 ⟨v3, rfl, o3, b3⟩
            have b3' := hW.trans (b3.mono (by simp; omega))
            have J3' := hide ((unhide HJ).later b3')
            have O3 := hide o3
            have hsz3 := (unhide J3').bel.size
            have hl3 : ((putN xs.length ++ sbIs xs) ++ putN fs.length ++ sbFs (fs.take k)).length + (nums [x.1, x.2]).length ≤ 100000000 := by
              have := nums_len [x.1, x.2]
              simp only [List.length_cons, List.length_nil] at this; omega
            have HP : Hid (((putN xs.length ++ sbIs xs) ++ putN fs.length ++ sbFs (fs.take k)) ++ nums [x.1, x.2] = (putN xs.length ++ sbIs xs) ++ putN fs.length ++ sbFs (fs.take (k + 1))) := hide (by
              rw [sbFs_take (unhide HX1), sbF]; simp only [List.append_assoc])
            clear c0 c1 b3 b3' hW o3 HJ
            go_wp2_with (at_builtin; refine wpList_appB _ rfl _ _ rfl w.heap.size _ _ rfl (unhide J3').ob _ _ _ rfl (unhide O3) hl3 hsz3 ?_; intro v6 w6 hO hG; have J6 := hide ((unhide J3').app hO hG); clear hO hG)
            go_roundw
            case rel => exact ⟨k + 1, by omega, by go_num, by rw [← unhide HP]; exact unhide J6⟩
            case measure => simp [intOf]; omega
          · have HT : Hid ((putN xs.length ++ sbIs xs) ++ putN fs.length ++ sbFs (fs.take k) = sbS xs fs) := hide (by rw [unhide HE, sb, List.take_of_length_le (by have := unhide HNF; omega), List.append_assoc])
            clear hJ
            go_wp2
            go_ret
            exact ⟨_, rfl, by rw [← unhide HT]; exact (unhide HJ).ob, (unhide HJ).bel⟩
end Go.Proofs.Ytjlocbimkfocnaa

namespace Go.Proofs.Ytjlocbimkfocnaa
open Go.RowKit

theorem keepL {V W : World} {b0 o0 b1 o1 g : Nat} {v0 v1 v2 v3 v4 v5 : Value} (h0 : b0 < V.heap.size) (h1 : b1 < V.heap.size) (h2 : g < V.heap.size)
    (c0 : V.cell? ⟨b0, o0, none⟩ = some v0) (c1 : V.cell? ⟨b1, o1, none⟩ = some v1) (c2 : V.cell? ⟨g, 0, none⟩ = some v2) (c3 : V.cell? ⟨g, 1, none⟩ = some v3) (c4 : V.cell? ⟨g, 2, none⟩ = some v4) (c5 : V.cell? ⟨g, 3, none⟩ = some v5) (hb : Below V.heap.size V W) :
    Below V.heap.size V W ∧ W.cell? ⟨b0, o0, none⟩ = some v0 ∧ W.cell? ⟨b1, o1, none⟩ = some v1 ∧ W.cell? ⟨g, 0, none⟩ = some v2 ∧ W.cell? ⟨g, 1, none⟩ = some v3 ∧ W.cell? ⟨g, 2, none⟩ = some v4 ∧ W.cell? ⟨g, 3, none⟩ = some v5 :=
  ⟨hb, (hb.cell (p := ⟨b0, o0, none⟩) h0).trans c0, (hb.cell (p := ⟨b1, o1, none⟩) h1).trans c1, (hb.cell (p := ⟨g, 0, none⟩) h2).trans c2, (hb.cell (p := ⟨g, 1, none⟩) h2).trans c3, (hb.cell (p := ⟨g, 2, none⟩) h2).trans c4, (hb.cell (p := ⟨g, 3, none⟩) h2).trans c5⟩
set_option maxHeartbeats 8000000 in
set_option maxRecDepth 100000 in
theorem l6bytes_any (ai : Option Addr) (ni ci : Nat) (xs : List Itm) (af : Option Addr) (nf cf : Nat) (fs : List Flr) (HA : Hid (OkS xs fs)) (w : World)
    (hx : Rw encI 6 w (.slice ai ni ci) xs) (hf : Rw encF 2 w (.slice af nf cf) fs) :
    Calls Try.prog 39 #[.agg #[.slice ai ni ci, .slice af nf cf]] w fun e w' => ∃ v, e = .returned v ∧ OwB w.heap.size w' v (sb xs fs) ∧ Below w.heap.size w w' := by
  have HX := hide hx
  have HF := hide hf
  have HNI := hide hx.len.1
  have HNF := hide hf.len.1
  have m5 : ni ≤ 5 := by have := unhide HNI; have := (unhide HA).len5.1; omega
  have f5 : nf ≤ 5 := by have := unhide HNF; have := (unhide HA).len5.2; omega
  clear hx hf
  go_enter Try.func39, Try.ntmps39
  go_wp2_with fail
  have bW : Below w.heap.size w (w.alloc (.cells #[.slice ai ni ci, .slice af nf cf] 27)) := (Below.refl w.heap.size w).alloc (Nat.le_refl _) _
  refine (sputnum_any (ni : Int) _ (by omega) (by omega)).mono ?_
  rintro e w2 ⟨v2, rfl, o2, b2⟩
  have J2' : Hid (B2 w w2 (.slice ai ni ci) (.slice af nf cf) v2 (putN xs.length)) := hide ⟨bW.trans (b2.mono (by simp)), (b2.block _ (by simp)).trans (newB1 w _), by
    have e : putN (ni : Int) = putN xs.length := by rw [unhide HNI]
    rw [e] at o2; exact owns_base o2 (by simp)⟩
  clear o2 b2 bW
  obtain ⟨p0, p1, -⟩ := blk_cells2 (unhide J2').ka
  have z2 := (unhide J2').lt
  go_wp2
  go_loopw [3, 4] (fun v i wr => ∃ k : Nat, k ≤ ni ∧ i = .int .i64 k ∧ B2 w wr (.slice ai ni ci) (.slice af nf cf) v (putN xs.length ++ sbIs (xs.take k))) (fun _ i _ => ni - (intOf i).toNat)
  case atStart => exact ⟨0, by omega, rfl, by simpa [sbIs] using unhide J2'⟩
  case round =>
    clear J2' p0 p1 z2
    obtain ⟨k, hk, rfl, hJ⟩ := hrel
    have HJ := hide hJ
    have hsz := hJ.bel.size
    have hlt0 := hJ.lt
    have hL : (putN xs.length ++ sbIs (xs.take k)).length ≤ 1000 := by
      have h1 := putN_length xs.length
      have h2 := sbIs_len (xs := xs.take k) (fun x hx => (unhide HA).small x (List.mem_of_mem_take hx))
      have h3 : (xs.take k).length ≤ k := by simp; omega
      rw [List.length_append]; omega
    obtain ⟨p0, p1, -⟩ := blk_cells2 (unhide HJ).ka
    by_cases hlt : k < ni
    · obtain ⟨x, b, off, hx, rfl, hb, hcap, hc⟩ := ((unhide HX).later hJ.bel).at hlt
      obtain ⟨c0, c1, c2, c3, c4, c5⟩ := item_cells hc
      have hin := (unhide HA).ix x (List.mem_of_getElem? hx)
      obtain ⟨q1, q2, q3, q4, q5⟩ := okE_fits hin.2.2.1
      obtain ⟨i1, i2, -⟩ := hin
      have HX1 := hide hx
      clear hx hc hJ
      go_upto_region 6 with fail
      obtain ⟨V, hV⟩ : ∃ V, V = wr.alloc (.cells #[.int .i64 x.2.1, .int .i64 x.2.2.1, .int .i64 x.2.2.2.1, .int .i64 x.2.2.2.2.1, .string x.2.2.2.2.2] 62) := ⟨_, rfl⟩
      rw [← hV]
      have bV : Below wr.heap.size wr V := by rw [hV]; exact (Below.refl _ _).alloc (Nat.le_refl _) _
      have ke : V.heap[wr.heap.size]? = some (.cells #[.int .i64 x.2.1, .int .i64 x.2.2.1, .int .i64 x.2.2.2.1, .int .i64 x.2.2.2.2.1, .string x.2.2.2.2.2] 62 (0, 0)) := by rw [hV]; exact newB1 wr _
      have zV : V.heap.size = wr.heap.size + 1 := by rw [hV]; simp
      have JV := hide ((unhide HJ).later bV)
      have KE := hide ke
      obtain ⟨e0, e1, e2, e3, -, -⟩ := blk_cells5 ke
      have hbV : b < V.heap.size := by omega
      have d0 := (bV.cell (p := ⟨b, off + k * 6, none⟩) hb).trans c0
      have P0 := hide (fun (W : World) (hb : Below V.heap.size V W) => keepL (V := V) (W := W) (b0 := w.heap.size) (o0 := 0) (b1 := b) (o1 := off + k * 6) (g := wr.heap.size) (by omega) hbV (by omega) (blk_cells2 (unhide JV).ka).1 d0 e0 e1 e2 e3 hb)
      clear p0 p1 c0 c1 c2 c3 c4 c5 e0 e1 e2 e3 d0 bV ke hV
      go_region_held3 (fun W => Below V.heap.size V W ∧ W.cell? ⟨w.heap.size, 0, none⟩ = some (.slice (some ⟨b, off, none⟩) ni ci) ∧ W.cell? ⟨b, off + k * 6, none⟩ = some (.int .i64 x.1) ∧ W.cell? ⟨wr.heap.size, 0, none⟩ = some (.int .i64 x.2.1) ∧ W.cell? ⟨wr.heap.size, 1, none⟩ = some (.int .i64 x.2.2.1) ∧ W.cell? ⟨wr.heap.size, 2, none⟩ = some (.int .i64 x.2.2.2.1) ∧ W.cell? ⟨wr.heap.size, 3, none⟩ = some (.int .i64 x.2.2.2.2.1))
        (first | (with_reducible exact unhide P0 _ (Below.refl _ _)) | (with_reducible exact unhide P0 _ ((Below.refl _ _).drew)) | (with_reducible exact unhide P0 _ (kal ((Below.refl _ _).drew))) | (with_reducible exact unhide P0 _ (kal (Below.refl _ _))) | (with_reducible exact unhide P0 _ ((kal (Below.refl _ _)).drew)))
        (first | fail)
      obtain ⟨U, hU⟩ : ∃ U, U = (V.alloc (.cells #[.int .i64 x.1, .int .i64 x.2.1, .int .i64 x.2.2.1, .int .i64 x.2.2.2.1, .int .i64 x.2.2.2.2.1] 3)).drew := ⟨_, rfl⟩
      rw [← hU]
      have bU : Below V.heap.size V U := by rw [hU]; exact (kal (Below.refl _ _)).drew
      have JU := hide ((unhide JV).later bU)
      have KEU := hide ((bU.block wr.heap.size (by omega)).trans (unhide KE))
      have KLU : Hid (U.heap[wr.heap.size + 1]? = some (.cells #[.int .i64 x.1, .int .i64 x.2.1, .int .i64 x.2.2.1, .int .i64 x.2.2.2.1, .int .i64 x.2.2.2.2.1] 3 (0, 0))) := hide (by rw [hU, ← zV]; exact newB1 V _)
      clear hU bU JV KE P0 HJ
      go_wp2
      go_loopw [3, 7] (fun v i wx => ∃ j : Nat, j ≤ 5 ∧ i = .int .i64 j ∧ B2 w wx (.slice (some ⟨b, off, none⟩) ni ci) (.slice af nf cf) v ((putN xs.length ++ sbIs (xs.take k)) ++ nums (([x.1, x.2.1, x.2.2.1, x.2.2.2.1, x.2.2.2.2.1] : List Int).take j)) ∧ wx.heap[wr.heap.size]? = some (.cells #[.int .i64 x.2.1, .int .i64 x.2.2.1, .int .i64 x.2.2.2.1, .int .i64 x.2.2.2.2.1, .string x.2.2.2.2.2] 62 (0, 0)) ∧ wx.heap[wr.heap.size + 1]? = some (.cells #[.int .i64 x.1, .int .i64 x.2.1, .int .i64 x.2.2.1, .int .i64 x.2.2.2.1, .int .i64 x.2.2.2.2.1] 3 (0, 0))) (fun _ i _ => 5 - (intOf i).toNat)
      case atStart => exact ⟨0, by omega, rfl, by simpa [nums] using unhide JU, unhide KEU, unhide KLU⟩
      case round =>
        rename_i wo _
        clear JU KEU KLU
        obtain ⟨j, hj, rfl, hJ, he, hl⟩ := hrel
        have HJ := hide hJ
        have KE := hide he
        have KL := hide hl
        have hszj := hJ.bel.size
        have hn5 : (nums (([x.1, x.2.1, x.2.2.1, x.2.2.2.1, x.2.2.2.2.1] : List Int).take j)).length ≤ 25 := by
          have h1 := nums_len (([x.1, x.2.1, x.2.2.1, x.2.2.2.1, x.2.2.2.2.1] : List Int).take j)
          have h2 : (([x.1, x.2.1, x.2.2.1, x.2.2.2.1, x.2.2.2.2.1] : List Int).take j).length ≤ 5 := by simp; omega
          omega
        by_cases hlj : j < 5
        · obtain ⟨z, b', off', hz, hp, hb', -, cz⟩ := (rwN_blk (ns := [x.1, x.2.1, x.2.2.1, x.2.2.2.1, x.2.2.2.2.1]) hl).atN (i := j) hlj
          simp only [Option.some.injEq, Addr.mk.injEq, and_true] at hp
          obtain ⟨rfl, rfl⟩ := hp
          rw [Nat.zero_add] at cz
          have hfz := fit5 (a := x.1) (b := x.2.1) (c := x.2.2.1) (d := x.2.2.2.1) (e := x.2.2.2.2.1) (by omega) (by omega) (by omega) (by omega) (by omega) j z hz
          have HZ := hide (nums_take hz)
          clear hz hJ he hl
          obtain ⟨f1, f2⟩ := hfz
          go_wp2_with fail
          refine (sputnum_any z _ f1 f2).mono ?_
          rintro e w3 ⟨v3, rfl, o3, b3⟩
          have J3' := hide ((unhide HJ).later b3)
          have KE3 := hide ((b3.block _ (Array.getElem?_eq_some_iff.1 (unhide KE)).1).trans (unhide KE))
          have KL3 := hide ((b3.block _ (Array.getElem?_eq_some_iff.1 (unhide KL)).1).trans (unhide KL))
          have O3 := hide o3
          have hsz3 := (unhide J3').bel.size
          have hl3 : ((putN xs.length ++ sbIs (xs.take k)) ++ nums (([x.1, x.2.1, x.2.2.1, x.2.2.2.1, x.2.2.2.2.1] : List Int).take j)).length + (putN z).length ≤ 100000000 := by
            have := putN_length z
            rw [List.length_append]; omega
          have HP : Hid (((putN xs.length ++ sbIs (xs.take k)) ++ nums (([x.1, x.2.1, x.2.2.1, x.2.2.2.1, x.2.2.2.2.1] : List Int).take j)) ++ putN z = (putN xs.length ++ sbIs (xs.take k)) ++ nums (([x.1, x.2.1, x.2.2.1, x.2.2.2.1, x.2.2.2.2.1] : List Int).take (j + 1))) := hide (by
            rw [unhide HZ]; simp only [List.append_assoc])
          clear o3 b3 HJ KE KL cz
          go_wp2_with (at_builtin; refine wpList_appB _ rfl _ _ rfl w.heap.size _ _ rfl (unhide J3').ob _ _ _ rfl (unhide O3) hl3 hsz3 ?_; intro v4 w4 hO hG; have KE4 := hide ((unhide J3').keep hG (unhide KE3) (by decide)); have KL4 := hide ((unhide J3').keep hG (unhide KL3) (by decide)); have J4 := hide ((unhide J3').app hO hG); clear hO hG)
          go_roundw
          case rel => exact ⟨j + 1, by omega, by go_num, by rw [← unhide HP]; exact unhide J4, unhide KE4, unhide KL4⟩
          case measure => simp [intOf]; omega
        · have e5 : ([x.1, x.2.1, x.2.2.1, x.2.2.2.1, x.2.2.2.2.1] : List Int).take j = [x.1, x.2.1, x.2.2.1, x.2.2.2.1, x.2.2.2.2.1] := List.take_of_length_le (by simp; omega)
          rw [e5] at hJ hn5
          replace HJ := hide hJ
          obtain ⟨e0, e1, e2, e3, e4, -⟩ := blk_cells5 he
          have ze := (Array.getElem?_eq_some_iff.1 he).1
          clear hJ hl he KL e5
          go_wp2_with fail
          refine (sputtext_any x.2.2.2.2.2 _ (by omega)).mono ?_
          rintro e w5 ⟨v5, rfl, o5, b5⟩
          have J5 := hide ((unhide HJ).later b5)
          have O5 := hide o5
          have hsz5 := (unhide J5).bel.size
          have hl5 : ((putN xs.length ++ sbIs (xs.take k)) ++ nums [x.1, x.2.1, x.2.2.1, x.2.2.2.1, x.2.2.2.2.1]).length + (putT (bl x.2.2.2.2.2)).length ≤ 100000000 := by
            have h1 := putT_len (bl x.2.2.2.2.2)
            rw [bl_length] at h1
            rw [List.length_append]; omega
          have HP : Hid (((putN xs.length ++ sbIs (xs.take k)) ++ nums [x.1, x.2.1, x.2.2.1, x.2.2.2.1, x.2.2.2.2.1]) ++ putT (bl x.2.2.2.2.2) = putN xs.length ++ sbIs (xs.take (k + 1))) := hide (by
            rw [sbIs_take (unhide HX1), sbI]; simp only [List.append_assoc])
          clear e0 e1 e2 e3 e4 b5 o5 HJ KE
          go_wp2_with (at_builtin; refine wpList_appB _ rfl _ _ rfl w.heap.size _ _ rfl (unhide J5).ob _ _ _ rfl (unhide O5) hl5 hsz5 ?_; intro v6 w6 hO hG; have J6 := hide ((unhide J5).app hO hG); clear hO hG)
          go_roundw
          case rel => exact ⟨k + 1, by omega, by go_num, by rw [← unhide HP]; exact unhide J6⟩
          case measure => simp [intOf]; omega
    · have HT : Hid (putN xs.length ++ sbIs (xs.take k) = putN xs.length ++ sbIs xs) := hide (by rw [List.take_of_length_le (by have := unhide HNI; omega)])
      rw [unhide HT] at hL hJ
      replace HJ := hide hJ
      clear hJ HT
      go_wp2_with fail
      refine (sputnum_any (nf : Int) _ (by omega) (by omega)).mono ?_
      rintro e w3 ⟨v3, rfl, o3, b3⟩
      have J3' := hide ((unhide HJ).later b3)
      have O3 : Hid (OwB wr.heap.size w3 v3 (putN fs.length)) := hide (by
        have e : putN (nf : Int) = putN fs.length := by rw [unhide HNF]
        rw [e] at o3; exact o3)
      have hsz3 := (unhide J3').bel.size
      have hl3 : (putN xs.length ++ sbIs xs).length + (putN fs.length).length ≤ 100000000 := by have := putN_length fs.length; omega
      clear o3 b3 HJ p0 p1
      go_wp2_with (at_builtin; refine wpList_appB _ rfl _ _ rfl w.heap.size _ _ rfl (unhide J3').ob _ _ _ rfl (unhide O3) hl3 hsz3 ?_; intro v4 w4 hO hG; have J4 := hide ((unhide J3').app hO hG); clear hO hG)
      go_loopw [3, 8] (fun v i wr => ∃ k : Nat, k ≤ nf ∧ i = .int .i64 k ∧ B2 w wr (.slice ai ni ci) (.slice af nf cf) v ((putN xs.length ++ sbIs xs) ++ putN fs.length ++ sbFs (fs.take k))) (fun _ i _ => nf - (intOf i).toNat)
      case atStart => exact ⟨0, by omega, rfl, by simpa [sbFs] using unhide J4⟩
      case round =>
        clear J4 J3' O3 hl3 hsz3 hsz hlt0
        obtain ⟨k, hk, rfl, hJ⟩ := hrel
        have HJ := hide hJ
        have hsz := hJ.bel.size
        have hlt0 := hJ.lt
        have hM : ((putN xs.length ++ sbIs xs) ++ putN fs.length ++ sbFs (fs.take k)).length ≤ 2000 := by
          have h1 := putN_length fs.length
          have h2 := sbFs_len (fs.take k)
          have h3 : (fs.take k).length ≤ k := by simp; omega
          rw [List.length_append, List.length_append]; omega
        obtain ⟨p0, p1, -⟩ := blk_cells2 hJ.ka
        by_cases hlt : k < nf
        · obtain ⟨x, b, off, hx, rfl, hb, hcap, hc⟩ := ((unhide HF).later hJ.bel).at hlt
          have c0 : wr.cell? ⟨b, off + k * 2, none⟩ = some (.int .i64 x.1) := hc 0 (by omega)
          have c1 : wr.cell? ⟨b, off + k * 2 + 1, none⟩ = some (.int .i64 x.2) := hc 1 (by omega)
          obtain ⟨i1, i2, i3, i4⟩ := (unhide HA).jf x (List.mem_of_getElem? hx)
          have HX1 := hide hx
          have HC := hide hc
          clear hx hc hJ
          go_wp2_with fail
          refine (sputnum_any x.1 _ (by omega) (by omega)).mono ?_
          rintro e w3 ⟨v3, rfl, o3, b3⟩
          have J3' := hide ((unhide HJ).later b3)
          have O3 := hide o3
          have hsz3 := (unhide J3').bel.size
          have hl3 : ((putN xs.length ++ sbIs xs) ++ putN fs.length ++ sbFs (fs.take k)).length + (putN x.1).length ≤ 100000000 := by
            have := putN_length x.1
            omega
          clear c0 c1 p0 p1 b3 o3 HJ
          go_upto_region 17 with (at_builtin; refine wpList_appB _ rfl _ _ rfl w.heap.size _ _ rfl (unhide J3').ob _ _ _ rfl (unhide O3) hl3 hsz3 ?_; intro v4 w4 hO hG; have J4 := hide ((unhide J3').app hO hG); clear hO hG)
          obtain ⟨p0, p1, -⟩ := blk_cells2 (unhide J4).ka
          have hlt4 := (unhide J4).lt
          have hc4 : _ := ((unhide HF).later (unhide J4).bel).at hlt
          clear J3' O3
          obtain ⟨x', b', off', hx', hp', hb4, -, hc4⟩ := hc4
          simp only [Option.some.injEq, Addr.mk.injEq, and_true] at hp'
          obtain ⟨rfl, rfl⟩ := hp'
          obtain rfl : x = x' := Option.some.inj ((unhide HX1).symm.trans hx')
          have c0 : w4.cell? ⟨b, off + k * 2, none⟩ = some (.int .i64 x.1) := hc4 0 (by omega)
          have c1 : w4.cell? ⟨b, off + k * 2 + 1, none⟩ = some (.int .i64 x.2) := hc4 1 (by omega)
          clear hc4 hx'
          go_wp2_with fail
          refine (sputnum_any x.2 _ (by omega) (by omega)).mono ?_
          rintro e w5 ⟨v5, rfl, o5, b5⟩
          have J5 := hide ((unhide J4).later b5)
          have O5 := hide o5
          have hsz5 := (unhide J5).bel.size
          have hl5 : (((putN xs.length ++ sbIs xs) ++ putN fs.length ++ sbFs (fs.take k)) ++ putN x.1).length + (putN x.2).length ≤ 100000000 := by
            have := putN_length x.1
            have := putN_length x.2
            rw [List.length_append]; omega
          have HP : Hid ((((putN xs.length ++ sbIs xs) ++ putN fs.length ++ sbFs (fs.take k)) ++ putN x.1) ++ putN x.2 = (putN xs.length ++ sbIs xs) ++ putN fs.length ++ sbFs (fs.take (k + 1))) := hide (by
            rw [sbFs_take (unhide HX1), sbF, nums_cons, nums_one]; simp only [List.append_assoc])
          clear c0 c1 p0 p1 b5 o5 J4
          go_wp2_with (at_builtin; refine wpList_appB _ rfl _ _ rfl w.heap.size _ _ rfl (unhide J5).ob _ _ _ rfl (unhide O5) hl5 hsz5 ?_; intro v6 w6 hO hG; have J6 := hide ((unhide J5).app hO hG); clear hO hG)
          go_roundw
          case rel => exact ⟨k + 1, by omega, by go_num, by rw [← unhide HP]; exact unhide J6⟩
          case measure => simp [intOf]; omega
        · have HT : Hid ((putN xs.length ++ sbIs xs) ++ putN fs.length ++ sbFs (fs.take k) = sb xs fs) := hide (by rw [sb, List.take_of_length_le (by have := unhide HNF; omega), List.append_assoc])
          clear hJ
          go_wp2
          go_ret
          exact ⟨_, rfl, by rw [← unhide HT]; exact (unhide HJ).ob, (unhide HJ).bel⟩
--@if spec.StateBytes
set_option maxHeartbeats 4000000 in
set_option maxRecDepth 100000 in
theorem sbytes_any (ai : Option Addr) (ni ci : Nat) (xs : List Itm) (af : Option Addr) (nf cf : Nat) (fs : List Flr) (ok : Bool) (h0 : Hid (okS xs fs = ok)) (w : World)
    (hni : ni ≤ 140737488351232) (hnf : nf ≤ 140737488351232) (hx : Rw encI 6 w (.slice ai ni ci) xs) (hf : Rw encF 2 w (.slice af nf cf) fs) :
    Calls Try.prog 33 #[.agg #[.slice ai ni ci, .slice af nf cf]] w fun e w' => ∃ v, e = .returned v ∧ OwB w.heap.size w' v (sbS xs fs) ∧ Below w.heap.size w w' := by
  have HX := hide hx
  have HF := hide hf
  clear hx hf
  go_enter Try.func33, Try.ntmps33
  go_wp2_with fail
  have bW : Below w.heap.size w (w.alloc (.cells #[.slice ai ni ci, .slice af nf cf] 27)) := (Below.refl w.heap.size w).alloc (Nat.le_refl _) _
  refine (sstateok_any ai ni ci xs af nf cf fs _ h0 _ hni hnf ((unhide HX).later bW) ((unhide HF).later bW)).mono ?_
  rintro e w1 ⟨rfl, b1⟩
  have CV : Hid (B2 w w1 (.slice ai ni ci) (.slice af nf cf) (.slice none 0 0) []) := hide ⟨bW.trans (b1.mono (by simp)), (b1.block _ (by simp)).trans (newB1 w _), OwB.nil _ _⟩
  have z1 := (unhide CV).lt
  have hz1 := (unhide CV).bel.size
  clear b1 bW
  cases ok
  · have e0 : sbS xs fs = [] := by rw [sbS, unhide h0]; rfl
    go_wp2
    go_ret
    exact ⟨_, rfl, by rw [e0]; exact owns_base (World.ownsRow_made _ #[] 0 (Nat.le_refl _) (by simp [maxLen]) rfl) hz1, ((unhide CV).bel.alloc hz1 _)⟩
  · have HE : Hid (sbS xs fs = sb xs fs) := hide (by rw [sbS, unhide h0]; rfl)
    have HA := hide ((okS_iff _ _).1 (unhide h0))
    obtain ⟨p0, p1, -⟩ := blk_cells2 (unhide CV).ka
    clear h0
    go_wp2_with fail
    refine (l6bytes_any ai ni ci xs af nf cf fs HA _ ((unhide HX).later (unhide CV).bel) ((unhide HF).later (unhide CV).bel)).mono ?_
    rintro e w2 ⟨v2, rfl, o2, b2⟩
    have O2 := hide (owns_base o2 hz1)
    have HB := hide ((unhide CV).bel.trans (b2.mono hz1))
    clear o2 b2
    go_wp2
    go_ret
    exact ⟨_, rfl, by rw [unhide HE]; exact unhide O2, unhide HB⟩
--@end
end Go.Proofs.Ytjlocbimkfocnaa
