/-
  The bytes of a state: the program's. No statement is proved here.
-/
import Derived.Test.YtjlocbimkfocnaaTrB
import Derived.Test.YtjlocbimkfocnaaIStOk
import Derived.Test.YtjlocbimkfocnaaApp2
namespace Go.Proofs.Ytjlocbimkfocnaa
open Go.RowKit

theorem okE_fits {e : Key} (h : okE e.1 e.2.1 e.2.2.1 e.2.2.2.1 e.2.2.2.2 = true) : (0 ≤ e.1 ∧ e.1 ≤ 1000) ∧ (0 ≤ e.2.1 ∧ e.2.1 ≤ 1) ∧ (0 ≤ e.2.2.1 ∧ e.2.2.1 ≤ 100000) ∧ (0 ≤ e.2.2.2.1 ∧ e.2.2.2.1 ≤ 1000) ∧ (e.2.2.2.2.size : Int) ≤ 8 := by
  simp only [okE, Bool.and_eq_true, inB_iff, decide_eq_true_eq] at h
  obtain ⟨⟨⟨⟨a, b⟩, c⟩, d⟩, e⟩ := h
  exact ⟨⟨by omega, a.2⟩, b, c, d, e⟩
/-- A block of numbers, as it is laid for a call, reads as its numbers. -/
theorem rwN_blk {w : World} {g : Nat} {ns : List Int} {fz : Nat × Nat} (h : w.heap[g]? = some (.cells (ns.map (Value.int .i64)).toArray 3 fz)) : RwN w (.slice (some ⟨g, 0, none⟩) ns.length ns.length) ns := by
  refine ⟨_, _, rfl, Nat.le_refl _, .inr ⟨g, 0, rfl, (Array.getElem?_eq_some_iff.1 h).1, fun i x hx j hj => ?_⟩⟩
  obtain rfl : j = 0 := by omega
  obtain ⟨hi, rfl⟩ := List.getElem?_eq_some_iff.1 hx
  simp only [World.cell?, h]
  simp [encN, hi]
/-- While a state's bytes are made: the argument, what is made. -/
structure B2 (w X : World) (v1 v2 : Value) (v : Value) (bs : List Int) : Prop where
  bel : Below w.heap.size w X
  ka : X.heap[w.heap.size]? = some (.cells #[v1, v2] 27 (0, 0))
  ob : OwB w.heap.size X v bs
section
variable {w X Y : World} {v1 v2 v v' : Value} {bs cs : List Int}
theorem B2.lt (h : B2 w X v1 v2 v bs) : w.heap.size < X.heap.size := (Array.getElem?_eq_some_iff.1 h.ka).1
theorem B2.later (h : B2 w X v1 v2 v bs) (b : Below X.heap.size X Y) : B2 w Y v1 v2 v bs := by
  exact ⟨h.bel.trans (b.mono h.bel.size), (b.block _ h.lt).trans h.ka, owns_later h.ob b (Nat.le_refl _)⟩
theorem B2.app (h : B2 w X v1 v2 v bs) (ho : OwB w.heap.size Y v' cs) (hg : X.grownBy Y v.ownBlock) : B2 w Y v1 v2 v' cs :=
  ⟨h.bel.grown hg h.bel.size (fun k hk => (h.ob.lt k hk).1), (hg.block _ h.lt (fun q => own_ne h.ob h.ka (by decide) q.symm)).trans h.ka, ho⟩
/-- A block of another kind stays as it was. -/
theorem B2.keep (h : B2 w X v1 v2 v bs) (hg : X.grownBy Y v.ownBlock) {g : Nat} {zs : Array Value} {T : TypeId} {fz : Nat × Nat} (hk : X.heap[g]? = some (.cells zs T fz)) (hT : (5 : Nat) ≠ T) : Y.heap[g]? = some (.cells zs T fz) :=
  (hg.block _ (Array.getElem?_eq_some_iff.1 hk).1 (fun q => own_ne h.ob hk hT q.symm)).trans hk
end
theorem fit1 (a : Int) (h : -9223372036854775808 ≤ a ∧ a ≤ 9223372036854775807) : ∀ (k : Nat) (x : Int), [a][k]? = some x → -9223372036854775808 ≤ x ∧ x ≤ 9223372036854775807 := by
  intro k x hx
  have := List.mem_of_getElem? hx
  simp at this; subst this; exact h
theorem fit2 {a b : Int} (h1 : -9223372036854775808 ≤ a ∧ a ≤ 9223372036854775807) (h2 : -9223372036854775808 ≤ b ∧ b ≤ 9223372036854775807) : ∀ (k : Nat) (x : Int), [a, b][k]? = some x → -9223372036854775808 ≤ x ∧ x ≤ 9223372036854775807 := by
  intro k x hx
  have := List.mem_of_getElem? hx
  simp at this; rcases this with rfl | rfl <;> assumption
theorem fit5 {a b c d e : Int} (h1 : -9223372036854775808 ≤ a ∧ a ≤ 9223372036854775807) (h2 : -9223372036854775808 ≤ b ∧ b ≤ 9223372036854775807) (h3 : -9223372036854775808 ≤ c ∧ c ≤ 9223372036854775807) (h4 : -9223372036854775808 ≤ d ∧ d ≤ 9223372036854775807) (h5 : -9223372036854775808 ≤ e ∧ e ≤ 9223372036854775807) : ∀ (k : Nat) (x : Int), [a, b, c, d, e][k]? = some x → -9223372036854775808 ≤ x ∧ x ≤ 9223372036854775807 := by
  intro k x hx
  have := List.mem_of_getElem? hx
  simp at this; rcases this with rfl | rfl | rfl | rfl | rfl <;> assumption

set_option maxHeartbeats 8000000 in
set_option maxRecDepth 100000 in
theorem ibytes_any (ai : Option Addr) (ni ci : Nat) (xs : List Itm) (af : Option Addr) (nf cf : Nat) (fs : List Flr) (ok : Bool) (h0 : Hid (okS xs fs = ok)) (w : World)
    (hni : ni ≤ 140737488351232) (hnf : nf ≤ 140737488351232) (hx : Rw encI 6 w (.slice ai ni ci) xs) (hf : Rw encF 2 w (.slice af nf cf) fs) :
    Calls Try.prog 7 #[.agg #[.slice ai ni ci, .slice af nf cf]] w fun e w' => ∃ v, e = .returned v ∧ OwB w.heap.size w' v (sbS xs fs) ∧ Below w.heap.size w w' := by
  have HX := hide hx
  have HF := hide hf
  have HNI := hide hx.len.1
  have HNF := hide hf.len.1
  clear hx hf
  go_enter Try.func7, Try.ntmps7
  go_wp2_with fail
  have bW : Below w.heap.size w (w.alloc (.cells #[.slice ai ni ci, .slice af nf cf] 27)) := (Below.refl w.heap.size w).alloc (Nat.le_refl _) _
  refine (istateok_any ai ni ci xs af nf cf fs _ h0 _ hni hnf ((unhide HX).later bW) ((unhide HF).later bW)).mono ?_
  rintro e w1 ⟨rfl, b1⟩
  have CV : Hid (B2 w w1 (.slice ai ni ci) (.slice af nf cf) (.slice none 0 0) []) := hide ⟨bW.trans (b1.mono (by simp)), (b1.block _ (by simp)).trans (newB1 w _), OwB.nil _ _⟩
  have z1 := (unhide CV).lt
  clear b1 bW
  cases ok
  · have e0 : sbS xs fs = [] := by rw [sbS, unhide h0]; rfl
    go_wp2
    go_ret
    exact ⟨_, rfl, by rw [e0]; exact OwB.nil _ _, (unhide CV).bel⟩
  · have OA := (okS_iff _ _).1 (unhide h0)
    have HA := hide OA
    have m5 : ni ≤ 5 := by have := unhide HNI; have := OA.len5.1; omega
    have f5 : nf ≤ 5 := by have := unhide HNF; have := OA.len5.2; omega
    have HE : Hid (sbS xs fs = sb xs fs) := hide (by rw [sbS, unhide h0]; rfl)
    obtain ⟨p0, p1, -⟩ := blk_cells2 (unhide CV).ka
    clear OA h0
    go_wp2_with fail
    have R1 : RwN (w1.alloc (.cells #[.int .i64 (ni : Int)] 3)) (.slice (some ⟨w1.heap.size, 0, none⟩) 1 1) [(ni : Int)] := rwN_blk (ns := [(ni : Int)]) (newB1 w1 _)
    refine (iputnums_any _ 1 1 [(ni : Int)] _ (by omega) (fit1 _ (by omega)) R1).mono ?_
    rintro e w2 ⟨v2, rfl, o2, b2⟩
    have b2' := ((Below.refl w1.heap.size w1).alloc (Nat.le_refl _) (.cells #[.int .i64 (ni : Int)] 3)).trans (b2.mono (by simp))
    have J2' : Hid (B2 w w2 (.slice ai ni ci) (.slice af nf cf) v2 (putN xs.length)) := hide ⟨((unhide CV).later b2').bel, ((unhide CV).later b2').ka, by rw [nums_one, unhide HNI] at o2; exact owns_base o2 (by simp; omega)⟩
    clear o2 b2 b2' R1 CV p0 p1 z1
    obtain ⟨p0, p1, -⟩ := blk_cells2 (unhide J2').ka
    have z2 := (unhide J2').lt
    go_wp2
    go_loopw [3, 20] (fun v i wr => ∃ k : Nat, k ≤ ni ∧ i = .int .i64 k ∧ B2 w wr (.slice ai ni ci) (.slice af nf cf) v (putN xs.length ++ sbIs (xs.take k))) (fun _ i _ => ni - (intOf i).toNat)
    case atStart => exact ⟨0, by omega, rfl, by simpa [sbIs] using unhide J2'⟩
    case round =>
      clear J2' p0 p1 z2
      obtain ⟨k, hk, rfl, hJ⟩ := hrel
      have HJ := hide hJ
      have hsz := hJ.bel.size
      have hlt0 := hJ.lt
      have hL : (putN xs.length ++ sbIs (xs.take k)).length ≤ 1000 := by
        have h1 := putN_length xs.length
        have h2 := sbIs_len (xs := xs.take k) (fun x hx => (unhide HA).small x (List.mem_of_mem_take hx))
        have h3 : (xs.take k).length ≤ k := by simp; omega
        rw [List.length_append]; omega
      by_cases hlt : k < ni
      · obtain ⟨x, b, off, hx, rfl, hb, hcap, hc⟩ := ((unhide HX).later hJ.bel).at hlt
        obtain ⟨c0, c1, c2, c3, c4, c5⟩ := item_cells hc
        have hin := (unhide HA).ix x (List.mem_of_getElem? hx)
        obtain ⟨q1, q2, q3, q4, q5⟩ := okE_fits hin.2.2.1
        obtain ⟨i1, i2, -⟩ := hin
        have HX1 := hide hx
        clear hx hc hJ
        go_wp2_with fail
        have hW : Below wr.heap.size wr (((wr.alloc (.cells #[.int .i64 x.1, .int .i64 x.2.1, .int .i64 x.2.2.1, .int .i64 x.2.2.2.1, .int .i64 x.2.2.2.2.1, .string x.2.2.2.2.2] 64)).alloc (.cells #[.int .i64 x.2.1, .int .i64 x.2.2.1, .int .i64 x.2.2.2.1, .int .i64 x.2.2.2.2.1, .string x.2.2.2.2.2] 62)).alloc (.cells #[.int .i64 x.1, .int .i64 x.2.1, .int .i64 x.2.2.1, .int .i64 x.2.2.2.1, .int .i64 x.2.2.2.2.1] 3)) := ((((Below.refl wr.heap.size wr).alloc (Nat.le_refl _) _).alloc (by simp) _).alloc (by simp; omega) _)
        refine (iputnums_any _ 5 5 [x.1, x.2.1, x.2.2.1, x.2.2.2.1, x.2.2.2.2.1] _ (by omega) (fit5 (by omega) (by omega) (by omega) (by omega) (by omega)) (rwN_blk (ns := [x.1, x.2.1, x.2.2.1, x.2.2.2.1, x.2.2.2.2.1]) (newB3 wr _ _ _))).mono ?_
        rintro e w3 ⟨v3, rfl, o3, b3⟩
        have b3' := hW.trans (b3.mono (by simp; omega))
        have J3' := hide ((unhide HJ).later b3')
        have KE := hide ((b3.block (wr.heap.size + 1) (by simp)).trans (midB3 wr _ _ _))
        have O3 := hide o3
        have hsz3 := (unhide J3').bel.size
        have hn5 : (nums [x.1, x.2.1, x.2.2.1, x.2.2.2.1, x.2.2.2.2.1]).length ≤ 25 := nums_len [x.1, x.2.1, x.2.2.1, x.2.2.2.1, x.2.2.2.2.1]
        have hl3 : (putN xs.length ++ sbIs (xs.take k)).length + (nums [x.1, x.2.1, x.2.2.1, x.2.2.2.1, x.2.2.2.2.1]).length ≤ 100000000 := by
          omega
        clear c0 c1 c2 c3 c4 c5 b3 b3' hW o3 HJ
        have ze3 : wr.heap.size + 1 < w3.heap.size := (Array.getElem?_eq_some_iff.1 (unhide KE)).1
        obtain ⟨e0, e1, e2, e3, e4, -⟩ := blk_cells5 (unhide KE)
        have E4 := hide e4
        clear e0 e1 e2 e3 e4
        go_upto_region 9 with (at_builtin; refine wpList_appB _ rfl _ _ rfl w.heap.size _ _ rfl (unhide J3').ob _ _ _ rfl (unhide O3) hl3 hsz3 ?_; intro v4 w4 hO hG; have KE4 := hide ((unhide J3').keep hG (unhide KE) (by decide)); have J4 := hide ((unhide J3').app hO hG); clear hO hG)
        obtain ⟨e0, e1, e2, e3, e4, -⟩ := blk_cells5 (unhide KE4)
        have ze4 : wr.heap.size + 1 < w4.heap.size := (Array.getElem?_eq_some_iff.1 (unhide KE4)).1
        clear E4 KE J3' O3
        go_wp2_with fail
        refine (iputtext_any x.2.2.2.2.2 _ (by omega)).mono ?_
        rintro e w5 ⟨v5, rfl, o5, b5⟩
        have J5 := hide ((unhide J4).later b5)
        have O5 := hide o5
        have hsz5 := (unhide J5).bel.size
        have hl5 : ((putN xs.length ++ sbIs (xs.take k)) ++ nums [x.1, x.2.1, x.2.2.1, x.2.2.2.1, x.2.2.2.2.1]).length + (putT (bl x.2.2.2.2.2)).length ≤ 100000000 := by
          have h1 := putT_len (bl x.2.2.2.2.2)
          rw [bl_length] at h1
          rw [List.length_append]; omega
        have HP : Hid (((putN xs.length ++ sbIs (xs.take k)) ++ nums [x.1, x.2.1, x.2.2.1, x.2.2.2.1, x.2.2.2.2.1]) ++ putT (bl x.2.2.2.2.2) = putN xs.length ++ sbIs (xs.take (k + 1))) := hide (by
          rw [sbIs_take (unhide HX1), sbI]; simp only [List.append_assoc])
        clear e0 e1 e2 e3 e4 b5 o5 J4 KE4
        go_wp2_with (at_builtin; refine wpList_appB _ rfl _ _ rfl w.heap.size _ _ rfl (unhide J5).ob _ _ _ rfl (unhide O5) hl5 hsz5 ?_; intro v6 w6 hO hG; have J6 := hide ((unhide J5).app hO hG); clear hO hG)
        go_roundw
        case rel => exact ⟨k + 1, by omega, by go_num, by rw [← unhide HP]; exact unhide J6⟩
        case measure => simp [intOf]; omega
      · have HT : Hid (putN xs.length ++ sbIs (xs.take k) = putN xs.length ++ sbIs xs) := hide (by rw [List.take_of_length_le (by have := unhide HNI; omega)])
        rw [unhide HT] at hL hJ
        replace HJ := hide hJ
        clear hJ HT
        obtain ⟨p0, p1, -⟩ := blk_cells2 (unhide HJ).ka
        go_wp2_with fail
        have R1 : RwN (wr.alloc (.cells #[.int .i64 (nf : Int)] 3)) (.slice (some ⟨wr.heap.size, 0, none⟩) 1 1) [(nf : Int)] := rwN_blk (ns := [(nf : Int)]) (newB1 wr _)
        refine (iputnums_any _ 1 1 [(nf : Int)] _ (by omega) (fit1 _ (by omega)) R1).mono ?_
        rintro e w3 ⟨v3, rfl, o3, b3⟩
        have b3' := ((Below.refl wr.heap.size wr).alloc (Nat.le_refl _) (.cells #[.int .i64 (nf : Int)] 3)).trans (b3.mono (by simp))
        have J3' := hide ((unhide HJ).later b3')
        have O3 : Hid (OwB (wr.alloc (.cells #[.int .i64 (nf : Int)] 3)).heap.size w3 v3 (putN fs.length)) := hide (by
          have e : putN (nf : Int) = putN fs.length := by rw [unhide HNF]
          rw [nums_one, e] at o3; exact o3)
        have hsz3 := (unhide J3').bel.size
        have hl3 : (putN xs.length ++ sbIs xs).length + (putN fs.length).length ≤ 100000000 := by have := putN_length fs.length; omega
        clear o3 b3 b3' R1 HJ p0 p1
        obtain ⟨p0, p1, -⟩ := blk_cells2 (unhide J3').ka
        have P0 := hide p0
        have P1 := hide p1
        clear p0 p1
        go_upto_region 12 with (at_builtin; refine wpList_appB _ rfl _ _ rfl w.heap.size _ _ rfl (unhide J3').ob _ _ _ rfl (unhide O3) hl3 hsz3 ?_; intro v4 w4 hO hG; have J4 := hide ((unhide J3').app hO hG); clear hO hG)
        obtain ⟨p0, p1, -⟩ := blk_cells2 (unhide J4).ka
        have z4 := (unhide J4).lt
        clear P0 P1 J3' O3
        go_wp2
        go_loopw [3, 56] (fun v i wr => ∃ k : Nat, k ≤ nf ∧ i = .int .i64 k ∧ B2 w wr (.slice ai ni ci) (.slice af nf cf) v ((putN xs.length ++ sbIs xs) ++ putN fs.length ++ sbFs (fs.take k))) (fun _ i _ => nf - (intOf i).toNat)
        case atStart => exact ⟨0, by omega, rfl, by simpa [sbFs] using unhide J4⟩
        case round =>
          clear J4 p0 p1 z4 hl3 hsz3 hsz hlt0
          obtain ⟨k, hk, rfl, hJ⟩ := hrel
          have HJ := hide hJ
          have hsz := hJ.bel.size
          have hlt0 := hJ.lt
          have hM : ((putN xs.length ++ sbIs xs) ++ putN fs.length ++ sbFs (fs.take k)).length ≤ 2000 := by
            have h1 := putN_length fs.length
            have h2 := sbFs_len (fs.take k)
            have h3 : (fs.take k).length ≤ k := by simp; omega
            rw [List.length_append, List.length_append]; omega
          by_cases hlt : k < nf
          · obtain ⟨x, b, off, hx, rfl, hb, hcap, hc⟩ := ((unhide HF).later hJ.bel).at hlt
            have c0 : wr.cell? ⟨b, off + k * 2, none⟩ = some (.int .i64 x.1) := hc 0 (by omega)
            have c1 : wr.cell? ⟨b, off + k * 2 + 1, none⟩ = some (.int .i64 x.2) := hc 1 (by omega)
            obtain ⟨i1, i2, i3, i4⟩ := (unhide HA).jf x (List.mem_of_getElem? hx)
            have HX1 := hide hx
            clear hx hc hJ
            go_wp2_with fail
            have hW : Below wr.heap.size wr ((wr.alloc (.cells #[.int .i64 x.1, .int .i64 x.2] 67)).alloc (.cells #[.int .i64 x.1, .int .i64 x.2] 3)) := (((Below.refl wr.heap.size wr).alloc (Nat.le_refl _) _).alloc (by simp) _)
            refine (iputnums_any _ 2 2 [x.1, x.2] _ (by omega) (fit2 (by omega) (by omega)) (rwN_blk (ns := [x.1, x.2]) (newB2 wr _ _))).mono ?_
            rintro e w3 ⟨v3, rfl, o3, b3⟩
            have b3' := hW.trans (b3.mono (by simp; omega))
            have J3' := hide ((unhide HJ).later b3')
            have O3 := hide o3
            have hsz3 := (unhide J3').bel.size
            have hl3 : ((putN xs.length ++ sbIs xs) ++ putN fs.length ++ sbFs (fs.take k)).length + (nums [x.1, x.2]).length ≤ 100000000 := by
              have := nums_len [x.1, x.2]
              simp only [List.length_cons, List.length_nil] at this; omega
            have HP : Hid (((putN xs.length ++ sbIs xs) ++ putN fs.length ++ sbFs (fs.take k)) ++ nums [x.1, x.2] = (putN xs.length ++ sbIs xs) ++ putN fs.length ++ sbFs (fs.take (k + 1))) := hide (by
              rw [sbFs_take (unhide HX1), sbF]; simp only [List.append_assoc])
            clear c0 c1 b3 b3' hW o3 HJ
            go_wp2_with (at_builtin; refine wpList_appB _ rfl _ _ rfl w.heap.size _ _ rfl (unhide J3').ob _ _ _ rfl (unhide O3) hl3 hsz3 ?_; intro v6 w6 hO hG; have J6 := hide ((unhide J3').app hO hG); clear hO hG)
            go_roundw
            case rel => exact ⟨k + 1, by omega, by go_num, by rw [← unhide HP]; exact unhide J6⟩
            case measure => simp [intOf]; omega
          · have HT : Hid ((putN xs.length ++ sbIs xs) ++ putN fs.length ++ sbFs (fs.take k) = sbS xs fs) := hide (by rw [unhide HE, sb, List.take_of_length_le (by have := unhide HNF; omega), List.append_assoc])
            clear hJ
            go_wp2
            go_ret
            exact ⟨_, rfl, by rw [← unhide HT]; exact (unhide HJ).ob, (unhide HJ).bel⟩
end Go.Proofs.Ytjlocbimkfocnaa
