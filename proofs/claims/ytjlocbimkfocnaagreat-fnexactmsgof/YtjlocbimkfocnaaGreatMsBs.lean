/-
  The bytes of a message: the specification's. No statement is proved here.
-/
import Derived.Test.YtjlocbimkfocnaaGreatMsG
import Derived.Test.YtjlocbimkfocnaaGreatTrBS
import Derived.Test.YtjlocbimkfocnaaGreatSCrc
import Derived.Test.YtjlocbimkfocnaaGreatMsZ
import Derived.Test.YtjlocbimkfocnaaGreatByO
namespace Go.Proofs.YtjlocbimkfocnaaGreat
open Go.RowKit

/-- While bytes are made: the argument's variable, what is made. -/
structure By (w X : World) (cs : Array Value) (T : TypeId) (v : Value) (bs : List Int) : Prop where
  bel : Below w.heap.size w X
  ka : X.heap[w.heap.size]? = some (.cells cs T (0, 0))
  ob : OwB (w.heap.size + 1) X v bs
section
variable {w X Y : World} {cs : Array Value} {T : TypeId} {v v' : Value} {bs ds : List Int}
theorem By.lt (h : By w X cs T v bs) : w.heap.size < X.heap.size := (Array.getElem?_eq_some_iff.1 h.ka).1
theorem By.later (h : By w X cs T v bs) (b : Below X.heap.size X Y) : By w Y cs T v bs :=
  ⟨h.bel.trans (b.mono h.bel.size), (b.block _ h.lt).trans h.ka, owns_later h.ob b (Nat.le_refl _)⟩
theorem By.app (h : By w X cs T v bs) (ho : OwB (w.heap.size + 1) Y v' ds) (hg : X.grownBy Y v.ownBlock) : By w Y cs T v' ds :=
  ⟨h.bel.grown hg h.bel.size (fun k hk => by have := (h.ob.lt k hk).1; omega), (hg.block _ h.lt (fun q => by have := (h.ob.lt _ q.symm).1; omega)).trans h.ka, ho⟩
end
theorem owB_blk {w : World} {g base : Nat} {bs : List Int} (hb : base ≤ g) (hl : bs.length ≤ 1000000) (h : w.heap[g]? = some (.cells (bs.map (Value.int .u8)).toArray 5 (0, 0))) : OwB base w (.slice (some ⟨g, 0, none⟩) bs.length bs.length) bs :=
  ⟨by simp, .inr ⟨g, bs.length, _, rfl, hb, h, Nat.le_refl _, by unfold maxLen; omega, by simp, by simp [List.take_of_length_le]⟩⟩
theorem nums_len5 {ns : List Int} {n : Nat} (h : ns.length ≤ n) : (nums ns).length ≤ n * 5 := by
  have := nums_len ns
  omega
theorem rng_fit {x : Int} (h : Rng x) : -9223372036854775808 ≤ x ∧ x ≤ 9223372036854775807 := ⟨by have := h.1; omega, by have := h.2; omega⟩
set_option maxHeartbeats 2000000 in
set_option maxRecDepth 100000 in
theorem slist_any (a : Option Addr) (n c : Nat) (ns : List Int) (w : World) (hn : n ≤ 1000) (hfit : ∀ z ∈ ns, Rng z) (h : RwN w (.slice a n c) ns) :
    Calls Tryz.prog 120 #[.slice a n c] w fun e w' => ∃ v, e = .returned v ∧ OwB w.heap.size w' v (lsB ns) ∧ Below w.heap.size w w' := by
  have HR := hide h
  have HF := hide hfit
  have HN := hide h.len.1
  clear h hfit
  go_enter Tryz.func120, Tryz.ntmps120
  go_wp2_with fail
  refine (sputnum_any (n : Int) _ (by omega) (by omega)).mono ?_
  rintro e w1 ⟨u, rfl, o1, b1⟩
  have O1 : Hid (OwB w.heap.size w1 u (putN ns.length)) := hide (by have e : putN (n : Int) = putN ns.length := by rw [unhide HN]
                                                                    rw [← e]; exact o1)
  have B1 := hide b1
  clear o1 b1
  go_wp2
  go_loopw [3, 4] (fun v i wr => ∃ k : Nat, k ≤ n ∧ i = .int .i64 k ∧ OwB w.heap.size wr v (putN ns.length ++ nums (ns.take k)) ∧ Below w.heap.size w wr) (fun _ i _ => n - (intOf i).toNat)
  case atStart => exact ⟨0, by omega, rfl, by simpa [nums] using unhide O1, unhide B1⟩
  case round =>
    clear O1 B1
    obtain ⟨k, hk, rfl, hown, hbel⟩ := hrel
    have HO := hide hown
    have HB := hide hbel
    have hsz := hbel.size
    clear hown
    by_cases hlt : k < n
    · obtain ⟨z, b, off, hz, rfl, hb, hcap, cz⟩ := ((unhide HR).later hbel).atN hlt
      obtain ⟨f1, f2⟩ := rng_fit (unhide HF z (List.mem_of_getElem? hz))
      have HZ := hide (nums_take hz)
      clear hz hbel
      go_wp2_with fail
      refine (sputnum_any z _ f1 f2).mono ?_
      rintro e w2 ⟨u, rfl, o2, b2⟩
      have HO2 := hide (owns_later (unhide HO) b2 (Nat.le_refl _))
      have HU := hide o2
      have HB2 := hide ((unhide HB).trans (b2.mono hsz))
      have hw2 := (unhide HB2).size
      have hl : (putN ns.length ++ nums (ns.take k)).length + (putN z).length ≤ 100000000 := by
        have h1 := nums_len (ns.take k)
        have h2 := putN_length z
        have h3 : (ns.take k).length ≤ k := by simp; omega
        have h4 := putN_length ns.length
        rw [List.length_append]
        omega
      clear o2 b2 HO HB
      go_wp2_with (at_builtin; refine wpList_appB _ rfl _ _ rfl w.heap.size _ _ rfl (unhide HO2) _ _ _ rfl (unhide HU) hl hw2 ?_; intro v' w3 hO hG; have HO3 := hide hO; have HB3 := hide ((unhide HB2).grown hG hw2 (fun k hk => ((unhide HO2).lt k hk).1)); clear hO hG)
      go_roundw
      case rel => exact ⟨k + 1, by omega, by go_num, by rw [unhide HZ, ← List.append_assoc]; exact unhide HO3, unhide HB3⟩
      case measure => simp [intOf]; omega
    · have HT : Hid (putN ns.length ++ nums (ns.take k) = lsB ns) := hide (by rw [List.take_of_length_le (by have := unhide HN; omega)]; rfl)
      clear hbel
      go_wp2
      go_ret
      exact ⟨_, rfl, by rw [← unhide HT]; exact unhide HO, unhide HB⟩
set_option maxHeartbeats 2000000 in
set_option maxRecDepth 100000 in
theorem ssum_any (v : Value) (xs : List Int) (w : World) (hlen : xs.length ≤ 281474976710656) (hbd : ∀ z ∈ xs, 0 ≤ z ∧ z ≤ 255) (hv : Seg w v xs) :
    Calls Tryz.prog 47 #[v] w fun e w' => ∃ u, e = .returned u ∧ OwB w.heap.size w' u (sumB (crcOf xs)) ∧ Below w.heap.size w w' := by
  have q0 := crcOf_nonneg xs hbd
  have q1 := crcOf_range xs hbd
  have HV := hide hv
  obtain ⟨x, hx⟩ : ∃ x, Hid (crcOf xs = x) := ⟨_, hide rfl⟩
  rw [unhide hx] at q0 q1
  have HC : Hid (∀ W, Seg W v xs → Calls Tryz.prog 88 #[v] W fun e w' => e = .returned (.int .i64 x) ∧ W = w') := hide (fun W hs => by rw [← unhide hx]; exact scrc_any v xs W hlen hs)
  clear hv hbd
  go_enter Tryz.func47, Tryz.ntmps47
  go_wp2_with fail
  refine (unhide HC _ (unhide HV)).mono ?_
  rintro e _ ⟨rfl, rfl⟩
  go_wp2
  go_ret
  refine ⟨_, rfl, ?_, (Below.refl _ _).alloc (Nat.le_refl _) _⟩
  rw [unhide hx]
  exact owB_blk (bs := sumB x) (Nat.le_refl _) (by simp [sumB_len]) (newB1 w _)
def hd5 (m : Mg) : List Int := [m.k, m.f, m.t, m.n, m.h]
theorem hd5_rng {m : Mg} (h : RngM m) : ∀ z ∈ hd5 m, Rng z := fun z hz => by
  simp [hd5] at hz
  rcases hz with rfl | rfl | rfl | rfl | rfl
  · exact h.k
  · exact h.f
  · exact h.t
  · exact h.n
  · exact h.h
set_option maxHeartbeats 16000000 in
set_option maxRecDepth 100000 in
theorem sbody_any (m : Mg) (p : Mp) (HO : Hid (RngM m)) (w : World) (hm : RwM w m p) :
    Calls Tryz.prog 87 #[.agg #[.int .i64 m.k, .int .i64 m.f, .int .i64 m.t, .int .i64 m.n, .int .i64 m.h, .slice p.ta p.tn p.tc, .int .i64 m.tr, .slice p.va p.vn p.vc, .slice p.la p.ln p.lc, .slice p.xa p.xn p.xc, .slice p.ya p.yn p.yc, .slice p.ka p.kn p.kc]] w fun e w' => ∃ v, e = .returned v ∧ OwB w.heap.size w' v (bodyM m) ∧ Below w.heap.size w w' := by
  have HM := hide hm
  obtain ⟨l1, l2, l3, l4, l5, l6⟩ := hm.len
  have q1 : p.tn ≤ 4 := by rw [l1]; exact (unhide HO).tl.1
  have q2 : p.vn ≤ 5 := by rw [l2]; exact (unhide HO).ve.1
  have q3 : p.ln ≤ 4 := by rw [l3]; exact (unhide HO).le.1
  have q6 : p.kn ≤ 5 := by rw [l6]; exact (unhide HO).ma.1
  have HL6 := hide l6
  have y1 := lsB_len m.tl
  have y2 := lsB_len m.ve
  have y3 := lsB_len m.le
  have y4 := sb_len (unhide HO).st
  have y5 := putN_length m.tr
  have y6 := putN_length ((sb m.its m.fls).length : Int)
  have y7 := putN_length (m.ma.length : Int)
  rw [← l1] at y1
  rw [← l2] at y2
  rw [← l3] at y3
  clear hm l1 l2 l3 l4 l5 l6
  obtain ⟨wA, hwA⟩ : ∃ W, W = ((w.alloc (.cells #[.int .i64 m.k, .int .i64 m.f, .int .i64 m.t, .int .i64 m.n, .int .i64 m.h, .slice p.ta p.tn p.tc, .int .i64 m.tr, .slice p.va p.vn p.vc, .slice p.la p.ln p.lc, .slice p.xa p.xn p.xc, .slice p.ya p.yn p.yc, .slice p.ka p.kn p.kc] 33)).alloc (.cells #[.int .u8 82, .int .u8 75] 5)).alloc (.cells #[.int .i64 m.k, .int .i64 m.f, .int .i64 m.t, .int .i64 m.n, .int .i64 m.h] 3) := ⟨_, rfl⟩
  have KH := hide (show wA.heap[w.heap.size + 1 + 1]? = some (.cells #[.int .i64 m.k, .int .i64 m.f, .int .i64 m.t, .int .i64 m.n, .int .i64 m.h] 3 (0, 0)) from by rw [hwA]; exact newB3 w _ _ _)
  have J := hide (show By w wA #[.int .i64 m.k, .int .i64 m.f, .int .i64 m.t, .int .i64 m.n, .int .i64 m.h, .slice p.ta p.tn p.tc, .int .i64 m.tr, .slice p.va p.vn p.vc, .slice p.la p.ln p.lc, .slice p.xa p.xn p.xc, .slice p.ya p.yn p.yc, .slice p.ka p.kn p.kc] 33 (.slice (some ⟨w.heap.size + 1, 0, none⟩) 2 2) [82, 75] from ⟨by rw [hwA]; exact (((Below.refl _ _).alloc (Nat.le_refl _) _).alloc (by simp) _).alloc (by simp; omega) _, by rw [hwA]; exact lowB3 w _ _ _, owB_blk (bs := [82, 75]) (Nat.le_refl _) (by simp) (by rw [hwA]; exact midB3 w _ _ _)⟩)
  go_enter Tryz.func87, Tryz.ntmps87
  go_wp2_with fail
  rw [← hwA]
  clear hwA
  go_loopw [3, 5] (fun v i wr => ∃ j : Nat, j ≤ 5 ∧ i = .int .i64 j ∧ By w wr #[.int .i64 m.k, .int .i64 m.f, .int .i64 m.t, .int .i64 m.n, .int .i64 m.h, .slice p.ta p.tn p.tc, .int .i64 m.tr, .slice p.va p.vn p.vc, .slice p.la p.ln p.lc, .slice p.xa p.xn p.xc, .slice p.ya p.yn p.yc, .slice p.ka p.kn p.kc] 33 v ([82, 75] ++ nums ((hd5 m).take j)) ∧ wr.heap[w.heap.size + 1 + 1]? = some (.cells #[.int .i64 m.k, .int .i64 m.f, .int .i64 m.t, .int .i64 m.n, .int .i64 m.h] 3 (0, 0))) (fun _ i _ => 5 - (intOf i).toNat)
  case atStart => exact ⟨0, by omega, rfl, by simpa [nums] using unhide J, unhide KH⟩
  case round =>
    clear J KH
    obtain ⟨j, hj, rfl, hJ, hh⟩ := hrel
    have J := hide hJ
    have KH := hide hh
    have hszj := hJ.bel.size
    have hn5 : (nums ((hd5 m).take j)).length ≤ 25 := nums_len5 (n := 5) (by simp; omega)
    by_cases hlj : j < 5
    · obtain ⟨z, b', off', hz, hp, hb', -, cz⟩ := (rwN_blk (ns := hd5 m) hh).atN (i := j) hlj
      simp only [Option.some.injEq, Addr.mk.injEq, and_true] at hp
      obtain ⟨rfl, rfl⟩ := hp
      rw [Nat.zero_add] at cz
      obtain ⟨f1, f2⟩ := rng_fit (hd5_rng (unhide HO) z (List.mem_of_getElem? hz))
      have HZ := hide (nums_take hz)
      clear hz hJ hh
      go_wp2_with fail
      refine (sputnum_any z _ f1 f2).mono ?_
      rintro e w3 ⟨v3, rfl, o3, b3⟩
      have J3 := hide ((unhide J).later b3)
      have KH3 := hide ((b3.block _ (Array.getElem?_eq_some_iff.1 (unhide KH)).1).trans (unhide KH))
      have O3 := hide o3
      have hsz3 := (unhide J3).lt
      have hl3 : ([82, 75] ++ nums ((hd5 m).take j)).length + (putN z).length ≤ 100000000 := by
        have := putN_length z
        rw [List.length_append]; simp; omega
      clear o3 b3 J KH
      go_wp2_with (at_builtin; refine wpList_appB _ rfl _ _ rfl (w.heap.size + 1) _ _ rfl (unhide J3).ob _ _ _ rfl (unhide O3) hl3 hsz3 ?_; intro v4 w4 hO hG; have J4 := hide ((unhide J3).app hO hG); have KH4 := hide ((hG.block _ (Array.getElem?_eq_some_iff.1 (unhide KH3)).1 (fun q => own_ne (unhide J3).ob (unhide KH3) (by decide) q.symm)).trans (unhide KH3)); clear hO hG)
      go_roundw
      case rel => exact ⟨j + 1, by omega, by go_num, by rw [unhide HZ, ← List.append_assoc]; exact unhide J4, unhide KH4⟩
      case measure => simp [intOf]; omega
    · have e5 : Hid ([82, 75] ++ nums ((hd5 m).take j) = [82, 75] ++ nums [m.k, m.f, m.t, m.n, m.h]) := hide (by rw [List.take_of_length_le (by simp [hd5]; omega)]; rfl)
      rw [unhide e5] at hJ
      have J := hide hJ
      clear hJ hh KH e5 hn5
      have hb0 : ([82, 75] ++ nums [m.k, m.f, m.t, m.n, m.h]).length ≤ 27 := by
        have h5 := nums_len [m.k, m.f, m.t, m.n, m.h]
        rw [List.length_append]; simp at h5 ⊢; omega
      obtain ⟨c0, c1, c2, c3, c4, c5, c6, c7, c8, c9, ca, cb, -⟩ := msg_cells (unhide J).ka
      have z1 := (unhide J).lt
      go_wp2_with fail
      refine (slist_any p.ta p.tn p.tc m.tl _ (by omega) (unhide HO).tl.2 ((unhide HM).later (unhide J).bel).t).mono ?_
      rintro e w9 ⟨v9, rfl, o9, b9⟩
      have J9 := hide ((unhide J).later b9)
      have O9 : Hid (OwB _ w9 v9 (lsB m.tl)) := hide o9
      have hs9 := (unhide J9).lt
      have hl9 : ([82, 75] ++ nums [m.k, m.f, m.t, m.n, m.h]).length + (lsB m.tl).length ≤ 100000000 := by omega
      have hb1 : ([82, 75] ++ nums [m.k, m.f, m.t, m.n, m.h] ++ lsB m.tl).length ≤ 67 := by rw [List.length_append]; omega
      clear o9 b9 J c0 c1 c2 c3 c4 c5 c6 c7 c8 c9 ca cb z1
      go_wp2_with (at_builtin; refine wpList_appB _ rfl _ _ rfl (w.heap.size + 1) _ _ rfl (unhide J9).ob _ _ _ rfl (unhide O9) hl9 hs9 ?_; intro vx wx hO hG; have J := hide ((unhide J9).app hO hG); clear hO hG J9 O9 hs9 hl9; obtain ⟨c0, c1, c2, c3, c4, c5, c6, c7, c8, c9, ca, cb, -⟩ := msg_cells (unhide J).ka; have z1 := (unhide J).lt)
      refine (sputnum_any m.tr _ (rng_fit (unhide HO).tr).1 (rng_fit (unhide HO).tr).2).mono ?_
      rintro e w9 ⟨v9, rfl, o9, b9⟩
      have J9 := hide ((unhide J).later b9)
      have O9 : Hid (OwB _ w9 v9 (putN m.tr)) := hide o9
      have hs9 := (unhide J9).lt
      have hl9 : ([82, 75] ++ nums [m.k, m.f, m.t, m.n, m.h] ++ lsB m.tl).length + (putN m.tr).length ≤ 100000000 := by omega
      have hb2 : ([82, 75] ++ nums [m.k, m.f, m.t, m.n, m.h] ++ lsB m.tl ++ putN m.tr).length ≤ 107 := by rw [List.length_append]; omega
      clear o9 b9 J c0 c1 c2 c3 c4 c5 c6 c7 c8 c9 ca cb z1
      go_wp2_with (at_builtin; refine wpList_appB _ rfl _ _ rfl (w.heap.size + 1) _ _ rfl (unhide J9).ob _ _ _ rfl (unhide O9) hl9 hs9 ?_; intro vx wx hO hG; have J := hide ((unhide J9).app hO hG); clear hO hG J9 O9 hs9 hl9; obtain ⟨c0, c1, c2, c3, c4, c5, c6, c7, c8, c9, ca, cb, -⟩ := msg_cells (unhide J).ka; have z1 := (unhide J).lt)
      refine (slist_any p.va p.vn p.vc m.ve _ (by omega) (unhide HO).ve.2 ((unhide HM).later (unhide J).bel).v).mono ?_
      rintro e w9 ⟨v9, rfl, o9, b9⟩
      have J9 := hide ((unhide J).later b9)
      have O9 : Hid (OwB _ w9 v9 (lsB m.ve)) := hide o9
      have hs9 := (unhide J9).lt
      have hl9 : ([82, 75] ++ nums [m.k, m.f, m.t, m.n, m.h] ++ lsB m.tl ++ putN m.tr).length + (lsB m.ve).length ≤ 100000000 := by omega
      have hb3 : ([82, 75] ++ nums [m.k, m.f, m.t, m.n, m.h] ++ lsB m.tl ++ putN m.tr ++ lsB m.ve).length ≤ 147 := by rw [List.length_append]; omega
      clear o9 b9 J c0 c1 c2 c3 c4 c5 c6 c7 c8 c9 ca cb z1
      go_wp2_with (at_builtin; refine wpList_appB _ rfl _ _ rfl (w.heap.size + 1) _ _ rfl (unhide J9).ob _ _ _ rfl (unhide O9) hl9 hs9 ?_; intro vx wx hO hG; have J := hide ((unhide J9).app hO hG); clear hO hG J9 O9 hs9 hl9; obtain ⟨c0, c1, c2, c3, c4, c5, c6, c7, c8, c9, ca, cb, -⟩ := msg_cells (unhide J).ka; have z1 := (unhide J).lt)
      refine (slist_any p.la p.ln p.lc m.le _ (by omega) (unhide HO).le.2 ((unhide HM).later (unhide J).bel).l).mono ?_
      rintro e w9 ⟨v9, rfl, o9, b9⟩
      have J9 := hide ((unhide J).later b9)
      have O9 : Hid (OwB _ w9 v9 (lsB m.le)) := hide o9
      have hs9 := (unhide J9).lt
      have hl9 : ([82, 75] ++ nums [m.k, m.f, m.t, m.n, m.h] ++ lsB m.tl ++ putN m.tr ++ lsB m.ve).length + (lsB m.le).length ≤ 100000000 := by omega
      have hb4 : ([82, 75] ++ nums [m.k, m.f, m.t, m.n, m.h] ++ lsB m.tl ++ putN m.tr ++ lsB m.ve ++ lsB m.le).length ≤ 187 := by rw [List.length_append]; omega
      clear o9 b9 J c0 c1 c2 c3 c4 c5 c6 c7 c8 c9 ca cb z1
      go_wp2_with (at_builtin; refine wpList_appB _ rfl _ _ rfl (w.heap.size + 1) _ _ rfl (unhide J9).ob _ _ _ rfl (unhide O9) hl9 hs9 ?_; intro vx wx hO hG; have J := hide ((unhide J9).app hO hG); clear hO hG J9 O9 hs9 hl9; obtain ⟨c0, c1, c2, c3, c4, c5, c6, c7, c8, c9, ca, cb, -⟩ := msg_cells (unhide J).ka; have z1 := (unhide J).lt)
      have HV := hide (fun g hg => ((unhide J).ob.lt g hg).2)
      refine (l6bytes_any p.xa p.xn p.xc m.its p.ya p.yn p.yc m.fls (hide (unhide HO).st) _ ((unhide HM).later (unhide J).bel).x ((unhide HM).later (unhide J).bel).y).mono ?_
      rintro e w8 ⟨v8, rfl, o8, b8⟩
      obtain ⟨aP, cP, rfl, -⟩ := seg_of_owns o8
      have OP := hide o8
      have J8 := hide ((unhide J).later b8)
      clear o8 b8 J c0 c1 c2 c3 c4 c5 c6 c7 c8 c9 ca cb z1
      have J := J8
      clear J8
      obtain ⟨c0, c1, c2, c3, c4, c5, c6, c7, c8, c9, ca, cb, -⟩ := msg_cells (unhide J).ka
      have z1 := (unhide J).lt
      go_wp2_with fail
      refine (sputnum_any ((sb m.its m.fls).length : Int) _ (by omega) (by omega)).mono ?_
      rintro e w9 ⟨v9, rfl, o9, b9⟩
      have J9 := hide ((unhide J).later b9)
      have OP9 := hide (owns_later (unhide OP) b9 (Nat.le_refl _))
      have O9 : Hid (OwB _ w9 v9 (putN ((sb m.its m.fls).length : Int))) := hide o9
      have hs9 := (unhide J9).lt
      have hl9 : ([82, 75] ++ nums [m.k, m.f, m.t, m.n, m.h] ++ lsB m.tl ++ putN m.tr ++ lsB m.ve ++ lsB m.le).length + (putN ((sb m.its m.fls).length : Int)).length ≤ 100000000 := by omega
      have hb5 : ([82, 75] ++ nums [m.k, m.f, m.t, m.n, m.h] ++ lsB m.tl ++ putN m.tr ++ lsB m.ve ++ lsB m.le ++ putN ((sb m.its m.fls).length : Int)).length ≤ 300 := by rw [List.length_append]; omega
      have hl8 : ([82, 75] ++ nums [m.k, m.f, m.t, m.n, m.h] ++ lsB m.tl ++ putN m.tr ++ lsB m.ve ++ lsB m.le ++ putN ((sb m.its m.fls).length : Int)).length + (sb m.its m.fls).length ≤ 100000000 := by omega
      have hb6 : ([82, 75] ++ nums [m.k, m.f, m.t, m.n, m.h] ++ lsB m.tl ++ putN m.tr ++ lsB m.ve ++ lsB m.le ++ putN ((sb m.its m.fls).length : Int) ++ sb m.its m.fls).length ≤ 1000 := by rw [List.length_append]; omega
      clear o9 b9 J OP c0 c1 c2 c3 c4 c5 c6 c7 c8 c9 ca cb z1
      go_wp2_with (first | (at_builtin; refine wpList_appB _ rfl _ _ rfl (w.heap.size + 1) _ _ rfl (unhide J9).ob _ _ _ rfl (unhide O9) hl9 hs9 ?_; intro vx wx hO hG; have J := hide ((unhide J9).app hO hG); have OPx := hide (owY_iff.1 ((Trn.of_grown hG).own (owY_iff.2 (unhide OP9)) (fun i hi e => by have h1 := unhide HV i e; have h2 := ((unhide OP9).lt i hi).1; omega))); have hs8 := (unhide J).lt; clear hO hG J9 O9 hs9 hl9 OP9 HV) | (at_builtin; refine wpList_appB _ rfl _ _ rfl (w.heap.size + 1) _ _ rfl (unhide J).ob _ _ _ rfl (unhide OPx) hl8 hs8 ?_; intro vy wy hO hG; have JJ := hide ((unhide J).app hO hG); clear hO hG J OPx hs8 hl8; have J := JJ; clear JJ; obtain ⟨c0, c1, c2, c3, c4, c5, c6, c7, c8, c9, ca, cb, -⟩ := msg_cells (unhide J).ka; have z1 := (unhide J).lt))
      refine (sputnum_any (p.kn : Int) _ (by omega) (by omega)).mono ?_
      rintro e w9 ⟨v9, rfl, o9, b9⟩
      have J9 := hide ((unhide J).later b9)
      have O9 : Hid (OwB _ w9 v9 (putN (m.ma.length : Int))) := hide (by rw [unhide HL6] at o9; exact o9)
      have hs9 := (unhide J9).lt
      have hl9 : ([82, 75] ++ nums [m.k, m.f, m.t, m.n, m.h] ++ lsB m.tl ++ putN m.tr ++ lsB m.ve ++ lsB m.le ++ putN ((sb m.its m.fls).length : Int) ++ sb m.its m.fls).length + (putN (m.ma.length : Int)).length ≤ 100000000 := by omega
      have hb7 : ([82, 75] ++ nums [m.k, m.f, m.t, m.n, m.h] ++ lsB m.tl ++ putN m.tr ++ lsB m.ve ++ lsB m.le ++ putN ((sb m.its m.fls).length : Int) ++ sb m.its m.fls ++ putN (m.ma.length : Int)).length ≤ 1100 := by rw [List.length_append]; omega
      clear o9 b9 J c0 c1 c2 c3 c4 c5 c6 c7 c8 c9 ca cb z1
      go_wp2_with (at_builtin; refine wpList_appB _ rfl _ _ rfl (w.heap.size + 1) _ _ rfl (unhide J9).ob _ _ _ rfl (unhide O9) hl9 hs9 ?_; intro vx wx hO hG; have J := hide ((unhide J9).app hO hG); clear hO hG J9 O9 hs9 hl9; obtain ⟨c0, c1, c2, c3, c4, c5, c6, c7, c8, c9, ca, cb, -⟩ := msg_cells (unhide J).ka; have z1 := (unhide J).lt)
      obtain ⟨pre, hpre⟩ : ∃ l, Hid ([82, 75] ++ nums [m.k, m.f, m.t, m.n, m.h] ++ lsB m.tl ++ putN m.tr ++ lsB m.ve ++ lsB m.le ++ putN ((sb m.its m.fls).length : Int) ++ sb m.its m.fls ++ putN (m.ma.length : Int) = l) := ⟨_, hide rfl⟩
      rw [unhide hpre] at J hb7
      clear c0 c1 c2 c3 c4 c5 c6 c7 c8 c9 ca cb z1
      go_loopw [3, 7] (fun v i wr => ∃ j : Nat, j ≤ p.kn ∧ i = .int .i64 j ∧ By w wr #[.int .i64 m.k, .int .i64 m.f, .int .i64 m.t, .int .i64 m.n, .int .i64 m.h, .slice p.ta p.tn p.tc, .int .i64 m.tr, .slice p.va p.vn p.vc, .slice p.la p.ln p.lc, .slice p.xa p.xn p.xc, .slice p.ya p.yn p.yc, .slice p.ka p.kn p.kc] 33 v (pre ++ sbFs (m.ma.take j))) (fun _ i _ => p.kn - (intOf i).toNat)
      case atStart => exact ⟨0, by omega, rfl, by simpa [sbFs] using unhide J⟩
      case round =>
        clear J
        obtain ⟨j, hj, rfl, hJ⟩ := hrel
        have J := hide hJ
        obtain ⟨c0, c1, c2, c3, c4, c5, c6, c7, c8, c9, ca, cb, -⟩ := msg_cells (unhide J).ka
        have z1 := (unhide J).lt
        have hn5 : (sbFs (m.ma.take j)).length ≤ 50 := by have h := sbFs_len (m.ma.take j); have h2 : (m.ma.take j).length ≤ j := by simp; omega
                                                          omega
        by_cases hlj : j < p.kn
        · obtain ⟨x, b, off, hx, ha, hb, hcap, hc⟩ := ((unhide HM).later hJ.bel).k.at hlj
          obtain ⟨f1, f2⟩ := (unhide HO).ma.2 x (List.mem_of_getElem? hx)
          have x0 := hc 0 (by omega)
          have x1 := hc 1 (by omega)
          simp only [encF, List.getElem?_cons_zero, List.getElem?_cons_succ, Nat.add_zero] at x0 x1
          have HX := hide hx
          have HA := hide ha
          rw [ha] at cb
          clear hx hc ha hJ
          go_wp2_with fail
          refine (sputnum_any x.1 _ (rng_fit f1).1 (rng_fit f1).2).mono ?_
          rintro e w9 ⟨v9, rfl, o9, b9⟩
          have J9 := hide ((unhide J).later b9)
          have O9 : Hid (OwB _ w9 v9 (putN x.1)) := hide o9
          have hs9 := (unhide J9).lt
          have n1 := putN_length x.1
          have n2 := putN_length x.2
          have hl9 : (pre ++ sbFs (m.ma.take j)).length + (putN x.1).length ≤ 100000000 := by rw [List.length_append]; omega
          have hl8 : (pre ++ sbFs (m.ma.take j) ++ putN x.1).length + (putN x.2).length ≤ 100000000 := by rw [List.length_append, List.length_append]; omega
          clear o9 b9 J x0 x1 hb c0 c1 c2 c3 c4 c5 c6 c7 c8 c9 ca cb z1
          go_wp2_with (at_builtin; refine wpList_appB _ rfl _ _ rfl (w.heap.size + 1) _ _ rfl (unhide J9).ob _ _ _ rfl (unhide O9) hl9 hs9 ?_; intro vx wx hO hG; have J := hide ((unhide J9).app hO hG); clear hO hG J9 O9 hs9 hl9; obtain ⟨y, b', off', hy, ha', hb', -, hc'⟩ := ((unhide HM).later (unhide J).bel).k.at hlj; obtain ⟨rfl, rfl⟩ : b' = b ∧ off' = off := (by have h := (unhide HA).symm.trans ha'; simp only [Option.some.injEq, Addr.mk.injEq, and_true] at h; exact ⟨h.1.symm, h.2.symm⟩); obtain rfl : y = x := (by have h := (unhide HX).symm.trans hy; simp at h; exact h.symm); have y1' := hc' 1 (by omega); simp only [encF, List.getElem?_cons_zero, List.getElem?_cons_succ] at y1'; have y0' := hc' 0 (by omega); simp only [encF, List.getElem?_cons_zero, Nat.add_zero] at y0'; clear hy ha' hc'; obtain ⟨c0, c1, c2, c3, c4, c5, c6, c7, c8, c9, ca, cb, -⟩ := msg_cells (unhide J).ka; have z1 := (unhide J).lt; rw [unhide HA] at cb)
          refine (sputnum_any y.2 _ (rng_fit f2).1 (rng_fit f2).2).mono ?_
          rintro e w9 ⟨v9, rfl, o9, b9⟩
          have J9 := hide ((unhide J).later b9)
          have O9 : Hid (OwB _ w9 v9 (putN y.2)) := hide o9
          have hs9 := (unhide J9).lt
          have HP : Hid (pre ++ sbFs (m.ma.take j) ++ putN y.1 ++ putN y.2 = pre ++ sbFs (m.ma.take (j + 1))) := hide (by
            rw [sbFs_take (unhide HX), sbF, nums_cons, nums_one]; simp only [List.append_assoc])
          clear o9 b9 J y0' y1' hb' c0 c1 c2 c3 c4 c5 c6 c7 c8 c9 ca cb z1
          go_wp2_with (at_builtin; refine wpList_appB _ rfl _ _ rfl (w.heap.size + 1) _ _ rfl (unhide J9).ob _ _ _ rfl (unhide O9) hl8 hs9 ?_; intro vy wy hO hG; have J := hide ((unhide J9).app hO hG); clear hO hG J9 O9 hs9 hl8)
          go_roundw
          case rel => exact ⟨j + 1, by omega, by go_num, by rw [← unhide HP]; exact unhide J⟩
          case measure => simp [intOf]; omega
        · have HT : Hid (pre ++ sbFs (m.ma.take j) = bodyM m) := hide (by
            rw [List.take_of_length_le (by have := unhide HL6; omega), ← unhide hpre, bodyM]
            simp only [lsB, List.append_assoc])
          clear hJ
          go_wp2
          go_ret
          exact ⟨_, rfl, by rw [← unhide HT]; exact owns_base (unhide J).ob (by omega), (unhide J).bel⟩
end Go.Proofs.YtjlocbimkfocnaaGreat
