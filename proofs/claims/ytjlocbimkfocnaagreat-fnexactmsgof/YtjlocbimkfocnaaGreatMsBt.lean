/-
  The bytes of a message: spec.MsgBytes; the program's putList, sealOf. No statement is proved here.
-/
import Derived.Test.YtjlocbimkfocnaaGreatMsBs
import Derived.Test.YtjlocbimkfocnaaGreatSCrc
namespace Go.Proofs.YtjlocbimkfocnaaGreat
open Go.RowKit

set_option maxHeartbeats 4000000 in
set_option maxRecDepth 100000 in
theorem smsgbytes_any (m : Mg) (p : Mp) (ok : Bool) (hok : Hid (okM m = ok)) (w : World) (hp : SzM p 140737488351232) (hm : RwM w m p) :
    Calls Tryz.prog 44 #[.agg #[.int .i64 m.k, .int .i64 m.f, .int .i64 m.t, .int .i64 m.n, .int .i64 m.h, .slice p.ta p.tn p.tc, .int .i64 m.tr, .slice p.va p.vn p.vc, .slice p.la p.ln p.lc, .slice p.xa p.xn p.xc, .slice p.ya p.yn p.yc, .slice p.ka p.kn p.kc]] w fun e w' => ∃ v, e = .returned v ∧ OwB w.heap.size w' v (msB m) ∧ Below w.heap.size w w' := by
  have HM := hide hm
  have B0 := hide (bm_new w #[.int .i64 m.k, .int .i64 m.f, .int .i64 m.t, .int .i64 m.n, .int .i64 m.h, .slice p.ta p.tn p.tc, .int .i64 m.tr, .slice p.va p.vn p.vc, .slice p.la p.ln p.lc, .slice p.xa p.xn p.xc, .slice p.ya p.yn p.yc, .slice p.ka p.kn p.kc] 33)
  clear hm
  go_enter Tryz.func44, Tryz.ntmps44
  go_wp2_with fail
  refine (smsgok_any m p ok hok _ hp ((unhide HM).alloc _)).mono ?_
  rintro e w1 ⟨rfl, b1⟩
  have B := hide ((unhide B0).later b1)
  clear b1 B0
  obtain ⟨c0, c1, c2, c3, c4, c5, c6, c7, c8, c9, ca, cb, -⟩ := msg_cells (unhide B).blk
  have z1 := (unhide B).lt
  cases ok
  · have e0 : msB m = [] := by rw [msB, unhide hok]; rfl
    go_wp2
    go_ret
    refine ⟨_, rfl, ?_, (unhide B).bel.alloc (by omega) _⟩
    rw [e0]
    exact owB_blk (bs := []) (by omega) (by simp) (newB1 w1 _)
  · have HO := (okM_iff m).1 (unhide hok)
    have HR := hide HO.rng
    have hl := bodyM_len (unhide hok)
    have HE : Hid (msB m = bodyM m ++ sumB (crcOf (bodyM m))) := hide (by rw [msB, if_pos (unhide hok)])
    clear HO
    go_wp2_with fail
    refine (sbody_any m p HR w1 ((unhide HM).later (unhide B).bel)).mono ?_
    rintro e w2 ⟨v2, rfl, o2, b2⟩
    have O2 := hide (owns_base (base' := w.heap.size) o2 (by omega))
    have BL := hide ((unhide B).bel.trans (b2.mono (unhide B).bel.size))
    have HS := hide (seg_of_owns o2)
    clear o2 b2 B c0 c1 c2 c3 c4 c5 c6 c7 c8 c9 ca cb z1
    go_wp2_with fail
    refine (ssum_any v2 (bodyM m) w2 (by omega) (bodyM_bytes m) (unhide HS)).mono ?_
    rintro e w3 ⟨v3, rfl, o3, b3⟩
    have O3 := hide o3
    have O23 := hide (owns_later (unhide O2) b3 (Nat.le_refl _))
    have BL3 := hide ((unhide BL).trans (b3.mono (unhide BL).size))
    have hs3 := (unhide BL3).size
    have hl3 : (bodyM m).length + (sumB (crcOf (bodyM m))).length ≤ 100000000 := by rw [sumB_len]; omega
    clear o3 b3 O2 BL HS
    go_wp2_with (at_builtin; refine wpList_appB _ rfl _ _ rfl w.heap.size _ _ rfl (unhide O23) _ _ _ rfl (unhide O3) hl3 hs3 ?_; intro v' w4 hO hG; have HO4 := hide hO; have HB4 := hide ((unhide BL3).grown hG hs3 (fun k hk => ((unhide O23).lt k hk).1)); clear hO hG)
    go_ret
    exact ⟨_, rfl, by rw [unhide HE]; exact unhide HO4, unhide HB4⟩
theorem fits_of {ns : List Int} (h : ∀ z ∈ ns, Rng z) : ∀ (k : Nat) (x : Int), ns[k]? = some x → -9223372036854775808 ≤ x ∧ x ≤ 9223372036854775807 := fun _ x hx => rng_fit (h x (List.mem_of_getElem? hx))
set_option maxHeartbeats 2000000 in
set_option maxRecDepth 100000 in
theorem iputlist_any (a : Option Addr) (n c : Nat) (ns : List Int) (w : World) (hn : n ≤ 1000) (hfit : ∀ z ∈ ns, Rng z) (h : RwN w (.slice a n c) ns) :
    Calls Tryz.prog 27 #[.slice a n c] w fun e w' => ∃ v, e = .returned v ∧ OwB w.heap.size w' v (lsB ns) ∧ Below w.heap.size w w' := by
  have HR := hide h
  have HF := hide hfit
  have HN := hide h.len.1
  clear h hfit
  go_enter Tryz.func27, Tryz.ntmps27
  go_wp2_with fail
  have R1 : RwN (w.alloc (.cells #[.int .i64 (n : Int)] 3)) (.slice (some ⟨w.heap.size, 0, none⟩) 1 1) [(n : Int)] := rwN_blk (ns := [(n : Int)]) (newB1 w _)
  refine (iputnums_any _ 1 1 [(n : Int)] _ (by omega) (fit1 _ (by omega)) R1).mono ?_
  rintro e w2 ⟨v2, rfl, o2, b2⟩
  have B2 := hide (((Below.refl w.heap.size w).alloc (Nat.le_refl _) (.cells #[.int .i64 (n : Int)] 3)).trans (b2.mono (by simp)))
  have O2 : Hid (OwB w.heap.size w2 v2 (putN ns.length)) := hide (by rw [nums_one, unhide HN] at o2; exact owns_base o2 (by simp))
  clear o2 b2 R1
  have hs2 := (unhide B2).size
  go_wp2_with fail
  refine (iputnums_any a n c ns w2 hn (fits_of (unhide HF)) ((unhide HR).later (unhide B2))).mono ?_
  rintro e w3 ⟨v3, rfl, o3, b3⟩
  have O2' := hide (owns_later (unhide O2) b3 (Nat.le_refl _))
  have O3 := hide o3
  have B3 := hide ((unhide B2).trans (b3.mono hs2))
  have hs3 := (unhide B3).size
  have hl : (putN ns.length).length + (nums ns).length ≤ 100000000 := by
    have h1 := nums_len ns
    have h2 := putN_length ns.length
    have h3 := unhide HN
    omega
  clear o3 b3 O2 B2
  go_wp2_with (at_builtin; refine wpList_appB _ rfl _ _ rfl w.heap.size _ _ rfl (unhide O2') _ _ _ rfl (unhide O3) hl hs3 ?_; intro v' w4 hO hG; have HO4 := hide hO; have HB4 := hide ((unhide B3).grown hG hs3 (fun k hk => ((unhide O2').lt k hk).1)); clear hO hG)
  go_ret
  exact ⟨_, rfl, unhide HO4, unhide HB4⟩
set_option maxHeartbeats 2000000 in
set_option maxRecDepth 100000 in
theorem iseal_any (v : Value) (xs : List Int) (w : World) (hlen : xs.length ≤ 281474976710656) (hbd : ∀ z ∈ xs, 0 ≤ z ∧ z ≤ 255) (hv : Seg w v xs) :
    Calls Tryz.prog 31 #[v] w fun e w' => ∃ u, e = .returned u ∧ OwB w.heap.size w' u (sumB (crcOf xs)) ∧ Below w.heap.size w w' := by
  have q0 := crcOf_nonneg xs hbd
  have q1 := crcOf_range xs hbd
  have HV := hide hv
  obtain ⟨x, hx⟩ : ∃ x, Hid (crcOf xs = x) := ⟨_, hide rfl⟩
  rw [unhide hx] at q0 q1
  have HC : Hid (∀ W, Seg W v xs → Calls Tryz.prog 77 #[v] W fun e w' => e = .returned (.int .i64 x) ∧ W = w') := hide (fun W hs => by rw [← unhide hx]; exact icrc_any v xs W hlen hs)
  clear hv hbd
  go_enter Tryz.func31, Tryz.ntmps31
  go_wp2_with fail
  refine (unhide HC _ (unhide HV)).mono ?_
  rintro e _ ⟨rfl, rfl⟩
  go_wp2
  go_ret
  refine ⟨_, rfl, ?_, (Below.refl _ _).alloc (Nat.le_refl _) _⟩
  rw [unhide hx]
  exact owB_blk (bs := sumB x) (Nat.le_refl _) (by simp [sumB_len]) (newB1 w _)
set_option maxHeartbeats 4000000 in
set_option maxRecDepth 100000 in
theorem iputmarks_any (a : Option Addr) (n c : Nat) (fs : List Flr) (w : World) (hn : n ≤ 5) (hfit : ∀ f ∈ fs, RngF f) (h : Rw encF 2 w (.slice a n c) fs) :
    Calls Tryz.prog 30 #[.slice a n c] w fun e w' => ∃ v, e = .returned v ∧ OwB w.heap.size w' v (putN fs.length ++ sbFs fs) ∧ Below w.heap.size w w' := by
  have HR := hide h
  have HF := hide hfit
  have HN := hide h.len.1
  clear h hfit
  go_enter Tryz.func30, Tryz.ntmps30
  go_wp2_with fail
  have R1 : RwN (w.alloc (.cells #[.int .i64 (n : Int)] 3)) (.slice (some ⟨w.heap.size, 0, none⟩) 1 1) [(n : Int)] := rwN_blk (ns := [(n : Int)]) (newB1 w _)
  refine (iputnums_any _ 1 1 [(n : Int)] _ (by omega) (fit1 _ (by omega)) R1).mono ?_
  rintro e w2 ⟨v2, rfl, o2, b2⟩
  have B2 := hide (((Below.refl w.heap.size w).alloc (Nat.le_refl _) (.cells #[.int .i64 (n : Int)] 3)).trans (b2.mono (by simp)))
  have O2 : Hid (OwB w.heap.size w2 v2 (putN fs.length)) := hide (by rw [nums_one, unhide HN] at o2; exact owns_base o2 (by simp))
  clear o2 b2 R1
  have hp5 := putN_length fs.length
  go_wp2_with fail
  go_loopw [3, 12] (fun v i wr => ∃ k : Nat, k ≤ n ∧ i = .int .i64 k ∧ OwB w.heap.size wr v (putN fs.length ++ sbFs (fs.take k)) ∧ Below w.heap.size w wr) (fun _ i _ => n - (intOf i).toNat)
  case atStart => exact ⟨0, by omega, rfl, by simpa [sbFs] using unhide O2, unhide B2⟩
  case round =>
    clear O2 B2
    obtain ⟨k, hk, rfl, hown, hbel⟩ := hrel
    have HO := hide hown
    have HB := hide hbel
    have hsz := hbel.size
    clear hown
    have hn5 : (sbFs (fs.take k)).length ≤ 50 := by
      have h := sbFs_len (fs.take k)
      have h2 : (fs.take k).length ≤ k := by simp; omega
      omega
    by_cases hlt : k < n
    · obtain ⟨x, b, off, hx, rfl, hb, hcap, hc⟩ := ((unhide HR).later hbel).at hlt
      obtain ⟨f1, f2⟩ := unhide HF x (List.mem_of_getElem? hx)
      have x0 := hc 0 (by omega)
      have x1 := hc 1 (by omega)
      simp only [encF, List.getElem?_cons_zero, List.getElem?_cons_succ, Nat.add_zero] at x0 x1
      have HX := hide hx
      clear hx hc hbel
      go_wp2_with fail
      have hW : Below wr.heap.size wr ((wr.alloc (.cells #[.int .i64 x.1, .int .i64 x.2] 80)).alloc (.cells #[.int .i64 x.1, .int .i64 x.2] 3)) := (((Below.refl wr.heap.size wr).alloc (Nat.le_refl _) _).alloc (by simp) _)
      refine (iputnums_any _ 2 2 [x.1, x.2] _ (by omega) (fit2 (rng_fit f1) (rng_fit f2)) (rwN_blk (ns := [x.1, x.2]) (newB2 wr _ _))).mono ?_
      rintro e w3 ⟨v3, rfl, o3, b3⟩
      have b3' := hW.trans (b3.mono (by simp; omega))
      have HO2 := hide (owns_later (unhide HO) b3' (Nat.le_refl _))
      have HB2 := hide ((unhide HB).trans (b3'.mono hsz))
      have hw2 : w.heap.size ≤ w3.heap.size := (unhide HB2).size
      have O3 : Hid (OwB w.heap.size w3 v3 (nums [x.1, x.2])) := hide (owns_base o3 (by simp; omega))
      have hl3 : (putN fs.length ++ sbFs (fs.take k)).length + (nums [x.1, x.2]).length ≤ 100000000 := by
        have := nums_len [x.1, x.2]
        have h2 := putN_length fs.length
        simp only [List.length_cons, List.length_nil] at this
        rw [List.length_append]; omega
      have HP : Hid ((putN fs.length ++ sbFs (fs.take k)) ++ nums [x.1, x.2] = putN fs.length ++ sbFs (fs.take (k + 1))) := hide (by
        rw [sbFs_take (unhide HX), sbF]; simp only [List.append_assoc])
      clear x0 x1 o3 b3 b3' hW HO HB hn5 f1 f2
      go_wp2_with (at_builtin; refine wpList_appB _ rfl _ _ rfl w.heap.size _ _ rfl (unhide HO2) _ _ _ rfl (unhide O3) hl3 hw2 ?_; intro v6 w6 hO hG; have HO6 := hide hO; have HB6 := hide ((unhide HB2).grown hG hw2 (fun k hk => ((unhide HO2).lt k hk).1)); clear hO hG)
      go_roundw
      case rel => exact ⟨k + 1, by omega, by go_num, by rw [← unhide HP]; exact unhide HO6, unhide HB6⟩
      case measure => simp [intOf]; omega
    · have HT : Hid (putN fs.length ++ sbFs (fs.take k) = putN fs.length ++ sbFs fs) := hide (by rw [List.take_of_length_le (by have := unhide HN; omega)])
      clear hbel
      go_wp2
      go_ret
      exact ⟨_, rfl, by rw [← unhide HT]; exact unhide HO, unhide HB⟩
end Go.Proofs.YtjlocbimkfocnaaGreat
