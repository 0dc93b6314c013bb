/-
  The sum of a leaf, the program's and the specification's; the sum of a tree's leaves. No statement is proved here.
-/
import Derived.Test.YtohfbahfnbganabTrI
import Derived.Test.YtohfbahfnbganabTrBS
namespace Go.Proofs.Ytohfbahfnbganab
open Go.RowKit

theorem lsm_in {xs : List Itm} {fs : List Flr} {k : Int} (h : okS xs fs = true) (hk : inB k 0 3 = true) : lsm xs fs k = crcOf (sb (slI [k] xs) (slF [k] fs)) % 1024 := by rw [lsm, h, hk]; rfl
theorem lsm_out {xs : List Itm} {fs : List Flr} {k : Int} {a b : Bool} (h : okS xs fs = a) (hk : inB k 0 3 = b) (hab : (a && b) = false) : lsm xs fs k = 0 := by rw [lsm, h, hk, hab]; rfl

set_option maxHeartbeats 4000000 in
set_option maxRecDepth 100000 in
theorem ileafsum_any (ai : Option Addr) (ni ci : Nat) (xs : List Itm) (af : Option Addr) (nf cf : Nat) (fs : List Flr) (leaf l : Int) (hl : Hid (lsm xs fs leaf = l)) (w : World)
    (hni : ni ≤ 140737488351232) (hnf : nf ≤ 140737488351232) (hx : Rw encI 6 w (.slice ai ni ci) xs) (hf : Rw encF 2 w (.slice af nf cf) fs) :
    Calls Try.prog 10 #[.agg #[.slice ai ni ci, .slice af nf cf], .int .i64 leaf] w fun e w' => e = .returned (.int .i64 l) ∧ Below w.heap.size w w' := by
  obtain ⟨k1, HK1⟩ : ∃ k, Hid (okS xs fs = k) := ⟨_, hide rfl⟩
  obtain ⟨k2, HK2⟩ : ∃ k, Hid (inB leaf 0 3 = k) := ⟨_, hide rfl⟩
  have HX := hide hx
  have HF := hide hf
  clear hx hf
  go_enter Try.func10, Try.ntmps10
  go_wp2_with fail
  have bW : Below w.heap.size w (w.alloc (.cells #[.slice ai ni ci, .slice af nf cf] 31)) := (Below.refl w.heap.size w).alloc (Nat.le_refl _) _
  refine (istateok_any ai ni ci xs af nf cf fs _ HK1 _ hni hnf ((unhide HX).later bW) ((unhide HF).later bW)).mono ?_
  rintro e w1 ⟨rfl, b1⟩
  have CV : Hid (B2 w w1 (.slice ai ni ci) (.slice af nf cf) (.slice none 0 0) []) := hide ⟨bW.trans (b1.mono (by simp)), (b1.block _ (by simp)).trans (newB1 w _), OwB.nil _ _⟩
  have z1 := (unhide CV).lt
  have y1 := (unhide CV).bel.size
  clear b1 bW
  cases k1
  · obtain rfl : l = 0 := by rw [← unhide hl]; exact lsm_out (unhide HK1) (unhide HK2) rfl
    go_wp2
    go_ret
    exact ⟨rfl, (unhide CV).bel⟩
  · go_wp2_with fail
    refine (within_is leaf 0 3 k2 (unhide HK2) _).mono ?_
    rintro e _ ⟨rfl, rfl⟩
    cases k2
    · obtain rfl : l = 0 := by rw [← unhide hl]; exact lsm_out (unhide HK1) (unhide HK2) rfl
      go_wp2
      go_ret
      exact ⟨rfl, (unhide CV).bel⟩
    · have OA := (okS_iff _ _).1 (unhide HK1)
      have HA := hide (OA.slice [leaf])
      have HE : Hid (sbS (slI [leaf] xs) (slF [leaf] fs) = sb (slI [leaf] xs) (slF [leaf] fs)) := hide (by rw [sbS, if_pos ((okS_iff _ _).2 (unhide HA))])
      have HLQ : Hid (crcOf (sb (slI [leaf] xs) (slF [leaf] fs)) % 1024 = l) := hide (by rw [← unhide hl, lsm_in (unhide HK1) (unhide HK2)])
      obtain ⟨n1, hn1⟩ : ∃ n, Hid ((scI true [leaf] xs).length = n) := ⟨_, hide rfl⟩
      obtain ⟨n2, hn2⟩ : ∃ n, Hid ((scF true [leaf] fs).length = n) := ⟨_, hide rfl⟩
      have n15 : n1 ≤ 5 := by have h1 := unhide hn1; have := (unhide HA).len5.1; have e : scI true [leaf] xs = slI [leaf] xs := rfl; rw [e] at h1; omega
      have n25 : n2 ≤ 5 := by have h1 := unhide hn2; have := (unhide HA).len5.2; have e : scF true [leaf] fs = slF [leaf] fs := rfl; rw [e] at h1; omega
      obtain ⟨i1, i2⟩ := inB_iff.1 (unhide HK2)
      obtain ⟨p0, p1, -⟩ := blk_cells2 (unhide CV).ka
      clear OA
      go_wp2_with fail
      have bN : Below w1.heap.size w1 (w1.alloc (.cells #[.int .i64 leaf] 3)) := (Below.refl _ _).alloc (Nat.le_refl _) _
      have CN := (unhide CV).later bN
      refine (islice_any ai ni ci xs af nf cf fs _ 1 1 [leaf] true HK1 n1 n2 hn1 hn2 _ hni hnf (by omega) ((unhide HX).later CN.bel) ((unhide HF).later CN.bel) (rwN_blk (ns := [leaf]) (newB1 w1 _))).mono ?_
      rintro e w2 ⟨a1, c1, a2, c2, rfl, o1, o2, b2⟩
      have RI := hide (o1.rw encI_len)
      have RF := hide (o2.rw encF_len)
      have HB2 := hide (CN.bel.trans (b2.mono (by simp; omega)))
      have y2 := (unhide HB2).size
      clear bN CN o1 o2 b2 p0 p1 CV
      go_wp2_with fail
      refine (ibytes_any a1 n1 c1 (slI [leaf] xs) a2 n2 c2 (slF [leaf] fs) true (hide ((okS_iff _ _).2 (unhide HA))) _ (by omega) (by omega) (unhide RI) (unhide RF)).mono ?_
      rintro e w3 ⟨v3, rfl, o3, b3⟩
      rw [unhide HE] at o3
      have S3 := hide (seg_of_owns o3)
      have HB3 := hide ((unhide HB2).trans (b3.mono y2))
      have hlb := sb_len (unhide HA)
      clear o3 b3 HB2 RI RF
      go_wp2_with fail
      refine (icrc_any v3 _ _ (by omega) (unhide S3)).mono ?_
      rintro e _ ⟨rfl, rfl⟩
      have q0 := crcOf_nonneg _ (sb_bytes (slI [leaf] xs) (slF [leaf] fs))
      have q1 := crcOf_range _ (sb_bytes (slI [leaf] xs) (slF [leaf] fs))
      clear S3 HE hlb
      generalize crcOf (sb (slI [leaf] xs) (slF [leaf] fs)) = c at q0 q1 HLQ ⊢
      go_wp2
      go_ret
      exact ⟨ret_int (unhide HLQ), unhide HB3⟩

set_option maxHeartbeats 4000000 in
set_option maxRecDepth 100000 in
theorem sleafsum_any (ai : Option Addr) (ni ci : Nat) (xs : List Itm) (af : Option Addr) (nf cf : Nat) (fs : List Flr) (leaf l : Int) (hl : Hid (lsm xs fs leaf = l)) (w : World)
    (hni : ni ≤ 140737488351232) (hnf : nf ≤ 140737488351232) (hx : Rw encI 6 w (.slice ai ni ci) xs) (hf : Rw encF 2 w (.slice af nf cf) fs) :
    Calls Try.prog 8 #[.agg #[.slice ai ni ci, .slice af nf cf], .int .i64 leaf] w fun e w' => e = .returned (.int .i64 l) ∧ Below w.heap.size w w' := by
  obtain ⟨k1, HK1⟩ : ∃ k, Hid (okS xs fs = k) := ⟨_, hide rfl⟩
  obtain ⟨k2, HK2⟩ : ∃ k, Hid (inB leaf 0 3 = k) := ⟨_, hide rfl⟩
  have hd2 : decide (0 ≤ leaf ∧ leaf ≤ 3) = k2 := by rw [← unhide HK2, inB, Bool.decide_and]
  have HX := hide hx
  have HF := hide hf
  clear hx hf
  go_enter Try.func8, Try.ntmps8
  go_wp2_with fail
  have bW : Below w.heap.size w (w.alloc (.cells #[.slice ai ni ci, .slice af nf cf] 31)) := (Below.refl w.heap.size w).alloc (Nat.le_refl _) _
  refine (sstateok_any ai ni ci xs af nf cf fs _ HK1 _ hni hnf ((unhide HX).later bW) ((unhide HF).later bW)).mono ?_
  rintro e w1 ⟨rfl, b1⟩
  have CV : Hid (B2 w w1 (.slice ai ni ci) (.slice af nf cf) (.slice none 0 0) []) := hide ⟨bW.trans (b1.mono (by simp)), (b1.block _ (by simp)).trans (newB1 w _), OwB.nil _ _⟩
  have z1 := (unhide CV).lt
  have y1 := (unhide CV).bel.size
  clear b1 bW
  cases k1
  · obtain rfl : l = 0 := by rw [← unhide hl]; exact lsm_out (unhide HK1) (unhide HK2) rfl
    go_wp2
    go_ret
    exact ⟨rfl, (unhide CV).bel⟩
  · go_wp2_with fail
    refine (l1in_any leaf 0 3 _).mono ?_
    rintro e _ ⟨rfl, rfl⟩
    rw [hd2]
    clear hd2
    cases k2
    · obtain rfl : l = 0 := by rw [← unhide hl]; exact lsm_out (unhide HK1) (unhide HK2) rfl
      go_wp2
      go_ret
      exact ⟨rfl, (unhide CV).bel⟩
    · have OA := (okS_iff _ _).1 (unhide HK1)
      have HA := hide (OA.slice [leaf])
      have m5 : ni ≤ 5 := by have := (unhide HX).len.1; have := OA.len5.1; omega
      have f5 : nf ≤ 5 := by have := (unhide HF).len.1; have := OA.len5.2; omega
      have HLQ : Hid (crcOf (sb (slI [leaf] xs) (slF [leaf] fs)) % 1024 = l) := hide (by rw [← unhide hl, lsm_in (unhide HK1) (unhide HK2)])
      obtain ⟨n1, hn1⟩ : ∃ n, Hid ((slI [leaf] xs).length = n) := ⟨_, hide rfl⟩
      obtain ⟨n2, hn2⟩ : ∃ n, Hid ((slF [leaf] fs).length = n) := ⟨_, hide rfl⟩
      obtain ⟨i1, i2⟩ := inB_iff.1 (unhide HK2)
      obtain ⟨p0, p1, -⟩ := blk_cells2 (unhide CV).ka
      clear OA
      go_wp2_with fail
      have bN : Below w1.heap.size w1 (w1.alloc (.cells #[.int .i64 leaf] 3)) := (Below.refl _ _).alloc (Nat.le_refl _) _
      have CN := (unhide CV).later bN
      refine (l6slice_any ai ni ci xs af nf cf fs _ 1 1 [leaf] n1 n2 hn1 hn2 _ m5 f5 (by omega) ((unhide HX).later CN.bel) ((unhide HF).later CN.bel) (rwN_blk (ns := [leaf]) (newB1 w1 _))).mono ?_
      rintro e w2 ⟨a1, c1, a2, c2, rfl, o1, o2, b2⟩
      have RI := hide (o1.rw encI_len)
      have RF := hide (o2.rw encF_len)
      have HB2 := hide (CN.bel.trans (b2.mono (by simp; omega)))
      have y2 := (unhide HB2).size
      clear bN CN o1 o2 b2 p0 p1 CV
      go_wp2_with fail
      refine (l6bytes_any a1 n1 c1 (slI [leaf] xs) a2 n2 c2 (slF [leaf] fs) HA _ (unhide RI) (unhide RF)).mono ?_
      rintro e w3 ⟨v3, rfl, o3, b3⟩
      have S3 := hide (seg_of_owns o3)
      have HB3 := hide ((unhide HB2).trans (b3.mono y2))
      have hlb := sb_len (unhide HA)
      clear o3 b3 HB2 RI RF
      go_wp2_with fail
      refine (scrc_any v3 _ _ (by omega) (unhide S3)).mono ?_
      rintro e _ ⟨rfl, rfl⟩
      have q0 := crcOf_nonneg _ (sb_bytes (slI [leaf] xs) (slF [leaf] fs))
      have q1 := crcOf_range _ (sb_bytes (slI [leaf] xs) (slF [leaf] fs))
      clear S3 hlb
      generalize crcOf (sb (slI [leaf] xs) (slF [leaf] fs)) = c at q0 q1 HLQ ⊢
      go_wp2
      go_ret
      exact ⟨ret_int (unhide HLQ), unhide HB3⟩
set_option maxHeartbeats 4000000 in
set_option maxRecDepth 100000 in
theorem l6root_any (a : Option Addr) (n c : Nat) (ns : List Int) (r : Int) (hr : Hid (rt ns = r)) (w : World) (hn : n ≤ 1000) (hfit : ∀ (k : Nat) (x : Int), ns[k]? = some x → -9223372036854775808 ≤ x ∧ x ≤ 9223372036854775807) (h : RwN w (.slice a n c) ns) :
    Calls Try.prog 43 #[.slice a n c] w fun e w' => e = .returned (.int .i64 r) ∧ Below w.heap.size w w' := by
  have HR := hide h
  have HF := hide hfit
  have hN := h.len.1
  have HN := hide hN
  clear h hfit hN
  go_enter Try.func43, Try.ntmps43
  go_wp2
  go_loopw [3, 4] (fun v i wr => ∃ k : Nat, k ≤ n ∧ i = .int .i64 k ∧ OwB w.heap.size wr v (nums (ns.take k)) ∧ Below w.heap.size w wr) (fun _ i _ => n - (intOf i).toNat)
  case atStart => exact ⟨0, by omega, rfl, World.ownsRow_made _ #[] 0 (Nat.le_refl _) (by simp [maxLen]) rfl, (Below.refl _ _).alloc (Nat.le_refl _) _⟩
  case round =>
    obtain ⟨k, hk, rfl, hown, hbel⟩ := hrel
    have HO := hide hown
    have HB := hide hbel
    have hsz := hbel.size
    clear hown
    by_cases hlt : k < n
    · obtain ⟨z, b, off, hz, rfl, hb, hcap, cz⟩ := ((unhide HR).later hbel).atN hlt
      obtain ⟨f1, f2⟩ := unhide HF k z hz
      have HZ := hide (nums_take hz)
      clear hz hbel
      go_wp2_with fail
      refine (sputnum_any z _ f1 f2).mono ?_
      rintro e w2 ⟨u, rfl, o2, b2⟩
      have HO2 := hide (owns_later (unhide HO) b2 (Nat.le_refl _))
      have HU := hide o2
      have HB2 := hide ((unhide HB).trans (b2.mono hsz))
      have hw2 := (unhide HB2).size
      have hl : (nums (ns.take k)).length + (putN z).length ≤ 100000000 := by
        have h1 := nums_len (ns.take k)
        have h2 := putN_length z
        have h3 : (ns.take k).length ≤ k := by simp; omega
        omega
      clear o2 b2 HO HB
      go_wp2_with (at_builtin; refine wpList_appB _ rfl _ _ rfl w.heap.size _ _ rfl (unhide HO2) _ _ _ rfl (unhide HU) hl hw2 ?_; intro v' w3 hO hG; have HO3 := hide hO; have HB3 := hide ((unhide HB2).grown hG hw2 (fun k hk => ((unhide HO2).lt k hk).1)); clear hO hG)
      go_roundw
      case rel => exact ⟨k + 1, by omega, by go_num, by rw [unhide HZ]; exact unhide HO3, unhide HB3⟩
      case measure => simp [intOf]; omega
    · have e0 : nums (ns.take k) = nums ns := by rw [List.take_of_length_le (by have := unhide HN; omega)]
      have S3 : Hid (Seg wr _ (nums ns)) := hide (by have := seg_of_owns (unhide HO); rw [e0] at this; exact this)
      have hlb : (nums ns).length ≤ 5000 := by have := nums_len ns; have := unhide HN; omega
      clear hbel e0
      go_wp2_with fail
      refine (scrc_any _ _ _ (by omega) (unhide S3)).mono ?_
      rintro e _ ⟨rfl, rfl⟩
      have q0 := crcOf_nonneg _ (nums_bytes ns)
      have q1 := crcOf_range _ (nums_bytes ns)
      have HLQ : Hid (crcOf (nums ns) % 1024 = r) := hr
      clear S3 hlb hr
      generalize crcOf (nums ns) = c at q0 q1 HLQ ⊢
      go_wp2
      go_ret
      exact ⟨ret_int (unhide HLQ), unhide HB⟩
end Go.Proofs.Ytohfbahfnbganab
