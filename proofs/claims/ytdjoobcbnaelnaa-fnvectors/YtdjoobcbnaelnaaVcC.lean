/-
  The greater of two vectors: the specification's and the program's. No statement is proved here.
-/
import Derived.Test.YtdjoobcbnaelnaaVcA
import Derived.Test.YtdjoobcbnaelnaaNmA
import Derived.Test.YtdjoobcbnaelnaaApp2
namespace Go.Proofs.Ytdjoobcbnaelnaa
open Go.RowKit

set_option maxHeartbeats 4000000 in
set_option maxRecDepth 100000 in
theorem svecmax_any (a : Option Addr) (n c : Nat) (ns : List Int) (b : Option Addr) (m d : Nat) (ms : List Int) (w : World) (hn : n ≤ 1048576) (hm : m ≤ 1048576) (h : RwN w (.slice a n c) ns) (h1 : RwN w (.slice b m d) ms) :
    Calls Try.prog 11 #[.slice a n c, .slice b m d] w fun e w' => ∃ a1 n1 c1, e = .returned (.slice a1 n1 c1) ∧ OwN w.heap.size w' (.slice a1 n1 c1) (vm ns ms) ∧ Below w.heap.size w w' := by
  obtain ⟨i0, hi, hz0, hz1, hz2⟩ := info_parts Try.infoInt
  have HR := hide h
  have HR1 := hide h1
  have HN := hide h.len.1
  have HM := hide h1.len.1
  clear h h1
  go_enter Try.func11, Try.ntmps11
  go_wp2
  go_loopw [5, 6] (fun v i wr => ∃ (k : Nat) (a1 : Option Addr) (c1 : Nat), k ≤ max n m ∧ i = .int .i64 k ∧ v = .slice a1 k c1 ∧ OwN w.heap.size wr (.slice a1 k c1) (vmK ns ms k) ∧ Below w.heap.size w wr) (fun _ i _ => max n m - (intOf i).toNat)
  case atStart =>
    exact ⟨0, _, 0, by omega, rfl, rfl, madeN (by omega) (heap_alloc_new w _), (Below.refl w.heap.size w).alloc (Nat.le_refl _) _⟩
  case round =>
    obtain ⟨k, a1, c1, hk, rfl, rfl, hown, hbel⟩ := hrel
    have HO := hide hown
    have HB := hide hbel
    have hsz := hbel.size
    have HKL : Hid (k = (vmK ns ms k).length) := hide (vmK_len _ _ _).symm
    have HRk := hide ((unhide HR).later hbel)
    have HR1k := hide ((unhide HR1).later hbel)
    clear hown hbel
    obtain ⟨x, hx⟩ : ∃ x, Hid (nAt ns k = x) := ⟨_, hide rfl⟩
    obtain ⟨y, hy⟩ : ∃ y, Hid (nAt ms k = y) := ⟨_, hide rfl⟩
    obtain ⟨z, hz⟩ : ∃ z, Hid (max x y = z) := ⟨_, hide rfl⟩
    have HZ : Hid (vmK ns ms (k + 1) = vmK ns ms k ++ [z]) := hide (by rw [vmK_succ, unhide hx, unhide hy, unhide hz])
    by_cases hkn : k < n
    · have hd : decide ((k : Int) < (n : Int)) = true := by simp; omega
      go_wp2_with fail
      refine (l8at_any a n c ns k x hx _ (unhide HRk)).mono ?_
      rintro e _ ⟨rfl, rfl⟩
      go_wp2_with fail
      refine (l8at_any b m d ms k y hy _ (unhide HR1k)).mono ?_
      rintro e _ ⟨rfl, rfl⟩
      go_wp2_with fail
      refine (l1max_any x y z hz _).mono ?_
      rintro e _ ⟨rfl, rfl⟩
      go_wp2_with (first | (at_builtin; refine wpList_app1 encN_len (by omega) oneN 3 24 i0 _ 8 Try.underlying24 hi hz0 hz1 hz2 rfl (by omega) wr z rfl _ _ rfl w.heap.size _ _ k HKL rfl (unhide HO) rfl (by omega) hsz ?_; intro a8 c8 w4 hO hG; have HO4 := hide hO; have HB4 := hide ((unhide HB).grown hG hsz (fun i q => by have := (World.ownsRow.lt (unhide HO) i q).1; omega)); clear hO hG))
      go_roundw
      case rel => exact ⟨k + 1, a8, c8, by omega, by go_num, rfl, by rw [unhide HZ]; exact unhide HO4, unhide HB4⟩
      case measure => simp [intOf]; omega
    · have hd : decide ((k : Int) < (n : Int)) = false := by simp; omega
      by_cases hkm : k < m
      · have hd1 : decide ((k : Int) < (m : Int)) = true := by simp; omega
        go_wp2_with fail
        refine (l8at_any a n c ns k x hx _ (unhide HRk)).mono ?_
        rintro e _ ⟨rfl, rfl⟩
        go_wp2_with fail
        refine (l8at_any b m d ms k y hy _ (unhide HR1k)).mono ?_
        rintro e _ ⟨rfl, rfl⟩
        go_wp2_with fail
        refine (l1max_any x y z hz _).mono ?_
        rintro e _ ⟨rfl, rfl⟩
        go_wp2_with (first | (at_builtin; refine wpList_app1 encN_len (by omega) oneN 3 24 i0 _ 8 Try.underlying24 hi hz0 hz1 hz2 rfl (by omega) wr z rfl _ _ rfl w.heap.size _ _ k HKL rfl (unhide HO) rfl (by omega) hsz ?_; intro a8 c8 w4 hO hG; have HO4 := hide hO; have HB4 := hide ((unhide HB).grown hG hsz (fun i q => by have := (World.ownsRow.lt (unhide HO) i q).1; omega)); clear hO hG))
        go_roundw
        case rel => exact ⟨k + 1, a8, c8, by omega, by go_num, rfl, by rw [unhide HZ]; exact unhide HO4, unhide HB4⟩
        case measure => simp [intOf]; omega
      · have hd1 : decide ((k : Int) < (m : Int)) = false := by simp; omega
        have HE : Hid (vmK ns ms k = vm ns ms) := hide (by rw [vm, ← unhide HN, ← unhide HM]; congr 1; omega)
        go_wp2
        go_ret
        exact ⟨a1, k, c1, rfl, by rw [← unhide HE]; exact unhide HO, unhide HB⟩
theorem fill_next (xs : List Int) (q k : Nat) (z : Int) (hx : xs.length = k) (hk : k < q) : ((xs ++ List.replicate (q - k) 0).map (Value.int .i64)).set k (.int .i64 z) = ((xs ++ [z]) ++ List.replicate (q - (k + 1)) 0).map (Value.int .i64) := by
  obtain ⟨r, hr⟩ : ∃ r, q - k = r + 1 := ⟨q - k - 1, by omega⟩
  have e : q - (k + 1) = r := by omega
  rw [hr, e, List.replicate_succ, List.map_append, List.set_append_right _ _ (by simp; omega)]
  simp [hx]
set_option maxHeartbeats 4000000 in
set_option maxRecDepth 100000 in
theorem ivecmax_any (a : Option Addr) (n c : Nat) (ns : List Int) (b : Option Addr) (m d : Nat) (ms : List Int) (w : World) (hn : n ≤ 1048576) (hm : m ≤ 1048576) (h : RwN w (.slice a n c) ns) (h1 : RwN w (.slice b m d) ms) :
    Calls Try.prog 10 #[.slice a n c, .slice b m d] w fun e w' => ∃ a1 n1 c1, e = .returned (.slice a1 n1 c1) ∧ OwN w.heap.size w' (.slice a1 n1 c1) (vm ns ms) ∧ Below w.heap.size w w' := by
  obtain ⟨i0, hi, hz0, hz1, hz2⟩ := info_parts Try.infoInt
  obtain ⟨q, hq⟩ : ∃ q : Nat, q = max n m := ⟨_, rfl⟩
  have hqm : q ≤ 1048576 := by omega
  have HQ := hide (show max (n : Int) (m : Int) = (q : Int) by omega)
  have hb2 : i0.bytes * q ≤ 281474976710656 := by rw [hz2]; omega
  have hml : q ≤ maxLen := by unfold maxLen; omega
  have HR := hide h
  have HR1 := hide h1
  have HL := hide (show q = max ns.length ms.length by rw [hq, h.len.1, h1.len.1])
  clear h h1 hq
  go_enter Try.func10, Try.ntmps10
  go_wp2_with fail
  refine (greater_any n m q HQ _).mono ?_
  rintro e _ ⟨rfl, rfl⟩
  go_wp2_with (first | (at_make; refine wpList_make_full _ rfl _ _ 24 rfl w.heap.size 3 i0 (.int .i64 0) 1 Try.underlying24 hi hz0 hz1 .i64 .i64 _ _ q rfl rfl rfl rfl hb2 hml (Nat.le_refl _) ?_))
  intro w1 hown hgrow
  have hbel : Below w.heap.size w w1 := (Below.refl _ _).grown hgrow (Nat.le_refl _) (fun k hk => by cases hk)
  have hown0 : w1.ownsRow w.heap.size 3 1 (.slice (some ⟨w.heap.size, 0, none⟩) q q) q ((vmK ns ms 0 ++ List.replicate (q - 0) 0).map (Value.int .i64)) := by
    have e := toList_madeCells_one (.int .i64 0) q
    rw [e] at hown
    simpa [vmK] using hown
  have HO0 := hide hown0
  have HB0 := hide hbel
  clear hown hgrow hown0 hbel
  go_wp2
  go_loopw [15] (fun i wr => ∃ k : Nat, k ≤ q ∧ i = .int .i64 k ∧ wr.ownsRow w.heap.size 3 1 (.slice (some ⟨w.heap.size, 0, none⟩) q q) q ((vmK ns ms k ++ List.replicate (q - k) 0).map (Value.int .i64)) ∧ Below w.heap.size w wr) (fun i _ => q - (intOf i).toNat)
  case atStart => exact ⟨0, Nat.zero_le _, rfl, unhide HO0, unhide HB0⟩
  case round =>
    clear HO0 HB0
    obtain ⟨k, hk, rfl, hown, hbel⟩ := hrel
    have HO := hide hown
    have HB := hide hbel
    have HRk := hide ((unhide HR).later hbel)
    have HR1k := hide ((unhide HR1).later hbel)
    by_cases hlt : k < q
    · obtain ⟨x, hx⟩ : ∃ x, Hid (nAt ns k = x) := ⟨_, hide rfl⟩
      obtain ⟨y, hy⟩ : ∃ y, Hid (nAt ms k = y) := ⟨_, hide rfl⟩
      obtain ⟨z, hz⟩ : ∃ z, Hid (max x y = z) := ⟨_, hide rfl⟩
      have hst := fill_next (vmK ns ms k) q k z (vmK_len _ _ _) hlt
      rw [show vmK ns ms k ++ [z] = vmK ns ms (k + 1) by rw [vmK_succ, unhide hx, unhide hy, unhide hz]] at hst
      have hfz := hown.frozenAt k
      have hcy := hown.cellAt k (by omega)
      have hex : ∃ y, wr.cell? ⟨w.heap.size, k, none⟩ = some y := by
        rw [hcy]
        exact ⟨_, List.getElem?_eq_getElem (by simp [vmK_len]; omega)⟩
      obtain ⟨y', hy'⟩ := hex
      have R1 := (hown.stored k (.int .i64 z)).1
      rw [hst] at R1
      have R2 := hbel.setCell (p := ⟨w.heap.size, k, none⟩) (Nat.le_refl _) (.int .i64 z)
      have HR1' := hide R1
      have HR2' := hide R2
      clear hcy hst R1 R2 hown hbel
      go_wp2_with fail
      refine (inumberat_any a n c ns k x hx _ (by omega) (unhide HRk)).mono ?_
      rintro e _ ⟨rfl, rfl⟩
      go_wp2_with fail
      refine (inumberat_any b m d ms k y hy _ (by omega) (unhide HR1k)).mono ?_
      rintro e _ ⟨rfl, rfl⟩
      go_wp2_with fail
      refine (greater_any x y z hz _).mono ?_
      rintro e _ ⟨rfl, rfl⟩
      go_wp2
      go_roundw
      case rel => exact ⟨k + 1, by omega, by go_num, unhide HR1', unhide HR2'⟩
      case measure => simp [intOf]; omega
    · obtain rfl : k = q := by omega
      have HE : Hid (vmK ns ms k = vm ns ms) := hide (by rw [vm, ← unhide HL])
      have HO2 : Hid (OwN w.heap.size wr (.slice (some ⟨w.heap.size, 0, none⟩) k k) (vm ns ms)) := hide (ownN_iff.2 (by rw [← unhide HE, vmK_len]; simpa using hown))
      clear hown hbel
      go_wp2
      go_ret
      exact ⟨_, k, k, rfl, unhide HO2, unhide HB⟩
end Go.Proofs.Ytdjoobcbnaelnaa
