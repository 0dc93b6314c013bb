/-
  Whether a vector is right, and whether one is beneath another one: the program's and the specification's. No statement is proved here.
-/
import Derived.Test.YtdjoobcbnaelnaaVcA
namespace Go.Proofs.Ytdjoobcbnaelnaa
open Go.RowKit

set_option maxHeartbeats 1000000 in
theorem svecok_any (a : Option Addr) (n c : Nat) (ns : List Int) (m : Int) (r : Bool) (hr : Hid (vok ns m = r)) (w : World) (hn : n ≤ 140737488351232) (h : RwN w (.slice a n c) ns) :
    Calls Try.prog 15 #[.slice a n c, .int .i64 m] w fun e w' => e = .returned (.bool r) ∧ w = w' := by
  have HR := hide h
  have HN := hide h.len.1
  obtain ⟨b1, h1⟩ : ∃ b, Hid (inB m 1 5 = b) := ⟨_, hide rfl⟩
  have HE : Hid ((b1 && ((n : Int) == m) && okN ns) = r) := hide (by rw [← unhide hr, vok, unhide h1, ← unhide HN])
  clear h hr
  go_enter Try.func15, Try.ntmps15
  go_wp2_with fail
  refine (l1in_is m 1 5 b1 (unhide h1) _).mono ?_
  rintro e _ ⟨rfl, rfl⟩
  cases b1
  · obtain rfl : r = false := by rw [← unhide HE]; rfl
    go_wp2
    go_ret
    exact ⟨rfl, rfl⟩
  by_cases hm : (n : Int) = m
  · subst hm
    have HE2 : Hid (okN ns = r) := hide (by rw [← unhide HE]; simp)
    have hd : ((n : Int) != (n : Int)) = false := by simp
    clear HE h1
    go_wp2
    go_loop [5] (fun i => ∃ k : Nat, k ≤ n ∧ i = .int .i64 k ∧ okNK ns k = true) (fun i => n - (intOf i).toNat)
    case atStart => exact ⟨0, Nat.zero_le _, rfl, rfl⟩
    case round =>
      obtain ⟨k, hk, rfl, hok⟩ := hrel
      have HO := hide hok
      clear hok
      by_cases hlt : k < n
      · obtain ⟨z, b, off, hz, rfl, hb, hc, cz⟩ := (unhide HR).atN hlt
        have HZ := hide hz
        clear hz
        obtain ⟨q, hq⟩ : ∃ q, Hid (inB z 0 100000 = q) := ⟨_, hide rfl⟩
        go_wp2_with fail
        refine (l1in_is z 0 100000 q (unhide hq) _).mono ?_
        rintro e _ ⟨rfl, rfl⟩
        cases q
        · obtain rfl : r = false := by rw [← unhide HE2]; exact okN_no (unhide HZ) (unhide hq)
          go_wp2
          go_ret
          exact ⟨rfl, rfl⟩
        · have HS := hide (show okNK ns (k + 1) = true by rw [okNK_succ (unhide HZ), unhide HO, unhide hq]; rfl)
          go_wp2
          go_round
          case rel => exact ⟨k + 1, by omega, by go_num, unhide HS⟩
          case measure => simp [intOf]; omega
      · obtain rfl : r = true := by rw [← unhide HE2, ← okNK_all (k := k) (by have := unhide HN; omega)]; exact unhide HO
        go_wp2
        go_ret
        exact ⟨rfl, rfl⟩
  · have hd : ((n : Int) != m) = true := by simpa using hm
    obtain rfl : r = false := by
      rw [← unhide HE]
      have : ((n : Int) == m) = false := by simpa using hm
      rw [this]; rfl
    clear HE h1
    go_wp2
    go_ret
    exact ⟨rfl, rfl⟩
set_option maxHeartbeats 1000000 in
theorem ivecok_any (a : Option Addr) (n c : Nat) (ns : List Int) (m : Int) (r : Bool) (hr : Hid (vok ns m = r)) (w : World) (hn : n ≤ 140737488351232) (h : RwN w (.slice a n c) ns) :
    Calls Try.prog 17 #[.slice a n c, .int .i64 m] w fun e w' => e = .returned (.bool r) ∧ w = w' := by
  have HR := hide h
  have HN := hide h.len.1
  obtain ⟨b1, h1⟩ : ∃ b, Hid (inB m 1 5 = b) := ⟨_, hide rfl⟩
  obtain ⟨b2, h2⟩ : ∃ b, ((n : Int) == m) = b := ⟨_, rfl⟩
  have HE : Hid ((b1 && b2 && okN ns) = r) := hide (by rw [← unhide hr, vok, unhide h1, ← unhide HN, h2])
  clear h hr
  go_enter Try.func17, Try.ntmps17
  go_wp2_with fail
  refine (within_is m 1 5 b1 (unhide h1) _).mono ?_
  rintro e _ ⟨rfl, rfl⟩
  cases b1
  · obtain rfl : r = false := by rw [← unhide HE]; rfl
    go_wp2
    go_ret
    exact ⟨rfl, rfl⟩
  cases b2
  · obtain rfl : r = false := by rw [← unhide HE]; rfl
    go_wp2
    go_ret
    exact ⟨rfl, rfl⟩
  · go_wp2_with fail
    refine (numbersok_any a n c ns r (hide (by rw [← unhide HE]; rfl)) _ hn (unhide HR)).mono ?_
    rintro e _ ⟨rfl, rfl⟩
    go_wp2
    go_ret
    exact ⟨rfl, rfl⟩
set_option maxHeartbeats 1000000 in
theorem ivecleq_any (a : Option Addr) (n c : Nat) (ns : List Int) (b : Option Addr) (m d : Nat) (ms : List Int) (r : Bool) (hr : Hid (vl ns ms = r)) (w : World) (hn : n ≤ 140737488351232) (hm : m ≤ 140737488351232) (h : RwN w (.slice a n c) ns) (h1 : RwN w (.slice b m d) ms) :
    Calls Try.prog 14 #[.slice a n c, .slice b m d] w fun e w' => e = .returned (.bool r) ∧ w = w' := by
  have HR := hide h
  have HR1 := hide h1
  have HN := hide h.len.1
  clear h h1
  go_enter Try.func14, Try.ntmps14
  go_wp2
  go_loop [9] (fun i => ∃ k : Nat, k ≤ n ∧ i = .int .i64 k ∧ vlK ns ms k = true) (fun i => n - (intOf i).toNat)
  case atStart => exact ⟨0, Nat.zero_le _, rfl, rfl⟩
  case round =>
    obtain ⟨k, hk, rfl, hok⟩ := hrel
    have HO := hide hok
    clear hok
    by_cases hlt : k < n
    · obtain ⟨z, e, off, hz, rfl, hb, hc, cz⟩ := (unhide HR).atN hlt
      have HZ := hide (nAt_in hz)
      clear hz
      obtain ⟨y, hy⟩ : ∃ y, Hid (nAt ms k = y) := ⟨_, hide rfl⟩
      obtain ⟨q, hq⟩ : ∃ q, decide (y < z) = q := ⟨_, rfl⟩
      go_wp2_with fail
      refine (inumberat_any b m d ms k y hy _ hm (unhide HR1)).mono ?_
      rintro e _ ⟨rfl, rfl⟩
      cases q
      · have HS := hide (show vlK ns ms (k + 1) = true by rw [vlK_succ, unhide HO, unhide hy, unhide HZ]; simp at hq ⊢; omega)
        go_wp2
        go_round
        case rel => exact ⟨k + 1, by omega, by go_num, unhide HS⟩
        case measure => simp [intOf]; omega
      · obtain rfl : r = false := by rw [← unhide hr]; exact vl_no (k := k) (by have := unhide HN; omega) (by rw [unhide hy, unhide HZ]; simpa using hq)
        go_wp2
        go_ret
        exact ⟨rfl, rfl⟩
    · obtain rfl : r = true := by
        have e : n = ns.length := unhide HN
        obtain rfl : k = ns.length := by omega
        rw [← unhide hr]; exact unhide HO
      go_wp2
      go_ret
      exact ⟨rfl, rfl⟩
set_option maxHeartbeats 1000000 in
theorem svecleq_any (a : Option Addr) (n c : Nat) (ns : List Int) (b : Option Addr) (m d : Nat) (ms : List Int) (r : Bool) (hr : Hid (vl ns ms = r)) (w : World) (hn : n ≤ 140737488351232) (h : RwN w (.slice a n c) ns) (h1 : RwN w (.slice b m d) ms) :
    Calls Try.prog 21 #[.slice a n c, .slice b m d] w fun e w' => e = .returned (.bool r) ∧ Below w.heap.size w w' := by
  have HR := hide h
  have HR1 := hide h1
  have HN := hide h.len.1
  clear h h1
  go_enter Try.func21, Try.ntmps21
  go_wp2
  go_loopw [5] (fun i wr => ∃ k : Nat, k ≤ n ∧ i = .int .i64 k ∧ vlK ns ms k = true ∧ Below w.heap.size w wr) (fun i _ => n - (intOf i).toNat)
  case atStart => exact ⟨0, Nat.zero_le _, rfl, rfl, Below.refl _ _⟩
  case round =>
    obtain ⟨k, hk, rfl, hok, hbel⟩ := hrel
    have HO := hide hok
    have HB := hide hbel
    have hsz := hbel.size
    clear hok
    by_cases hlt : k < n
    · obtain ⟨z, e, off, hz, rfl, hb, hc, cz⟩ := ((unhide HR).later hbel).atN hlt
      have HZ := hide (nAt_in hz)
      clear hz hbel
      obtain ⟨y, hy⟩ : ∃ y, Hid (nAt ms k = y) := ⟨_, hide rfl⟩
      obtain ⟨q, hq⟩ : ∃ q, decide (y < z) = q := ⟨_, rfl⟩
      have HR2 := hide ((unhide HR1).later (unhide HB))
      have cl := later_some hb cz
      go_wp2_with fail
      refine wp_region_later (by kernel_rfl) (by kernel_rfl) ?_
      repeat (go_big_quiet_step (first
        | (go_at_call 27; exact Calls.later_same (l8at_any b m d ms k y hy _ ((unhide HR2).in_later _ _)))))
      refine wpQuiet_nil ?_
      intro w2 b2
      have HB2 := hide ((unhide HB).trans (b2.mono hsz))
      clear b2 HB cl cz
      cases q
      · have HS := hide (show vlK ns ms (k + 1) = true by rw [vlK_succ, unhide HO, unhide hy, unhide HZ]; simp at hq ⊢; omega)
        go_wp2
        go_roundw
        case rel => exact ⟨k + 1, by omega, by go_num, unhide HS, unhide HB2⟩
        case measure => simp [intOf]; omega
      · obtain rfl : r = false := by rw [← unhide hr]; exact vl_no (k := k) (by have := unhide HN; omega) (by rw [unhide hy, unhide HZ]; simpa using hq)
        go_wp2
        go_ret
        exact ⟨rfl, unhide HB2⟩
    · obtain rfl : r = true := by
        have e : n = ns.length := unhide HN
        obtain rfl : k = ns.length := by omega
        rw [← unhide hr]; exact unhide HO
      go_wp2
      go_ret
      exact ⟨rfl, unhide HB⟩
end Go.Proofs.Ytdjoobcbnaelnaa
