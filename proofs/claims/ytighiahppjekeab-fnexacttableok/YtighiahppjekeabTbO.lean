/-
  Whether a table is right: the specification's, and the program's. No statement is proved here.
-/
import Derived.Test.YtighiahppjekeabGrM
namespace Go.Proofs.Ytighiahppjekeab
open Go.RowKit

theorem okR_eq {r : List Int} {n : Nat} (h : n = r.length) : okR r = (((n : Int) == 5) && r.all fun x => inB x 0 1000) := by
  subst h
  unfold okR
  congr 1
  rw [Bool.eq_iff_iff]; simp; omega
set_option maxHeartbeats 4000000 in
set_option maxRecDepth 100000 in
theorem stableok_any (a : Option Addr) (n c : Nat) (t : Tb) (m : Int) (r : Bool) (hr : Hid (okT t m = r)) (w : World) (hn : n ≤ 140737488351232) (hm : ∀ (i : Nat) (q : List Int), t[i]? = some q → q.length ≤ 140737488351232) (h : RwG w (.slice a n c) t) :
    Calls Try.prog 8 #[.slice a n c, .int .i64 m] w fun e w' => e = .returned (.bool r) ∧ w = w' := by
  have HR := hide h
  have HN := hide h.len.1
  have HM := hide hm
  obtain ⟨b1, h1⟩ : ∃ b, Hid (inB m 1 5 = b) := ⟨_, hide rfl⟩
  have HE : Hid ((b1 && ((n : Int) == m) && okRs t) = r) := hide (by rw [← unhide hr, okT, unhide h1, ← unhide HN])
  clear h hr hm
  go_enter Try.func8, Try.ntmps8
  go_wp2_with fail
  refine (l1in_is m 1 5 b1 (unhide h1) _).mono ?_
  rintro e _ ⟨rfl, rfl⟩
  cases b1
  · obtain rfl : r = false := by rw [← unhide HE]; rfl
    go_wp2
    go_ret
    exact ⟨rfl, rfl⟩
  by_cases hmm : (n : Int) = m
  · subst hmm
    have HE2 : Hid (okRs t = r) := hide (by rw [← unhide HE]; simp)
    have hd : ((n : Int) != (n : Int)) = false := by simp
    clear HE h1
    go_wp2
    go_loop [5] (fun i => ∃ k : Nat, k ≤ n ∧ i = .int .i64 k ∧ okRsK t k = true) (fun i => n - (intOf i).toNat)
    case atStart => exact ⟨0, Nat.zero_le _, rfl, rfl⟩
    case round =>
      obtain ⟨k, hk, rfl, hok⟩ := hrel
      have HO := hide hok
      clear hok
      by_cases hlt : k < n
      · obtain ⟨q, ai, ni, ci, b, off, hq, rfl, hb, hcap, c0, rq, -⟩ := (unhide HR).at hlt
        have hni : ni ≤ 140737488351232 := by have := unhide HM k q hq; have := rq.len.1; omega
        have HQ := hide hq
        have HRQ := hide rq
        have HNI := hide rq.len.1
        obtain ⟨d5, hd5⟩ : ∃ d, ((ni : Int) != 5) = d := ⟨_, rfl⟩
        have HR5 : Hid (okR q = (!d5 && q.all fun x => inB x 0 1000)) := hide (by rw [okR_eq rq.len.1, ← hd5]; simp [bne])
        clear hq rq
        cases d5
        rotate_left
        · obtain rfl : r = false := by rw [← unhide HE2]; exact okRs_no (unhide HQ) (by rw [unhide HR5]; rfl)
          go_wp2
          go_ret
          exact ⟨rfl, rfl⟩
        · go_wp2
          go_loop [6] (fun j => ∃ i : Nat, i ≤ ni ∧ j = .int .i64 i ∧ okRK q i = true) (fun j => ni - (intOf j).toNat)
          case atStart => exact ⟨0, Nat.zero_le _, rfl, rfl⟩
          case round =>
            obtain ⟨i, hi, rfl, hoi⟩ := hrel
            have HOI := hide hoi
            clear hoi
            by_cases hli : i < ni
            · obtain ⟨z, b2, off2, hz, rfl, hb2, hc2, cz⟩ := (unhide HRQ).atN hli
              have HZ := hide hz
              clear hz
              obtain ⟨p, hp⟩ : ∃ p, Hid (inB z 0 1000 = p) := ⟨_, hide rfl⟩
              go_wp2_with fail
              refine (l1in_is z 0 1000 p (unhide hp) _).mono ?_
              rintro e _ ⟨rfl, rfl⟩
              cases p
              · obtain rfl : r = false := by rw [← unhide HE2]; exact okRs_no (unhide HQ) (okR_no (unhide HZ) (unhide hp))
                go_wp2
                go_ret
                exact ⟨rfl, rfl⟩
              · have HS := hide (show okRK q (i + 1) = true by rw [okRK_succ (unhide HZ), unhide HOI, unhide hp]; rfl)
                go_wp2
                go_round
                case rel => exact ⟨i + 1, by omega, by go_num, unhide HS⟩
                case measure => simp [intOf]; omega
            · have HS : Hid (okRsK t (k + 1) = true) := hide (by
                rw [okRsK_succ (unhide HQ), unhide HO, unhide HR5, ← okRK_all (k := i) (by have := unhide HNI; omega), unhide HOI]; rfl)
              go_wp2
              go_round
              case rel => exact ⟨k + 1, by omega, by go_num, unhide HS⟩
              case measure => simp [intOf]; omega
      · obtain rfl : r = true := by rw [← unhide HE2, ← okRsK_all (k := k) (by have := unhide HN; omega)]; exact unhide HO
        go_wp2
        go_ret
        exact ⟨rfl, rfl⟩
  · have hd : ((n : Int) != m) = true := by simpa using hmm
    obtain rfl : r = false := by
      rw [← unhide HE]
      have : ((n : Int) == m) = false := by simpa using hmm
      rw [this]; rfl
    clear HE h1
    go_wp2
    go_ret
    exact ⟨rfl, rfl⟩
set_option maxHeartbeats 1000000 in
theorem iincsok_any (a : Option Addr) (n c : Nat) (ns : List Int) (r : Bool) (hr : Hid ((ns.all fun x => inB x 0 1000) = r)) (w : World) (hn : n ≤ 140737488351232) (h : RwN w (.slice a n c) ns) :
    Calls Try.prog 42 #[.slice a n c] w fun e w' => e = .returned (.bool r) ∧ w = w' := by
  have HR := hide h
  have HN := hide h.len.1
  clear h
  go_enter Try.func42, Try.ntmps42
  go_wp2
  go_loop [7] (fun i => ∃ k : Nat, k ≤ n ∧ i = .int .i64 k ∧ okRK ns k = true) (fun i => n - (intOf i).toNat)
  case atStart => exact ⟨0, Nat.zero_le _, rfl, rfl⟩
  case round =>
    obtain ⟨k, hk, rfl, hok⟩ := hrel
    have HO := hide hok
    clear hok
    by_cases hlt : k < n
    · obtain ⟨z, b, off, hz, rfl, hb, hc, cz⟩ := (unhide HR).atN hlt
      have HZ := hide hz
      clear hz
      obtain ⟨q, hq⟩ : ∃ q, Hid (inB z 0 1000 = q) := ⟨_, hide rfl⟩
      go_wp2_with fail
      refine (within_is z 0 1000 q (unhide hq) _).mono ?_
      rintro e _ ⟨rfl, rfl⟩
      cases q
      · obtain rfl : r = false := by rw [← unhide hr]; exact all_no (p := fun x => inB x 0 1000) (unhide HZ) (unhide hq)
        go_wp2
        go_ret
        exact ⟨rfl, rfl⟩
      · have HS := hide (show okRK ns (k + 1) = true by rw [okRK_succ (unhide HZ), unhide HO, unhide hq]; rfl)
        go_wp2
        go_round
        case rel => exact ⟨k + 1, by omega, by go_num, unhide HS⟩
        case measure => simp [intOf]; omega
    · obtain rfl : r = true := by rw [← unhide hr, ← okRK_all (k := k) (by have := unhide HN; omega)]; exact unhide HO
      go_wp2
      go_ret
      exact ⟨rfl, rfl⟩
set_option maxHeartbeats 1000000 in
theorem irowsok_any (a : Option Addr) (n c : Nat) (t : Tb) (r : Bool) (hr : Hid (okRs t = r)) (w : World) (hn : n ≤ 140737488351232) (hm : ∀ (i : Nat) (q : List Int), t[i]? = some q → q.length ≤ 140737488351232) (h : RwG w (.slice a n c) t) :
    Calls Try.prog 28 #[.slice a n c] w fun e w' => e = .returned (.bool r) ∧ w = w' := by
  have HR := hide h
  have HN := hide h.len.1
  have HM := hide hm
  clear h hm
  go_enter Try.func28, Try.ntmps28
  go_wp2
  go_loop [7] (fun i => ∃ k : Nat, k ≤ n ∧ i = .int .i64 k ∧ okRsK t k = true) (fun i => n - (intOf i).toNat)
  case atStart => exact ⟨0, Nat.zero_le _, rfl, rfl⟩
  case round =>
    obtain ⟨k, hk, rfl, hok⟩ := hrel
    have HO := hide hok
    clear hok
    by_cases hlt : k < n
    · obtain ⟨q, ai, ni, ci, b, off, hq, rfl, hb, hcap, c0, rq, -⟩ := (unhide HR).at hlt
      have hni : ni ≤ 140737488351232 := by have := unhide HM k q hq; have := rq.len.1; omega
      have HQ := hide hq
      have HRQ := hide rq
      obtain ⟨d5, hd5⟩ : ∃ d, ((ni : Int) != 5) = d := ⟨_, rfl⟩
      obtain ⟨p, hp⟩ : ∃ p, Hid ((q.all fun x => inB x 0 1000) = p) := ⟨_, hide rfl⟩
      have HR5 : Hid (okR q = (!d5 && p)) := hide (by rw [okR_eq rq.len.1, unhide hp, ← hd5]; simp [bne])
      clear hq rq
      cases d5
      rotate_left
      · obtain rfl : r = false := by rw [← unhide hr]; exact okRs_no (unhide HQ) (by rw [unhide HR5]; rfl)
        go_wp2
        go_ret
        exact ⟨rfl, rfl⟩
      · go_wp2_with fail
        refine (iincsok_any ai ni ci q p hp _ hni (unhide HRQ)).mono ?_
        rintro e _ ⟨rfl, rfl⟩
        cases p
        · obtain rfl : r = false := by rw [← unhide hr]; exact okRs_no (unhide HQ) (by rw [unhide HR5]; rfl)
          go_wp2
          go_ret
          exact ⟨rfl, rfl⟩
        · have HS : Hid (okRsK t (k + 1) = true) := hide (by rw [okRsK_succ (unhide HQ), unhide HO, unhide HR5]; rfl)
          go_wp2
          go_round
          case rel => exact ⟨k + 1, by omega, by go_num, unhide HS⟩
          case measure => simp [intOf]; omega
    · obtain rfl : r = true := by rw [← unhide hr, ← okRsK_all (k := k) (by have := unhide HN; omega)]; exact unhide HO
      go_wp2
      go_ret
      exact ⟨rfl, rfl⟩
set_option maxHeartbeats 1000000 in
theorem itableok_any (a : Option Addr) (n c : Nat) (t : Tb) (m : Int) (r : Bool) (hr : Hid (okT t m = r)) (w : World) (hn : n ≤ 140737488351232) (hm : ∀ (i : Nat) (q : List Int), t[i]? = some q → q.length ≤ 140737488351232) (h : RwG w (.slice a n c) t) :
    Calls Try.prog 10 #[.slice a n c, .int .i64 m] w fun e w' => e = .returned (.bool r) ∧ w = w' := by
  have HR := hide h
  have HM := hide hm
  obtain ⟨b1, h1⟩ : ∃ b, Hid (inB m 1 5 = b) := ⟨_, hide rfl⟩
  obtain ⟨b2, h2⟩ : ∃ b, ((n : Int) == m) = b := ⟨_, rfl⟩
  have HE : Hid ((b1 && b2 && okRs t) = r) := hide (by rw [← unhide hr, okT, unhide h1, ← h.len.1, h2])
  clear h hr hm
  go_enter Try.func10, Try.ntmps10
  go_wp2_with fail
  refine (within_is m 1 5 b1 (unhide h1) _).mono ?_
  rintro e _ ⟨rfl, rfl⟩
  cases b1
  · obtain rfl : r = false := by rw [← unhide HE]; rfl
    go_wp2
    go_ret
    exact ⟨rfl, rfl⟩
  cases b2
  · obtain rfl : r = false := by rw [← unhide HE]; rfl
    go_wp2
    go_ret
    exact ⟨rfl, rfl⟩
  · go_wp2_with fail
    refine (irowsok_any a n c t r (hide (by rw [← unhide HE]; rfl)) _ hn (unhide HM) (unhide HR)).mono ?_
    rintro e _ ⟨rfl, rfl⟩
    go_wp2
    go_ret
    exact ⟨rfl, rfl⟩
end Go.Proofs.Ytighiahppjekeab
