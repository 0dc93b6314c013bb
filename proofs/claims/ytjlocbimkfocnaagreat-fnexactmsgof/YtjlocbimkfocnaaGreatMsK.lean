/-
  Whether the parts of a message are right: the specification's and the program's. No statement is proved here.
-/
import Derived.Test.YtjlocbimkfocnaaGreatMsM
import Derived.Test.YtjlocbimkfocnaaGreatApp2
import Derived.Test.YtjlocbimkfocnaaGreatVcA
import Derived.Test.YtjlocbimkfocnaaGreatTreL
import Derived.Test.YtjlocbimkfocnaaGreatTrV
import Derived.Laws.EntriesVeiled
namespace Go.Proofs.YtjlocbimkfocnaaGreat
open Go.RowKit

/-- Whether all are numbers from 0 on to that one. -/
def alB (ns : List Int) (hi : Int) : Bool := ns.all fun x => inB x 0 hi
theorem alB_at {ns : List Int} {k : Nat} {x hi : Int} (h : ns[k]? = some x) : alB (ns.drop k) hi = (inB x 0 hi && alB (ns.drop (k + 1)) hi) := by
  rw [drop_at h]; rfl
theorem alB_end {ns : List Int} {n k : Nat} {hi : Int} (hn : n = ns.length) (hk : k ≤ n) (h : ¬ k < n) : alB (ns.drop k) hi = true := by
  rw [drop_end hn hk h]; rfl
set_option maxHeartbeats 1000000 in
theorem slnums_any (a : Option Addr) (n c : Nat) (ns : List Int) (most top : Int) (q : Bool) (hq : Hid (nmOk ns most.toNat top = q)) (w : World) (h0 : 0 ≤ most) (hn : n ≤ 140737488351232) (h : RwN w (.slice a n c) ns) :
    Calls Tryz.prog 38 #[.slice a n c, .int .i64 most, .int .i64 top] w fun e w' => e = .returned (.bool q) ∧ w = w' := by
  have HR := hide h
  have HN := hide h.len.1
  obtain ⟨m, rfl⟩ := Int.eq_ofNat_of_zero_le h0
  have HQ : Hid ((decide (n ≤ m) && alB ns top) = q) := hide (by rw [← unhide hq, nmOk, unhide HN]; rfl)
  clear h hq
  by_cases hm : n ≤ m
  · have HA : Hid (alB (ns.drop 0) top = q) := hide (by rw [← unhide HQ, decide_eq_true hm]; rfl)
    have hd : decide ((m : Int) < (n : Int)) = false := by simp; omega
    clear HQ
    go_enter Tryz.func38, Tryz.ntmps38
    have hd2 : decide (m < n) = false := by simp; omega
    go_wp2
    go_loop [7] (fun i => ∃ k : Nat, k ≤ n ∧ i = .int .i64 k ∧ Hid (alB (ns.drop k) top = q)) (fun i => n - (intOf i).toNat)
    case atStart => exact ⟨0, Nat.zero_le _, rfl, HA⟩
    case round =>
      obtain ⟨k, hk, rfl, HK⟩ := hrel
      clear HA
      by_cases hlt : k < n
      · obtain ⟨z, b, off, hz, rfl, hb, hc, cz⟩ := (unhide HR).atN hlt
        have HZ := hide hz
        clear hz
        obtain ⟨p, hp⟩ : ∃ p, Hid (inB z 0 top = p) := ⟨_, hide rfl⟩
        have HS : Hid ((p && alB (ns.drop (k + 1)) top) = q) := hide (by rw [← unhide hp, ← alB_at (unhide HZ)]; exact unhide HK)
        clear HK
        go_wp2_with fail
        refine (l1in_is z 0 top p (unhide hp) _).mono ?_
        rintro e _ ⟨rfl, rfl⟩
        cases p
        · obtain rfl : q = false := by rw [← unhide HS]; rfl
          go_wp2
          go_ret
          exact ⟨rfl, rfl⟩
        · have HT : Hid (alB (ns.drop (k + 1)) top = q) := hide (by rw [← unhide HS]; rfl)
          go_wp2
          go_round
          case rel => exact ⟨k + 1, by omega, by go_num, HT⟩
          case measure => simp [intOf]; omega
      · obtain rfl : q = true := by rw [← unhide HK]; exact alB_end (unhide HN) hk hlt
        go_wp2
        go_ret
        exact ⟨rfl, rfl⟩
  · obtain rfl : q = false := by rw [← unhide HQ, decide_eq_false hm]; rfl
    have hd : decide ((m : Int) < (n : Int)) = true := by simp; omega
    go_enter Tryz.func38, Tryz.ntmps38
    go_wp2
    go_ret
    exact ⟨rfl, rfl⟩
set_option maxHeartbeats 2000000 in
theorem sltree_any (a : Option Addr) (n c : Nat) (ns : List Int) (r : Int) (q : Bool) (hq : Hid (trOk ns r = q)) (w : World) (hn : n ≤ 140737488351232) (h : RwN w (.slice a n c) ns) :
    Calls Tryz.prog 37 #[.agg #[.slice a n c, .int .i64 r]] w fun e w' => e = .returned (.bool q) ∧ Below w.heap.size w w' := by
  have HR := hide h
  have HN := hide h.len.1
  clear h
  by_cases h0 : n = 0
  · have HQ : Hid ((r == 0) = q) := hide (by rw [← unhide hq, trOk, if_pos (by rw [← unhide HN]; exact h0)])
    subst h0
    clear hq
    cases q
    · have hr : (r == 0) = false := unhide HQ
      go_enter Tryz.func37, Tryz.ntmps37
      go_wp2
      go_ret
      exact ⟨rfl, (Below.refl _ _).alloc (Nat.le_refl _) _⟩
    · have hr : (r == 0) = true := unhide HQ
      go_enter Tryz.func37, Tryz.ntmps37
      go_wp2
      go_ret
      exact ⟨rfl, (Below.refl _ _).alloc (Nat.le_refl _) _⟩
  · have HQ : Hid (((ns.length == 4) && nmOk ns 4 1023 && inB r 0 1023) = q) := hide (by rw [← unhide hq, trOk, if_neg (by rw [← unhide HN]; exact h0)])
    have hd : ((n : Int) == 0) = false := by simp; omega
    clear hq
    by_cases h4 : n = 4
    · subst h4
      obtain ⟨p, hp⟩ : ∃ p, Hid (nmOk ns (Int.toNat 4) 1023 = p) := ⟨_, hide rfl⟩
      obtain ⟨s, hs⟩ : ∃ s, Hid (inB r 0 1023 = s) := ⟨_, hide rfl⟩
      have HP : Hid ((p && s) = q) := hide (by
        rw [← unhide HQ, ← unhide hp, ← unhide hs, ← unhide HN]; rfl)
      clear HQ hd
      go_enter Tryz.func37, Tryz.ntmps37
      go_wp2_with fail
      refine (slnums_any a 4 c ns 4 1023 p hp _ (by omega) hn ((unhide HR).alloc _)).mono ?_
      rintro e _ ⟨rfl, rfl⟩
      cases p
      · obtain rfl : q = false := by rw [← unhide HP]; rfl
        go_wp2
        go_ret
        exact ⟨rfl, (Below.refl _ _).alloc (Nat.le_refl _) _⟩
      · obtain rfl : q = s := by rw [← unhide HP]; rfl
        go_wp2_with fail
        refine (l1in_is r 0 1023 q (unhide hs) _).mono ?_
        rintro e _ ⟨rfl, rfl⟩
        go_wp2
        go_ret
        exact ⟨rfl, (Below.refl _ _).alloc (Nat.le_refl _) _⟩
    · have hd4 : ((n : Int) == 4) = false := by simp; omega
      obtain rfl : q = false := by
        rw [← unhide HQ, ← unhide HN, show (n == 4) = false by simp [h4]]; rfl
      go_enter Tryz.func37, Tryz.ntmps37
      go_wp2
      go_ret
      exact ⟨rfl, (Below.refl _ _).alloc (Nat.le_refl _) _⟩
theorem issum_any (x : Int) (q : Bool) (hq : Hid (inB x 0 1023 = q)) (w : World) : Calls Tryz.prog 93 #[.int .i64 x] w fun e w' => e = .returned (.bool q) ∧ w = w' := by
  go_enter Tryz.func93, Tryz.ntmps93
  go_wp2_with fail
  refine (within_is x 0 1023 q (unhide hq) _).mono ?_
  rintro e _ ⟨rfl, rfl⟩
  go_wp2
  go_ret
  exact ⟨rfl, rfl⟩
theorem isnosum_any (x : Int) (q : Bool) (hq : Hid (inB x 0 1023 = q)) (w : World) : Calls Tryz.prog 95 #[.int .i64 x] w fun e w' => e = .returned (.bool (!q)) ∧ w = w' := by
  go_enter Tryz.func95, Tryz.ntmps95
  go_wp2_with fail
  refine (issum_any x q hq _).mono ?_
  rintro e _ ⟨rfl, rfl⟩
  go_wp2
  go_ret
  exact ⟨rfl, rfl⟩
set_option maxHeartbeats 1000000 in
theorem indexnosum_any (a : Option Addr) (n c : Nat) (ns : List Int) (q : Bool) (hq : Hid (alB ns 1023 = q)) (w : World) (hn : n ≤ 140737488351232) (h : RwN w (.slice a n c) ns) :
    Calls Tryz.prog 122 #[.slice a n c, .func (.func 95) #[] #[]] w fun e w' => ∃ z : Int, e = .returned (.int .i64 z) ∧ decide (0 ≤ z) = (!q) ∧ w = w' := by
  have HR := hide h
  have HN := hide h.len.1
  clear h
  have HA : Hid (alB (ns.drop 0) 1023 = q) := hq
  clear hq
  go_enter Tryz.func122, Tryz.ntmps122
  go_wp2
  go_loop [8] (fun i => ∃ k : Nat, k ≤ n ∧ i = .int .i64 k ∧ Hid (alB (ns.drop k) 1023 = q)) (fun i => n - (intOf i).toNat)
  case atStart => exact ⟨0, Nat.zero_le _, rfl, HA⟩
  case round =>
    obtain ⟨k, hk, rfl, HK⟩ := hrel
    clear HA
    by_cases hlt : k < n
    · obtain ⟨z, b, off, hz, rfl, hb, hc, cz⟩ := (unhide HR).atN hlt
      have HZ := hide hz
      clear hz
      obtain ⟨p, hp⟩ : ∃ p, Hid (inB z 0 1023 = p) := ⟨_, hide rfl⟩
      have HS : Hid ((p && alB (ns.drop (k + 1)) 1023) = q) := hide (by rw [← unhide hp, ← alB_at (unhide HZ)]; exact unhide HK)
      clear HK
      go_wp2_with fail
      refine (isnosum_any z p hp _).mono ?_
      rintro e _ ⟨rfl, rfl⟩
      cases p
      · obtain rfl : q = false := by rw [← unhide HS]; rfl
        go_wp2
        go_ret
        exact ⟨_, rfl, by simp, rfl⟩
      · have HT : Hid (alB (ns.drop (k + 1)) 1023 = q) := hide (by rw [← unhide HS]; rfl)
        go_wp2
        go_round
        case rel => exact ⟨k + 1, by omega, by go_num, HT⟩
        case measure => simp [intOf]; omega
    · obtain rfl : q = true := by rw [← unhide HK]; exact alB_end (unhide HN) hk hlt
      go_wp2
      go_ret
      exact ⟨_, rfl, by simp, rfl⟩
theorem containsnosum_any (a : Option Addr) (n c : Nat) (ns : List Int) (q : Bool) (hq : Hid (alB ns 1023 = q)) (w : World) (hn : n ≤ 140737488351232) (h : RwN w (.slice a n c) ns) :
    Calls Tryz.prog 94 #[.slice a n c, .func (.func 95) #[] #[]] w fun e w' => e = .returned (.bool (!q)) ∧ w = w' := by
  have HR := hide h
  clear h
  go_enter Tryz.func94, Tryz.ntmps94
  go_wp2_with fail
  refine (indexnosum_any a n c ns q hq _ hn (unhide HR)).mono ?_
  rintro e _ ⟨z, rfl, hz, rfl⟩
  go_wp2
  go_ret
  exact ⟨by simp, rfl⟩
end Go.Proofs.YtjlocbimkfocnaaGreat
