/-
  The program's Number and the specification's return what the list function 'numOf' says of the text's bytes. No statement is proved here.
-/
import Derived.Test.YthpnidkhapcfoalNumP
import Derived.WalkLawsBesides
import Derived.Defers
import Derived.Recover
namespace Go.Proofs.Ythpnidkhapcfoal
open Go.RowKit

def bl (s : ByteArray) : List Int := s.data.toList.map fun c => (c.toNat : Int)
theorem bl_length (s : ByteArray) : (bl s).length = s.size := by
  unfold bl
  rw [List.length_map]
  rfl
theorem bl_drop (s : ByteArray) (k z : Nat) (h : k < s.size) (hz : s[k].toNat = z) : (bl s).drop k = (z : Int) :: (bl s).drop (k + 1) := by
  subst hz
  unfold bl
  rw [← List.map_drop, ← List.map_drop, List.drop_eq_getElem_cons (show k < s.data.toList.length from h)]
  rfl

theorem isEmpty_of {s : ByteArray} (h : s.size = 0) : s.toList.isEmpty = true := by
  rw [ByteArray.toList_eq, List.isEmpty_iff]
  exact List.eq_nil_of_length_eq_zero h
theorem isEmpty_not {s : ByteArray} (h : ¬ s.size = 0) : s.toList.isEmpty = false := by
  rw [ByteArray.toList_eq]
  cases he : s.data.toList with
  | nil => exact absurd (show s.data.toList.length = 0 by rw [he]; rfl) h
  | cons c r => rfl
theorem byte_lt (s : ByteArray) (k z : Nat) (h : k < s.size) (hz : s[k].toNat = z) : z < 256 := by rw [← hz]; exact UInt8.toNat_lt _
theorem rdig_out (c n : Int) (r : List Int) (h : c < 48 ∨ 57 < c) : rdig (c :: r) n = none := by simp only [rdig, h, if_true]
theorem rdig_big (c n : Int) (r : List Int) (h : ¬ (c < 48 ∨ 57 < c)) (h' : 999999 < n * 10 + (c - 48)) : rdig (c :: r) n = none := by simp only [rdig, h, if_false, h', if_true]
theorem rdig_more (c n : Int) (r : List Int) (h : ¬ (c < 48 ∨ 57 < c)) (h' : ¬ 999999 < n * 10 + (c - 48)) : rdig (c :: r) n = rdig r (n * 10 + (c - 48)) := by simp only [rdig, h, if_false, h']

def nend : Option Int → Ending
  | none => .panicked [{ v := .iface 9 (.string ⟨#[110, 111, 32, 110, 117, 109, 98, 101, 114]⟩), recovered := false }]
  | some n => .returned (.int .i64 n)
def nres : Option Int → Value
  | none => .tuple #[.int .i64 0, .bool false]
  | some n => .tuple #[.int .i64 n, .bool true]
theorem nend_some {o : Option Int} {n n' : Int} (h : o = some n) (h1 : n' = n) : Ending.returned (.int .i64 n') = nend o := by rw [h, h1]; rfl
theorem nend_none {o : Option Int} (h : o = none) : Ending.panicked [{ v := .iface 9 (.string ⟨#[110, 111, 32, 110, 117, 109, 98, 101, 114]⟩), recovered := false }] = nend o := by rw [h]; rfl

set_option maxHeartbeats 2000000 in
set_option maxRecDepth 100000 in
theorem readdigits_any (s : ByteArray) (w : World) (hs : s.size ≤ 1048576) :
    Calls Try.prog 21 #[.string s] w fun e w' => e = nend (numOf (bl s)) ∧ w = w' := by
  by_cases h0 : s.size = 0
  · have HN := hide (show numOf (bl s) = none by unfold numOf; rw [if_pos (.inl (List.eq_nil_of_length_eq_zero (by rw [bl_length]; exact h0)))])
    have he : s.toList.isEmpty = true := isEmpty_of h0
    go_enter Try.func21, Try.ntmps21
    go_wp2
    exact ⟨rfl, nend_none (unhide HN), rfl⟩
  · have hpos : 0 < s.size := by omega
    obtain ⟨z0, hz0⟩ : ∃ z0, s[0].toNat = z0 := ⟨_, rfl⟩
    have he : s.toList.isEmpty = false := isEmpty_not h0
    have hb0 : (bl s).drop 0 = (z0 : Int) :: (bl s).drop (0 + 1) := bl_drop s 0 z0 hpos hz0
    have hne : bl s ≠ [] := by intro h; have := bl_length s; rw [h] at this; simp at this; omega
    have hhead : (bl s).headD 0 = (z0 : Int) := by rw [List.drop_zero] at hb0; rw [hb0]; rfl
    by_cases hbad : z0 = 48 ∧ 1 < s.size
    · obtain ⟨h48, h1⟩ := hbad
      have HN := hide (show numOf (bl s) = none from if_pos (.inr ⟨by rw [hhead, h48]; rfl, by rw [bl_length]; exact h1⟩))
      have hd1 : ((z0 : Int) == 48) = true := by rw [h48]; rfl
      clear hb0 hne hhead
      go_enter Try.func21, Try.ntmps21
      go_wp2
      exact ⟨rfl, nend_none (unhide HN), rfl⟩
    · have hnum : numOf (bl s) = rdig (bl s) 0 := if_neg (by
        intro h
        rcases h with h | ⟨h, h'⟩
        · exact hne h
        · rw [hhead] at h; rw [bl_length] at h'; exact hbad ⟨by omega, h'⟩)
      rw [hnum]
      have hfin : ∃ b : Bool, (((z0 : Int) == 48) && decide ((1 : Int) < (s.size : Int))) = false := ⟨true, by
        rw [Bool.and_eq_false_iff]
        by_cases h : z0 = 48
        · right; simp; omega
        · left; simp; omega⟩
      clear hb0 hne hhead hnum hfin
      by_cases h48 : z0 = 48
      all_goals
        first | (have hd1 : ((z0 : Int) == 48) = true := by simp; omega) | (have hd1 : ((z0 : Int) == 48) = false := by simp; omega)
        try (have hd2 : decide ((1 : Int) < (s.size : Int)) = false := by simp; omega)
        clear hbad h48
        go_enter Try.func21, Try.ntmps21
        go_wp2
        go_loop [3, 4] (fun n i => ∃ k m : Nat, k ≤ s.size ∧ i = .int .i64 k ∧ n = .int .i64 m ∧ m ≤ 999999 ∧ rdig ((bl s).drop k) m = rdig (bl s) 0) (fun _ i => s.size - (intOf i).toNat)
        case atStart => exact ⟨0, 0, Nat.zero_le _, rfl, rfl, by omega, rfl⟩
        case round =>
          obtain ⟨k, m, hk, rfl, rfl, hm, hrec⟩ := hrel
          have HR := hide hrec
          clear hrec
          by_cases hlt : k < s.size
          · obtain ⟨z, hz⟩ : ∃ z, s[k].toNat = z := ⟨_, rfl⟩
            have hzb := byte_lt s k z hlt hz
            have HB := hide ((congrArg (fun l => rdig l (m : Int)) (bl_drop s k z hlt hz)).symm.trans (unhide HR))
            clear HR
            by_cases hlo : z < 48
            · have HN := hide ((unhide HB).symm.trans (rdig_out _ _ _ (.inl (by omega))))
              have hd3 : decide ((z : Int) < 48) = true := by simp; omega
              clear HB
              go_wp2
              exact ⟨rfl, nend_none (unhide HN), rfl⟩
            · have hd3 : decide ((z : Int) < 48) = false := by simp; omega
              by_cases hhi : 57 < z
              · have HN := hide ((unhide HB).symm.trans (rdig_out _ _ _ (.inr (by omega))))
                have hd4 : decide (57 < (z : Int)) = true := by simp; omega
                clear HB
                go_wp2
                exact ⟨rfl, nend_none (unhide HN), rfl⟩
              · have hd4 : decide (57 < (z : Int)) = false := by simp; omega
                by_cases hbig : 999999 < (m : Int) * 10 + ((z : Int) - 48)
                · have HN := hide ((unhide HB).symm.trans (rdig_big _ _ _ (by omega) hbig))
                  clear HB
                  go_wp2
                  exact ⟨rfl, nend_none (unhide HN), rfl⟩
                · have hn := (rdig_more _ _ _ (by omega) hbig).symm.trans (unhide HB)
                  rw [show (m : Int) * 10 + ((z : Int) - 48) = ((m * 10 + (z - 48) : Nat) : Int) by omega] at hn
                  have HN' := hide hn
                  clear HB hn
                  go_wp2
                  go_round
                  case rel => exact ⟨k + 1, m * 10 + (z - 48), by omega, by go_num, int_eq (by omega), by omega, unhide HN'⟩
                  case measure => simp [intOf]; omega
          · have hks : k = s.size := by omega
            subst hks
            have HN := hide (show rdig (bl s) 0 = some (m : Int) by rw [← unhide HR, List.drop_of_length_le (by rw [bl_length]; exact Nat.le_refl _)]; rfl)
            clear HR
            go_wp2
            go_ret
            exact ⟨nend_some (unhide HN) rfl, rfl⟩

theorem catch_num_panicking (u : TypeId) (pv : Value) (older : List PanicEntry) (w : World) :
    CallsD Try.prog 20 #[] (.panicking ({ v := .iface u pv, recovered := false } :: older)) w fun e u' w' =>
      e = .returned (.tuple #[]) ∧ u' = .panicking ({ v := .iface u pv, recovered := true } :: older) ∧ w = w' := by
  refine callsD_of_wpS Try.func20 rfl fun c₀ cs hu => ?_
  apply wpS_region
  simp [wpOpsS, go_sem, recoverD, hu, Try.ntmps20, bodyPostS, results, Try.results20]
theorem catch_num_idle (w : World) :
    CallsD Try.prog 20 #[] .returning w fun e u' w' => e = .returned (.tuple #[]) ∧ u' = .returning ∧ w = w' := by
  refine callsD_of_wpS Try.func20 rfl fun c₀ cs hu => ?_
  apply wpS_region
  simp [wpOpsS, go_sem, recoverD, hu, Try.ntmps20, bodyPostS, results, Try.results20]
  cases c₀
  simp_all

set_option maxHeartbeats 1000000 in
theorem inumber_any (s : ByteArray) (w : World) (hs : s.size ≤ 1048576) :
    Calls Try.prog 8 #[.string s] w fun e w' => e = .returned (nres (numOf (bl s))) ∧ w = w' := by
  have hmf : ∀ (fn : Fn) (first cap : Array Value) (w : World), (Instr.makeFunc fn first cap).run Try.prog w = .ok (.func fn first cap) w := fun _ _ _ _ => rfl
  have C := readdigits_any s w hs
  rcases hg : numOf (bl s) with _ | n
  · rw [hg] at C
    simp only [nend] at C
    have HC := hide C
    clear hg C
    go_enter_defers Try.func8, Try.ntmps8
    go_wp2_with (go_at_call 21; refine (unhide HC).mono ?_; rintro e _ ⟨rfl, rfl⟩)
    refine leaves_cons (f := 20) (args := #[]) (by simp) (by simp [go_sem]) ?_
    refine (catch_num_panicking _ _ [] _).mono ?_
    rintro e u' w'' ⟨rfl, rfl, rfl⟩
    simp [Leaves, settle, results, Try.results8, go_sem, nres]
  · rw [hg] at C
    simp only [nend] at C
    have HC := hide C
    clear hg C
    go_enter_defers Try.func8, Try.ntmps8
    go_wp2_with (go_at_call 21; refine (unhide HC).mono ?_; rintro e _ ⟨rfl, rfl⟩)
    refine leaves_cons (f := 20) (args := #[]) (by simp) (by simp [go_sem]) ?_
    refine (catch_num_idle _).mono ?_
    rintro e u' w'' ⟨rfl, rfl, rfl⟩
    simp [Leaves, settle, results, Try.results8, go_sem, nres]

theorem vdig_out (c n : Int) (r : List Int) (h : c < 48 ∨ 57 < c) : vdig (c :: r) n = none := by simp only [vdig, h, if_true]
theorem vdig_more (c n : Int) (r : List Int) (h : ¬ (c < 48 ∨ 57 < c)) : vdig (c :: r) n = vdig r (10 * n + c - 48) := by simp only [vdig, h, if_false]
theorem nres_some {o : Option Int} {n n' : Int} (h : o = some n) (h1 : n' = n) : Ending.returned (.tuple #[.int .i64 n', .bool true]) = .returned (nres o) := by rw [h, h1]; rfl
theorem nres_none {o : Option Int} (h : o = none) : Ending.returned (.tuple #[.int .i64 0, .bool false]) = .returned (nres o) := by rw [h]; rfl

theorem byte_back (c : Int) (h : 0 ≤ c ∧ c ≤ 255) : ((UInt8.ofNat c.toNat).toNat : Int) = c := by
  rw [UInt8.toNat_ofNat']
  omega
theorem bl_str (ds : List Int) (h : ∀ c ∈ ds, 0 ≤ c ∧ c ≤ 255) : bl (strOfNums ds) = ds := by
  unfold bl
  rw [strOfNums_data, List.map_map]
  conv => rhs; rw [← List.map_id ds]
  exact List.map_congr_left fun c hc => byte_back c (h c hc)
theorem str_bl (s : ByteArray) : strOfNums (bl s) = s := by
  apply ByteArray.ext
  apply Array.toList_inj.1
  rw [strOfNums_data]
  unfold bl
  rw [List.map_map]
  conv => rhs; rw [← List.map_id s.data.toList]
  apply List.map_congr_left
  intro c _
  simp
theorem str_eq (ds : List Int) (s : ByteArray) (h : ∀ c ∈ ds, 0 ≤ c ∧ c ≤ 255) : ((strOfNums ds).toList == s.toList) = decide (ds = bl s) := by
  rw [ByteArray.toList_eq, ByteArray.toList_eq]
  by_cases he : ds = bl s
  · rw [he, str_bl]; simp
  · have hne : ¬ (strOfNums ds).data.toList = s.data.toList := by
      intro h2
      apply he
      have : strOfNums ds = s := ByteArray.ext (Array.toList_inj.1 h2)
      rw [← this, bl_str ds h]
    simp only [he, decide_false, beq_eq_false_iff_ne, ne_eq]
    exact hne
theorem dgs_bytes (f n : Nat) (acc : List Int) (h : ∀ c ∈ acc, 0 ≤ c ∧ c ≤ 255) : ∀ c ∈ dgs f n acc, 0 ≤ c ∧ c ≤ 255 := by
  induction f generalizing n acc with
  | zero => simpa [dgs] using h
  | succ f ih =>
    by_cases h0 : n = 0
    · subst h0; rw [dgs_zero]; exact h
    · rw [dgs_step _ _ _ h0]
      apply ih
      intro c hc
      rcases List.mem_cons.1 hc with rfl | hc
      · omega
      · exact h c hc
theorem digs_bytes (n : Int) : ∀ c ∈ digs n, 0 ≤ c ∧ c ≤ 255 := by
  unfold digs
  split
  · intro c hc; simp at hc; omega
  · split
    · intro c hc
      rcases List.mem_cons.1 hc with rfl | hc
      · omega
      · exact dgs_bytes _ _ [] (by simp) c hc
    · exact dgs_bytes _ _ [] (by simp)

set_option maxHeartbeats 2000000 in
set_option maxRecDepth 100000 in
theorem snumber_any (s : ByteArray) (w : World) :
    Calls Try.prog 7 #[.string s] w fun e w' => e = .returned (nres (specNum (bl s))) ∧ Below w.heap.size w w' := by
  by_cases h1 : s.size < 1
  · have HN := hide (show specNum (bl s) = none from if_pos (.inl (by rw [bl_length]; exact h1)))
    go_enter Try.func7, Try.ntmps7
    go_wp2
    go_ret2
    exact ⟨nres_none (unhide HN), Below.refl _ _⟩
  · by_cases h6 : 6 < s.size
    · have HN := hide (show specNum (bl s) = none from if_pos (.inr (by rw [bl_length]; exact h6)))
      have hd1 : decide ((s.size : Int) < 1) = false := by simp; omega
      have hd2 : decide (6 < (s.size : Int)) = true := by simp; omega
      go_enter Try.func7, Try.ntmps7
      go_wp2
      go_ret2
      exact ⟨nres_none (unhide HN), Below.refl _ _⟩
    · have HS := hide (show specNum (bl s) = (match vdig (bl s) 0 with
        | none => none
        | some n => if digs n = bl s then some n else none) from if_neg (by rw [bl_length]; omega))
      have hd1 : decide ((s.size : Int) < 1) = false := by simp; omega
      have hd2 : decide (6 < (s.size : Int)) = false := by simp; omega
      go_enter Try.func7, Try.ntmps7
      go_wp2
      go_loop [4, 5] (fun n i => ∃ k m : Nat, k ≤ s.size ∧ i = .int .i64 k ∧ n = .int .i64 m ∧ m < 10 ^ k ∧ vdig ((bl s).drop k) m = vdig (bl s) 0) (fun _ i => s.size - (intOf i).toNat)
      case atStart => exact ⟨0, 0, Nat.zero_le _, rfl, rfl, by omega, rfl⟩
      case round =>
        obtain ⟨k, m, hk, rfl, rfl, hm, hrec⟩ := hrel
        have HR := hide hrec
        have HM := hide hm
        have hm6 : m < 1000000 := Nat.lt_of_lt_of_le hm (Nat.pow_le_pow_right (by decide) (by omega : k ≤ 6))
        clear hrec hm
        by_cases hlt : k < s.size
        · obtain ⟨z, hz⟩ : ∃ z, s[k].toNat = z := ⟨_, rfl⟩
          have hzb := byte_lt s k z hlt hz
          have HB := hide ((congrArg (fun l => vdig l (m : Int)) (bl_drop s k z hlt hz)).symm.trans (unhide HR))
          clear HR
          by_cases hlo : z < 48
          · have HN := hide (show specNum (bl s) = none by rw [unhide HS, ← unhide HB]; simp only [vdig_out _ _ _ (.inl (show (z : Int) < 48 by omega))])
            have hd3 : decide ((z : Int) < 48) = true := by simp; omega
            clear HB
            go_wp2
            go_ret2
            exact ⟨nres_none (unhide HN), Below.refl _ _⟩
          · have hd3 : decide ((z : Int) < 48) = false := by simp; omega
            by_cases hhi : 57 < z
            · have HN := hide (show specNum (bl s) = none by rw [unhide HS, ← unhide HB]; simp only [vdig_out _ _ _ (.inr (show 57 < (z : Int) by omega))])
              have hd4 : decide (57 < (z : Int)) = true := by simp; omega
              clear HB
              go_wp2
              go_ret2
              exact ⟨nres_none (unhide HN), Below.refl _ _⟩
            · have hd4 : decide (57 < (z : Int)) = false := by simp; omega
              have hn := (vdig_more (z : Int) m ((bl s).drop (k + 1)) (by omega)).symm.trans (unhide HB)
              rw [show 10 * (m : Int) + (z : Int) - 48 = ((10 * m + z - 48 : Nat) : Int) by omega] at hn
              have HN' := hide hn
              have HM' := hide (show 10 * m + z - 48 < 10 ^ (k + 1) by have := unhide HM; rw [Nat.pow_succ]; omega)
              clear HB hn
              go_wp2
              go_round
              case rel => exact ⟨k + 1, 10 * m + z - 48, by omega, by go_num, int_eq (by omega), unhide HM', unhide HN'⟩
              case measure => simp [intOf]; omega
        · have hks : k = s.size := by omega
          subst hks
          have HV := hide (show vdig (bl s) 0 = some (m : Int) by rw [← unhide HR, List.drop_of_length_le (by rw [bl_length]; exact Nat.le_refl _)]; rfl)
          have hsp := unhide HS
          rw [unhide HV] at hsp
          simp only at hsp
          have HP := hide hsp
          clear HR hsp
          go_wp2_with fail
          refine (sdigits_any _ _ (by omega) (by omega)).mono ?_
          rintro e w1 ⟨rfl, hb⟩
          have HB := hide hb
          clear hb
          have hse := str_eq (digs m) s (digs_bytes m)
          by_cases hd : digs m = bl s
          · have hq : ((strOfNums (digs m)).toList == s.toList) = true := by rw [hse]; simpa using hd
            have HF := hide (show specNum (bl s) = some (m : Int) by rw [unhide HP, if_pos hd])
            clear hse hd
            go_wp2
            go_ret2
            exact ⟨nres_some (unhide HF) rfl, unhide HB⟩
          · have hq : ((strOfNums (digs m)).toList == s.toList) = false := by rw [hse]; simpa using hd
            have HF := hide (show specNum (bl s) = none by rw [unhide HP, if_neg hd])
            clear hse hd
            go_wp2
            go_ret2
            exact ⟨nres_none (unhide HF), unhide HB⟩
end Go.Proofs.Ythpnidkhapcfoal
