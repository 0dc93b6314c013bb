/-
  The least number at a place of all rows: the specification's and the program's. No statement is proved here.
-/
import Derived.Test.YtighiahppjekeaaGreatDoorTbD
import Derived.Test.YtighiahppjekeaaGreatDoorApp2
namespace Go.Proofs.YtighiahppjekeaaGreatDoor
open Go.RowKit

theorem hasR_nat {id : Int} {r : List Int} (h : hasR id r = true) : ∃ i : Nat, id = (i : Int) ∧ i < r.length := by
  simp [hasR, inB] at h
  exact ⟨id.toNat, by omega, by omega⟩
theorem com_all {t : Tb} {id : Int} {k : Nat} (hk : t.length ≤ k) (h : (t.take k).all (hasR id) = true) : com t id = lst (col t id.toNat) := by
  rw [List.take_of_length_le hk] at h
  unfold com; rw [if_pos h]
theorem col_nil {t : Tb} {k : Nat} : col t k = [] ↔ t = [] := by simp [col]
theorem lst_next {t : Tb} {i k : Nat} {r : List Int} {z : Int} (h : t[i]? = some r) (hz : nAt r k = z) : lst (col (t.take (i + 1)) k) = if i = 0 then z else min (lst (col (t.take i) k)) z := by
  rw [col_take h, hz]
  split
  · rename_i e
    subst e
    simp [col, lst_one]
  · rename_i e
    refine lst_snoc (fun q => e ?_) z
    have hl := (List.getElem?_eq_some_iff.1 h).1
    have h3 := congrArg List.length (col_nil.1 q)
    simp only [List.length_take, List.length_nil] at h3
    omega
set_option maxHeartbeats 4000000 in
set_option maxRecDepth 100000 in
theorem scommon_any (a : Option Addr) (n c : Nat) (t : Tb) (id r : Int) (hr : Hid (com t id = r)) (w : World) (hn : n ≤ 140737488351232) (hm : ∀ (i : Nat) (q : List Int), t[i]? = some q → q.length ≤ 140737488351232) (h : RwG w (.slice a n c) t) :
    Calls Tryz.prog 34 #[.slice a n c, .int .i64 id] w fun e w' => e = .returned (.int .i64 r) ∧ w = w' := by
  have HR := hide h
  have HN := hide h.len.1
  have HM := hide hm
  clear h hm
  by_cases hz : n = 0
  · have hd : ((n : Int) == 0) = true := by simp; omega
    obtain rfl : r = 0 := by
      have e : t = [] := List.eq_nil_of_length_eq_zero (by have := unhide HN; omega)
      rw [← unhide hr, e]; simp [com, col, lst]
    clear hz
    go_enter Tryz.func34, Tryz.ntmps34
    go_wp2
    go_ret
    exact ⟨rfl, rfl⟩
  have hd : ((n : Int) == 0) = false := by simp; omega
  clear hz
  go_enter Tryz.func34, Tryz.ntmps34
  go_wp2
  go_loop [5, 6] (fun l i => ∃ k : Nat, k ≤ n ∧ i = .int .i64 k ∧ l = .int .i64 (lst (col (t.take k) id.toNat)) ∧ (t.take k).all (hasR id) = true) (fun _ i => n - (intOf i).toNat)
  case atStart => exact ⟨0, Nat.zero_le _, rfl, rfl, rfl⟩
  case round =>
    obtain ⟨k, hk, rfl, rfl, hall⟩ := hrel
    have HA := hide hall
    clear hall
    by_cases hlt : k < n
    · obtain ⟨q, ai, ni, ci, b, off, hq, rfl, hb, hcap, c0, rq, -⟩ := (unhide HR).at hlt
      have hni : ni ≤ 140737488351232 := by have := unhide HM k q hq; have := rq.len.1; omega
      obtain ⟨p, hp⟩ : ∃ p, Hid (inB id 0 ((ni : Int) - 1) = p) := ⟨_, hide rfl⟩
      have HP : Hid (hasR id q = p) := hide (by rw [hasR, ← rq.len.1, unhide hp])
      have HQ := hide hq
      have HRQ := hide rq
      have HNI := hide rq.len.1
      clear hq rq
      go_wp2_with fail
      refine (l1in_is id 0 ((ni : Int) - 1) p (unhide hp) _).mono ?_
      rintro e _ ⟨rfl, rfl⟩
      cases p
      · obtain rfl : r = 0 := by rw [← unhide hr]; exact com_no (unhide HQ) (unhide HP)
        go_wp2
        go_ret
        exact ⟨rfl, rfl⟩
      obtain ⟨i, hid, hil⟩ := hasR_nat (unhide HP)
      subst hid
      have hii : i < ni := by have := unhide HNI; omega
      obtain ⟨z, b2, off2, hz, rfl, hb2, hc2, cz⟩ := (unhide HRQ).atN hii
      have HL := hide (lst_next (k := i) (z := z) (unhide HQ) (nAt_in hz))
      have HS := hide (hasR_take (unhide HQ) (unhide HP) (unhide HA))
      rw [show ((i : Nat) : Int).toNat = i from by omega]
      generalize lst (col (t.take k) i) = l at HL ⊢
      by_cases hk0 : k = 0
      · subst hk0
        have HL2 : Hid (lst (col (t.take 1) i) = z) := hide (by have h := unhide HL; simpa using h)
        rw [Nat.add_zero] at c0
        clear HL hil hz
        go_wp2
        go_round
        case rel => exact ⟨1, by omega, by go_num, by rw [show ((i : Nat) : Int).toNat = i from by omega, unhide HL2], unhide HS⟩
        case measure => simp [intOf]; omega
      · have hkd : ((k : Int) == 0) = false := by simp; omega
        have HL2 : Hid (lst (col (t.take (k + 1)) i) = min l z) := hide (by have h := unhide HL; rwa [if_neg hk0] at h)
        obtain ⟨d, hdd⟩ : ∃ d, decide (z < l) = d := ⟨_, rfl⟩
        have HL3 : Hid (lst (col (t.take (k + 1)) i) = if d then z else l) := hide (by
          rw [unhide HL2, ← hdd]
          by_cases h : z < l
          · simp [h]; omega
          · simp [h]; omega)
        clear HL HL2 hil hz hk0
        cases d
        · go_wp2
          go_round
          case rel => exact ⟨k + 1, by omega, by go_num, by rw [show ((i : Nat) : Int).toNat = i from by omega, unhide HL3]; simp, unhide HS⟩
          case measure => simp [intOf]; omega
        · go_wp2
          go_round
          case rel => exact ⟨k + 1, by omega, by go_num, by rw [show ((i : Nat) : Int).toNat = i from by omega, unhide HL3]; simp, unhide HS⟩
          case measure => simp [intOf]; omega
    · have HE : Hid (r = lst (col (t.take k) id.toNat)) := hide (by rw [← unhide hr, com_all (k := k) (by have := unhide HN; omega) (unhide HA), List.take_of_length_le (by have := unhide HN; omega)])
      go_wp2
      go_ret
      exact ⟨ret_int (unhide HE).symm, rfl⟩
set_option maxHeartbeats 4000000 in
set_option maxRecDepth 100000 in
theorem min_any (a : Option Addr) (n c : Nat) (ns : List Int) (w : World) (hn : n ≤ 140737488351232) (h0 : 0 < n) (h : RwN w (.slice a n c) ns) :
    Calls Tryz.prog 44 #[.slice a n c] w fun e w' => e = .returned (.int .i64 (lst ns)) ∧ Below w.heap.size w w' := by
  have HR := hide h
  have HN := hide h.len.1
  have hd : decide ((n : Int) < 1) = false := by simp; omega
  clear h
  obtain ⟨z, b, off, hz, rfl, hb, hc, cz⟩ := (unhide HR).atN (i := 0) h0
  have HZ : Hid (lst (ns.take 1) = z) := hide (by
    cases ns with
    | nil => simp at hz
    | cons y r => simp at hz; subst hz; rfl)
  clear hz
  rw [Nat.add_zero] at cz
  go_enter Tryz.func44, Tryz.ntmps44
  go_wp2
  go_loop [3, 4] (fun l i => ∃ k : Nat, 1 ≤ k ∧ k ≤ n ∧ i = .int .i64 k ∧ l = .int .i64 (lst (ns.take k))) (fun _ i => n - (intOf i).toNat)
  case atStart => exact ⟨1, by omega, by omega, rfl, by rw [unhide HZ]⟩
  case round =>
    obtain ⟨k, hk1, hk, rfl, rfl⟩ := hrel
    by_cases hlt : k < n
    · obtain ⟨y, b', off', hy, hab, hb', hc', cy⟩ := (unhide HR).atN hlt
      simp only [Option.some.injEq, Addr.mk.injEq] at hab
      obtain ⟨rfl, rfl, -⟩ := hab
      have HL : Hid (lst (ns.take (k + 1)) = min (lst (ns.take k)) y) := hide (by
        rw [List.take_add_one, hy]
        refine lst_snoc (fun q => ?_) y
        have h3 := congrArg List.length q
        have := (List.getElem?_eq_some_iff.1 hy).1
        simp only [List.length_take, List.length_nil] at h3
        omega)
      generalize lst (ns.take k) = l at HL ⊢
      obtain ⟨d, hdd⟩ : ∃ d, decide (y < l) = d := ⟨_, rfl⟩
      have HL3 : Hid (lst (ns.take (k + 1)) = if d then y else l) := hide (by
        rw [unhide HL, ← hdd]
        by_cases h : y < l
        · simp [h]; omega
        · simp [h]; omega)
      clear HL hy cz
      cases d
      · have hyl : ¬ y < l := by simpa using hdd
        have hmn : min l y = l := by omega
        go_wp2
        go_round
        case rel => exact ⟨k + 1, by omega, by omega, by go_num, by rw [unhide HL3]; simp <;> omega⟩
        case measure => simp [intOf]; omega
      · have hyl : y < l := by simpa using hdd
        have hmn : min l y = y := by omega
        go_wp2
        go_round
        case rel => exact ⟨k + 1, by omega, by omega, by go_num, by rw [unhide HL3]; simp <;> omega⟩
        case measure => simp [intOf]; omega
    · have HE : Hid (lst (ns.take k) = lst ns) := hide (by rw [List.take_of_length_le (by have := unhide HN; omega)])
      go_wp2
      go_ret
      exact ⟨ret_int (unhide HE), Below.refl _ _⟩
set_option maxHeartbeats 4000000 in
set_option maxRecDepth 100000 in
theorem icommon_any (a : Option Addr) (n c : Nat) (t : Tb) (id r : Int) (hr : Hid (com t id = r)) (w : World) (hn : n ≤ 1048576) (hm : ∀ (i : Nat) (q : List Int), t[i]? = some q → q.length ≤ 140737488351232) (h : RwG w (.slice a n c) t) :
    Calls Tryz.prog 14 #[.slice a n c, .int .i64 id] w fun e w' => e = .returned (.int .i64 r) ∧ Below w.heap.size w w' := by
  obtain ⟨i0, hi, hz0, hz1, hz2⟩ := info_parts Tryz.infoInt
  have HZ2 := hide hz2
  have HR := hide h
  have HN := hide h.len.1
  have HM := hide hm
  clear h hm hz2
  go_enter Tryz.func14, Tryz.ntmps14
  go_wp2
  go_loopw [5, 10] (fun v i wr => ∃ (k : Nat) (b : Option Addr) (d : Nat), k ≤ n ∧ i = .int .i64 k ∧ v = .slice b k d ∧ OwN w.heap.size wr (.slice b k d) (col (t.take k) id.toNat) ∧ (t.take k).all (hasR id) = true ∧ Below w.heap.size w wr) (fun _ i _ => n - (intOf i).toNat)
  case atStart => exact ⟨0, none, 0, Nat.zero_le _, rfl, rfl, World.ownsRow_nil _ _ _ _, rfl, Below.refl _ _⟩
  case round =>
    obtain ⟨k, bk, d, hk, rfl, rfl, hown, hall, hbel⟩ := hrel
    have HO := hide hown
    have HA := hide hall
    have HB := hide hbel
    have hsz := hbel.size
    clear hown hall
    by_cases hlt : k < n
    · obtain ⟨q, ai, ni, ci, b, off, hq, rfl, hb, hcap, c0, rq, -⟩ := (unhide HR).at hlt
      have hni : ni ≤ 140737488351232 := by have := unhide HM k q hq; have := rq.len.1; omega
      obtain ⟨p, hp⟩ : ∃ p, Hid (inB id 0 ((ni : Int) - 1) = p) := ⟨_, hide rfl⟩
      have HP : Hid (hasR id q = p) := hide (by rw [hasR, ← rq.len.1, unhide hp])
      have d0 := (hbel.cell (p := ⟨b, off + k, none⟩) hb).trans c0
      have HQ := hide hq
      have HRQ := hide (rq.later hbel)
      have HNI := hide rq.len.1
      clear hq rq c0 hbel
      go_wp2_with fail
      refine (hasplace_any ai ni ci id p (unhide hp) _ hni).mono ?_
      rintro e _ ⟨rfl, rfl⟩
      cases p
      · obtain rfl : r = 0 := by rw [← unhide hr]; exact com_no (unhide HQ) (unhide HP)
        go_wp2
        go_ret
        exact ⟨rfl, unhide HB⟩
      obtain ⟨i, hid, hil⟩ := hasR_nat (unhide HP)
      subst hid
      have hii : i < ni := by have := unhide HNI; omega
      obtain ⟨z, b2, off2, hz, rfl, hb2, hc2, cz⟩ := (unhide HRQ).atN hii
      have HL : Hid (col (t.take (k + 1)) (i : Int).toNat = col (t.take k) (i : Int).toNat ++ [z]) := hide (by
        rw [col_take (unhide HQ), show (i : Int).toNat = i from by omega, nAt_in hz])
      have HS := hide (hasR_take (unhide HQ) (unhide HP) (unhide HA))
      have HK : Hid (k = (col (t.take k) (i : Int).toNat).length) := hide ((unhide HO).rw encN_len).len.1
      clear hil hz d0
      go_wp2_with (first | (at_builtin; refine wpList_app1 encN_len (by omega) oneN 3 70 i0 _ 8 Tryz.underlying70 hi hz0 hz1 (unhide HZ2) rfl (by omega) wr z rfl _ _ rfl w.heap.size _ _ k HK rfl (unhide HO) rfl (by omega) hsz ?_))
      intro a' c' w2 hO hG
      have HO2 := hide hO
      have HB2 := hide ((unhide HB).grown hG hsz (fun g hg => (World.ownsRow.lt (unhide HO) g hg).1))
      clear hO hG HO HB cz
      go_wp2
      go_roundw
      case rel => exact ⟨k + 1, _, _, by omega, by go_num, rfl, by rw [unhide HL]; exact unhide HO2, unhide HS, unhide HB2⟩
      case measure => simp [intOf]; omega
    · have hkn : k = n := by omega
      subst hkn
      have HE : Hid (r = lst (col t id.toNat)) := hide (by rw [← unhide hr, com_all (k := k) (by have := unhide HN; omega) (unhide HA)])
      have HC : Hid (OwN w.heap.size wr (.slice bk k d) (col t id.toNat)) := hide (by
        have h := unhide HO
        rwa [List.take_of_length_le (by have := unhide HN; omega)] at h)
      clear hbel HO
      by_cases hk0 : k = 0
      · have hd : ((k : Int) == 0) = true := by simp; omega
        obtain rfl : r = 0 := by
          have e : t = [] := List.eq_nil_of_length_eq_zero (by have := unhide HN; omega)
          rw [unhide HE, e]; rfl
        go_wp2
        go_ret
        exact ⟨rfl, unhide HB⟩
      · have hd : ((k : Int) == 0) = false := by simp; omega
        go_wp2_with fail
        refine (min_any bk k d _ _ (by omega) (by omega) ((unhide HC).rw encN_len)).mono ?_
        rintro e w2 ⟨rfl, b2⟩
        have HB2 := hide ((unhide HB).trans (b2.mono hsz))
        rw [← unhide HE]
        clear b2
        go_wp2
        go_ret
        exact ⟨rfl, unhide HB2⟩
end Go.Proofs.YtighiahppjekeaaGreatDoor
