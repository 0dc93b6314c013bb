/-
  Whether a table is right: the specification's, and the program's. No statement is proved here.
  What a row of marks tells, what all know, what is pruned: plain lists. No program here, no statement is proved here.
  The least number at a place of all rows: the specification's and the program's. No statement is proved here.
  What is added to a table is no less than what was there; what all know is no more than any knows; two lists of numbers that are the same. No statement is proved here.
-/
import Derived.Test.YtighiahppjekeaaGrM
import Derived.Test.YtighiahppjekeaaMkP
import Derived.Test.YtighiahppjekeaaTbP
import Derived.Test.YtighiahppjekeaaVcA
import Derived.Test.YtighiahppjekeaaNmA
import Derived.Test.YtighiahppjekeaaApp2
import Derived.Test.YtighiahppjekeaaOnce
namespace Go.Proofs.Ytighiahppjekeaa
open Go.RowKit

theorem okR_eq {r : List Int} {n : Nat} (h : n = r.length) : okR r = (((n : Int) == 5) && r.all fun x => inB x 0 1000) := by
  subst h
  unfold okR
  congr 1
  rw [Bool.eq_iff_iff]; simp; omega
set_option maxHeartbeats 4000000 in
set_option maxRecDepth 100000 in
theorem stableok_any (a : Option Addr) (n c : Nat) (t : Tb) (m : Int) (r : Bool) (hr : Hid (okT t m = r)) (w : World) (hn : n ≤ 140737488351232) (hm : ∀ (i : Nat) (q : List Int), t[i]? = some q → q.length ≤ 140737488351232) (h : RwG w (.slice a n c) t) :
    Calls Try.prog 16 #[.slice a n c, .int .i64 m] w fun e w' => e = .returned (.bool r) ∧ w = w' := by
  have HR := hide h
  have HN := hide h.len.1
  have HM := hide hm
  obtain ⟨b1, h1⟩ : ∃ b, Hid (inB m 1 5 = b) := ⟨_, hide rfl⟩
  have HE : Hid ((b1 && ((n : Int) == m) && okRs t) = r) := hide (by rw [← unhide hr, okT, unhide h1, ← unhide HN])
  clear h hr hm
  go_enter Try.func16, Try.ntmps16
  go_wp2_with fail
  refine (l1in_is m 1 5 b1 (unhide h1) _).mono ?_
  rintro e _ ⟨rfl, rfl⟩
  cases b1
  · obtain rfl : r = false := by rw [← unhide HE]; rfl
    go_wp2
    go_ret
    exact ⟨rfl, rfl⟩
  by_cases hmm : (n : Int) = m
  · subst hmm
    have HE2 : Hid (okRs t = r) := hide (by rw [← unhide HE]; simp)
    have hd : ((n : Int) != (n : Int)) = false := by simp
    clear HE h1
    go_wp2
    go_loop [5] (fun i => ∃ k : Nat, k ≤ n ∧ i = .int .i64 k ∧ okRsK t k = true) (fun i => n - (intOf i).toNat)
    case atStart => exact ⟨0, Nat.zero_le _, rfl, rfl⟩
    case round =>
      obtain ⟨k, hk, rfl, hok⟩ := hrel
      have HO := hide hok
      clear hok
      by_cases hlt : k < n
      · obtain ⟨q, ai, ni, ci, b, off, hq, rfl, hb, hcap, c0, rq, -⟩ := (unhide HR).at hlt
        have hni : ni ≤ 140737488351232 := by have := unhide HM k q hq; have := rq.len.1; omega
        have HQ := hide hq
        have HRQ := hide rq
        have HNI := hide rq.len.1
        obtain ⟨d5, hd5⟩ : ∃ d, ((ni : Int) != 5) = d := ⟨_, rfl⟩
        have HR5 : Hid (okR q = (!d5 && q.all fun x => inB x 0 1000)) := hide (by rw [okR_eq rq.len.1, ← hd5]; simp [bne])
        clear hq rq
        cases d5
        rotate_left
        · obtain rfl : r = false := by rw [← unhide HE2]; exact okRs_no (unhide HQ) (by rw [unhide HR5]; rfl)
          go_wp2
          go_ret
          exact ⟨rfl, rfl⟩
        · go_wp2
          go_loop [6] (fun j => ∃ i : Nat, i ≤ ni ∧ j = .int .i64 i ∧ okRK q i = true) (fun j => ni - (intOf j).toNat)
          case atStart => exact ⟨0, Nat.zero_le _, rfl, rfl⟩
          case round =>
            obtain ⟨i, hi, rfl, hoi⟩ := hrel
            have HOI := hide hoi
            clear hoi
            by_cases hli : i < ni
            · obtain ⟨z, b2, off2, hz, rfl, hb2, hc2, cz⟩ := (unhide HRQ).atN hli
              have HZ := hide hz
              clear hz
              obtain ⟨p, hp⟩ : ∃ p, Hid (inB z 0 1000 = p) := ⟨_, hide rfl⟩
              go_wp2_with fail
              refine (l1in_is z 0 1000 p (unhide hp) _).mono ?_
              rintro e _ ⟨rfl, rfl⟩
              cases p
              · obtain rfl : r = false := by rw [← unhide HE2]; exact okRs_no (unhide HQ) (okR_no (unhide HZ) (unhide hp))
                go_wp2
                go_ret
                exact ⟨rfl, rfl⟩
              · have HS := hide (show okRK q (i + 1) = true by rw [okRK_succ (unhide HZ), unhide HOI, unhide hp]; rfl)
                go_wp2
                go_round
                case rel => exact ⟨i + 1, by omega, by go_num, unhide HS⟩
                case measure => simp [intOf]; omega
            · have HS : Hid (okRsK t (k + 1) = true) := hide (by
                rw [okRsK_succ (unhide HQ), unhide HO, unhide HR5, ← okRK_all (k := i) (by have := unhide HNI; omega), unhide HOI]; rfl)
              go_wp2
              go_round
              case rel => exact ⟨k + 1, by omega, by go_num, unhide HS⟩
              case measure => simp [intOf]; omega
      · obtain rfl : r = true := by rw [← unhide HE2, ← okRsK_all (k := k) (by have := unhide HN; omega)]; exact unhide HO
        go_wp2
        go_ret
        exact ⟨rfl, rfl⟩
  · have hd : ((n : Int) != m) = true := by simpa using hmm
    obtain rfl : r = false := by
      rw [← unhide HE]
      have : ((n : Int) == m) = false := by simpa using hmm
      rw [this]; rfl
    clear HE h1
    go_wp2
    go_ret
    exact ⟨rfl, rfl⟩
set_option maxHeartbeats 1000000 in
theorem iincsok_any (a : Option Addr) (n c : Nat) (ns : List Int) (r : Bool) (hr : Hid ((ns.all fun x => inB x 0 1000) = r)) (w : World) (hn : n ≤ 140737488351232) (h : RwN w (.slice a n c) ns) :
    Calls Try.prog 77 #[.slice a n c] w fun e w' => e = .returned (.bool r) ∧ w = w' := by
  have HR := hide h
  have HN := hide h.len.1
  clear h
  go_enter Try.func77, Try.ntmps77
  go_wp2
  go_loop [7] (fun i => ∃ k : Nat, k ≤ n ∧ i = .int .i64 k ∧ okRK ns k = true) (fun i => n - (intOf i).toNat)
  case atStart => exact ⟨0, Nat.zero_le _, rfl, rfl⟩
  case round =>
    obtain ⟨k, hk, rfl, hok⟩ := hrel
    have HO := hide hok
    clear hok
    by_cases hlt : k < n
    · obtain ⟨z, b, off, hz, rfl, hb, hc, cz⟩ := (unhide HR).atN hlt
      have HZ := hide hz
      clear hz
      obtain ⟨q, hq⟩ : ∃ q, Hid (inB z 0 1000 = q) := ⟨_, hide rfl⟩
      go_wp2_with fail
      refine (within_is z 0 1000 q (unhide hq) _).mono ?_
      rintro e _ ⟨rfl, rfl⟩
      cases q
      · obtain rfl : r = false := by rw [← unhide hr]; exact all_no (p := fun x => inB x 0 1000) (unhide HZ) (unhide hq)
        go_wp2
        go_ret
        exact ⟨rfl, rfl⟩
      · have HS := hide (show okRK ns (k + 1) = true by rw [okRK_succ (unhide HZ), unhide HO, unhide hq]; rfl)
        go_wp2
        go_round
        case rel => exact ⟨k + 1, by omega, by go_num, unhide HS⟩
        case measure => simp [intOf]; omega
    · obtain rfl : r = true := by rw [← unhide hr, ← okRK_all (k := k) (by have := unhide HN; omega)]; exact unhide HO
      go_wp2
      go_ret
      exact ⟨rfl, rfl⟩
set_option maxHeartbeats 1000000 in
theorem irowsok_any (a : Option Addr) (n c : Nat) (t : Tb) (r : Bool) (hr : Hid (okRs t = r)) (w : World) (hn : n ≤ 140737488351232) (hm : ∀ (i : Nat) (q : List Int), t[i]? = some q → q.length ≤ 140737488351232) (h : RwG w (.slice a n c) t) :
    Calls Try.prog 46 #[.slice a n c] w fun e w' => e = .returned (.bool r) ∧ w = w' := by
  have HR := hide h
  have HN := hide h.len.1
  have HM := hide hm
  clear h hm
  go_enter Try.func46, Try.ntmps46
  go_wp2
  go_loop [7] (fun i => ∃ k : Nat, k ≤ n ∧ i = .int .i64 k ∧ okRsK t k = true) (fun i => n - (intOf i).toNat)
  case atStart => exact ⟨0, Nat.zero_le _, rfl, rfl⟩
  case round =>
    obtain ⟨k, hk, rfl, hok⟩ := hrel
    have HO := hide hok
    clear hok
    by_cases hlt : k < n
    · obtain ⟨q, ai, ni, ci, b, off, hq, rfl, hb, hcap, c0, rq, -⟩ := (unhide HR).at hlt
      have hni : ni ≤ 140737488351232 := by have := unhide HM k q hq; have := rq.len.1; omega
      have HQ := hide hq
      have HRQ := hide rq
      obtain ⟨d5, hd5⟩ : ∃ d, ((ni : Int) != 5) = d := ⟨_, rfl⟩
      obtain ⟨p, hp⟩ : ∃ p, Hid ((q.all fun x => inB x 0 1000) = p) := ⟨_, hide rfl⟩
      have HR5 : Hid (okR q = (!d5 && p)) := hide (by rw [okR_eq rq.len.1, unhide hp, ← hd5]; simp [bne])
      clear hq rq
      cases d5
      rotate_left
      · obtain rfl : r = false := by rw [← unhide hr]; exact okRs_no (unhide HQ) (by rw [unhide HR5]; rfl)
        go_wp2
        go_ret
        exact ⟨rfl, rfl⟩
      · go_wp2_with fail
        refine (iincsok_any ai ni ci q p hp _ hni (unhide HRQ)).mono ?_
        rintro e _ ⟨rfl, rfl⟩
        cases p
        · obtain rfl : r = false := by rw [← unhide hr]; exact okRs_no (unhide HQ) (by rw [unhide HR5]; rfl)
          go_wp2
          go_ret
          exact ⟨rfl, rfl⟩
        · have HS : Hid (okRsK t (k + 1) = true) := hide (by rw [okRsK_succ (unhide HQ), unhide HO, unhide HR5]; rfl)
          go_wp2
          go_round
          case rel => exact ⟨k + 1, by omega, by go_num, unhide HS⟩
          case measure => simp [intOf]; omega
    · obtain rfl : r = true := by rw [← unhide hr, ← okRsK_all (k := k) (by have := unhide HN; omega)]; exact unhide HO
      go_wp2
      go_ret
      exact ⟨rfl, rfl⟩
set_option maxHeartbeats 1000000 in
theorem itableok_any (a : Option Addr) (n c : Nat) (t : Tb) (m : Int) (r : Bool) (hr : Hid (okT t m = r)) (w : World) (hn : n ≤ 140737488351232) (hm : ∀ (i : Nat) (q : List Int), t[i]? = some q → q.length ≤ 140737488351232) (h : RwG w (.slice a n c) t) :
    Calls Try.prog 15 #[.slice a n c, .int .i64 m] w fun e w' => e = .returned (.bool r) ∧ w = w' := by
  have HR := hide h
  have HM := hide hm
  obtain ⟨b1, h1⟩ : ∃ b, Hid (inB m 1 5 = b) := ⟨_, hide rfl⟩
  obtain ⟨b2, h2⟩ : ∃ b, ((n : Int) == m) = b := ⟨_, rfl⟩
  have HE : Hid ((b1 && b2 && okRs t) = r) := hide (by rw [← unhide hr, okT, unhide h1, ← h.len.1, h2])
  clear h hr hm
  go_enter Try.func15, Try.ntmps15
  go_wp2_with fail
  refine (within_is m 1 5 b1 (unhide h1) _).mono ?_
  rintro e _ ⟨rfl, rfl⟩
  cases b1
  · obtain rfl : r = false := by rw [← unhide HE]; rfl
    go_wp2
    go_ret
    exact ⟨rfl, rfl⟩
  cases b2
  · obtain rfl : r = false := by rw [← unhide HE]; rfl
    go_wp2
    go_ret
    exact ⟨rfl, rfl⟩
  · go_wp2_with fail
    refine (irowsok_any a n c t r (hide (by rw [← unhide HE]; rfl)) _ hn (unhide HM) (unhide HR)).mono ?_
    rintro e _ ⟨rfl, rfl⟩
    go_wp2
    go_ret
    exact ⟨rfl, rfl⟩
end Go.Proofs.Ytighiahppjekeaa

namespace Go.Proofs.Ytighiahppjekeaa
open Go.RowKit

/-- The greatest of what is there and each mark of that node. -/
def top (ms : List Flr) (i : Int) (z : Int) : Int := ms.foldl (fun z m => if m.1 = i then max z m.2 else z) z
theorem nAt_set {r : List Int} {k i : Nat} {z : Int} : nAt (r.set k z) i = if k = i ∧ k < r.length then z else nAt r i := by
  unfold nAt
  rw [List.getD_eq_getElem?_getD, List.getD_eq_getElem?_getD, List.getElem?_set]
  by_cases h : k = i
  · subst h
    by_cases hk : k < r.length
    · rw [if_pos rfl, if_pos hk, if_pos ⟨rfl, hk⟩]; rfl
    · rw [if_pos rfl, if_neg hk, if_neg (by omega), List.getElem?_eq_none (by omega)]
  · rw [if_neg h, if_neg (by omega)]
theorem nAt_putMs : ∀ (ms : List Flr) (r : List Int) (i : Nat), (∀ m ∈ ms, 0 ≤ m.1 ∧ m.1 < r.length) → nAt (putMs r ms) i = top ms i (nAt r i)
  | [], r, i, _ => rfl
  | m :: ms, r, i, h => by
    show nAt (putMs (putM r m) ms) i = _
    obtain ⟨h0, h1⟩ := h m (by simp)
    rw [nAt_putMs ms (putM r m) i (fun q hq => by rw [putM_len]; exact h q (by simp [hq]))]
    unfold top
    rw [List.foldl_cons]
    congr 1
    unfold putM
    rw [nAt_set]
    by_cases e : m.1 = (i : Int)
    · rw [if_pos e, if_pos (by omega), show m.1.toNat = i by omega]
    · rw [if_neg e, if_neg (by omega)]
theorem top_mkK (f : Int → Int) (i : Int) (z : Int) : ∀ n : Nat, top (mkK f n) i z = if 0 ≤ i ∧ i < n ∧ 0 < f i then max z (f i) else z
  | 0 => by rw [if_neg (by omega)]; rfl
  | n + 1 => by
    have ih := top_mkK f i z n
    unfold top at ih ⊢
    rw [mkK, List.foldl_append, ih]
    unfold mk1
    by_cases hn : 0 < f (n : Int)
    · rw [if_pos hn]
      simp only [List.foldl_cons, List.foldl_nil]
      by_cases e : (n : Int) = i
      · subst e
        rw [if_pos rfl, if_neg (by omega), if_pos (by omega)]
      · rw [if_neg e]
        by_cases h : 0 ≤ i ∧ i < n ∧ 0 < f i
        · rw [if_pos h, if_pos (by omega)]
        · rw [if_neg h, if_neg (by omega)]
    · rw [if_neg hn]
      simp only [List.foldl_nil]
      by_cases e : (n : Int) = i
      · subst e
        rw [if_neg (by omega), if_neg (by omega)]
      · by_cases h : 0 ≤ i ∧ i < n ∧ 0 < f i
        · rw [if_pos h, if_pos (by omega)]
        · rw [if_neg h, if_neg (by omega)]
/-- A row of five numbers into which marks of numbers from 0 on are put. -/
theorem row_mks {r : List Int} (hl : r.length = 5) (h0 : ∀ i, 0 ≤ nAt r i) (f : Int → Int) (hf : ∀ id, 0 ≤ f id) {i : Nat} (hi : i < 5) : nAt (putMs r (mkK f 5)) i = max (nAt r i) (f i) := by
  rw [nAt_putMs _ _ _ (fun m hm => by have := mem_mkK.1 hm; omega), top_mkK]
  have := hf i
  have := h0 i
  split <;> omega
theorem nul_at (i : Nat) : nAt nulR i = 0 := by
  unfold nAt nulR
  rw [List.getD_eq_getElem?_getD, List.getElem?_replicate]
  split <;> rfl
theorem nAt_nn {r : List Int} (h : ∀ i, i < r.length → 0 ≤ nAt r i) (i : Nat) : 0 ≤ nAt r i := by
  by_cases hi : i < r.length
  · exact h i hi
  · rw [nAt_out (by omega)]; omega
/-- Marks are put into one row of a table whose rows have five numbers. -/
theorem addT_row {t : Tb} {k : Nat} {r : List Int} {ms : List Flr} (hr : t[k]? = some r) (hl : 5 ≤ r.length) (hm : gF (-1) ms = true) : addT t (k : Int) ms = t.set k (putMs r ms) := by
  have hk := (List.getElem?_eq_some_iff.1 hr).1
  unfold addT
  rw [if_pos, rowT_in hr]
  · simp
  · rw [addOk, rowT_in hr, hm]
    simp [inB, hl]; omega
theorem com_one {r : List Int} {i : Nat} (hi : i < r.length) : com [r] (i : Int) = nAt r i := by
  unfold com
  rw [if_pos (by simp [hasR, inB]; omega)]
  simp [col, lst]
theorem com_two {r q : List Int} {i : Nat} (hi : i < r.length) (hj : i < q.length) : com [r, q] (i : Int) = min (nAt r i) (nAt q i) := by
  unfold com
  rw [if_pos (by simp [hasR, inB]; omega)]
  simp [col, lst]

/-- The floors that are pruned, and what comes of it. -/
def pf (xs : List Itm) (fs : List Flr) (t : Tb) : List Flr := mkK (fun id => min (com t id) (gone xs fs id)) 5
def prI (xs : List Itm) (fs : List Flr) (t : Tb) : List Itm := if okS xs fs = true then joinI xs fs [] (pf xs fs t) else xs
def prF (xs : List Itm) (fs : List Flr) (t : Tb) : List Flr := if okS xs fs = true then joinF fs (pf xs fs t) else fs
theorem okF_of {f : Int → Int} (h : ∀ id, f id ≤ 1000) : OkS [] (mkK f 5) :=
  ⟨.nil, mkK_pair f 5, fun _ h => by simp at h, fun x hx => by
    have := mem_mkK.1 hx
    have := h x.1
    omega⟩
theorem pf_ok (xs : List Itm) (fs : List Flr) (t : Tb) : OkS [] (pf xs fs t) := okF_of (fun id => by have := gone_le xs fs id; omega)
theorem pf_len (xs : List Itm) (fs : List Flr) (t : Tb) : (pf xs fs t).length ≤ 5 := mkK_len _ 5
theorem pf_flo (xs : List Itm) (fs : List Flr) (t : Tb) (id : Int) : flo (pf xs fs t) id = if 0 ≤ id ∧ id < 5 ∧ 0 < min (com t id) (gone xs fs id) then min (com t id) (gone xs fs id) else 0 := mkK_flo _ 5 id
section
variable {xs : List Itm} {fs : List Flr}
/-- Floors that are no more than what is over turn nothing that is over. -/
theorem OkS.under (hx : OkS xs fs) {gs : List Flr} (hg : OkS [] gs) (h : ∀ id, flo gs id ≤ gone xs fs id) (id : Int) : gone (joinI xs fs [] gs) (joinF fs gs) id = gone xs fs id := by
  have hj := hx.join hg
  have hfl := (hx.fl2_nn hg id).2.2
  have hh := h id
  have hff := hx.flo_nn id
  have hgg := hg.flo_nn id
  rw [gone_ok hx] at hh
  rw [gone_ok hx, gone_ok hj, join_flo hx hg, join_ent' hx hg, ent_nil, jE_none]
  cases he : ent xs id with
  | none =>
    rw [he] at hh
    simp only [keep] at hh ⊢
    omega
  | some e =>
    rw [he] at hh
    have hi := hx.ent_in he
    have hr := okE_rank hi.2.2.1
    simp only [keep] at hh ⊢
    by_cases hz : e.2.1 = 0
    · rw [if_pos hz] at hh ⊢
      rw [if_pos (by omega)]
      simp only [hz, if_true]
    · rw [if_neg hz] at hh ⊢
      by_cases hlt : fl2 fs gs id < e.1
      · rw [if_pos hlt]
        simp only [if_neg hz]
      · rw [if_neg hlt]
        simp only
        omega
/-- .. and nothing that is seen. -/
theorem OkS.under_up (hx : OkS xs fs) {gs : List Flr} (hg : OkS [] gs) (h : ∀ id, flo gs id ≤ gone xs fs id) : upI (joinI xs fs [] gs) = upI xs := by
  have hj := hx.join hg
  refine list_of_mem (hj.px.sublist List.filter_sublist) (hx.px.sublist List.filter_sublist) (fun x => ?_)
  unfold upI
  rw [List.mem_filter, List.mem_filter, show x = (x.1, x.2) from rfl, ← ent_iff hj.px, ← ent_iff hx.px, join_ent' hx hg, ent_nil, jE_none]
  have hfl := (hx.fl2_nn hg x.1).2.2
  have hh := h x.1
  constructor
  · rintro ⟨h1, h2⟩
    refine ⟨?_, h2⟩
    cases he : ent xs x.1 with
    | none => rw [he] at h1; cases h1
    | some e =>
      rw [he] at h1
      simp only [keep] at h1
      split at h1
      · exact h1
      · cases h1
  · rintro ⟨h1, h2⟩
    refine ⟨?_, h2⟩
    have hi := hx.ent_in h1
    rw [h1]
    simp only [keep]
    rw [if_pos]
    rw [gone_ok hx, h1] at hh
    simp only [beq_iff_eq] at h2
    simp only [h2, if_true] at hh
    omega
end
theorem pf_under (xs : List Itm) (fs : List Flr) (t : Tb) (id : Int) : flo (pf xs fs t) id ≤ gone xs fs id := by
  rw [pf_flo]
  have := gone_le xs fs id
  split <;> omega
end Go.Proofs.Ytighiahppjekeaa

namespace Go.Proofs.Ytighiahppjekeaa
open Go.RowKit

theorem hasR_nat {id : Int} {r : List Int} (h : hasR id r = true) : ∃ i : Nat, id = (i : Int) ∧ i < r.length := by
  simp [hasR, inB] at h
  exact ⟨id.toNat, by omega, by omega⟩
theorem com_all {t : Tb} {id : Int} {k : Nat} (hk : t.length ≤ k) (h : (t.take k).all (hasR id) = true) : com t id = lst (col t id.toNat) := by
  rw [List.take_of_length_le hk] at h
  unfold com; rw [if_pos h]
theorem col_nil {t : Tb} {k : Nat} : col t k = [] ↔ t = [] := by simp [col]
theorem lst_next {t : Tb} {i k : Nat} {r : List Int} {z : Int} (h : t[i]? = some r) (hz : nAt r k = z) : lst (col (t.take (i + 1)) k) = if i = 0 then z else min (lst (col (t.take i) k)) z := by
  rw [col_take h, hz]
  split
  · rename_i e
    subst e
    simp [col, lst_one]
  · rename_i e
    refine lst_snoc (fun q => e ?_) z
    have hl := (List.getElem?_eq_some_iff.1 h).1
    have h3 := congrArg List.length (col_nil.1 q)
    simp only [List.length_take, List.length_nil] at h3
    omega
set_option maxHeartbeats 4000000 in
set_option maxRecDepth 100000 in
theorem min_any (a : Option Addr) (n c : Nat) (ns : List Int) (w : World) (hn : n ≤ 140737488351232) (h0 : 0 < n) (h : RwN w (.slice a n c) ns) :
    Calls Try.prog 45 #[.slice a n c] w fun e w' => e = .returned (.int .i64 (lst ns)) ∧ Below w.heap.size w w' := by
  have HR := hide h
  have HN := hide h.len.1
  have hd : decide ((n : Int) < 1) = false := by simp; omega
  clear h
  obtain ⟨z, b, off, hz, rfl, hb, hc, cz⟩ := (unhide HR).atN (i := 0) h0
  have HZ : Hid (lst (ns.take 1) = z) := hide (by
    cases ns with
    | nil => simp at hz
    | cons y r => simp at hz; subst hz; rfl)
  clear hz
  rw [Nat.add_zero] at cz
  go_enter Try.func45, Try.ntmps45
  go_wp2
  go_loop [3, 4] (fun l i => ∃ k : Nat, 1 ≤ k ∧ k ≤ n ∧ i = .int .i64 k ∧ l = .int .i64 (lst (ns.take k))) (fun _ i => n - (intOf i).toNat)
  case atStart => exact ⟨1, by omega, by omega, rfl, by rw [unhide HZ]⟩
  case round =>
    obtain ⟨k, hk1, hk, rfl, rfl⟩ := hrel
    by_cases hlt : k < n
    · obtain ⟨y, b', off', hy, hab, hb', hc', cy⟩ := (unhide HR).atN hlt
      simp only [Option.some.injEq, Addr.mk.injEq] at hab
      obtain ⟨rfl, rfl, -⟩ := hab
      have HL : Hid (lst (ns.take (k + 1)) = min (lst (ns.take k)) y) := hide (by
        rw [List.take_add_one, hy]
        refine lst_snoc (fun q => ?_) y
        have h3 := congrArg List.length q
        have := (List.getElem?_eq_some_iff.1 hy).1
        simp only [List.length_take, List.length_nil] at h3
        omega)
      generalize lst (ns.take k) = l at HL ⊢
      obtain ⟨d, hdd⟩ : ∃ d, decide (y < l) = d := ⟨_, rfl⟩
      have HL3 : Hid (lst (ns.take (k + 1)) = if d then y else l) := hide (by
        rw [unhide HL, ← hdd]
        by_cases h : y < l
        · simp [h]; omega
        · simp [h]; omega)
      clear HL hy cz
      cases d
      · have hyl : ¬ y < l := by simpa using hdd
        have hmn : min l y = l := by omega
        go_wp2
        go_round
        case rel => exact ⟨k + 1, by omega, by omega, by go_num, by rw [unhide HL3]; simp <;> omega⟩
        case measure => simp [intOf]; omega
      · have hyl : y < l := by simpa using hdd
        have hmn : min l y = y := by omega
        go_wp2
        go_round
        case rel => exact ⟨k + 1, by omega, by omega, by go_num, by rw [unhide HL3]; simp <;> omega⟩
        case measure => simp [intOf]; omega
    · have HE : Hid (lst (ns.take k) = lst ns) := hide (by rw [List.take_of_length_le (by have := unhide HN; omega)])
      go_wp2
      go_ret
      exact ⟨ret_int (unhide HE), Below.refl _ _⟩
set_option maxHeartbeats 4000000 in
set_option maxRecDepth 100000 in
theorem icommon_any (a : Option Addr) (n c : Nat) (t : Tb) (id r : Int) (hr : Hid (com t id = r)) (w : World) (hn : n ≤ 1048576) (hm : ∀ (i : Nat) (q : List Int), t[i]? = some q → q.length ≤ 140737488351232) (h : RwG w (.slice a n c) t) :
    Calls Try.prog 12 #[.slice a n c, .int .i64 id] w fun e w' => e = .returned (.int .i64 r) ∧ Below w.heap.size w w' := by
  obtain ⟨i0, hi, hz0, hz1, hz2⟩ := info_parts Try.infoInt
  have HZ2 := hide hz2
  have HR := hide h
  have HN := hide h.len.1
  have HM := hide hm
  clear h hm hz2
  go_enter Try.func12, Try.ntmps12
  go_wp2
  go_loopw [5, 10] (fun v i wr => ∃ (k : Nat) (b : Option Addr) (d : Nat), k ≤ n ∧ i = .int .i64 k ∧ v = .slice b k d ∧ OwN w.heap.size wr (.slice b k d) (col (t.take k) id.toNat) ∧ (t.take k).all (hasR id) = true ∧ Below w.heap.size w wr) (fun _ i _ => n - (intOf i).toNat)
  case atStart => exact ⟨0, none, 0, Nat.zero_le _, rfl, rfl, World.ownsRow_nil _ _ _ _, rfl, Below.refl _ _⟩
  case round =>
    obtain ⟨k, bk, d, hk, rfl, rfl, hown, hall, hbel⟩ := hrel
    have HO := hide hown
    have HA := hide hall
    have HB := hide hbel
    have hsz := hbel.size
    clear hown hall
    by_cases hlt : k < n
    · obtain ⟨q, ai, ni, ci, b, off, hq, rfl, hb, hcap, c0, rq, -⟩ := (unhide HR).at hlt
      have hni : ni ≤ 140737488351232 := by have := unhide HM k q hq; have := rq.len.1; omega
      obtain ⟨p, hp⟩ : ∃ p, Hid (inB id 0 ((ni : Int) - 1) = p) := ⟨_, hide rfl⟩
      have HP : Hid (hasR id q = p) := hide (by rw [hasR, ← rq.len.1, unhide hp])
      have d0 := (hbel.cell (p := ⟨b, off + k, none⟩) hb).trans c0
      have HQ := hide hq
      have HRQ := hide (rq.later hbel)
      have HNI := hide rq.len.1
      clear hq rq c0 hbel
      go_wp2_with fail
      refine (hasplace_any ai ni ci id p (unhide hp) _ hni).mono ?_
      rintro e _ ⟨rfl, rfl⟩
      cases p
      · obtain rfl : r = 0 := by rw [← unhide hr]; exact com_no (unhide HQ) (unhide HP)
        go_wp2
        go_ret
        exact ⟨rfl, unhide HB⟩
      obtain ⟨i, hid, hil⟩ := hasR_nat (unhide HP)
      subst hid
      have hii : i < ni := by have := unhide HNI; omega
      obtain ⟨z, b2, off2, hz, rfl, hb2, hc2, cz⟩ := (unhide HRQ).atN hii
      have HL : Hid (col (t.take (k + 1)) (i : Int).toNat = col (t.take k) (i : Int).toNat ++ [z]) := hide (by
        rw [col_take (unhide HQ), show (i : Int).toNat = i from by omega, nAt_in hz])
      have HS := hide (hasR_take (unhide HQ) (unhide HP) (unhide HA))
      have HK : Hid (k = (col (t.take k) (i : Int).toNat).length) := hide ((unhide HO).rw encN_len).len.1
      clear hil hz d0
      go_wp2_with (first | (at_builtin; refine wpList_app1 encN_len (by omega) oneN 3 30 i0 _ 8 Try.underlying30 hi hz0 hz1 (unhide HZ2) rfl (by omega) wr z rfl _ _ rfl w.heap.size _ _ k HK rfl (unhide HO) rfl (by omega) hsz ?_))
      intro a' c' w2 hO hG
      have HO2 := hide hO
      have HB2 := hide ((unhide HB).grown hG hsz (fun g hg => (World.ownsRow.lt (unhide HO) g hg).1))
      clear hO hG HO HB cz
      go_wp2
      go_roundw
      case rel => exact ⟨k + 1, _, _, by omega, by go_num, rfl, by rw [unhide HL]; exact unhide HO2, unhide HS, unhide HB2⟩
      case measure => simp [intOf]; omega
    · have hkn : k = n := by omega
      subst hkn
      have HE : Hid (r = lst (col t id.toNat)) := hide (by rw [← unhide hr, com_all (k := k) (by have := unhide HN; omega) (unhide HA)])
      have HC : Hid (OwN w.heap.size wr (.slice bk k d) (col t id.toNat)) := hide (by
        have h := unhide HO
        rwa [List.take_of_length_le (by have := unhide HN; omega)] at h)
      clear hbel HO
      by_cases hk0 : k = 0
      · have hd : ((k : Int) == 0) = true := by simp; omega
        obtain rfl : r = 0 := by
          have e : t = [] := List.eq_nil_of_length_eq_zero (by have := unhide HN; omega)
          rw [unhide HE, e]; rfl
        go_wp2
        go_ret
        exact ⟨rfl, unhide HB⟩
      · have hd : ((k : Int) == 0) = false := by simp; omega
        go_wp2_with fail
        refine (min_any bk k d _ _ (by omega) (by omega) ((unhide HC).rw encN_len)).mono ?_
        rintro e w2 ⟨rfl, b2⟩
        have HB2 := hide ((unhide HB).trans (b2.mono hsz))
        rw [← unhide HE]
        clear b2
        go_wp2
        go_ret
        exact ⟨rfl, unhide HB2⟩
end Go.Proofs.Ytighiahppjekeaa

namespace Go.Proofs.Ytighiahppjekeaa
open Go.RowKit

theorem putM_ge (r : List Int) (m : Flr) (x : Nat) : nAt r x ≤ nAt (putM r m) x := by
  unfold putM
  rw [nAt_set]
  split
  · rename_i h
    rw [h.1]
    omega
  · omega
theorem putMs_ge : ∀ (ms : List Flr) (r : List Int) (x : Nat), nAt r x ≤ nAt (putMs r ms) x
  | [], _, _ => Int.le_refl _
  | m :: ms, r, x => Int.le_trans (putM_ge r m x) (putMs_ge ms (putM r m) x)
theorem addT_ge {t : Tb} {k : Int} {ms : List Flr} {i : Nat} {r s : List Int} (hr : t[i]? = some r) (hs : (addT t k ms)[i]? = some s) : s.length = r.length ∧ ∀ x, nAt r x ≤ nAt s x := by
  unfold addT at hs
  split at hs
  · rename_i q
    rw [List.getElem?_set] at hs
    split at hs
    · rename_i e
      split at hs
      · simp only [Option.some.injEq] at hs
        have e2 : rowT t k = r := by unfold rowT; rw [List.getD_eq_getElem?_getD, e, hr]; rfl
        rw [e2] at hs
        rw [← hs]
        exact ⟨putMs_len _ _, putMs_ge _ _⟩
      · simp at hs
    · rw [hr] at hs
      cases hs
      exact ⟨rfl, fun x => Int.le_refl _⟩
  · rw [hr] at hs
    cases hs
    exact ⟨rfl, fun x => Int.le_refl _⟩
theorem com_le {t : Tb} {i x : Nat} {r : List Int} (hr : t[i]? = some r) (h0 : 0 ≤ nAt r x) : com t (x : Int) ≤ nAt r x := by
  unfold com
  split
  · exact lst_le (List.mem_map.2 ⟨r, List.mem_of_getElem? hr, by simp⟩)
  · exact h0
theorem okT_new (n : Int) : okT (newT n) n = inB n 1 5 := by
  unfold okT newT
  cases h : inB n 1 5
  · rfl
  · have h2 := h
    simp only [inB, Bool.and_eq_true, decide_eq_true_eq] at h2
    have e : ((n.toNat : Int) == n) = true := by simp; omega
    have e2 : okRs (List.replicate n.toNat nulR) = true := by
      unfold okRs
      rw [List.all_eq_true]
      intro r hr
      rw [List.eq_of_mem_replicate hr]
      decide
    simp only [if_true, List.length_replicate, e, e2, Bool.and_true]
set_option maxHeartbeats 1000000 in
theorem sameints_any (a : Option Addr) (n c : Nat) (b : Option Addr) (d : Nat) (ns : List Int) (w : World) (hn : n ≤ 140737488351232) (h : RwN w (.slice a n c) ns) (h2 : RwN w (.slice b n d) ns) :
    Calls Try.prog 11 #[.slice a n c, .slice b n d] w fun e w' => e = .returned (.bool true) ∧ Below w.heap.size w w' := by
  have HR := hide h
  have HS := hide h2
  clear h h2
  have hd : ((n : Int) != (n : Int)) = false := by simp
  go_enter Try.func11, Try.ntmps11
  go_wp2
  go_loopw [5] (fun i wr => ∃ k : Nat, k ≤ n ∧ i = .int .i64 k ∧ Below w.heap.size w wr) (fun i _ => n - (intOf i).toNat)
  case atStart => exact ⟨0, Nat.zero_le _, rfl, Below.refl _ _⟩
  case round =>
    obtain ⟨k, hk, rfl, hb⟩ := hrel
    by_cases hlt : k < n
    · obtain ⟨x, xb, xo, hx, rfl, hxb, hxc, cx⟩ := ((unhide HR).later hb).atN hlt
      obtain ⟨y, yb, yo, hy, rfl, hyb, hyc, cy⟩ := ((unhide HS).later hb).atN hlt
      obtain rfl : x = y := by rw [hx] at hy; exact Option.some.inj hy
      have hd2 : (x != x) = false := by simp
      have HB := hide hb
      clear hx hy hb
      go_wp2
      go_quiet (fail)
      go_wp2
      go_roundw
      case rel => exact ⟨k + 1, by omega, by go_num, below_drewN (unhide HB) _⟩
      case measure => simp [intOf]; omega
    · go_wp2
      go_ret
      exact ⟨rfl, hb⟩
end Go.Proofs.Ytighiahppjekeaa
