/-
  Whether a log is right, and the number of its last change: the program's and the specification's. No statement is proved here.
-/
import Derived.Test.YtdpaocikmijioacLgB
import Derived.Test.YtdpaocikmijioacSStOk
import Derived.Test.YtdpaocikmijioacIStOk
namespace Go.Proofs.Ytdpaocikmijioac
open Go.RowKit

set_option maxHeartbeats 2000000 in
theorem ichangesok_any (a : Option Addr) (n cap : Nat) (ss : List Sta) (ok : Bool) (h0 : Hid (okL ss = ok)) (w : World) (hn : n ≤ 140737488351232) (ht : tot ss ≤ 140737488351232) (hx : RwS w (.slice a n cap) ss) :
    Calls Try.prog 51 #[.slice a n cap] w fun e w' => e = .returned (.bool ok) ∧ Below w.heap.size w w' := by
  have HX := hide hx
  have HL := hide hx.len.1
  clear hx
  go_enter Try.func51, Try.ntmps51
  go_wp2
  go_loopw [7] (fun i wr => ∃ k : Nat, k ≤ n ∧ i = .int .i64 k ∧ okL (ss.take k) = true ∧ Below w.heap.size w wr) (fun i _ => n - (intOf i).toNat)
  case atStart => exact ⟨0, Nat.zero_le _, rfl, rfl, Below.refl _ _⟩
  case round =>
    obtain ⟨k, hk, rfl, hok, hbel⟩ := hrel
    have HB := hide hbel
    have HK := hide hok
    have hsz := hbel.size
    clear hok
    by_cases hlt : k < n
    · obtain ⟨xs, fs, ai, ni, ci, af, nf, cf, b, off, hx, rfl, hb, hcap, c0, c1, rx, rf⟩ := (unhide HX).at hlt
      have d0 := (hbel.cell (p := ⟨b, off + k * 2, none⟩) hb).trans c0
      have d1 := (hbel.cell (p := ⟨b, off + k * 2 + 1, none⟩) hb).trans c1
      have hT := tot_at hx
      have hn1 : ni ≤ 140737488351232 := by have := rx.len.1; simp only at hT; omega
      have hn2 : nf ≤ 140737488351232 := by have := rf.len.1; simp only at hT; omega
      have HX1 := hide hx
      have RX := hide ((rx.later hbel).alloc (.cells #[.slice ai ni ci, .slice af nf cf] 30))
      have RF := hide ((rf.later hbel).alloc (.cells #[.slice ai ni ci, .slice af nf cf] 30))
      obtain ⟨q, hq⟩ : ∃ q, okS xs fs = q := ⟨_, rfl⟩
      have HQ := hide hq
      clear c0 c1 hx hbel rx rf hT hq
      go_wp2_with fail
      refine (istateok_any ai ni ci xs af nf cf fs q HQ _ hn1 hn2 (unhide RX) (unhide RF)).mono ?_
      rintro e w1 ⟨rfl, b1⟩
      have HB1 := hide ((unhide HB).trans (((Below.refl wr.heap.size wr).alloc (Nat.le_refl _) _).trans (b1.mono (by simp)) |>.mono hsz))
      clear b1 d0 d1 RX RF HB
      cases q
      · obtain rfl : ok = false := by rw [← unhide h0]; exact okL_no (unhide HX1) (unhide HQ)
        go_wp2
        go_ret
        exact ⟨rfl, unhide HB1⟩
      · have HN := hide (okL_next (unhide HX1) (unhide HQ) (unhide HK))
        go_wp2
        go_roundw
        case rel => exact ⟨k + 1, by omega, by go_num, unhide HN, unhide HB1⟩
        case measure => simp [intOf]; omega
    · obtain rfl : ok = true := by
        rw [← unhide h0]
        have h := unhide HK
        rw [List.take_of_length_le (by have := unhide HL; omega)] at h
        exact h
      clear hbel
      go_wp2
      go_ret
      exact ⟨rfl, unhide HB⟩

set_option maxHeartbeats 2000000 in
theorem ilogok_any (c f : Int) (a : Option Addr) (n cap : Nat) (ss : List Sta) (ok : Bool) (h0 : Hid (lok c f ss = ok)) (w : World) (hn : n ≤ 140737488351232) (ht : tot ss ≤ 140737488351232) (hx : RwS w (.slice a n cap) ss) :
    Calls Try.prog 16 #[LgV c f (.slice a n cap)] w fun e w' => e = .returned (.bool ok) ∧ Below w.heap.size w w' := by
  have HX := hide (hx.alloc (LgO c f (.slice a n cap)))
  have hE := unhide h0
  rw [lok, ← hx.len.1, lokN] at hE
  obtain ⟨b1, h1⟩ : ∃ b, inB c 1 8 = b := ⟨_, rfl⟩
  obtain ⟨b2, d2⟩ : ∃ b, decide ((n : Int) ≤ c) = b := ⟨_, rfl⟩
  obtain ⟨b3, h3⟩ : ∃ b, inB f 0 100000 = b := ⟨_, rfl⟩
  obtain ⟨b4, d4⟩ : ∃ b, decide (f + (n : Int) ≤ 100000) = b := ⟨_, rfl⟩
  obtain ⟨b5, h5⟩ : ∃ b, okL ss = b := ⟨_, rfl⟩
  rw [h1, d2, h3, d4, h5] at hE
  have H1 := hide h1
  have H3 := hide h3
  have H5 := hide h5
  have HB := hide ((Below.refl w.heap.size w).alloc (Nat.le_refl _) (LgO c f (.slice a n cap)))
  clear hx h0 h1 h3 h5
  go_enter Try.func16, Try.ntmps16
  go_wp2_with fail
  refine (within_is c 1 8 b1 (unhide H1) _).mono ?_
  rintro e w1 ⟨rfl, rfl⟩
  cases b1
  · obtain rfl : ok = false := by rw [← hE]; rfl
    go_wp2
    go_ret
    exact ⟨rfl, unhide HB⟩
  cases b2
  · obtain rfl : ok = false := by rw [← hE]; rfl
    go_wp2
    go_ret
    exact ⟨rfl, unhide HB⟩
  go_wp2_with fail
  refine (within_is f 0 100000 b3 (unhide H3) _).mono ?_
  rintro e w1 ⟨rfl, rfl⟩
  cases b3
  · obtain rfl : ok = false := by rw [← hE]; rfl
    go_wp2
    go_ret
    exact ⟨rfl, unhide HB⟩
  obtain ⟨f1, f2⟩ : 0 ≤ f ∧ f ≤ 100000 := by have := unhide H3; simpa [inB] using this
  cases b4
  · obtain rfl : ok = false := by rw [← hE]; rfl
    go_wp2
    go_ret
    exact ⟨rfl, unhide HB⟩
  obtain rfl : b5 = ok := by rw [← hE]; rfl
  clear hE
  go_wp2_with fail
  refine (ichangesok_any a n cap ss b5 H5 _ hn ht (unhide HX)).mono ?_
  rintro e w1 ⟨rfl, q1⟩
  have HB1 := hide ((unhide HB).trans (q1.mono (by simp)))
  clear q1
  cases b5
  all_goals go_wp2
  all_goals go_ret
  all_goals exact ⟨rfl, unhide HB1⟩

set_option maxHeartbeats 4000000 in
theorem slogok_any (c f : Int) (a : Option Addr) (n cap : Nat) (ss : List Sta) (ok : Bool) (h0 : Hid (lok c f ss = ok)) (w : World) (hn : n ≤ 140737488351232) (ht : tot ss ≤ 140737488351232) (hx : RwS w (.slice a n cap) ss) :
    Calls Try.prog 45 #[LgV c f (.slice a n cap)] w fun e w' => e = .returned (.bool ok) ∧ Below w.heap.size w w' := by
  have HX := hide hx
  have HL := hide hx.len.1
  have hE := unhide h0
  rw [lok, ← hx.len.1, lokN] at hE
  obtain ⟨b1, h1⟩ : ∃ b, inB c 1 8 = b := ⟨_, rfl⟩
  obtain ⟨b2, d2⟩ : ∃ b, decide ((n : Int) ≤ c) = b := ⟨_, rfl⟩
  obtain ⟨b3, h3⟩ : ∃ b, inB f 0 100000 = b := ⟨_, rfl⟩
  obtain ⟨b4, d4⟩ : ∃ b, decide (f + (n : Int) ≤ 100000) = b := ⟨_, rfl⟩
  obtain ⟨b5, h5⟩ : ∃ b, okL ss = b := ⟨_, rfl⟩
  rw [h1, d2, h3, d4, h5] at hE
  have e2 : decide ((n : Int) > c) = !b2 := by rw [← d2]; by_cases h : (n : Int) ≤ c <;> simp [h] <;> omega
  have e4 : decide (f + (n : Int) > 100000) = !b4 := by rw [← d4]; by_cases h : f + (n : Int) ≤ 100000 <;> simp [h] <;> omega
  simp only [gt_iff_lt] at e2 e4
  have H1 := hide h1
  have H3 := hide h3
  have H5 := hide h5
  have HB := hide ((Below.refl w.heap.size w).alloc (Nat.le_refl _) (LgO c f (.slice a n cap)))
  clear hx h0 h1 h3 h5
  go_enter Try.func45, Try.ntmps45
  go_wp2_with fail
  refine (l1in_is c 1 8 b1 (unhide H1) _).mono ?_
  rintro e w1 ⟨rfl, rfl⟩
  cases b1
  · obtain rfl : ok = false := by rw [← hE]; rfl
    go_wp2
    go_ret
    exact ⟨rfl, unhide HB⟩
  cases b2
  · obtain rfl : ok = false := by rw [← hE]; rfl
    go_wp2
    go_ret
    exact ⟨rfl, unhide HB⟩
  go_wp2_with fail
  refine (l1in_is f 0 100000 b3 (unhide H3) _).mono ?_
  rintro e w1 ⟨rfl, rfl⟩
  cases b3
  · obtain rfl : ok = false := by rw [← hE]; rfl
    go_wp2
    go_ret
    exact ⟨rfl, unhide HB⟩
  obtain ⟨f1, f2⟩ : 0 ≤ f ∧ f ≤ 100000 := by have := unhide H3; simpa [inB] using this
  cases b4
  · obtain rfl : ok = false := by rw [← hE]; rfl
    go_wp2
    go_ret
    exact ⟨rfl, unhide HB⟩
  obtain rfl : b5 = ok := by rw [← hE]; rfl
  clear hE
  go_wp2
  go_loopw [3] (fun i wr => ∃ k : Nat, k ≤ n ∧ i = .int .i64 k ∧ okL (ss.take k) = true ∧ Below w.heap.size w wr ∧ wr.heap[w.heap.size]? = some (LgO c f (.slice a n cap))) (fun i _ => n - (intOf i).toNat)
  case atStart => exact ⟨0, Nat.zero_le _, rfl, rfl, unhide HB, heap_alloc_new w _⟩
  case round =>
    obtain ⟨k, hk, rfl, hok, hbel, hbx⟩ := hrel
    have HBr := hide hbel
    have HK := hide hok
    have hsz := hbel.size
    have HBX := hide hbx
    have hzb : w.heap.size < wr.heap.size := (Array.getElem?_eq_some_iff.1 hbx).1
    obtain ⟨g0, g1, g2, -⟩ := blk_cells3 hbx
    clear hok hbx
    by_cases hlt : k < n
    · obtain ⟨xs, fs, ai, ni, ci, af, nf, cf, b, off, hx, rfl, hb, hcap, c0, c1, rx, rf⟩ := (unhide HX).at hlt
      have d0 := (hbel.cell (p := ⟨b, off + k * 2, none⟩) hb).trans c0
      have d1 := (hbel.cell (p := ⟨b, off + k * 2 + 1, none⟩) hb).trans c1
      have hT := tot_at hx
      have hn1 : ni ≤ 140737488351232 := by have := rx.len.1; simp only at hT; omega
      have hn2 : nf ≤ 140737488351232 := by have := rf.len.1; simp only at hT; omega
      have HX1 := hide hx
      have RX := hide (rx.later hbel)
      have RF := hide (rf.later hbel)
      obtain ⟨q, hq⟩ : ∃ q, okS xs fs = q := ⟨_, rfl⟩
      have HQ := hide hq
      clear c0 c1 hx hbel rx rf hT hq
      go_wp2_with fail
      refine (sstateok_any ai ni ci xs af nf cf fs q HQ _ hn1 hn2 (unhide RX) (unhide RF)).mono ?_
      rintro e w1 ⟨rfl, b1⟩
      have HB1 := hide ((unhide HBr).trans (b1.mono hsz))
      have HBX1 := hide ((b1.block _ hzb).trans (unhide HBX))
      clear b1 d0 d1 RX RF HBr g0 g1 g2
      cases q
      · obtain rfl : b5 = false := by rw [← unhide H5]; exact okL_no (unhide HX1) (unhide HQ)
        go_wp2
        go_ret
        exact ⟨rfl, unhide HB1⟩
      · have HN := hide (okL_next (unhide HX1) (unhide HQ) (unhide HK))
        go_wp2
        go_roundw
        case rel => exact ⟨k + 1, by omega, by go_num, unhide HN, unhide HB1, unhide HBX1⟩
        case measure => simp [intOf]; omega
    · obtain rfl : b5 = true := by
        rw [← unhide H5]
        have h := unhide HK
        rw [List.take_of_length_le (by have := unhide HL; omega)] at h
        exact h
      clear hbel
      go_wp2
      go_ret
      exact ⟨rfl, unhide HBr⟩

set_option maxHeartbeats 2000000 in
theorem ilogseq_any (c f : Int) (a : Option Addr) (n cap : Nat) (ss : List Sta) (r : Int) (h0 : Hid (lsq c f ss = r)) (w : World) (hn : n ≤ 140737488351232) (ht : tot ss ≤ 140737488351232) (hx : RwS w (.slice a n cap) ss) :
    Calls Try.prog 14 #[LgV c f (.slice a n cap)] w fun e w' => e = .returned (.int .i64 r) ∧ Below w.heap.size w w' := by
  have HX := hide (hx.alloc (LgO c f (.slice a n cap)))
  obtain ⟨ok, hok⟩ : ∃ ok, lok c f ss = ok := ⟨_, rfl⟩
  have HR : Hid ((if ok = true then f + (n : Int) else 0) = r) := by
    have h := unhide h0
    rw [lsq, hok, ← hx.len.1] at h
    exact hide h
  have HF : ok = true → 0 ≤ f ∧ f ≤ 100000 := fun e => by rw [e] at hok; exact (lok_iff.1 hok).2.2.1
  have HOK := hide hok
  clear hx h0 hok
  go_enter Try.func14, Try.ntmps14
  go_wp2_with fail
  refine (ilogok_any c f a n cap ss ok HOK _ hn ht (unhide HX)).mono ?_
  rintro e w1 ⟨rfl, b1⟩
  obtain ⟨g0, g1, g2, -⟩ := blk_cells3 ((b1.block w.heap.size (by simp)).trans (heap_alloc_new w _))
  have hz : w.heap.size < w1.heap.size := by have := b1.size; simp at this; omega
  have HB := hide (((Below.refl w.heap.size w).alloc (Nat.le_refl _) (LgO c f (.slice a n cap))).trans (b1.mono (by simp)))
  clear b1
  cases ok
  · obtain rfl := unhide HR
    go_wp2
    go_ret
    exact ⟨rfl, unhide HB⟩
  · obtain rfl := unhide HR
    obtain ⟨f1, f2⟩ := HF rfl
    clear HF
    go_wp2
    go_ret
    exact ⟨rfl, unhide HB⟩

end Go.Proofs.Ytdpaocikmijioac
