/-
  A log that was dropped of: the program's. No statement is proved here.
-/
import Derived.Test.YtdpaocikmijioafLgI
namespace Go.Proofs.Ytdpaocikmijioaf
open Go.RowKit

def ldr (r : Bool) (f seq : Int) (ss : List Sta) : Int × List Sta := if r = true then (seq, ss.drop (seq - f).toNat) else (f, ss)
theorem kps_iff {c f : Int} {ss : List Sta} {seq : Int} : kps c f ss seq = true ↔ lok c f ss = true ∧ f ≤ seq ∧ seq ≤ f + (ss.length : Int) := by simp [kps, inB]
theorem kps_parts {c f : Int} {ss : List Sta} {seq : Int} {n : Nat} (hn : n = ss.length) (h : kps c f ss seq = true) : ∃ k m : Nat, n = k + m ∧ seq - f = (k : Int) ∧ (seq - f).toNat = k ∧ okL ss = true ∧ n ≤ 8 ∧ 0 ≤ f ∧ f ≤ 100000 ∧ f + (n : Int) ≤ 100000 := by
  obtain ⟨h1, h2, h3⟩ := kps_iff.1 h
  obtain ⟨h4, h5, h6, h7, h8⟩ := lok_iff.1 h1
  refine ⟨(seq - f).toNat, n - (seq - f).toNat, by omega, by omega, rfl, h8, by omega, by omega, by omega, by omega⟩

set_option maxHeartbeats 8000000 in
set_option maxRecDepth 100000 in
theorem ilogdrop_any (c f : Int) (a : Option Addr) (n cap : Nat) (ss : List Sta) (seq : Int) (r : Bool) (h0 : Hid (kps c f ss seq = r)) (f1 : Int) (ss1 : List Sta) (h1 : Hid (ldr r f seq ss = (f1, ss1))) (m : Nat) (hm : Hid (m = ss1.length)) (hS : SmlS ss) (ht : tot ss ≤ 1048576) (w : World) (hn : n ≤ 2000000) (hx : RwS w (.slice a n cap) ss) :
    Calls Try.prog 31 #[LgV c f (.slice a n cap), .int .i64 seq] w fun e w' => ∃ a' c', e = .returned (LgV c f1 (.slice a' m c')) ∧ OwS w.heap.size w'.heap.size w' (.slice a' m c') ss1 ∧ Below w.heap.size w w' := by
  have HX := hide hx
  have HL := hide hx.len.1
  have HS := hide hS
  clear hx hS
  go_enter Try.func31, Try.ntmps31
  go_wp2_with fail
  refine (ikeeps_any c f a n cap ss seq r h0 _ (by omega) (by omega) ((unhide HX).later (Lv.new w c f (.slice a n cap)).bel)).mono ?_
  rintro e w1 ⟨rfl, b1⟩
  have CA := hide ((Lv.new w c f (.slice a n cap)).later b1)
  obtain ⟨p0, p1, p2, pf⟩ := blk_cells3 (unhide CA).k1
  have zA := (unhide CA).lt
  have zA0 : w.heap.size < w1.heap.size := by omega
  clear b1
  cases r
  · obtain ⟨rfl, rfl⟩ : f1 = f ∧ ss1 = ss := by have h := unhide h1; simp [ldr] at h; exact ⟨h.1.symm, h.2.symm⟩
    obtain rfl : m = n := by rw [unhide hm, unhide HL]
    go_wp2_with fail
    refine (ilogcopy_any c f1 a m cap ss1 (unhide HS) (SzS.tot ht) _ hn ((unhide HX).later (unhide CA).bel)).mono ?_
    rintro e w2 ⟨a2, c2, rfl, o2, b2⟩
    have CB := hide ((unhide CA).later b2)
    have O2 := hide (o2.mono (unhide CA).bel.size (Nat.le_refl _))
    obtain ⟨q0, q1, q2, qf⟩ := blk_cells3 (unhide CB).k2
    have zB := (unhide CB).lt
    clear o2 b2 p0 p1 p2 pf
    go_wp2
    exact bodyPost_ret (v := LgV c f1 (.slice a2 m c2)) (by simp [results, Try.results31, go_sem, q0, q1, q2]) rfl ⟨a2, c2, rfl, by have h := log_set (unhide CB).k2 (.int .i64 c) (.int .i64 f1) (.slice a2 m c2) (unhide O2); simpa using h, (kLvs CB _ _ _).1⟩
  · obtain ⟨k, m', hk, hs, ht2, -, h8, -, -, -⟩ := kps_parts (unhide HL) (unhide h0)
    obtain ⟨rfl, rfl⟩ : f1 = seq ∧ ss1 = ss.drop k := by have h := unhide h1; rw [ldr, if_pos rfl, ht2] at h; simp at h; exact ⟨h.1.symm, h.2.symm⟩
    obtain rfl : m = m' := by have := unhide hm; rw [List.length_drop, ← unhide HL] at this; omega
    have HK := hide hk
    have HSQ := hide hs
    clear hk hs ht2 h1 h0
    go_wp2_with fail
    refine (ilogabove_any c f a n cap ss f1 k m (unhide HK) (unhide HSQ) (unhide HS) (SzS.tot ht) _ hn ((unhide HX).later (unhide CA).bel)).mono ?_
    rintro e w2 ⟨a2, c2, rfl, o2, b2⟩
    have CB := hide ((unhide CA).later b2)
    have O2 := hide (o2.mono (unhide CA).bel.size (Nat.le_refl _))
    obtain ⟨q0, q1, q2, qf⟩ := blk_cells3 (unhide CB).k2
    have zB := (unhide CB).lt
    clear o2 b2 p0 p1 p2 pf
    go_wp2
    exact bodyPost_ret (v := LgV c f1 (.slice a2 m c2)) (by simp [results, Try.results31, go_sem, q0, q1, q2]) rfl ⟨a2, c2, rfl, by have h := log_set (unhide CB).k2 (.int .i64 c) (.int .i64 f1) (.slice a2 m c2) (unhide O2); simpa using h, (kLvs CB _ _ _).1⟩
end Go.Proofs.Ytdpaocikmijioaf
