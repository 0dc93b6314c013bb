/-
  The changes above some number; the log above it; its copy: the program's. No statement is proved here.
-/
import Derived.Test.YtdpaocikmijioafLgF
import Derived.Test.YtdpaocikmijioafLgK
namespace Go.Proofs.Ytdpaocikmijioaf
open Go.RowKit

theorem RwS.drop {w : World} {a : Option Addr} {n cap k m : Nat} {ss : List Sta} (h : RwS w (.slice a n cap) ss) (hk : n = k + m) (h0 : ¬ m = 0) : RwS w (.slice (a.map fun x => x.add (k * 2)) m m) (ss.drop k) := by
  obtain ⟨ps, h1, h2⟩ := h
  have hl := h1.len.1
  obtain ⟨a', cap', e, hc, hr⟩ := h1
  simp only [Value.slice.injEq] at e
  obtain ⟨rfl, -, rfl⟩ := e
  rcases hr with rfl | ⟨b, off, rfl, hb, hcell⟩
  · simp at hl; omega
  · have hlm : (ps.drop k).length = m := by simp; omega
    refine ⟨ps.drop k, ⟨some ⟨b, off + k * 2, none⟩, m, ?_, by omega, .inr ⟨b, off + k * 2, rfl, hb, fun i x hx j hj => ?_⟩⟩, by simp [h2.len], fun i p s hp hs => ?_⟩
    · rw [hlm]; simp [add_off]
    · rw [List.getElem?_drop] at hx
      rw [show off + k * 2 + i * 2 + j = off + (k + i) * 2 + j by omega]
      exact hcell (k + i) x hx j hj
    · rw [List.getElem?_drop] at hp hs
      exact h2.ins (k + i) p s hp hs
theorem RwS.none {w : World} {a : Option Addr} {c : Nat} : RwS w (.slice a 0 c) [] := ⟨[], ⟨a, c, rfl, Nat.zero_le _, .inl rfl⟩, rfl, fun i p s hp => by simp at hp⟩

set_option maxHeartbeats 8000000 in
set_option maxRecDepth 100000 in
theorem iabove_any (c f : Int) (a : Option Addr) (n cap : Nat) (ss : List Sta) (seq : Int) (k m : Nat) (hk : n = k + m) (hs : seq - f = (k : Int)) (w0 w : World) (hn : n ≤ 140737488351232) (hx : RwS w0 (.slice a n cap) ss) :
    Calls Try.prog 68 #[LgV c f (.slice a n cap), .int .i64 seq] w fun e w' => ∃ a', e = .returned (.slice a' m m) ∧ RwS w0 (.slice a' m m) (ss.drop k) ∧ Below w.heap.size w w' := by
  have HX := hide hx
  have hcap := hx.len.2
  have HL := hide hx.len.1
  have HB := hide ((Below.refl w.heap.size w).alloc (Nat.le_refl _) (LgO c f (.slice a n cap)))
  clear hx
  go_enter Try.func68, Try.ntmps68
  go_wp2
  · go_ret
    obtain rfl : m = 0 := by omega
    refine ⟨_, rfl, ?_, by have h := unhide HB; rw [hk] at h; exact h⟩
    rw [List.drop_of_length_le (by have := unhide HL; omega)]
    exact RwS.none
  · go_ret
    exact ⟨_, rfl, (unhide HX).drop hk (by omega), by have h := unhide HB; rw [hk] at h; exact h⟩
def kps (c f : Int) (ss : List Sta) (seq : Int) : Bool := lok c f ss && inB seq f (f + (ss.length : Int))
set_option maxHeartbeats 8000000 in
set_option maxRecDepth 100000 in
theorem ikeeps_any (c f : Int) (a : Option Addr) (n cap : Nat) (ss : List Sta) (seq : Int) (r : Bool) (h0 : Hid (kps c f ss seq = r)) (w : World) (hn : n ≤ 140737488351232) (ht : tot ss ≤ 140737488351232) (hx : RwS w (.slice a n cap) ss) :
    Calls Try.prog 71 #[LgV c f (.slice a n cap), .int .i64 seq] w fun e w' => e = .returned (.bool r) ∧ Below w.heap.size w w' := by
  have HX := hide hx
  have HL := hide hx.len.1
  obtain ⟨ok, hok⟩ : ∃ ok, lok c f ss = ok := ⟨_, rfl⟩
  have hE := unhide h0
  rw [kps, hok] at hE
  have HOK := hide hok
  obtain ⟨sv, hsv⟩ : ∃ sv, lsq c f ss = sv := ⟨_, rfl⟩
  have HSV := hide hsv
  have HB := hide ((Below.refl w.heap.size w).alloc (Nat.le_refl _) (LgO c f (.slice a n cap)))
  clear hx h0 hok hsv
  go_enter Try.func71, Try.ntmps71
  go_upto_region 1 with fail
  obtain ⟨V, hV⟩ : ∃ V, V = w.alloc (LgO c f (.slice a n cap)) := ⟨_, rfl⟩
  have bV : Below w.heap.size w V := by rw [hV]; exact unhide HB
  have kV : V.heap[w.heap.size]? = some (LgO c f (.slice a n cap)) := by rw [hV]; exact heap_alloc_new w _
  rw [← hV]
  have zV : w.heap.size < V.heap.size := (Array.getElem?_eq_some_iff.1 kV).1
  obtain ⟨p0, p1, p2, -⟩ := blk_cells3 kV
  have l0 := later_some (w := V) zV p0
  have l1 := later_some (w := V) zV p1
  have l2 := later_some (w := V) zV p2
  have RX := hide ((unhide HX).later bV)
  have BV := hide bV
  clear hV bV kV p0 p1 p2 HX HB
  cases ok
  · obtain rfl : r = false := by rw [← hE]; rfl
    clear hE
    refine wp_region_later (by kernel_rfl) (by kernel_rfl) ?_
    repeat (go_big_quiet_step (first | (go_at_call 22; exact Calls.later_of (ilogok_any c f a n cap ss false HOK _ hn ht ((unhide RX).later (later_below _ _ _))))))
    refine wpQuiet_nil ?_
    intro w1 hb1
    have HB1 := hide ((unhide BV).trans (hb1.mono (by omega)))
    clear hb1 l0 l1 l2
    go_wp2
    go_ret
    exact ⟨rfl, unhide HB1⟩
  · have hq : sv = f + (n : Int) := by rw [← unhide HSV, lsq, if_pos (unhide HOK), unhide HL]
    have HQ : Hid (inB seq f sv = r) := hide (by rw [hq, unhide HL]; simpa using hE)
    clear hE hq
    refine wp_region_later (by kernel_rfl) (by kernel_rfl) ?_
    repeat (go_big_quiet_step (first
      | (go_at_call 22; exact Calls.later_of (ilogok_any c f a n cap ss true HOK _ hn ht ((unhide RX).later (later_below _ _ _))))
      | (go_at_call 25; exact Calls.later_of (ilogseq_any c f a n cap ss sv HSV _ hn ht ((unhide RX).later (later_below _ _ _))))
      | (go_at_call 61; exact Calls.later_same (within_is seq f sv r (unhide HQ) _))))
    refine wpQuiet_nil ?_
    intro w1 hb1
    have HB1 := hide ((unhide BV).trans (hb1.mono (by omega)))
    clear hb1 l0 l1 l2
    cases r
    all_goals go_wp2
    all_goals go_ret
    all_goals exact ⟨rfl, unhide HB1⟩
end Go.Proofs.Ytdpaocikmijioaf
