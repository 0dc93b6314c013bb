/-
  A vector is drawn: some row of at most six numbers; nothing that was there turns but the cursor. No statement is proved here.
-/
import Derived.Test.YtdjoobcbnaelnaaDrawB
import Derived.Test.YtdjoobcbnaelnaaOnce
import Derived.Test.YtdjoobcbnaelnaaApp2
import Derived.Test.YtdjoobcbnaelnaaNmA
import Derived.Test.YtdjoobcbnaelnaaVcD
import Derived.Test.YtdjoobcbnaelnaaTrn
namespace Go.Proofs.Ytdjoobcbnaelnaa
open Go.RowKit

/-- While a vector is drawn: the row, the cursor. -/
structure Q8 (w W : World) (g : Nat) (v : Value) (xs : List Int) (u : Value) (ns : List Int) : Prop where
  c0 : Cur w g v xs
  cur : Cur W g v xs
  grw : w.grownBy W (some g)
  own : OwN w.heap.size W u ns
section
variable {w W X : World} {g : Nat} {v u : Value} {xs ns : List Int}
theorem Q8.lt (h : Q8 w W g v xs u ns) : g < W.heap.size := by
  obtain ⟨⟨i, k, hg, _⟩, _⟩ := h.cur
  exact (Array.getElem?_eq_some_iff.1 hg).1
theorem Q8.ne (h : Q8 w W g v xs u ns) : u.ownBlock ≠ some g := by
  obtain ⟨⟨i, k, hg, _⟩, _⟩ := h.cur
  exact own_ne h.own hg (by decide)
theorem Q8.alloc (h : Q8 w W g v xs u ns) (o : Obj) : Q8 w (W.alloc o) g v xs u ns := by
  have b : Below W.heap.size W (W.alloc o) := (Below.refl _ _).alloc (Nat.le_refl _) o
  exact ⟨h.c0, h.cur.later b (Nat.le_refl _), grown_trans h.grw (World.grownBy_alloc W o _), h.own.later b⟩
theorem Q8.drawn (h : Q8 w W g v xs u ns) (hc : Cur X g v xs) (hg : W.grownBy X (some g)) : Q8 w X g v xs u ns := by
  refine ⟨h.c0, hc, grown_trans h.grw hg, ?_⟩
  exact (Trn.of_grown hg).own h.own (fun i q e => h.ne (by rw [q, ← e]))
theorem Q8.app {u2 : Value} {ms : List Int} (h : Q8 w W g v xs u ns) (hO : OwN w.heap.size X u2 ms) (hG : W.grownBy X u.ownBlock) : Q8 w X g v xs u2 ms := by
  obtain ⟨⟨i, k, hg, hi⟩, hs, hn⟩ := h.cur
  have hlt := h.lt
  have hne := h.ne
  have g1 : w.grownBy X (some g) := ⟨hG.os.trans h.grw.os, hG.tape.trans h.grw.tape, hG.output.trans h.grw.output, Nat.le_trans h.grw.size hG.size, fun i hi hne => (hG.block i (Nat.lt_of_lt_of_le hi h.grw.size) (fun q => by have := (World.ownsRow.lt h.own i q.symm).1; omega)).trans (h.grw.block i hi hne)⟩
  exact ⟨h.c0, ⟨⟨i, k, (hG.block g hlt hne.symm).trans hg, hi⟩, h.c0.2.1.grown g1 h.c0.2.2, hn⟩, g1, hO⟩
theorem Q8.put {b n c k : Nat} (h : Q8 w W g v xs (.slice (some ⟨b, 0, none⟩) n c) ns) (hn : n = ns.length) (z : Int) : Q8 w (W.setCell ⟨b, k, none⟩ (.int .i64 z)) g v xs (.slice (some ⟨b, 0, none⟩) n c) (ns.set k z) :=
  h.app (OwN.putN h.own hn k z) (grown_set W b k _)
end
set_option maxHeartbeats 1000000 in
theorem pick8_any (g : Nat) (v : Value) (xs : List Int) (W : World) (hlen : xs.length ≤ 1048576) (hbd : ∀ z ∈ xs, 0 ≤ z ∧ z ≤ 255) (hc : Cur W g v xs) :
    Calls Try.prog 37 #[.pointer (some ⟨g, 0, none⟩), .slice (some ⟨W.heap.size, 0, none⟩) 8 8] (W.alloc (.cells #[.int .i64 0, .int .i64 1, .int .i64 2, .int .i64 5, .int .i64 100000, .int .i64 3, .int .i64 1, .int .i64 0] 3)) fun e w' => (∃ z, e = .returned (.int .i64 z)) ∧ Cur w' g v xs ∧ (W.alloc (.cells #[.int .i64 0, .int .i64 1, .int .i64 2, .int .i64 5, .int .i64 100000, .int .i64 3, .int .i64 1, .int .i64 0] 3)).grownBy w' (some g) := by
  have hg : g < W.heap.size := by obtain ⟨⟨i, k, hg, _⟩, _⟩ := hc; exact (Array.getElem?_eq_some_iff.1 hg).1
  refine (pickint_any g v xs (.slice (some ⟨W.heap.size, 0, none⟩) 8 8) [.int .i64 0, .int .i64 1, .int .i64 2, .int .i64 5, .int .i64 100000, .int .i64 3, .int .i64 1, .int .i64 0] _ hlen hbd (hc.later ((Below.refl W.heap.size W).alloc (Nat.le_refl _) _) (Nat.le_refl _)) (seg_new W 3 [.int .i64 0, .int .i64 1, .int .i64 2, .int .i64 5, .int .i64 100000, .int .i64 3, .int .i64 1, .int .i64 0] 8 rfl (by omega)) (fun a n c e => by simp only [Value.slice.injEq, Option.some.injEq] at e; rw [← e.1]; show W.heap.size ≠ g; omega) (by simp) (by simp)).mono ?_
  rintro e w1 ⟨⟨x, hx, rfl⟩, c1, g1⟩
  refine ⟨?_, c1, g1⟩
  simp only [List.mem_cons, List.not_mem_nil, or_false] at hx
  rcases hx with rfl | rfl | rfl | rfl | rfl | rfl | rfl | rfl
  all_goals exact ⟨_, rfl⟩
set_option maxHeartbeats 1000000 in
theorem pick3_any (g : Nat) (v : Value) (xs : List Int) (W : World) (hlen : xs.length ≤ 1048576) (hbd : ∀ z ∈ xs, 0 ≤ z ∧ z ≤ 255) (hc : Cur W g v xs) :
    Calls Try.prog 37 #[.pointer (some ⟨g, 0, none⟩), .slice (some ⟨W.heap.size, 0, none⟩) 3 3] (W.alloc (.cells #[.int .i64 (-1), .int .i64 100001, .int .i64 (-9223372036854775808)] 3)) fun e w' => (∃ z, e = .returned (.int .i64 z)) ∧ Cur w' g v xs ∧ (W.alloc (.cells #[.int .i64 (-1), .int .i64 100001, .int .i64 (-9223372036854775808)] 3)).grownBy w' (some g) := by
  have hg : g < W.heap.size := by obtain ⟨⟨i, k, hg, _⟩, _⟩ := hc; exact (Array.getElem?_eq_some_iff.1 hg).1
  refine (pickint_any g v xs (.slice (some ⟨W.heap.size, 0, none⟩) 3 3) [.int .i64 (-1), .int .i64 100001, .int .i64 (-9223372036854775808)] _ hlen hbd (hc.later ((Below.refl W.heap.size W).alloc (Nat.le_refl _) _) (Nat.le_refl _)) (seg_new W 3 [.int .i64 (-1), .int .i64 100001, .int .i64 (-9223372036854775808)] 3 rfl (by omega)) (fun a n c e => by simp only [Value.slice.injEq, Option.some.injEq] at e; rw [← e.1]; show W.heap.size ≠ g; omega) (by simp) (by simp)).mono ?_
  rintro e w1 ⟨⟨x, hx, rfl⟩, c1, g1⟩
  refine ⟨?_, c1, g1⟩
  simp only [List.mem_cons, List.not_mem_nil, or_false] at hx
  rcases hx with rfl | rfl | rfl
  all_goals exact ⟨_, rfl⟩
set_option maxHeartbeats 2000000 in
set_option maxRecDepth 100000 in
theorem l8vec_any (g : Nat) (v : Value) (xs : List Int) (w : World) (hlen : xs.length ≤ 1048576) (hbd : ∀ z ∈ xs, 0 ≤ z ∧ z ≤ 255) (hc : Cur w g v xs) :
    Calls Try.prog 29 #[.pointer (some ⟨g, 0, none⟩)] w fun e w' => ∃ a n c ns, e = .returned (.slice a n c) ∧ n ≤ 6 ∧ Q8 w w' g v xs (.slice a n c) ns := by
  obtain ⟨i0, hi, hz0, hz1, hz2⟩ := info_parts Try.infoInt
  have HD := hide hbd
  have H0 : Hid (Q8 w (w.alloc (.cells #[] 3)) g v xs (.slice (some ⟨w.heap.size, 0, none⟩) 0 0) []) := hide (by
    have b : Below w.heap.size w (w.alloc (.cells #[] 3)) := (Below.refl _ _).alloc (Nat.le_refl _) _
    exact ⟨hc, hc.later b (Nat.le_refl _), World.grownBy_alloc w _ _, madeN (Nat.le_refl _) (heap_alloc_new w _)⟩)
  clear hbd hc
  go_enter Try.func29, Try.ntmps29
  go_wp2_with fail
  refine (below_any g v xs 7 _ hlen (unhide HD) (by omega) (by omega) (unhide H0).cur).mono ?_
  rintro e w1 ⟨⟨q, rfl, hq0, hq1⟩, c1, g1⟩
  have H1 := hide ((unhide H0).drawn c1 g1)
  clear c1 g1 H0
  obtain ⟨q, rfl⟩ := Int.eq_ofNat_of_zero_le hq0
  have hq2 : q ≤ 6 := by omega
  clear hq0 hq1
  go_wp2
  go_loopw [3, 5] (fun u i W => ∃ (k : Nat) (a1 : Option Addr) (c1 : Nat) (ns : List Int), k ≤ q ∧ i = .int .i64 k ∧ u = .slice a1 k c1 ∧ Q8 w W g v xs (.slice a1 k c1) ns) (fun _ i _ => q - (intOf i).toNat)
  case atStart => exact ⟨0, _, 0, [], by omega, rfl, rfl, unhide H1⟩
  case round =>
    obtain ⟨k, a1, c1, ns, hk, rfl, rfl, hQ⟩ := hrel
    have HQ := hide hQ
    clear hQ H1
    by_cases hlt : k < q
    · have HKL : Hid (k = ns.length) := hide ((unhide HQ).own.rw encN_len).len.1
      go_wp2_with fail
      refine (pick8_any g v xs wr hlen (unhide HD) (unhide HQ).cur).mono ?_
      rintro e w2 ⟨⟨z, rfl⟩, c2, g2⟩
      have HQ2 := hide (((unhide HQ).alloc (.cells #[.int .i64 0, .int .i64 1, .int .i64 2, .int .i64 5, .int .i64 100000, .int .i64 3, .int .i64 1, .int .i64 0] 3)).drawn c2 g2)
      have hsz := (unhide HQ2).grw.size
      clear c2 g2
      go_wp2_with (first | (at_builtin; refine wpList_app1 encN_len (by omega) oneN 3 24 i0 _ 8 Try.underlying24 hi hz0 hz1 hz2 rfl (by omega) w2 z rfl _ _ rfl w.heap.size _ _ k HKL rfl (unhide HQ2).own rfl (by omega) hsz ?_; intro a8 c8 w4 hO hG; have HQ4 := hide ((unhide HQ2).app hO hG); clear hO hG))
      go_roundw
      case rel => exact ⟨k + 1, a8, c8, ns ++ [z], by omega, by go_num, rfl, unhide HQ4⟩
      case measure => simp [intOf]; omega
    · obtain rfl : k = q := by omega
      have HKL : Hid (k = ns.length) := hide ((unhide HQ).own.rw encN_len).len.1
      by_cases h0 : k = 0
      · have hd0 : decide (0 < (k : Int)) = false := by simp; omega
        go_wp2
        go_ret
        exact ⟨a1, k, c1, ns, rfl, by omega, unhide HQ⟩
      · have hd0 : decide (0 < (k : Int)) = true := by simp; omega
        go_wp2_with fail
        refine (once_any g v xs 10 _ hlen (unhide HD) (by omega) (by omega) (unhide HQ).cur).mono ?_
        rintro e w2 ⟨⟨p, rfl⟩, c2, g2⟩
        have HQ2 := hide ((unhide HQ).drawn c2 g2)
        clear c2 g2
        cases p
        · go_wp2
          go_ret
          exact ⟨a1, k, c1, ns, rfl, by omega, unhide HQ2⟩
        · go_wp2_with fail
          refine (pick3_any g v xs w2 hlen (unhide HD) (unhide HQ2).cur).mono ?_
          rintro e w3 ⟨⟨z, rfl⟩, c3, g3⟩
          have HQ3 := hide (((unhide HQ2).alloc (.cells #[.int .i64 (-1), .int .i64 100001, .int .i64 (-9223372036854775808)] 3)).drawn c3 g3)
          clear c3 g3
          have hk0 : 0 < k := by omega
          obtain ⟨b, y, rfl, hb, hc1, hy, hfz⟩ := OwN.slot (unhide HQ3).own (unhide HKL) hk0
          have HQ4 := hide ((unhide HQ3).put (k := 0) (unhide HKL) z)
          go_wp2
          go_ret
          exact ⟨_, k, c1, _, rfl, by omega, unhide HQ4⟩
end Go.Proofs.Ytdjoobcbnaelnaa
