/-
  Two vectors are drawn; a vector, a place and a number. No statement is proved here.
-/
import Derived.Test.YtdjoobcbnaelnaaVcQ
import Derived.Test.YtdjoobcbnaelnaaVcC
namespace Go.Proofs.Ytdjoobcbnaelnaa
open Go.RowKit

theorem below_curN {w w1 w2 : World} (b1 : Below w.heap.size w w1) (hg : w1.grownBy w2 (some w.heap.size)) : Below w.heap.size w w2 :=
  b1.grown hg b1.size (fun k hk => by simp at hk; omega)
theorem Q8.later_own {w W X : World} {g : Nat} {v u : Value} {xs ns : List Int} (h : Q8 w W g v xs u ns) (hG : W.grownBy X (some g)) : OwN w.heap.size X u ns :=
  (Trn.of_grown hG).own h.own (fun i q e => h.ne (by rw [q, ← e]))

set_option maxHeartbeats 2000000 in
set_option maxRecDepth 100000 in
theorem drawvecraise_any (v : Value) (xs : List Int) (w : World) (hlen : xs.length ≤ 1048576) (hbd : ∀ z ∈ xs, 0 ≤ z ∧ z ≤ 255) (hv : Seg w v xs) :
    Calls Try.prog 12 #[v] w fun e w' => ∃ a n c ns p m, e = .returned (.tuple #[.slice a n c, .int .i64 p, .int .i64 m]) ∧ n ≤ 6 ∧ (-1 ≤ p ∧ p ≤ 10) ∧ (-1 ≤ m ∧ m ≤ 10) ∧ OwN w.heap.size w' (.slice a n c) ns ∧ Below w.heap.size w w' := by
  have HD := hide hbd
  have HS := hide hv
  clear hbd hv
  go_enter Try.func12, Try.ntmps12
  go_wp2_with fail
  refine (new_any v xs w hlen (unhide HD) (unhide HS)).mono ?_
  rintro e w1 ⟨rfl, c1, b1, z1⟩
  have C1 := hide c1
  have B1 := hide b1
  have hsz1 := b1.size
  clear c1 b1
  go_wp2_with fail
  refine (l8vec_any w.heap.size v xs w1 hlen (unhide HD) (unhide C1)).mono ?_
  rintro e w2 ⟨a, n, c, ns, rfl, hn, q2⟩
  have Q2 := hide q2
  clear q2
  go_wp2_with fail
  refine (below_any w.heap.size v xs ((n : Int) + 2) _ hlen (unhide HD) (by omega) (by omega) (unhide Q2).cur).mono ?_
  rintro e w3 ⟨⟨p, rfl, hp0, hp1⟩, c3, g3⟩
  have Q3 := hide ((unhide Q2).drawn c3 g3)
  clear c3 g3
  go_wp2_with fail
  refine (below_any w.heap.size v xs 9 _ hlen (unhide HD) (by omega) (by omega) (unhide Q3).cur).mono ?_
  rintro e w4 ⟨⟨m, rfl, hm0, hm1⟩, c4, g4⟩
  have Q4 := hide ((unhide Q3).drawn c4 g4)
  have B4 := hide (below_curN (unhide B1) (unhide Q4).grw)
  clear c4 g4
  go_wp2
  exact bodyPost_ret (v := .tuple #[.slice a n c, .int .i64 (p - 1), .int .i64 (m - 1)]) (by simp [results, Try.results12, go_sem]) rfl ⟨a, n, c, ns, p - 1, m - 1, rfl, hn, by omega, by omega, Ow.base (unhide Q4).own hsz1, unhide B4⟩

set_option maxHeartbeats 2000000 in
set_option maxRecDepth 100000 in
theorem l8two_any (v : Value) (xs : List Int) (w : World) (hlen : xs.length ≤ 1048576) (hbd : ∀ z ∈ xs, 0 ≤ z ∧ z ≤ 255) (hv : Seg w v xs) :
    Calls Try.prog 23 #[v] w fun e w' => ∃ a n c ns b m d ms, e = .returned (.tuple #[.slice a n c, .slice b m d]) ∧ n ≤ 6 ∧ m ≤ 6 ∧ OwN w.heap.size w' (.slice a n c) ns ∧ OwN w.heap.size w' (.slice b m d) ms ∧ Below w.heap.size w w' := by
  have HD := hide hbd
  have HS := hide hv
  clear hbd hv
  go_enter Try.func23, Try.ntmps23
  go_wp2_with fail
  refine (new_any v xs w hlen (unhide HD) (unhide HS)).mono ?_
  rintro e w1 ⟨rfl, c1, b1, z1⟩
  have C1 := hide c1
  have B1 := hide b1
  have hsz1 := b1.size
  clear c1 b1
  go_wp2_with fail
  refine (l8vec_any w.heap.size v xs w1 hlen (unhide HD) (unhide C1)).mono ?_
  rintro e w2 ⟨a, n, c, ns, rfl, hn, q2⟩
  have Q2 := hide q2
  clear q2
  go_wp2_with fail
  refine (once_any w.heap.size v xs 3 _ hlen (unhide HD) (by omega) (by omega) (unhide Q2).cur).mono ?_
  rintro e w3 ⟨⟨r, rfl⟩, c3, g3⟩
  have Q3 := hide ((unhide Q2).drawn c3 g3)
  have hsz3 := (unhide Q3).grw.size
  clear c3 g3 Q2
  cases r
  · go_wp2_with fail
    refine (l8vec_any w.heap.size v xs w3 hlen (unhide HD) (unhide Q3).cur).mono ?_
    rintro e w4 ⟨b, m, d, ms, rfl, hm, q4⟩
    have OA := hide (Ow.base ((unhide Q3).later_own q4.grw) hsz1)
    have OB := hide (Ow.base q4.own (show w.heap.size ≤ w3.heap.size by omega))
    have B4 := hide (below_curN (unhide B1) (grown_trans (unhide Q3).grw q4.grw))
    clear q4
    go_wp2
    exact bodyPost_ret (v := .tuple #[.slice a n c, .slice b m d]) (by simp [results, Try.results23, go_sem]) rfl ⟨a, n, c, ns, b, m, d, ms, rfl, hn, hm, unhide OA, unhide OB, unhide B4⟩
  · go_wp2_with fail
    refine (l8vec_any w.heap.size v xs w3 hlen (unhide HD) (unhide Q3).cur).mono ?_
    rintro e w4 ⟨b, m, d, ms, rfl, hm, q4⟩
    have OA := hide (Ow.base ((unhide Q3).later_own q4.grw) hsz1)
    have OB := hide (Ow.base q4.own (show w.heap.size ≤ w3.heap.size by omega))
    have B4 := hide (below_curN (unhide B1) (grown_trans (unhide Q3).grw q4.grw))
    have hsz4 := (unhide B4).size
    clear q4
    go_wp2_with fail
    refine (svecmax_any a n c ns b m d ms w4 (by omega) (by omega) ((unhide OA).rw encN_len) ((unhide OB).rw encN_len)).mono ?_
    rintro e w5 ⟨b1, m1, d1, rfl, o5, b5⟩
    have hm1 : m1 ≤ 6 := by
      have h1 := (o5.rw encN_len).len.1
      rw [vm_len] at h1
      have h2 := ((unhide OA).rw encN_len).len.1
      have h3 := ((unhide OB).rw encN_len).len.1
      omega
    have OA5 := hide ((unhide OA).later b5)
    have OB5 := hide (Ow.base o5 hsz4)
    have B5 := hide ((unhide B4).trans (b5.mono hsz4))
    clear o5 b5
    go_wp2
    exact bodyPost_ret (v := .tuple #[.slice a n c, .slice b1 m1 d1]) (by simp [results, Try.results23, go_sem]) rfl ⟨a, n, c, ns, b1, m1, d1, _, rfl, hn, hm1, unhide OA5, unhide OB5, unhide B5⟩
theorem drawvecmax_any (v : Value) (xs : List Int) (w : World) (hlen : xs.length ≤ 1048576) (hbd : ∀ z ∈ xs, 0 ≤ z ∧ z ≤ 255) (hv : Seg w v xs) :
    Calls Try.prog 9 #[v] w fun e w' => ∃ a n c ns b m d ms, e = .returned (.tuple #[.slice a n c, .slice b m d]) ∧ n ≤ 6 ∧ m ≤ 6 ∧ OwN w.heap.size w' (.slice a n c) ns ∧ OwN w.heap.size w' (.slice b m d) ms ∧ Below w.heap.size w w' := by
  go_enter Try.func9, Try.ntmps9
  go_wp2_with fail
  refine (l8two_any v xs w hlen hbd hv).mono ?_
  rintro e w1 ⟨a, n, c, ns, b, m, d, ms, rfl, h⟩
  go_wp2
  exact bodyPost_ret (v := .tuple #[.slice a n c, .slice b m d]) (by simp [results, Try.results9, go_sem]) rfl ⟨a, n, c, ns, b, m, d, ms, rfl, h⟩
end Go.Proofs.Ytdjoobcbnaelnaa
