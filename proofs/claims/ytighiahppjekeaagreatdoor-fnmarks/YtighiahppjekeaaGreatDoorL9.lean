/-
  Tables and marks are drawn. No statement is proved here.
-/
import Derived.Test.YtighiahppjekeaaGreatDoorEntDraw
import Derived.Test.YtighiahppjekeaaGreatDoorOnce
import Derived.Test.YtighiahppjekeaaGreatDoorTbD
import Derived.Test.YtighiahppjekeaaGreatDoorMkO
import Derived.Test.YtighiahppjekeaaGreatDoorL3D
import Derived.Deep.RegionHeld3
namespace Go.Proofs.YtighiahppjekeaaGreatDoor
open Go.RowKit

/-- A number of rows is left away from an owned row. -/
theorem OwN.takeN {base n c m : Nat} {a : Option Addr} {w : World} {ns : List Int} (h : OwN base w (.slice a n c) ns) (hm : m ≤ n) (h0 : a ≠ none) : OwN base w (.slice a m c) (ns.take m) := by
  have hn := (h.rw encN_len).len.1
  subst hn
  rcases h.2 with ⟨e, _⟩ | ⟨g, cap, cur, e, hb, hg, hnc, hcm, hcs, htake⟩
  · simp at e
    exact absurd e.1 h0
  · simp only [Value.slice.injEq] at e
    obtain ⟨rfl, -, rfl⟩ := e
    have hl : (ns.take m).length = m := by simp; omega
    have ht : cur.toList.take m = (ns.take m).flatMap encN := by
      have e1 : (cur.toList.take ns.length).take m = cur.toList.take m := by rw [List.take_take]; congr 1; omega
      rw [← e1]
      simp only [Nat.mul_one] at htake
      rw [htake, flatN, flatN, List.map_take]
    refine ⟨by rw [flat_len encN_len], .inr ⟨g, _, cur, by rw [hl], hb, hg, by omega, hcm, hcs, ?_⟩⟩
    rw [hl, Nat.mul_one]; exact ht
/-- One row of an owned table is made shorter. -/
theorem OwG.cut {lo hi n c : Nat} {a : Option Addr} {w : World} {t : Tb} (h : OwG lo hi w (.slice a n c) t) {k : Nat} {r : List Int} (hr : t[k]? = some r) (h0 : 0 < r.length) :
    ∃ ob g cr, a = some ⟨ob, 0, none⟩ ∧ n ≤ c ∧ ob < w.heap.size ∧ lo ≤ ob ∧ r.length ≤ cr ∧ w.cell? ⟨ob, k, none⟩ = some (.slice (some ⟨g, 0, none⟩) r.length cr) ∧ w.frozen? ⟨ob, k, none⟩ = false ∧
      ∀ m, m ≤ r.length → OwG lo hi (w.setCell ⟨ob, k, none⟩ (.slice (some ⟨g, 0, none⟩) m cr)) (.slice a n c) (t.set k (r.take m)) := by
  obtain ⟨ps, h1, h2⟩ := h.own
  have hk := (List.getElem?_eq_some_iff.1 hr).1
  obtain ⟨ob, ar, cr, ha, hn, hob, c0, o1, htop, -⟩ := h.slot hr
  obtain ⟨z, b, off, hz, hab, hb, hrc, cz⟩ := (o1.rw encN_len).atN (i := 0) h0
  obtain ⟨g, y, hg, hlo, hc, hy, hf⟩ := OwN.slot o1 rfl h0
  subst hg
  have hkp : k < ps.length := by rw [h2.len]; exact hk
  have hn2 : n = ps.length := (h1.rw encV_len).len.1
  obtain ⟨p, hp⟩ : ∃ p, ps[k]? = some p := ⟨_, List.getElem?_eq_getElem hkp⟩
  have hf : ∀ l : List Value, l.flatMap encV = l := fun l => by
    induction l with
    | nil => rfl
    | cons x r ih => rw [List.flatMap_cons, ih]; rfl
  subst ha
  have h1' : w.ownsRow lo 70 1 (.slice (some ⟨ob, 0, none⟩) n c) n ps := by
    have q := h1
    unfold OwR Ow at q
    rw [hf, ← hn2] at q
    exact q
  have hlo2 := (World.ownsRow.lt h1' ob rfl).1
  have hpc : p = .slice (some ⟨g, 0, none⟩) r.length cr := by
    have e := h1'.cellAt k (by omega)
    rw [hp, c0] at e
    exact (Option.some.inj e).symm
  subst hpc
  refine ⟨ob, g, cr, rfl, hn, hob, hlo2, hrc, c0, h1'.frozenAt k, fun m hm => ⟨⟨ps.set k (.slice (some ⟨g, 0, none⟩) m cr), ?_, ?_⟩, h.top⟩⟩
  · have hst := (h1'.stored k (.slice (some ⟨g, 0, none⟩) m cr)).1
    unfold OwR Ow
    rw [hf, List.length_set, ← hn2]
    exact hst
  · have hG := (h1'.stored k (.slice (some ⟨g, 0, none⟩) m cr)).2
    have h3 := h2.other (T := 70) (b := some ob) (fun q e => by cases e; exact h1.blkT ob rfl) (by decide) hG
    refine ⟨by simp [h2.len], fun i q s hq hs => ?_, fun q hq g' hg' => ?_, ?_⟩
    · rw [List.getElem?_set] at hq hs
      by_cases e : k = i
      · subst e
        rw [if_pos rfl, if_pos hkp] at hq
        rw [if_pos rfl, if_pos hk] at hs
        cases hq; cases hs
        exact OwN.takeN (h3.ins k _ r hp hr) hm (by simp)
      · rw [if_neg e] at hq hs
        exact h3.ins i q s hq hs
    · rcases List.mem_or_eq_of_mem_set hq with hq | rfl
      · exact h2.top q hq g' hg'
      · exact h2.top _ (List.mem_of_getElem? hp) g' hg'
    · have hap := List.pairwise_iff_getElem.1 h2.apt
      refine List.pairwise_iff_getElem.2 (fun i j hi hj hij g' hg' => ?_)
      have pk : ps[k] = .slice (some ⟨g, 0, none⟩) r.length cr := (List.getElem?_eq_some_iff.1 hp).2
      have key : ∀ (i : Nat) (hi : i < (ps.set k (.slice (some ⟨g, 0, none⟩) m cr)).length) (hi2 : i < ps.length), ((ps.set k (.slice (some ⟨g, 0, none⟩) m cr))[i]).ownBlock = (ps[i]).ownBlock := fun i hi hi2 => by
        rw [List.getElem_set]
        split
        · rename_i e
          subst e
          rw [pk]; rfl
        · rfl
      rw [List.length_set] at hi hj
      rw [key i (by simpa using hi) hi] at hg'
      rw [key j (by simpa using hj) hj]
      exact hap i j hi hj hij g' hg'

/-- While a table is drawn: the cursor, the table. -/
structure Q9 (w W : World) (g : Nat) (v : Value) (xs : List Int) (u : Value) (t : Tb) : Prop where
  c0 : Cur w g v xs
  cur : Cur W g v xs
  grw : w.grownBy W (some g)
  own : OwG w.heap.size W.heap.size W u t
section
variable {w W X : World} {g : Nat} {v u : Value} {xs : List Int} {t : Tb}
theorem Q9.gl (h : Q9 w W g v xs u t) : g < w.heap.size := cur_lt h.c0
theorem Q9.drawn (h : Q9 w W g v xs u t) (hc : Cur X g v xs) (hg : W.grownBy X (some g)) : Q9 w X g v xs u t := by
  have := h.gl
  exact ⟨h.c0, hc, grown_trans h.grw hg, (h.own.trn (Trn.of_grown hg) (fun i e => by cases e; omega)).mono (Nat.le_refl _) hg.size⟩
theorem Q9.later (h : Q9 w W g v xs u t) (b : Below W.heap.size W X) : Q9 w X g v xs u t :=
  ⟨h.c0, h.cur.later b (Nat.le_refl _), grown_trans h.grw ⟨b.os, b.tape, b.output, b.size, fun k hk _ => b.block k hk⟩, (h.own.later b).mono (Nat.le_refl _) b.size⟩
theorem Q9.new (h : Q9 w W g v xs u t) {u2 : Value} {t2 : Tb} (b : Below W.heap.size W X) (o : OwG W.heap.size X.heap.size X u2 t2) : Q9 w X g v xs u2 t2 :=
  have k := h.later b
  ⟨k.c0, k.cur, k.grw, o.mono h.grw.size (Nat.le_refl _)⟩
theorem Q9.set (h : Q9 w W g v xs u t) {q o : Nat} {z : Value} {t2 : Tb} (hq : w.heap.size ≤ q) (ho : OwG w.heap.size W.heap.size (W.setCell ⟨q, o, none⟩ z) u t2) : Q9 w (W.setCell ⟨q, o, none⟩ z) g v xs u t2 := by
  have hg := h.gl
  have G : w.grownBy (W.setCell ⟨q, o, none⟩ z) (some g) := grown_far h.grw (a := ⟨q, o, none⟩) hq z
  exact ⟨h.c0, cur_far h.c0 h.cur G (heap_setCell_other _ _ _ _ (by show g ≠ q; omega)), G, by rw [show (W.setCell ⟨q, o, none⟩ z).heap.size = W.heap.size by simp]; exact ho⟩
end
/-- Rows of five. -/
def Fiv (t : Tb) : Prop := ∀ r ∈ t, r.length = 5
theorem fiv_new (n : Int) : Fiv (newT n) := fun r hr => by
  unfold newT at hr
  split at hr
  · rw [List.eq_of_mem_replicate hr]; rfl
  · simp at hr
theorem fiv_add {t : Tb} (h : Fiv t) (k : Int) (ms : List Flr) : Fiv (addT t k ms) := fun r hr => by
  unfold addT at hr
  split at hr
  · rename_i q
    rcases List.mem_or_eq_of_mem_set hr with hr | rfl
    · exact h r hr
    · rw [putMs_len]
      simp only [addOk, inB, Bool.and_eq_true, decide_eq_true_eq] at q
      obtain ⟨s, hs⟩ : ∃ s, t[k.toNat]? = some s := ⟨_, List.getElem?_eq_getElem (by omega)⟩
      have e : rowT t k = s := by unfold rowT; rw [List.getD_eq_getElem?_getD, hs]; rfl
      rw [e]
      exact h s (List.mem_of_getElem? hs)
  · exact h r hr
theorem tot_le5 : ∀ {t : Tb}, (∀ r ∈ t, r.length ≤ 5) → totG t ≤ 5 * t.length
  | [], _ => by simp [totG]
  | r :: t, h => by
    have h1 := h r (by simp)
    have h2 := tot_le5 (t := t) (fun s hs => h s (by simp [hs]))
    rw [totG, List.length_cons]; omega
set_option maxHeartbeats 4000000 in
set_option maxRecDepth 100000 in
theorem l9right_any (g : Nat) (v : Value) (xs : List Int) (w : World) (hlen : xs.length ≤ 1048576) (hbd : ∀ z ∈ xs, 0 ≤ z ∧ z ≤ 255) (hc : Cur w g v xs) :
    Calls Tryz.prog 62 #[.pointer (some ⟨g, 0, none⟩)] w fun e w' => ∃ a n c t, e = .returned (.slice a n c) ∧ 1 ≤ n ∧ n ≤ 4 ∧ Fiv t ∧ Q9 w w' g v xs (.slice a n c) t := by
  have HD := hide hbd
  have HC := hide hc
  clear hbd hc
  go_enter Tryz.func62, Tryz.ntmps62
  go_wp2_with fail
  refine (below_any g v xs 4 _ hlen (unhide HD) (by omega) (by omega) (unhide HC)).mono ?_
  rintro e w1 ⟨⟨q, rfl, hq0, hq1⟩, c1, g1⟩
  obtain ⟨q, rfl⟩ := Int.eq_ofNat_of_zero_le hq0
  have C1 := hide c1
  have G1 := hide g1
  have hq3 : q ≤ 3 := by omega
  clear c1 g1 hq0 hq1
  go_wp2_with fail
  refine (stablenew_any (1 + (q : Int)) w1).mono ?_
  rintro e w2 ⟨a, m, c, rfl, o2, b2⟩
  obtain ⟨n, hn⟩ : ∃ n, n = q + 1 := ⟨_, rfl⟩
  obtain rfl : m = n := by
    rw [o2.rw.len.1]
    unfold newT
    rw [if_pos (by simp [inB]; omega)]
    simp; omega
  have H2 : Hid (Q9 w w2 g v xs (.slice a m c) (newT (1 + (q : Int)))) := hide ⟨unhide HC, (unhide C1).later b2 (Nat.le_refl _), grown_trans (unhide G1) ⟨b2.os, b2.tape, b2.output, b2.size, fun k hk _ => b2.block k hk⟩, o2.mono (unhide G1).size (Nat.le_refl _)⟩
  have HF : Hid (Fiv (newT (1 + (q : Int)))) := hide (fiv_new _)
  have hqn : (1 + (q : Int)) = (m : Int) := by omega
  have hm4 : m ≤ 4 := by omega
  have hm1 : 1 ≤ m := by omega
  generalize newT (1 + (q : Int)) = t0 at H2 HF
  rw [hqn]
  clear o2 b2 C1 G1 hn hqn hq3
  go_wp2
  go_loopw [4, 5] (fun u i wr => ∃ (k : Nat) (a : Option Addr) (c : Nat) (t : Tb), k ≤ m ∧ i = .int .i64 k ∧ u = .slice a m c ∧ Fiv t ∧ Q9 w wr g v xs (.slice a m c) t) (fun _ i _ => m - (intOf i).toNat)
  case atStart => exact ⟨0, _, _, _, Nat.zero_le _, rfl, rfl, unhide HF, unhide H2⟩
  case round =>
    obtain ⟨k, a, c, t, hk, rfl, rfl, hfv, hq⟩ := hrel
    have HQ := hide hq
    have HFV := hide hfv
    clear hq hfv H2 HF
    by_cases hlt : k < m
    · go_wp2_with fail
      refine (l3right_any g v xs wr hlen (unhide HD) (unhide HQ).cur).mono ?_
      rintro e w3 ⟨a1, n1, c1, a2, n2, c2, its, fls, rfl, d, hl1, hl2⟩
      have HQ3 := hide ((unhide HQ).drawn d.cu d.gr)
      have RI := hide (d.oi.rw encI_len)
      have RF := hide (d.of.rw encF_len)
      have hn1 : n1 ≤ 5 := by rw [(d.oi.rw encI_len).len.1]; exact hl1
      have hn2 : n2 ≤ 5 := by rw [(d.of.rw encF_len).len.1]; exact hl2
      clear d hl1 hl2
      go_wp2_with fail
      refine (smarksof_any a1 n1 c1 its a2 n2 c2 fls w3 (by omega) (by omega) (unhide RI) (unhide RF)).mono ?_
      rintro e w4 ⟨ma, mc, rfl, o4, b4⟩
      have HQ4 := hide ((unhide HQ3).later b4)
      have RM := hide (o4.rw encF_len)
      have hml := mks_len its fls
      have htt : totG t ≤ 20 := by
        have h1 := (unhide HQ4).own.rw.len.1
        have h2 := tot_le5 (t := t) (fun r hr => by rw [unhide HFV r hr]; omega)
        omega
      clear o4 b4 HQ3 HQ
      go_wp2_with fail
      refine (stableadd_any a m c t (k : Int) ma _ mc (mks its fls) w4 (by omega) (by omega) (by omega) (unhide HQ4).own.rw (unhide RM)).mono ?_
      rintro e w5 ⟨a', c', rfl, o5, b5⟩
      have HQ5 := hide ((unhide HQ4).new b5 o5)
      have HF5 := hide (fiv_add (unhide HFV) (k : Int) (mks its fls))
      clear o5 b5 HQ4
      go_wp2
      go_roundw
      case rel => exact ⟨k + 1, _, _, _, by omega, by go_num, rfl, unhide HF5, unhide HQ5⟩
      case measure => simp [intOf]; omega
    · go_wp2
      go_ret
      exact ⟨_, m, _, t, rfl, hm1, hm4, unhide HFV, unhide HQ⟩
theorem pick2_9 (g : Nat) (v : Value) (xs : List Int) (W : World) (hlen : xs.length ≤ 1048576) (hbd : ∀ z ∈ xs, 0 ≤ z ∧ z ≤ 255) (hc : Cur W g v xs) :
    Calls Tryz.prog 61 #[.pointer (some ⟨g, 0, none⟩), .slice (some ⟨W.heap.size, 0, none⟩) 2 2] (W.alloc (.cells #[.int .i64 (-1), .int .i64 1001] 3)) fun e w' => (∃ z, e = .returned (.int .i64 z)) ∧ Cur w' g v xs ∧ (W.alloc (.cells #[.int .i64 (-1), .int .i64 1001] 3)).grownBy w' (some g) := by
  have hg : g < W.heap.size := by obtain ⟨⟨i, k, hg, _⟩, _⟩ := hc; exact (Array.getElem?_eq_some_iff.1 hg).1
  refine (pickint_any g v xs (.slice (some ⟨W.heap.size, 0, none⟩) 2 2) [.int .i64 (-1), .int .i64 1001] _ hlen hbd (hc.later ((Below.refl W.heap.size W).alloc (Nat.le_refl _) _) (Nat.le_refl _)) (seg_new W 3 [.int .i64 (-1), .int .i64 1001] 2 rfl (by omega)) (fun a n c e => by simp only [Value.slice.injEq, Option.some.injEq] at e; rw [← e.1]; show W.heap.size ≠ g; omega) (by simp) (by simp)).mono ?_
  rintro e w1 ⟨⟨x, hx, rfl⟩, c1, g1⟩
  refine ⟨?_, c1, g1⟩
  simp only [List.mem_cons, List.not_mem_nil, or_false] at hx
  rcases hx with rfl | rfl
  all_goals exact ⟨_, rfl⟩
theorem pick3_9 (g : Nat) (v : Value) (xs : List Int) (W : World) (hlen : xs.length ≤ 1048576) (hbd : ∀ z ∈ xs, 0 ≤ z ∧ z ≤ 255) (hc : Cur W g v xs) :
    Calls Tryz.prog 61 #[.pointer (some ⟨g, 0, none⟩), .slice (some ⟨W.heap.size, 0, none⟩) 3 3] (W.alloc (.cells #[.int .i64 0, .int .i64 1, .int .i64 1001] 3)) fun e w' => (∃ z, e = .returned (.int .i64 z)) ∧ Cur w' g v xs ∧ (W.alloc (.cells #[.int .i64 0, .int .i64 1, .int .i64 1001] 3)).grownBy w' (some g) := by
  have hg : g < W.heap.size := by obtain ⟨⟨i, k, hg, _⟩, _⟩ := hc; exact (Array.getElem?_eq_some_iff.1 hg).1
  refine (pickint_any g v xs (.slice (some ⟨W.heap.size, 0, none⟩) 3 3) [.int .i64 0, .int .i64 1, .int .i64 1001] _ hlen hbd (hc.later ((Below.refl W.heap.size W).alloc (Nat.le_refl _) _) (Nat.le_refl _)) (seg_new W 3 [.int .i64 0, .int .i64 1, .int .i64 1001] 3 rfl (by omega)) (fun a n c e => by simp only [Value.slice.injEq, Option.some.injEq] at e; rw [← e.1]; show W.heap.size ≠ g; omega) (by simp) (by simp)).mono ?_
  rintro e w1 ⟨⟨x, hx, rfl⟩, c1, g1⟩
  refine ⟨?_, c1, g1⟩
  simp only [List.mem_cons, List.not_mem_nil, or_false] at hx
  rcases hx with rfl | rfl | rfl
  all_goals exact ⟨_, rfl⟩
theorem fiv_le {t : Tb} (h : Fiv t) : ∀ r ∈ t, r.length ≤ 5 := fun r hr => by rw [h r hr]; exact Nat.le_refl _
theorem set_le {t : Tb} (h : ∀ r ∈ t, r.length ≤ 5) (k : Nat) {s : List Int} (hs : s.length ≤ 5) : ∀ r ∈ t.set k s, r.length ≤ 5 := fun r hr => by
  rcases List.mem_or_eq_of_mem_set hr with hr | rfl
  · exact h r hr
  · exact hs
theorem keep9 {w5 W : World} {b o : Nat} {v : Value} (h : b < w5.heap.size) (c : w5.cell? ⟨b, o, none⟩ = some v) (bl : Below w5.heap.size w5 W) : W.cell? ⟨b, o, none⟩ = some v := (bl.cell (p := ⟨b, o, none⟩) h).trans c
set_option linter.unusedSimpArgs false in
set_option maxHeartbeats 4000000 in
set_option maxRecDepth 100000 in
theorem l9draw_any (g : Nat) (v : Value) (xs : List Int) (w : World) (hlen : xs.length ≤ 1048576) (hbd : ∀ z ∈ xs, 0 ≤ z ∧ z ≤ 255) (hc : Cur w g v xs) :
    Calls Tryz.prog 26 #[.pointer (some ⟨g, 0, none⟩)] w fun e w' => ∃ a n c t, e = .returned (.slice a n c) ∧ n ≤ 4 ∧ (∀ r ∈ t, r.length ≤ 5) ∧ Q9 w w' g v xs (.slice a n c) t := by
  have HD := hide hbd
  have HC := hide hc
  clear hbd hc
  go_enter Tryz.func26, Tryz.ntmps26
  go_wp2_with fail
  refine (l9right_any g v xs w hlen (unhide HD) (unhide HC)).mono ?_
  rintro e w1 ⟨a, n, c, t, rfl, hn1, hn4, hfv, q1⟩
  have Q1 := hide q1
  have HFV := hide hfv
  have htl := q1.own.rw.len.1
  obtain ⟨r0, hr0⟩ : ∃ r, t[0]? = some r := ⟨_, List.getElem?_eq_getElem (by omega)⟩
  have hl0 : r0.length = 5 := hfv r0 (List.mem_of_getElem? hr0)
  have HR0 := hide hr0
  have HL0 := hide hl0
  clear q1 hfv htl hr0 hl0
  go_wp2_with fail
  refine (below_any g v xs 12 _ hlen (unhide HD) (by omega) (by omega) (unhide Q1).cur).mono ?_
  rintro e w2 ⟨⟨q, rfl, hq0, hq1⟩, c2, g2⟩
  have Q2 := hide ((unhide Q1).drawn c2 g2)
  clear c2 g2 hq0 hq1 Q1
  obtain ⟨d0, hd0⟩ : ∃ d, (q == 0) = d := ⟨_, rfl⟩
  obtain ⟨d1, hd1⟩ : ∃ d, (q == 1) = d := ⟨_, rfl⟩
  obtain ⟨d2, hd2⟩ : ∃ d, (q == 2) = d := ⟨_, rfl⟩
  cases d0
  rotate_left
  · obtain ⟨ob, g0, cr, rfl, hnc, hob, hlo, hcr, f0, ff, hput⟩ := (unhide Q2).own.cut (unhide HR0) (by have := unhide HL0; omega)
    rw [unhide HL0] at f0 hcr
    have HP := hide ((unhide Q2).set hlo (hput 3 (by have := unhide HL0; omega)))
    have HLE := hide (set_le (fiv_le (unhide HFV)) 0 (s := r0.take 3) (by simp; omega))
    have hn0 : 0 < n := by omega
    clear hput
    go_wp2
    go_ret
    exact ⟨_, n, c, _, rfl, hn4, unhide HLE, unhide HP⟩
  cases d1
  rotate_left
  · obtain ⟨z0, hz0⟩ : ∃ z, r0[0]? = some z := ⟨_, List.getElem?_eq_getElem (by have := unhide HL0; omega)⟩
    obtain ⟨ob, g0, cr, rfl, hnc, hob, hgb, hlo, hghi, hne, hcr, f0, f1, ff, -⟩ := (unhide Q2).own.cell (unhide HR0) hz0
    rw [unhide HL0] at f0 hcr
    have hn0 : 0 < n := by omega
    have hgl := (unhide Q2).gl
    have HZ := hide hz0
    have hs2 := (unhide Q2).grw.size
    have HQd := hide ((unhide Q2).later (Below.refl _ _).drew)
    have hob2 : w.heap.size ≤ ob := by
      obtain ⟨ps, h1, -⟩ := (unhide Q2).own.own
      exact (World.ownsRow.lt h1 ob rfl).1
    clear f1 hz0
    go_wp2_with fail
    refine wp_region_noPanic ?_
    refine wp_region_held_drew (S := (fun W => W.cell? ⟨ob, 0, none⟩ = some (.slice (some ⟨g0, 0, none⟩) 5 cr))) (by kernel_rfl) ?_ (fun hHeld => ?_)
    · (try dsimp only); exact f0
    refine wpAnyH_take (i := 0) (v := ?v0) (by (simp only [List.getElem?_toArray, List.getElem?_cons_succ, List.getElem?_cons_zero]; rfl)) (by kernel_rfl) (by kernel_rfl) (by kernel_rfl) (fun _ _ _ h => h) (Or.inl ⟨by rfl, ?hy0⟩) (by assumption) ?rest0
    case hy0 => (intro w hSw; (try dsimp only at hSw); go_simp <;> with_reducible rfl)
    (try simp only [Act.put, List.setIfInBounds_toArray, List.set_cons_zero, List.set_cons_succ])
    refine wpAnyH_take (i := 1) (v := ?v1) (by (simp only [List.getElem?_toArray, List.getElem?_cons_succ, List.getElem?_cons_zero]; rfl)) (by kernel_rfl) (by kernel_rfl) (by kernel_rfl) (fun _ _ _ h => h) (Or.inl ⟨by rfl, ?hy1⟩) (by assumption) ?rest1
    case hy1 => (intro w hSw; (try dsimp only at hSw); go_simp <;> with_reducible rfl)
    (try simp only [Act.put, List.setIfInBounds_toArray, List.set_cons_zero, List.set_cons_succ])
    refine wpAnyH_take (i := 2) (v := ?v2) (by (simp only [List.getElem?_toArray, List.getElem?_cons_succ, List.getElem?_cons_zero]; rfl)) (by kernel_rfl) (by kernel_rfl) (by kernel_rfl) (fun _ _ _ h => h) (Or.inl ⟨by rfl, ?hy2⟩) (by assumption) ?rest2
    case hy2 => (intro w hSw; (try dsimp only at hSw); go_simp <;> with_reducible rfl)
    (try simp only [Act.put, List.setIfInBounds_toArray, List.set_cons_zero, List.set_cons_succ])
    refine wpAnyH_take (i := 3) (v := ?v3) (by (simp only [List.getElem?_toArray, List.getElem?_cons_succ, List.getElem?_cons_zero]; rfl)) (by kernel_rfl) (by kernel_rfl) (by kernel_rfl) (fun _ _ _ h => h) (Or.inl ⟨by rfl, ?hy3⟩) (by assumption) ?rest3
    case hy3 => (intro w hSw; (try dsimp only at hSw); go_simp <;> with_reducible rfl)
    (try simp only [Act.put, List.setIfInBounds_toArray, List.set_cons_zero, List.set_cons_succ])
    refine wpAnyH_ready (rs := [4]) (by kernel_rfl) (by simp) ?_
    refine AllReadyH.cons (by (simp only [List.getElem?_toArray, List.getElem?_cons_succ, List.getElem?_cons_zero]; rfl)) (fun K hK => ?_) AllReadyH.nil
    go_simp
    refine hK.out _ _ ?_ (fun hHeldN => ?_)
    · (try dsimp only); exact keep9 (w5 := w2.drew) hob hHeld ((Below.refl _ _).alloc (Nat.le_refl _) _)
    clear hK K hHeld
    have hHeld := hHeldN; clear hHeldN
    (try simp only [Act.put, List.setIfInBounds_toArray, List.set_cons_zero, List.set_cons_succ])
    refine wpAnyH_ready (rs := [5]) (by kernel_rfl) (by simp) ?_
    refine AllReadyH.cons (by (simp only [List.getElem?_toArray, List.getElem?_cons_succ, List.getElem?_cons_zero]; rfl)) (fun K hK => ?_) AllReadyH.nil
    go_simp
    refine (pick2_9 g v xs w2.drew hlen (unhide HD) (unhide HQd).cur).mono ?_
    rintro e w5 ⟨⟨z, rfl⟩, c5, g5⟩
    have HQ5 := hide (((unhide HQd).later ((Below.refl _ _).alloc (Nat.le_refl _) (.cells #[.int .i64 (-1), .int .i64 1001] 3))).drawn c5 g5)
    have f5 : w5.cell? ⟨ob, 0, none⟩ = some (.slice (some ⟨g0, 0, none⟩) 5 cr) := (World.cell?_of_block (g5.block ob (by simp; omega) (fun e => by simp at e; omega))).trans hHeld
    have HPUT : Hid (OwG w.heap.size w5.heap.size (w5.setCell ⟨g0, 0, none⟩ (.int .i64 z)) (.slice (some ⟨ob, 0, none⟩) n c) (t.set 0 (r0.set 0 z)) ∧ (∃ y, w5.cell? ⟨g0, 0, none⟩ = some y) ∧ w5.frozen? ⟨g0, 0, none⟩ = false) := by
      obtain ⟨ob', g0', cr', e1, -, -, -, -, -, -, -, f0', f1', ff', hput⟩ := (unhide HQ5).own.cell (unhide HR0) (unhide HZ)
      simp only [Option.some.injEq, Addr.mk.injEq] at e1
      obtain ⟨rfl, -⟩ := e1
      rw [unhide HL0] at f0'
      rw [f5] at f0'
      simp only [Option.some.injEq, Value.slice.injEq, Addr.mk.injEq] at f0'
      obtain ⟨⟨rfl, -⟩, -, rfl⟩ := f0'
      exact hide ⟨hput z, ⟨_, f1'⟩, ff'⟩
    obtain ⟨y5, f1⟩ := (unhide HPUT).2.1
    have ff5 := (unhide HPUT).2.2
    have HPUT := hide (unhide HPUT).1
    clear c5 g5
    (try go_wp2_with fail)
    refine hK.out _ _ ?_ (fun hHeldN => ?_)
    · (try dsimp only); exact f5
    clear hK K hHeld
    have hHeld := hHeldN; clear hHeldN
    (try simp only [Act.put, List.setIfInBounds_toArray, List.set_cons_zero, List.set_cons_succ])
    refine wpAnyH_take (i := 6) (v := ?v6) (by (simp only [List.getElem?_toArray, List.getElem?_cons_succ, List.getElem?_cons_zero]; rfl)) (by kernel_rfl) (by kernel_rfl) (by kernel_rfl) (fun _ _ _ h => h) (Or.inl ⟨by rfl, ?hy6⟩) (by assumption) ?rest6
    case hy6 => (intro w hSw; (try dsimp only at hSw); go_simp <;> with_reducible rfl)
    (try simp only [Act.put, List.setIfInBounds_toArray, List.set_cons_zero, List.set_cons_succ])
    refine wpAnyH_ready (rs := [7]) (by kernel_rfl) (by simp) ?_
    refine AllReadyH.cons (by (simp only [List.getElem?_toArray, List.getElem?_cons_succ, List.getElem?_cons_zero]; rfl)) (fun K hK => ?_) AllReadyH.nil
    go_simp
    refine hK.out _ _ ?_ (fun hHeldN => ?_)
    · (try dsimp only); exact keepC hne hHeld
    clear hK K hHeld
    have hHeld := hHeldN; clear hHeldN
    (try simp only [Act.put, List.setIfInBounds_toArray, List.set_cons_zero, List.set_cons_succ])
    refine wpAnyH_done (by kernel_rfl) ?_ _
    refine NoPanic.normal ?_
    clear hHeld
    have HL5 := hide (set_le (fiv_le (unhide HFV)) 0 (s := r0.set 0 z) (by simp; have := unhide HL0; omega))
    have HP := hide ((unhide HQ5).set (by omega : w.heap.size ≤ g0) (unhide HPUT))
    go_wp2
    go_ret
    exact ⟨_, n, c, _, rfl, hn4, unhide HL5, unhide HP⟩
  cases d2
  · go_wp2
    go_ret
    exact ⟨_, n, c, t, rfl, hn4, fiv_le (unhide HFV), unhide Q2⟩
  · have HN : Hid (Q9 w w2 g v xs (.slice none 0 0) []) := hide ⟨(unhide Q2).c0, (unhide Q2).cur, (unhide Q2).grw, OwG.nil _ _ _⟩
    go_wp2
    go_ret
    exact ⟨none, 0, 0, [], rfl, by omega, fun r hr => by simp at hr, unhide HN⟩
theorem l9own {base g : Nat} {w W : World} {E : TypeId} {k : Nat} {α : Type} {enc : α → List Value} {v : Value} {ms : List α} (h : Ow enc k E base w v ms) (hg : w.grownBy W (some g)) (hb : g < base) : Ow enc k E base W v ms :=
  (Trn.of_grown hg).own h (fun i q e => by cases e; have := (World.ownsRow.lt h _ q).1; omega)
theorem l9far {w X Y : World} {g : Nat} {E : TypeId} {k : Nat} {α : Type} {enc : α → List Value} {u : Value} {ms : List α} (hg : w.grownBy X (some g)) (h : Ow enc k E w.heap.size X u ms) (hG : X.grownBy Y u.ownBlock) : w.grownBy Y (some g) :=
  ⟨hG.os.trans hg.os, hG.tape.trans hg.tape, hG.output.trans hg.output, Nat.le_trans hg.size hG.size, fun i hi hne => (hG.block i (Nat.lt_of_lt_of_le hi hg.size) (fun q => by have := (World.ownsRow.lt h i q.symm).1; omega)).trans (hg.block i hi hne)⟩
theorem l9cur {w X Y : World} {g : Nat} {v u : Value} {xs : List Int} {E : TypeId} {k : Nat} {α : Type} {enc : α → List Value} {ms : List α} (hc0 : Cur w g v xs) (hg : w.grownBy X (some g)) (hc : Cur X g v xs) (h : Ow enc k E w.heap.size X u ms) (hgl : g < w.heap.size) (hG : X.grownBy Y u.ownBlock) : Cur Y g v xs := by
  have hY := l9far hg h hG
  obtain ⟨⟨i, q, hk, hi⟩, _, hne⟩ := hc
  exact ⟨⟨i, q, (hG.block g (Array.getElem?_eq_some_iff.1 hk).1 (fun q => by have := (World.ownsRow.lt h g q.symm).1; omega)).trans hk, hi⟩, hc0.2.1.grown hY hne, hne⟩
theorem below_cur9 {w w1 w2 : World} (b1 : Below w.heap.size w w1) (hg : w1.grownBy w2 (some w.heap.size)) : Below w.heap.size w w2 :=
  b1.grown hg b1.size (fun k hk => by simp at hk; omega)
end Go.Proofs.YtighiahppjekeaaGreatDoor
