/-
  spec.l3Draw: some state of at most six items and floors, with short texts; the cursor goes on, nothing else turns. No statement is proved here.
  spec.l7Draw: some log of at most six changes; the cursor goes on, nothing else turns. No statement is proved here.
  What the specification draws for a log: a log and a state; a log and a number. No statement is proved here.
  A log that was dropped of: the program's. No statement is proved here.
  The program's joinFloors. No statement is proved here.
  A map from nodes to entries, as a function. No statement is proved here.
  The program's joinItems and dropOver: what they do to the map. No statement is proved here.
  What the map holds behind both states' items and the floors: the joined items. No program here, no statement is proved here.
-/
import Derived.Test.YtdpaocikmijioacL3Q
import Derived.Deep.RegionWith
import Derived.Test.YtdpaocikmijioacStSg
import Derived.Test.YtdpaocikmijioacStJP
import Derived.Test.YtdpaocikmijioacApp2
import Derived.Test.YtdpaocikmijioacIStOk
import Derived.Test.YtdpaocikmijioacStT
import Derived.Test.YtdpaocikmijioacStM
import Derived.Test.YtdpaocikmijioacStO
import Derived.Maps.RangeWalk
import Derived.Maps.OwnSet
import Derived.Maps.OwnOps
import Derived.Maps.Ext
import Derived.Test.YtdpaocikmijioacSt3
import Derived.Deep.RegionHeld3
import Derived.Test.YtdpaocikmijioacVwP
namespace Go.Proofs.Ytdpaocikmijioac
open Go.RowKit

set_option maxHeartbeats 8000000 in
set_option maxRecDepth 100000 in
theorem l3draw_any (g : Nat) (v : Value) (xs : List Int) (w : World) (hlen : xs.length ≤ 1048576) (hbd : ∀ z ∈ xs, 0 ≤ z ∧ z ≤ 255) (hc : Cur w g v xs) :
    Calls Try.prog 40 #[.pointer (some ⟨g, 0, none⟩)] w fun e w' => ∃ a1 n1 c1 a2 n2 c2 its fls, e = .returned (.agg #[.slice a1 n1 c1, .slice a2 n2 c2]) ∧ D3 w w' g v xs (.slice a1 n1 c1) (.slice a2 n2 c2) its fls := by
  obtain ⟨i0, hi, hz0, hz1, hz2⟩ := info_parts Try.infoItem
  obtain ⟨i1, gi, gz0, gz1, gz2⟩ := info_parts Try.infoFloor
  have HD := hide hbd
  have HC := hide hc
  have C0 := hide (cur_alloc hc (StB (.slice none 0 0) (.slice none 0 0)))
  clear hbd hc
  go_enter Try.func40, Try.ntmps40
  go_wp2_with fail
  refine (l3right_any g v xs _ hlen (unhide HD) (unhide C0)).mono ?_
  rintro e w1 ⟨a1, n1, c1, a2, n2, c2, its, fls, rfl, d, l1, l2⟩
  have R1 := hide (R3.of_draw rfl (unhide HC) d l1 l2)
  clear d l1 l2 C0
  go_wp2_with fail
  refine (below_any g v xs 14 _ hlen (unhide HD) (by omega) (by omega) (unhide R1).cu).mono ?_
  rintro e w2 ⟨⟨n, rfl, na, nb⟩, c2', g2⟩
  have R2 := hide ((unhide R1).call c2' g2)
  have RD := hide (unhide R2).drew
  have e1 := ((unhide R2).oi.rw encI_len).len.1
  have e2 := ((unhide R2).of.rw encF_len).len.1
  have l1 := (unhide R2).li
  have l2 := (unhide R2).lf
  obtain ⟨h1, h2⟩ : n1 ≤ 5 ∧ n2 ≤ 5 := by omega
  have E1 := hide e1
  have E2 := hide e2
  have hw2 := (unhide R2).gr.size
  have hbl2 := (unhide R2).bl
  clear e1 e2 l1 l2 c2' g2 R1
  obtain ⟨p0, p1, p2⟩ := blk_cells2 (unhide R2).k1
  by_cases h0 : n = 0
  · subst h0
    go_upto_region 4 with fail
    go_region_law (first
      | (go_simp; go_at_call_of 78 (Value.int IntKind.i64 7); refine (below_any g v xs 7 _ hlen (unhide HD) (by omega) (by omega) (unhide RD).cu).mono ?_; rintro e w3 ⟨⟨x3, rfl, x3a, x3b⟩, c3, g3⟩; have RX := hide ((unhide RD).call c3 g3); have zbRX := (unhide RX).bl; have zsRX := (unhide RX).gr.size; obtain ⟨p0, p1, p2⟩ := blk_cells2 (unhide RX).k1; clear c3 g3)
      | (go_simp; go_at_call 81; refine (draw_any g v xs _ hlen (unhide HD) (unhide RX).cu).mono ?_; rintro e w4 ⟨⟨ai, ar, ab, av, ad, rfl, had⟩, c4, g4⟩; have RY := hide ((unhide RX).call c4 g4); have HN := hide had; have zbRY := (unhide RY).bl; have zsRY := (unhide RY).gr.size; obtain ⟨p0, p1, p2⟩ := blk_cells2 (unhide RY).k1; clear c4 g4 had)
      | (refine step_app1 encI_len (by omega) oneI 75 27 i0 _ 56 Try.underlying27 hi hz0 hz1 hz2 rfl (by omega) w4 (IntKind.i64.wrap (x3 - 1), ((ai, ar, ab, av, ad) : Key)) rfl _ _ rfl w.heap.size _ its n1 E1 rfl (unhide RY).oi rfl (by omega) (by omega) ?_; intro a5 c5 w5 hO hG; have RZ := hide ((unhide RY).appI (m' := 6) hO hG (by omega) (by simp; have := (unhide RY).li; omega) (nine_app (unhide RY).ni (unhide HN))); obtain ⟨p0, p1, p2⟩ := blk_cells2 ((unhide RY).turn hG (unhide RY).rowI).2.2.2; clear hO hG))
    all_goals clear p0 p1 p2
    all_goals
      obtain ⟨s0, s1, s2⟩ := blk_cells2 (unhide RZ).k1
      obtain ⟨q0, q1, q2⟩ := blk_cells2 (unhide RZ).k0
      have F := hide ((unhide RZ).fin (by omega))
      clear RZ
      go_wp2
      exact bodyPost_ret (v := .agg #[(.slice a5 (n1 + 1) c5), (.slice a2 n2 c2)]) (by simp [results, Try.results40, go_sem, q0, q1]) rfl ⟨_, _, _, _, _, _, _, _, rfl, unhide F⟩
  have e0 : (n == 0) = false := by simpa using h0
  by_cases h1' : n = 1
  · subst h1'
    go_upto_region 6 with fail
    have SGA := hide (seg_new w2.drew 3 [.int .i64 0, .int .i64 1, .int .i64 5, .int .i64 1001] 4 rfl (by decide))
    have hgl : g < w2.heap.size := Nat.lt_of_lt_of_le (unhide R2).gl hw2
    have NE := hide (ne_new (k := w2.drew.heap.size) hgl 4 4)
    go_region_law (first
      | (go_simp; go_at_call 78; refine (below_any g v xs 7 w2.drew hlen (unhide HD) (by omega) (by omega) (unhide RD).cu).mono ?_; rintro e w3 ⟨⟨x3, rfl, xa, xb⟩, c3, g3⟩; have RX := hide ((unhide RD).call c3 g3); have zx : g < w3.heap.size := Nat.lt_of_lt_of_le (unhide RX).gl (unhide RX).gr.size; have zbX := (unhide RX).bl; have SGX := hide (seg_new w3 3 [.int .i64 0, .int .i64 1, .int .i64 5, .int .i64 1001] 4 rfl (by decide)); have RXA := hide (unhide (R3.allocH RX (.cells ([.int .i64 0, .int .i64 1, .int .i64 5, .int .i64 1001] : List Value).toArray 3))); have zs := (unhide RX).gr.size; obtain ⟨p0, p1, p2⟩ := blk_cells2 (unhide RX).k1; clear c3 g3)
      | (go_simp; go_at_call 78; refine (below_any g v xs 7 (w2.drew.alloc (.cells ([.int .i64 0, .int .i64 1, .int .i64 5, .int .i64 1001] : List Value).toArray 3)) hlen (unhide HD) (by omega) (by omega) (unhide (R3.allocH RD _)).cu).mono ?_; rintro e w3 ⟨⟨x3, rfl, xa, xb⟩, c3, g3⟩; have RXA := hide ((unhide (R3.allocH RD _)).call c3 g3); have SGY := hide (segv_grown (unhide SGA) g3 (unhide NE)); have zbX := (unhide RXA).bl; have zs := (unhide RXA).gr.size; obtain ⟨p0, p1, p2⟩ := blk_cells2 (unhide RXA).k1; clear c3 g3)
      | (go_simp; go_at_call 79; refine (pickint_any g v xs (.slice (some ⟨w2.drew.heap.size, 0, none⟩) 4 4) [.int .i64 0, .int .i64 1, .int .i64 5, .int .i64 1001] w3 hlen (unhide HD) (unhide RXA).cu (unhide SGY) (unhide NE) (by decide) (by decide)).mono ?_; rintro e w5 ⟨⟨c, hcm, rfl⟩, c5, g5⟩; obtain ⟨q, rfl⟩ := pick4 hcm; have RY := hide ((unhide RXA).call c5 g5); have zbY := (unhide RY).bl; have zsY := (unhide RY).gr.size; obtain ⟨p0, p1, p2⟩ := blk_cells2 (unhide RY).k1; clear c5 g5 hcm)
      | (go_simp; go_at_call 79; refine (pickint_any g v xs (.slice (some ⟨w3.heap.size, 0, none⟩) 4 4) [.int .i64 0, .int .i64 1, .int .i64 5, .int .i64 1001] (w3.alloc (.cells ([.int .i64 0, .int .i64 1, .int .i64 5, .int .i64 1001] : List Value).toArray 3)) hlen (unhide HD) (unhide RXA).cu (unhide SGX) (ne_new zx _ _) (by decide) (by decide)).mono ?_; rintro e w5 ⟨⟨c, hcm, rfl⟩, c5, g5⟩; obtain ⟨q, rfl⟩ := pick4 hcm; have RY := hide ((unhide RXA).call c5 g5); have zbY := (unhide RY).bl; have zsY := (unhide RY).gr.size; obtain ⟨p0, p1, p2⟩ := blk_cells2 (unhide RY).k1; clear c5 g5 hcm)
      | (refine step_app1 encF_len (by omega) oneF 78 28 i1 _ 16 Try.underlying28 gi gz0 gz1 gz2 rfl (by omega) w5 (IntKind.i64.wrap (x3 - 1), q) rfl _ _ rfl w.heap.size _ fls n2 E2 rfl (unhide RY).of rfl (by omega) (by omega) ?_; intro a5 c5 w6 hO hG; have RZ := hide ((unhide RY).appF (m' := 6) hO hG (by omega) (by simp; have := (unhide RY).lf; omega)); obtain ⟨p0, p1, p2⟩ := blk_cells2 ((unhide RY).turn hG (unhide RY).rowF).2.2.2; clear hO hG))
    all_goals clear p0 p1 p2
    all_goals
      obtain ⟨s0, s1, s2⟩ := blk_cells2 (unhide RZ).k1
      obtain ⟨q0, q1, q2⟩ := blk_cells2 (unhide RZ).k0
      have F := hide ((unhide RZ).fin (by omega))
      clear RZ
      go_wp2
      exact bodyPost_ret (v := .agg #[(.slice a1 n1 c1), (.slice a5 (n2 + 1) c5)]) (by simp [results, Try.results40, go_sem, q0, q1]) rfl ⟨_, _, _, _, _, _, _, _, rfl, unhide F⟩
  have e1 : (n == 1) = false := by simpa using h1'
  by_cases h2' : n = 2
  · subst h2'
    by_cases hp : 0 < n1
    · obtain ⟨q, cap, hq, hqb, hql⟩ := World.ownsRow.form (unhide R2).oi (by have := unhide E1; omega)
      simp only [Value.slice.injEq] at hq
      obtain ⟨rfl, -, rfl⟩ := hq
      have hd : decide (0 < (n1 : Int)) = true := by simp; omega
      go_upto_region 9 with fail
      go_region_law (first
        | (go_simp; go_at_call 78; refine (below_any g v xs (n1 : Int) _ hlen (unhide HD) (by omega) (by omega) (unhide RD).cu).mono ?_; rintro e w3 ⟨⟨x3, rfl, xa, xb⟩, c3, g3⟩; obtain ⟨k, rfl⟩ := Int.eq_ofNat_of_zero_le xa; have hk : k < n1 := (by omega); have RX := hide ((unhide RD).call c3 g3); have zbX := (unhide RX).bl; obtain ⟨p0, p1, p2⟩ := blk_cells2 (unhide RX).k1; clear c3 g3)
        | (go_simp; go_at_call 81; refine (draw_any g v xs _ hlen (unhide HD) (unhide RX).cu).mono ?_; rintro e w4 ⟨⟨ai, ar, ab, av, ad, rfl, had⟩, c4, g4⟩; have RY := hide ((unhide RX).call c4 g4); have RZ := hide ((unhide RY).ent hk ((ai, ar, ab, av, ad) : Key) had); obtain ⟨y0, y1, y2, y3, y4, y5, t0, t1, t2, t3, t4, t5, tf⟩ := items_cells (unhide RY).oi hk; have zbY := (unhide RY).bl; obtain ⟨p0, p1, p2⟩ := blk_cells2 (unhide RY).k1; clear c4 g4 had))
      all_goals clear p0 p1 p2 t0 t1 t2 t3 t4 t5 tf
      all_goals
        obtain ⟨wz, hwz⟩ : ∃ W, W = (((((w4.setCell ⟨q, k * 6 + 1, none⟩ (.int .i64 ai)).setCell ⟨q, k * 6 + 1 + 1, none⟩ (.int .i64 ar)).setCell ⟨q, k * 6 + 1 + 2, none⟩ (.int .i64 ab)).setCell ⟨q, k * 6 + 1 + 3, none⟩ (.int .i64 av)).setCell ⟨q, k * 6 + 1 + 4, none⟩ (.string ad)) := ⟨_, rfl⟩
        rw [← hwz]
        have rz : ∃ is', R3 5 w wz g v xs w.heap.size w1.heap.size (.slice (some ⟨q, 0, none⟩) n1 c1) (.slice a2 n2 c2) is' fls := by rw [hwz]; exact unhide RZ
        obtain ⟨is', rz'⟩ := rz
        have RW := hide rz'
        clear rz' RZ hwz
        obtain ⟨s0, s1, s2⟩ := blk_cells2 (unhide RW).k1
        obtain ⟨q0, q1, q2⟩ := blk_cells2 (unhide RW).k0
        have F := hide ((unhide RW).fin (by omega))
        clear RW
        go_wp2
        exact bodyPost_ret (v := .agg #[(.slice (some ⟨q, 0, none⟩) n1 c1), (.slice a2 n2 c2)]) (by simp [results, Try.results40, go_sem, q0, q1]) rfl ⟨_, _, _, _, _, _, _, _, rfl, unhide F⟩
    · have hd : decide (0 < (n1 : Int)) = false := by simp; omega
      obtain ⟨s0, s1, s2⟩ := blk_cells2 (unhide R2).k1
      obtain ⟨q0, q1, q2⟩ := blk_cells2 (unhide R2).k0
      have F := hide ((unhide R2).fin (by omega))
      clear R2
      go_wp2
      exact bodyPost_ret (v := .agg #[(.slice a1 n1 c1), (.slice a2 n2 c2)]) (by simp [results, Try.results40, go_sem, q0, q1]) rfl ⟨_, _, _, _, _, _, _, _, rfl, unhide F⟩
  have e2 : (n == 2) = false := by simpa using h2'
  by_cases h3' : n = 3
  · subst h3'
    by_cases hp : 1 < n1
    · obtain ⟨q, cap, hq, hqb, hql⟩ := World.ownsRow.form (unhide R2).oi (by have := unhide E1; omega)
      simp only [Value.slice.injEq] at hq
      obtain ⟨rfl, -, rfl⟩ := hq
      obtain ⟨x, b0, off, hx, ha, hb, hcap, hc⟩ := ((unhide R2).oi.rw encI_len).at hp
      simp only [Option.some.injEq, Addr.mk.injEq, and_true] at ha
      obtain ⟨rfl, rfl⟩ := ha
      have t0 : w2.cell? ⟨q, 6, none⟩ = some (.int .i64 x.1) := hc 0 (by omega)
      have t1 : w2.cell? ⟨q, 7, none⟩ = some (.int .i64 x.2.1) := hc 1 (by omega)
      have t2 : w2.cell? ⟨q, 8, none⟩ = some (.int .i64 x.2.2.1) := hc 2 (by omega)
      have t3 : w2.cell? ⟨q, 9, none⟩ = some (.int .i64 x.2.2.2.1) := hc 3 (by omega)
      have t4 : w2.cell? ⟨q, 10, none⟩ = some (.int .i64 x.2.2.2.2.1) := hc 4 (by omega)
      have t5 : w2.cell? ⟨q, 11, none⟩ = some (.string x.2.2.2.2.2) := hc 5 (by omega)
      obtain ⟨y0, y1, y2, y3, y4, y5, u0', u1', u2', u3', u4', u5', uf⟩ := items_cells (k := 0) (unhide R2).oi (by omega)
      have u0 : w2.cell? ⟨q, 0, none⟩ = some y0 := u0'
      have u1 : w2.cell? ⟨q, 1, none⟩ = some y1 := u1'
      have u2 : w2.cell? ⟨q, 2, none⟩ = some y2 := u2'
      have u3 : w2.cell? ⟨q, 3, none⟩ = some y3 := u3'
      have u4 : w2.cell? ⟨q, 4, none⟩ = some y4 := u4'
      have u5 : w2.cell? ⟨q, 5, none⟩ = some y5 := u5'
      obtain ⟨is0, rz0⟩ := (unhide R2).itm (by omega) (List.mem_of_getElem? hx)
      have RZ := hide (show ∃ is', R3 5 w (setW w2 q (0 * 6) (encI x)).drew g v xs w.heap.size w1.heap.size (.slice (some ⟨q, 0, none⟩) n1 c1) (.slice a2 n2 c2) is' fls from ⟨is0, rz0.drew⟩)
      clear u0' u1' u2' u3' u4' u5' hc hx rz0
      have hd : decide (1 < (n1 : Int)) = true := by simp; omega
      go_upto_region 12 with fail
      go_region
      all_goals clear p0 p1 p2 t0 t1 t2 t3 t4 t5 u0 u1 u2 u3 u4 u5 uf
      all_goals
        obtain ⟨wz, hwz⟩ : ∃ W, W = ((((((w2.setCell ⟨q, 0, none⟩ (.int .i64 x.1)).setCell ⟨q, 1, none⟩ (.int .i64 x.2.1)).setCell ⟨q, 2, none⟩ (.int .i64 x.2.2.1)).setCell ⟨q, 3, none⟩ (.int .i64 x.2.2.2.1)).setCell ⟨q, 4, none⟩ (.int .i64 x.2.2.2.2.1)).setCell ⟨q, 5, none⟩ (.string x.2.2.2.2.2)).drew := ⟨_, rfl⟩
        rw [← hwz]
        have rz : ∃ is', R3 5 w wz g v xs w.heap.size w1.heap.size (.slice (some ⟨q, 0, none⟩) n1 c1) (.slice a2 n2 c2) is' fls := by rw [hwz]; exact unhide RZ
        obtain ⟨is', rz'⟩ := rz
        have RW := hide rz'
        clear rz' RZ hwz
        obtain ⟨s0, s1, s2⟩ := blk_cells2 (unhide RW).k1
        obtain ⟨q0, q1, q2⟩ := blk_cells2 (unhide RW).k0
        have F := hide ((unhide RW).fin (by omega))
        clear RW
        go_wp2
        exact bodyPost_ret (v := .agg #[(.slice (some ⟨q, 0, none⟩) n1 c1), (.slice a2 n2 c2)]) (by simp [results, Try.results40, go_sem, q0, q1]) rfl ⟨_, _, _, _, _, _, _, _, rfl, unhide F⟩
    · have hd : decide (1 < (n1 : Int)) = false := by simp; omega
      obtain ⟨s0, s1, s2⟩ := blk_cells2 (unhide R2).k1
      obtain ⟨q0, q1, q2⟩ := blk_cells2 (unhide R2).k0
      have F := hide ((unhide R2).fin (by omega))
      clear R2
      go_wp2
      exact bodyPost_ret (v := .agg #[(.slice a1 n1 c1), (.slice a2 n2 c2)]) (by simp [results, Try.results40, go_sem, q0, q1]) rfl ⟨_, _, _, _, _, _, _, _, rfl, unhide F⟩
  have e3 : (n == 3) = false := by simpa using h3'
  clear p0 p1 p2
  obtain ⟨s0, s1, s2⟩ := blk_cells2 (unhide R2).k1
  obtain ⟨q0, q1, q2⟩ := blk_cells2 (unhide R2).k0
  have F := hide ((unhide R2).fin (by omega))
  clear R2
  go_wp2
  exact bodyPost_ret (v := .agg #[(.slice a1 n1 c1), (.slice a2 n2 c2)]) (by simp [results, Try.results40, go_sem, q0, q1]) rfl ⟨_, _, _, _, _, _, _, _, rfl, unhide F⟩
end Go.Proofs.Ytdpaocikmijioac

namespace Go.Proofs.Ytdpaocikmijioac
open Go.RowKit

variable {w X Y : World} {g : Nat} {v : Value} {xs : List Int} {z b : Nat} {c f : Int} {u : Value} {ss : List Sta} {k : Nat}
theorem P7.grown (h : P7 w X g v xs z) {q : Option Nat} (hq : ∀ i, q = some i → w.heap.size ≤ i ∧ i ≠ z) (hg : X.grownBy Y q) : P7 w Y g v xs z := by
  cases q with
  | none => exact h.later ⟨hg.os, hg.tape, hg.output, hg.size, fun i hi => hg.block i hi (by simp)⟩
  | some i =>
    obtain ⟨h1, h2⟩ := hq i rfl
    obtain ⟨cc, G⟩ := h.far h1 hg
    exact ⟨h.c0, G, cc, h.hz, blk_grown hg h.k0 (Ne.symm h2)⟩
theorem R7.set0 (h : R7 w X g v xs z b c f u ss k) (c1 : Int) : R7 w (X.setCell ⟨b, 0, none⟩ (.int .i64 c1)) g v xs z b c1 f u ss k :=
  ⟨h.p.grown (q := some b) (fun i e => by cases e; exact ⟨h.hb, Ne.symm h.zb⟩) (grown_set1 X b 0 _), h.hb, h.zb, heap_setCell_same _ _ _ _ _ _ h.k1, h.row.log h.k1 0 _, h.lo, h.ln, h.sm⟩
theorem R7.set1 (h : R7 w X g v xs z b c f u ss k) (f1 : Int) (hf : -1 ≤ f1) : R7 w (X.setCell ⟨b, 1, none⟩ (.int .i64 f1)) g v xs z b c f1 u ss k :=
  ⟨h.p.grown (q := some b) (fun i e => by cases e; exact ⟨h.hb, Ne.symm h.zb⟩) (grown_set1 X b 1 _), h.hb, h.zb, heap_setCell_same _ _ _ _ _ _ h.k1, h.row.log h.k1 1 _, hf, h.ln, h.sm⟩
theorem R7.app (h : R7 w X g v xs z b c f u ss k) {ps : List Two} (row : OwV w.heap.size X u ps) (wn : Wn w.heap.size X ps ss) {p : Two} {s : Sta} (o5 : Wk7I w.heap.size X p.1 s.1) (o6 : Wk7F w.heap.size X p.2 s.2) (hs : s.1.length ≤ 6 ∧ s.2.length ≤ 6 ∧ Nine s.1) {O : Obj} {u1 : Value} (hO : OwV w.heap.size Y u1 (ps ++ [p])) (hG : (X.alloc O).grownBy Y u.ownBlock) :
    R7 w (Y.setCell ⟨b, 2, none⟩ u1) g v xs z b c f u1 (ss ++ [s]) (k + 1) ∧ Y.heap[b]? = some (LgO c f u) := by
  have al : Below X.heap.size X (X.alloc O) := (Below.refl _ _).alloc (Nat.le_refl _) O
  have row' := row.later al
  have ha := h.later al
  have kb : Y.heap[b]? = some (LgO c f u) := app_keep hG h.k1 (own_ne row h.k1 (by decide))
  have PY : P7 w Y g v xs z := ha.p.grown (fun i e => ⟨(World.ownsRow.lt row' _ e).1, fun e2 => own_ne row' ha.p.k0 (by decide) (by rw [e, e2])⟩) hG
  have OY : OwW w.heap.size Y u1 (ss ++ [s]) := ⟨ps ++ [p], hO, ((wn.snoc o5 o6).later al).otherS (OwV.blk row') hG⟩
  refine ⟨⟨PY.grown (q := some b) (fun i e => by cases e; exact ⟨h.hb, Ne.symm h.zb⟩) (grown_set1 Y b 2 _), h.hb, h.zb, heap_setCell_same _ _ _ _ _ _ kb, OY.log kb 2 _, h.lo, by have := h.ln; simp; omega, h.sm.snoc hs⟩, kb⟩
theorem R7.drewH (h : Hid (R7 w X g v xs z b c f u ss k)) : Hid (R7 w X.drew g v xs z b c f u ss k) := hide ((unhide h).later ((Below.refl _ _).drew))

set_option maxHeartbeats 8000000 in
set_option maxRecDepth 100000 in
theorem l7draw_any (g : Nat) (v : Value) (xs : List Int) (w : World) (hlen : xs.length ≤ 1048576) (hbd : ∀ z ∈ xs, 0 ≤ z ∧ z ≤ 255) (hc : Cur w g v xs) :
    Calls Try.prog 39 #[.pointer (some ⟨g, 0, none⟩)] w fun e w' => ∃ (c f : Int) (a : Option Addr) (n cap : Nat) (ss : List Sta), e = .returned (LgV c f (.slice a n cap)) ∧ D7 w w' g v xs f (.slice a n cap) ss 6 := by
  obtain ⟨i0, hi, hz0, hz1, hz2⟩ := info_parts Try.infoState
  have HD := hide hbd
  have P0 := hide (P7.new hc)
  clear hbd hc
  go_enter Try.func39, Try.ntmps39
  go_wp2_with fail
  refine (l7right_any g v xs _ hlen (unhide HD) (unhide P0).cu).mono ?_
  rintro e w1 ⟨c, f, a, n, cap, ss, rfl, hD⟩
  have P1 := hide ((unhide P0).call hD.cu hD.gr)
  have R1 : Hid (R7 w (w1.alloc (LgO c f (.slice a n cap))) g v xs w.heap.size w1.heap.size c f (.slice a n cap) ss 5) := hide (R7.of (unhide P1) (hD.row.mono (unhide P0).gr.size) hD.lo hD.ln hD.sm)
  generalize hb1 : w1.heap.size = b at *
  clear hD P0 P1
  go_wp2_with fail
  refine (below_any g v xs 12 _ hlen (unhide HD) (by omega) (by omega) (unhide R1).p.cu).mono ?_
  rintro e w2 ⟨⟨x, rfl, xa, xb⟩, c2, g2⟩
  have R2 := hide ((unhide R1).call c2 g2)
  clear c2 g2 R1
  have gl := (unhide R2).p.gl
  have gs := (unhide R2).p.gr.size
  obtain ⟨p0, p1, p2, pf⟩ := blk_cells3 (unhide R2).k1
  obtain ⟨q0, q1, q2, qf⟩ := blk_cells3 (unhide R2).p.k0
  have zb := (unhide R2).bl
  have zz := (unhide R2).p.zl
  by_cases x0 : x = 0
  · subst x0
    clear p0 p1 p2 pf q0 q1 q2 qf
    go_wp2_with fail
    have RA := hide ((unhide R2).later ((Below.refl w2.heap.size w2).alloc (Nat.le_refl _) (.cells ([.int .i64 0, .int .i64 9, .int .i64 1] : List Value).toArray 3)))
    have SG := hide (seg_new w2 3 [.int .i64 0, .int .i64 9, .int .i64 1] 3 rfl (by omega))
    refine (pickint_any g v xs (.slice (some ⟨w2.heap.size, 0, none⟩) 3 3) [.int .i64 0, .int .i64 9, .int .i64 1] (w2.alloc (.cells ([.int .i64 0, .int .i64 9, .int .i64 1] : List Value).toArray 3)) hlen (unhide HD) (unhide RA).p.cu (unhide SG) (ne_new (by omega) _ _) (by decide) (by decide)).mono ?_
    rintro e w3 ⟨⟨q, hq, rfl⟩, c3, g3⟩
    obtain ⟨cc, hcc, rfl⟩ := int_of (cs := [0, 9, 1]) hq
    have RB := hide ((unhide RA).call c3 g3)
    have RC := hide ((unhide RB).set0 cc)
    obtain ⟨p0, p1, p2, pf⟩ := blk_cells3 (unhide RB).k1
    have zb3 := (unhide RB).bl
    clear hq c3 g3 RA SG RB
    go_upto_region 9 with fail
    obtain ⟨Z, hZ⟩ : ∃ Z, Z = w3.setCell ⟨b, 0, none⟩ (.int .i64 cc) := ⟨_, rfl⟩
    rw [← hZ] at RC ⊢
    clear hZ
    obtain ⟨t0, t1, t2, tf⟩ := blk_cells3 (unhide RC).k1
    obtain ⟨q0, q1, q2, qf⟩ := blk_cells3 (unhide RC).p.k0
    have zbZ := (unhide RC).bl
    have zzZ := (unhide RC).p.zl
    have F := hide (unhide RC).fin
    go_wp2
    exact bodyPost_ret (v := LgV cc f (.slice a n cap)) (by simp [results, Try.results39, go_sem, q0, q1, q2]) rfl ⟨_, _, _, _, _, _, rfl, (unhide F).cu, (unhide F).gr, (unhide F).row, (unhide F).lo, Nat.le_trans (unhide F).ln (by decide), (unhide F).sm⟩
  have d0 : (x == 0) = false := by simpa using x0
  by_cases x1 : x = 1
  · subst x1
    clear p0 p1 p2 pf q0 q1 q2 qf
    go_wp2_with fail
    have RA := hide ((unhide R2).later ((Below.refl w2.heap.size w2).alloc (Nat.le_refl _) (.cells ([.int .i64 (-1), .int .i64 100000, .int .i64 9223372036854775807] : List Value).toArray 3)))
    have SG := hide (seg_new w2 3 [.int .i64 (-1), .int .i64 100000, .int .i64 9223372036854775807] 3 rfl (by omega))
    refine (pickint_any g v xs (.slice (some ⟨w2.heap.size, 0, none⟩) 3 3) [.int .i64 (-1), .int .i64 100000, .int .i64 9223372036854775807] (w2.alloc (.cells ([.int .i64 (-1), .int .i64 100000, .int .i64 9223372036854775807] : List Value).toArray 3)) hlen (unhide HD) (unhide RA).p.cu (unhide SG) (ne_new (by omega) _ _) (by decide) (by decide)).mono ?_
    rintro e w3 ⟨⟨q, hq, rfl⟩, c3, g3⟩
    obtain ⟨ff, hff, rfl⟩ := int_of (cs := [-1, 100000, 9223372036854775807]) hq
    have hf0 : -1 ≤ ff := by simp at hff; omega
    have RB := hide ((unhide RA).call c3 g3)
    have RC := hide ((unhide RB).set1 ff hf0)
    obtain ⟨p0, p1, p2, pf⟩ := blk_cells3 (unhide RB).k1
    have zb3 := (unhide RB).bl
    clear hq c3 g3 RA SG RB hff
    go_upto_region 9 with fail
    obtain ⟨Z, hZ⟩ : ∃ Z, Z = w3.setCell ⟨b, 1, none⟩ (.int .i64 ff) := ⟨_, rfl⟩
    rw [← hZ] at RC ⊢
    clear hZ
    obtain ⟨t0, t1, t2, tf⟩ := blk_cells3 (unhide RC).k1
    obtain ⟨q0, q1, q2, qf⟩ := blk_cells3 (unhide RC).p.k0
    have zbZ := (unhide RC).bl
    have zzZ := (unhide RC).p.zl
    have F := hide (unhide RC).fin
    go_wp2
    exact bodyPost_ret (v := LgV c ff (.slice a n cap)) (by simp [results, Try.results39, go_sem, q0, q1, q2]) rfl ⟨_, _, _, _, _, _, rfl, (unhide F).cu, (unhide F).gr, (unhide F).row, (unhide F).lo, Nat.le_trans (unhide F).ln (by decide), (unhide F).sm⟩
  have d1 : (x == 1) = false := by simpa using x1
  by_cases x2 : x = 2
  · subst x2
    clear q0 q1 q2 qf
    have RD := R7.drewH R2
    have em := (unhide R2).row.rw.len.1
    have ln := (unhide R2).ln
    have hn5 : n ≤ 5 := by omega
    clear em ln
    go_upto_region 8 with fail
    go_region_law (first
      | (go_simp; go_at_call 40; refine (l3draw_any g v xs _ hlen (unhide HD) (unhide RD).p.cu).mono ?_; rintro e w4 ⟨b1, m1, e1, b2, m2, e2, its, fls, rfl, hD3⟩; have R4 := hide ((unhide RD).call hD3.cu hD3.gr); have OI := hide (Ow.base (base' := w.heap.size) hD3.oi (unhide RD).p.gr.size); have OF := hide (Ow.base (base' := w.heap.size) hD3.of (unhide RD).p.gr.size); have SM := hide (And.intro hD3.li (And.intro hD3.lf hD3.ni)); obtain ⟨p0, p1, p2, pf⟩ := blk_cells3 (unhide R4).k1; have zb4 := (unhide R4).bl; clear hD3)
      | (obtain ⟨ps, hrow, hwn⟩ := (unhide R4).row; refine step_app7 encS_len (by omega) 30 24 i0 _ 48 Try.underlying24 hi hz0 hz1 hz2 rfl (by omega) (w4.alloc (.cells #[.slice b1 m1 e1, .slice b2 m2 e2] 30)) (.slice b1 m1 e1, .slice b2 m2 e2) (oneS _ rfl rfl) rfl _ _ rfl w.heap.size (.slice a n cap) ps n (hide (Ow.rw encS_len hrow).len.1) rfl (hrow.later ((Below.refl _ _).alloc (Nat.le_refl _) _)) w4.heap.size rfl (heap_alloc_new w4 _) (by omega) (by have := (unhide R4).p.gr.size; simp; omega) ?_; intro a7 c7 w6 hO hG; obtain ⟨r7, k7⟩ := (unhide R4).app hrow hwn (s := (its, fls)) (.inl (unhide OI)) (.inl (unhide OF)) (unhide SM) hO hG; obtain ⟨m0', m1', m2', mf'⟩ := blk_cells3 k7; have zb7 : b < w6.heap.size := (Array.getElem?_eq_some_iff.1 k7).1; have RC := hide r7; clear r7 k7 hO hG hrow hwn))
    all_goals
      clear p0 p1 p2 pf RD R4 OI OF SM R2
      go_upto_region 9 with fail
      obtain ⟨Z, hZ⟩ : ∃ Z, Z = w6.setCell ⟨b, 2, none⟩ (.slice a7 (n + 1) c7) := ⟨_, rfl⟩
      rw [← hZ] at RC ⊢
      clear hZ
      obtain ⟨t0, t1, t2, tf⟩ := blk_cells3 (unhide RC).k1
      obtain ⟨q0, q1, q2, qf⟩ := blk_cells3 (unhide RC).p.k0
      have zbZ := (unhide RC).bl
      have zzZ := (unhide RC).p.zl
      have F := hide (unhide RC).fin
      go_wp2
      exact bodyPost_ret (v := LgV c f (.slice a7 (n + 1) c7)) (by simp [results, Try.results39, go_sem, q0, q1, q2]) rfl ⟨_, _, _, _, _, _, rfl, (unhide F).cu, (unhide F).gr, (unhide F).row, (unhide F).lo, Nat.le_trans (unhide F).ln (by decide), (unhide F).sm⟩
  · have d2 : (x == 2) = false := by simpa using x2
    have F := hide (unhide R2).fin
    go_wp2
    exact bodyPost_ret (v := LgV c f (.slice a n cap)) (by simp [results, Try.results39, go_sem, q0, q1, q2]) rfl ⟨_, _, _, _, _, _, rfl, (unhide F).cu, (unhide F).gr, (unhide F).row, (unhide F).lo, Nat.le_trans (unhide F).ln (by decide), (unhide F).sm⟩
end Go.Proofs.Ytdpaocikmijioac

namespace Go.Proofs.Ytdpaocikmijioac
open Go.RowKit

theorem Wk7.low {α : Type} {enc : α → List Value} {k : Nat} {E : TypeId} {base : Nat} {w : World} {v : Value} {xs : List α} (h : Wk7 enc k E base w v xs) (p : Addr) (hp : p.block < base) (u : Value) : Wk7 enc k E base (w.setCell p u) v xs := h.imp (fun h => h.set p hp u) id
theorem OwW.low {base : Nat} {w : World} {v : Value} {ss : List Sta} (h : OwW base w v ss) (p : Addr) (hp : p.block < base) (u : Value) : OwW base (w.setCell p u) v ss := by
  obtain ⟨ps, h1, h2⟩ := h
  exact ⟨ps, Ow.set h1 p hp u, h2.len, fun i q s hq hs => ⟨(h2.ins i q s hq hs).1.low p hp u, (h2.ins i q s hq hs).2.low p hp u⟩⟩
theorem OwW.low3 {base : Nat} {w : World} {v : Value} {ss : List Sta} (h : OwW base w v ss) (z : Nat) (hz : z < base) (u0 u1 u2 : Value) : OwW base (((w.setCell ⟨z, 0, none⟩ u0).setCell ⟨z, 1, none⟩ u1).setCell ⟨z, 2, none⟩ u2) v ss := ((h.low ⟨z, 0, none⟩ hz _).low ⟨z, 1, none⟩ hz _).low ⟨z, 2, none⟩ hz _
theorem OwW.low2 {base : Nat} {w : World} {v : Value} {ss : List Sta} (h : OwW base w v ss) (z : Nat) (hz : z < base) (u0 u1 : Value) : OwW base ((w.setCell ⟨z, 0, none⟩ u0).setCell ⟨z, 1, none⟩ u1) v ss := (h.low ⟨z, 0, none⟩ hz _).low ⟨z, 1, none⟩ hz _
theorem Ow.low3 {α : Type} {enc : α → List Value} {k : Nat} {e : TypeId} {base : Nat} {w : World} {v : Value} {xs : List α} (h : Ow enc k e base w v xs) (z : Nat) (hz : z < base) (u0 u1 u2 : Value) : Ow enc k e base (((w.setCell ⟨z, 0, none⟩ u0).setCell ⟨z, 1, none⟩ u1).setCell ⟨z, 2, none⟩ u2) v xs := ((h.set ⟨z, 0, none⟩ hz _).set ⟨z, 1, none⟩ hz _).set ⟨z, 2, none⟩ hz _
theorem Ow.low2 {α : Type} {enc : α → List Value} {k : Nat} {e : TypeId} {base : Nat} {w : World} {v : Value} {xs : List α} (h : Ow enc k e base w v xs) (z : Nat) (hz : z < base) (u0 u1 : Value) : Ow enc k e base ((w.setCell ⟨z, 0, none⟩ u0).setCell ⟨z, 1, none⟩ u1) v xs := (h.set ⟨z, 0, none⟩ hz _).set ⟨z, 1, none⟩ hz _
theorem below_set2' {B : Nat} {w W : World} {g : Nat} {v0 v1 : Value} (hg : B ≤ g) (h : Below B w W) : Below B w ((W.setCell ⟨g, 0, none⟩ v0).setCell ⟨g, 1, none⟩ v1) := (h.setCell (p := ⟨g, 0, none⟩) hg _).setCell (p := ⟨g, 1, none⟩) hg _

/-- While a log is drawn ahead of something else: the cursor g, the results' blocks below it, the log's variable b. -/
structure T7 (w X : World) (B : Nat) (g : Nat) (v : Value) (xs : List Int) (b : Nat) (c f : Int) (u : Value) (ss : List Sta) : Prop where
  bel : Below w.heap.size w X
  cu : Cur X g v xs
  hB : w.heap.size ≤ B
  hg : B ≤ g
  gb : g < b
  kb : X.heap[b]? = some (LgO c f u)
  row : OwW B X u ss
  lo : -1 ≤ f
  ln : ss.length ≤ 6
  sm : Sm7 ss
variable {w X Y : World} {B : Nat} {g : Nat} {v : Value} {xs : List Int} {b : Nat} {c f : Int} {u : Value} {ss : List Sta}
theorem T7.bl (h : T7 w X B g v xs b c f u ss) : b < X.heap.size := (Array.getElem?_eq_some_iff.1 h.kb).1
theorem T7.later (h : T7 w X B g v xs b c f u ss) (bl : Below X.heap.size X Y) : T7 w Y B g v xs b c f u ss :=
  ⟨h.bel.trans (bl.mono h.bel.size), h.cu.later bl (Nat.le_refl _), h.hB, h.hg, h.gb, (bl.block _ h.bl).trans h.kb, h.row.later bl, h.lo, h.ln, h.sm⟩
theorem T7.call (h : T7 w X B g v xs b c f u ss) (hc : Cur Y g v xs) (hg : X.grownBy Y (some g)) : T7 w Y B g v xs b c f u ss := by
  obtain ⟨⟨i, q, hk, _⟩, _⟩ := h.cu
  have h1 := h.hB
  have h2 := h.hg
  have h3 := h.gb
  have hs := h.bel.size
  exact ⟨(Trn.of_grown hg).below h.bel hs (fun i e => by cases e; omega), hc, h1, h2, h3, blk_grown hg h.kb (by omega), h.row.otherT (fun r e => by cases e; exact ⟨_, _, hk⟩) (by decide) (by decide) (by decide) hg, h.lo, h.ln, h.sm⟩
theorem T7.drewH (h : Hid (T7 w X B g v xs b c f u ss)) : Hid (T7 w X.drew B g v xs b c f u ss) := hide ((unhide h).later ((Below.refl _ _).drew))
/-- A block below the cursor stays as it is. -/
theorem T7.z (h : T7 w X B g v xs b c f u ss) {q : Nat} {o : Obj} (hq : q < B) (hk : X.heap[q]? = some o) (hg : X.grownBy Y (some g)) : Y.heap[q]? = some o := by
  have := h.hg
  exact blk_grown hg hk (by omega)
theorem T7.of {w0 w1 w2 : World} (b1 : Below w.heap.size w w1) (h0 : w.heap.size ≤ B) (h1 : B ≤ g) (h2 : g < w1.heap.size) (hD : D7 w1 w2 g v xs f u ss 6) (_ : w0 = w0) : T7 w (w2.alloc (LgO c f u)) B g v xs w2.heap.size c f u ss := by
  have al : Below w2.heap.size w2 (w2.alloc (LgO c f u)) := (Below.refl _ _).alloc (Nat.le_refl _) _
  have b2 : Below w.heap.size w w2 := (Trn.of_grown hD.gr).below b1 b1.size (fun i e => by cases e; omega)
  have := hD.gr.size
  exact ⟨b2.trans (al.mono b2.size), hD.cu.later al (Nat.le_refl _), h0, h1, by omega, heap_alloc_new _ _, (hD.row.mono (by omega)).later al, hD.lo, hD.ln, hD.sm⟩

set_option maxHeartbeats 8000000 in
set_option maxRecDepth 100000 in
theorem drawlogadd_any (v : Value) (xs : List Int) (w : World) (hlen : xs.length ≤ 1048576) (hbd : ∀ z ∈ xs, 0 ≤ z ∧ z ≤ 255) (hv : Seg w v xs) :
    Calls Try.prog 10 #[v] w fun e w' => ∃ (c f : Int) (a : Option Addr) (n cap : Nat) (ss : List Sta) (a1 : Option Addr) (n1 c1 : Nat) (a2 : Option Addr) (n2 c2 : Nat) (its : List Itm) (fls : List Flr), e = .returned (.tuple #[LgV c f (.slice a n cap), .agg #[.slice a1 n1 c1, .slice a2 n2 c2]]) ∧ RwS w' (.slice a n cap) ss ∧ Rw encI 6 w' (.slice a1 n1 c1) its ∧ Rw encF 2 w' (.slice a2 n2 c2) fls ∧ ss.length ≤ 6 ∧ Sm7 ss ∧ its.length ≤ 6 ∧ fls.length ≤ 6 ∧ Nine its ∧ Below w.heap.size w w' := by
  have HD := hide hbd
  have HV := hide hv
  clear hbd hv
  have bV : Below w.heap.size w ((w.alloc LgZ0).alloc StZ) := ((Below.refl w.heap.size w).alloc (Nat.le_refl _) _).alloc (by simp) _
  have BV := hide bV
  have SV := hide ((unhide HV).below bV (Nat.le_refl _))
  clear bV
  go_enter Try.func10, Try.ntmps10
  go_wp2_with fail
  refine (new_any v xs _ hlen (unhide HD) (unhide SV)).mono ?_
  rintro e w1 ⟨rfl, c1, b1, s1⟩
  have k1 : w1.heap[w.heap.size]? = some LgZ0 := (b1.block _ (by simp; omega)).trans (lowB2 w _ _)
  have k2 : w1.heap[w.heap.size + 1]? = some StZ := (b1.block _ (by simp)).trans (newB2 w _ _)
  have hgs : ((w.alloc LgZ0).alloc StZ).heap.size = w.heap.size + 1 + 1 := by simp
  rw [hgs] at c1 s1 ⊢
  have B1 := hide ((unhide BV).trans (b1.mono (unhide BV).size))
  have C1 := hide c1
  have K1 := hide k1
  have K2 := hide k2
  clear b1 c1 k1 k2 BV SV hgs
  go_wp2_with fail
  refine (l7draw_any (w.heap.size + 1 + 1) v xs _ hlen (unhide HD) (unhide C1)).mono ?_
  rintro e w2 ⟨c, f, a, n, cap, ss, rfl, hD⟩
  have T2 : Hid (T7 w (w2.alloc (LgO c f (.slice a n cap))) (w.heap.size + 1 + 1) (w.heap.size + 1 + 1) v xs w2.heap.size c f (.slice a n cap) ss) := hide (T7.of (w0 := w) (unhide B1) (by omega) (Nat.le_refl _) (by omega) hD rfl)
  have kk1 : (w2.alloc (LgO c f (.slice a n cap))).heap[w.heap.size]? = some LgZ0 := (Below.heap_alloc _ _ _ (by have := hD.gr.size; omega)).trans (blk_grown hD.gr (unhide K1) (by omega))
  have kk2 : (w2.alloc (LgO c f (.slice a n cap))).heap[w.heap.size + 1]? = some StZ := (Below.heap_alloc _ _ _ (by have := hD.gr.size; omega)).trans (blk_grown hD.gr (unhide K2) (by omega))
  have KK1 := hide kk1
  have KK2 := hide kk2
  generalize hgb : w2.heap.size = b at *
  clear hD kk1 kk2 B1 C1 K1 K2
  go_upto_region 3 with fail
  obtain ⟨X, hX⟩ : ∃ X, X = w2.alloc (LgO c f (.slice a n cap)) := ⟨_, rfl⟩
  rw [← hX] at T2 KK1 KK2 ⊢
  clear hX
  obtain ⟨p0, p1, p2, pf⟩ := blk_cells3 (unhide T2).kb
  have zb := (unhide T2).bl
  have TD := T7.drewH T2
  go_region_law (go_simp; go_at_call 40; refine (l3draw_any (w.heap.size + 1 + 1) v xs _ hlen (unhide HD) (unhide TD).cu).mono ?_; rintro e w4 ⟨b1, m1, e1, b2, m2, e2, its, fls, rfl, hD3⟩; have T4 := hide ((unhide TD).call hD3.cu hD3.gr); have OI := hide (Ow.base (base' := w.heap.size + 1 + 1) hD3.oi (by have := (unhide TD).bl; have := (unhide TD).gb; omega)); have OF := hide (Ow.base (base' := w.heap.size + 1 + 1) hD3.of (by have := (unhide TD).bl; have := (unhide TD).gb; omega)); have SM := hide (And.intro hD3.li (And.intro hD3.lf hD3.ni)); obtain ⟨p0, p1, p2, pf⟩ := blk_cells3 (unhide T4).kb; obtain ⟨q0, q1, q2, qf⟩ := blk_cells3 ((unhide TD).z (by omega) (unhide KK1) hD3.gr); have k2x := (unhide TD).z (by omega) (unhide KK2) hD3.gr; obtain ⟨r0, r1, rf⟩ := blk_cells2 k2x; have zb4 := (unhide T4).bl; have gb4 := (unhide T4).gb; clear hD3 k2x)
  all_goals
    clear p0 p1 p2 pf
    go_wp2
    exact bodyPost_ret (v := .tuple #[LgV c f (.slice a n cap), .agg #[.slice b1 m1 e1, .slice b2 m2 e2]]) (by simp [results, Try.results10, go_sem, q0, q1, q2, r0, r1]) rfl ⟨c, f, a, n, cap, ss, b1, m1, e1, b2, m2, e2, its, fls, rfl, (((unhide T4).row.low3 w.heap.size (by omega) _ _ _).low2 (w.heap.size + 1) (by omega) _ _).rw, (((unhide OI).low3 w.heap.size (by omega) _ _ _).low2 (w.heap.size + 1) (by omega) _ _).rw encI_len, (((unhide OF).low3 w.heap.size (by omega) _ _ _).low2 (w.heap.size + 1) (by omega) _ _).rw encF_len, (unhide T4).ln, (unhide T4).sm, (unhide SM).1, (unhide SM).2.1, (unhide SM).2.2, below_set2' (by omega) (below_set3 (Nat.le_refl _) (unhide T4).bel)⟩
theorem kT7 (h : Hid (T7 w X B g v xs b c f u ss)) : X.cell? ⟨b, 0, none⟩ = some (.int .i64 c) ∧ X.cell? ⟨b, 1, none⟩ = some (.int .i64 f) ∧ X.cell? ⟨b, 2, none⟩ = some u := by
  obtain ⟨p0, p1, p2, -⟩ := blk_cells3 (unhide h).kb
  exact ⟨p0, p1, p2⟩
theorem T7.allocH (h : Hid (T7 w X B g v xs b c f u ss)) (o : Obj) : Hid (T7 w (X.alloc o) B g v xs b c f u ss) := hide ((unhide h).later ((Below.refl _ _).alloc (Nat.le_refl _) o))
theorem kT7s (h : Hid (T7 w X B g v xs b c f u ss)) (z : Nat) (hz : b ≠ z) (u0 u1 u2 : Value) : (((X.setCell ⟨z, 0, none⟩ u0).setCell ⟨z, 1, none⟩ u1).setCell ⟨z, 2, none⟩ u2).cell? ⟨b, 0, none⟩ = some (.int .i64 c) ∧ (((X.setCell ⟨z, 0, none⟩ u0).setCell ⟨z, 1, none⟩ u1).setCell ⟨z, 2, none⟩ u2).cell? ⟨b, 1, none⟩ = some (.int .i64 f) ∧ (((X.setCell ⟨z, 0, none⟩ u0).setCell ⟨z, 1, none⟩ u1).setCell ⟨z, 2, none⟩ u2).cell? ⟨b, 2, none⟩ = some u := by
  obtain ⟨p0, p1, p2, -⟩ := blk_cells3 (blk_at (h := z) (o := 2) (u := u2) (blk_at (h := z) (o := 1) (u := u1) (blk_at (h := z) (o := 0) (u := u0) (unhide h).kb hz) hz) hz)
  exact ⟨p0, p1, p2⟩
end Go.Proofs.Ytdpaocikmijioac

namespace Go.Proofs.Ytdpaocikmijioac
open Go.RowKit

def ldr (r : Bool) (f seq : Int) (ss : List Sta) : Int × List Sta := if r = true then (seq, ss.drop (seq - f).toNat) else (f, ss)
theorem kps_iff {c f : Int} {ss : List Sta} {seq : Int} : kps c f ss seq = true ↔ lok c f ss = true ∧ f ≤ seq ∧ seq ≤ f + (ss.length : Int) := by simp [kps, inB]
theorem kps_parts {c f : Int} {ss : List Sta} {seq : Int} {n : Nat} (hn : n = ss.length) (h : kps c f ss seq = true) : ∃ k m : Nat, n = k + m ∧ seq - f = (k : Int) ∧ (seq - f).toNat = k ∧ okL ss = true ∧ n ≤ 8 ∧ 0 ≤ f ∧ f ≤ 100000 ∧ f + (n : Int) ≤ 100000 := by
  obtain ⟨h1, h2, h3⟩ := kps_iff.1 h
  obtain ⟨h4, h5, h6, h7, h8⟩ := lok_iff.1 h1
  refine ⟨(seq - f).toNat, n - (seq - f).toNat, by omega, by omega, rfl, h8, by omega, by omega, by omega, by omega⟩

end Go.Proofs.Ytdpaocikmijioac

namespace Go.Proofs.Ytdpaocikmijioac
open Go.RowKit

set_option maxHeartbeats 8000000 in
set_option maxRecDepth 100000 in
theorem ijoinf_any (vi : Value) (af : Option Addr) (nf cf : Nat) (fs : List Flr) (vj : Value) (bf : Option Addr) (mf df : Nat) (gs : List Flr) (w : World)
    (hnf : nf ≤ 140737488351232) (hmf : mf ≤ 140737488351232) (hf : Rw encF 2 w (.slice af nf cf) fs) (hg : Rw encF 2 w (.slice bf mf df) gs) :
    Calls Try.prog 65 #[.agg #[vi, .slice af nf cf], .agg #[vj, .slice bf mf df]] w fun e w' => ∃ a2 n2 c2, e = .returned (.slice a2 n2 c2) ∧ OwF w.heap.size w' (.slice a2 n2 c2) (joinF fs gs) ∧ Below w.heap.size w w' := by
  obtain ⟨i1, gi, gz0, gz1, gz2⟩ := info_parts Try.infoFloor
  have HF := hide hf
  have HG := hide hg
  clear hf hg
  go_enter Try.func65, Try.ntmps65
  go_wp2
  go_loopw [5, 8] (fun v i wr => ∃ (k : Nat) (a2 : Option Addr) (n2 c2 : Nat), k ≤ 5 ∧ i = .int .i64 k ∧ v = .slice a2 n2 c2 ∧ OwF w.heap.size wr (.slice a2 n2 c2) (jF fs gs k) ∧ Below w.heap.size w wr ∧ wr.heap[w.heap.size]? = some (.cells #[vi, .slice af nf cf] 30 (0, 0)) ∧ wr.heap[w.heap.size + 1]? = some (.cells #[vj, .slice bf mf df] 30 (0, 0))) (fun _ i _ => 5 - (intOf i).toNat)
  case atStart => exact ⟨0, none, 0, 0, by omega, rfl, rfl, World.ownsRow_nil _ _ _ _, ((Below.refl _ _).alloc (Nat.le_refl _) _).alloc (by simp) _, lowB2 w _ _, newB2 w _ _⟩
  case round =>
    obtain ⟨k, a2, n2, c2, hk, rfl, rfl, hown, hbel, ka, kb⟩ := hrel
    have HO := hide hown
    have HB := hide hbel
    have KA := hide ka
    have KB := hide kb
    have hsz := hbel.size
    have hz : w.heap.size + 1 < wr.heap.size := (Array.getElem?_eq_some_iff.mp kb).1
    obtain ⟨pa0, pa1, -⟩ := blk_cells2 ka
    obtain ⟨pb0, pb1, -⟩ := blk_cells2 kb
    clear hown ka kb
    by_cases hlt : k < 5
    · obtain ⟨fa, hfa⟩ : ∃ fa, flo fs k = fa := ⟨_, rfl⟩
      obtain ⟨fb, hfb⟩ : ∃ fb, flo gs k = fb := ⟨_, rfl⟩
      have HFA := hide hfa
      have HFB := hide hfb
      have HF0 : Hid (fl2 fs gs k = max fa fb) := hide (by rw [fl2, hfa, hfb]; split <;> omega)
      have hdk : decide ((k : Int) < 5) = true := by simp; omega
      clear hfa hfb
      have la0 := later_some (w := wr) (b := w.heap.size) (o := 0) (by omega) pa0
      have la1 := later_some (w := wr) (b := w.heap.size) (o := 1) (by omega) pa1
      have lb0 := later_some (w := wr) (b := w.heap.size + 1) (o := 0) (by omega) pb0
      have lb1 := later_some (w := wr) (b := w.heap.size + 1) (o := 1) (by omega) pb1
      have RF := hide ((unhide HF).later hbel)
      have RG := hide ((unhide HG).later hbel)
      clear hbel
      go_wp2_with fail
      refine wp_region_later (by kernel_rfl) (by kernel_rfl) ?_
      repeat (go_big_quiet_step (first
        | (go_at_call_of 88 (Value.slice af nf cf); exact Calls.later_of (ifloor_v _ af nf cf fs _ fa HFA _ hnf ((unhide RF).in_later _ _)))
        | (go_at_call_of 88 (Value.slice bf mf df); exact Calls.later_of (ifloor_v _ bf mf df gs _ fb HFB _ hmf ((unhide RG).in_later _ _)))))
      refine wpQuiet_nil ?_
      intro w1 hb1
      generalize hm : max fa fb = f at HF0 ⊢
      have HO1 := hide ((unhide HO).later hb1)
      have HB1 := hide ((unhide HB).trans (hb1.mono hsz))
      have KA1 := hide ((hb1.block _ (by omega)).trans (unhide KA))
      have KB1 := hide ((hb1.block _ (by omega)).trans (unhide KB))
      have hz1 : w.heap.size + 1 < w1.heap.size := Nat.lt_of_lt_of_le hz hb1.size
      have hn2 : Hid (n2 = (jF fs gs k).length) := hide ((unhide HO1).rw encF_len).len.1
      have hn2l : n2 ≤ 5 := by have := unhide hn2; have := jF_len fs gs k; omega
      clear hm hb1 la0 la1 lb0 lb1 RF RG pa0 pa1 pb0 pb1 HO HB KA KB HFA HFB hsz hz
      have hw1 : w.heap.size ≤ w1.heap.size := by omega
      rcases Bool.eq_false_or_eq_true (decide (0 < f)) with hpos | hpos
      · go_wp2_with (first | (at_builtin; refine wpList_app1 encF_len (by omega) oneF 78 28 i1 _ 16 Try.underlying28 gi gz0 gz1 gz2 rfl (by omega) w1 ((k : Int), f) rfl _ _ rfl w.heap.size _ (jF fs gs k) n2 hn2 rfl (unhide HO1) rfl (by omega) hw1 ?_; intro a2' c2' w2 hO hG; have HO2 := hide hO; have HB2 := hide ((Trn.of_grown hG).below (unhide HB1) hw1 (fun i q => (World.ownsRow.lt (unhide HO1) i q).1)); have HG2 := hide hG; clear hO hG))
        go_roundw
        case rel =>
          have hnA := own_ne (unhide HO1) (unhide KA1) (by decide)
          have hnB := own_ne (unhide HO1) (unhide KB1) (by decide)
          exact ⟨k + 1, a2', n2 + 1, c2', by omega, by go_num, rfl, by rw [jF_pos (by rw [unhide HF0]; exact hpos), unhide HF0]; exact unhide HO2, unhide HB2, ((unhide HG2).block _ (by omega) (fun q => hnA q.symm)).trans (unhide KA1), ((unhide HG2).block _ (by omega) (fun q => hnB q.symm)).trans (unhide KB1)⟩
        case measure => simp [intOf]; omega
      · go_wp2
        go_roundw
        case rel => exact ⟨k + 1, a2, n2, c2, by omega, by go_num, rfl, by rw [jF_neg (by rw [unhide HF0]; exact hpos)]; exact unhide HO1, unhide HB1, unhide KA1, unhide KB1⟩
        case measure => simp [intOf]; omega
    · have hdk : decide ((k : Int) < 5) = false := by simp; omega
      have HE : Hid (OwF w.heap.size wr (.slice a2 n2 c2) (joinF fs gs)) := by
        have h := unhide HO
        have e : k = 5 := by omega
        rw [e] at h
        exact hide h
      clear hbel HO
      go_wp2
      go_ret
      exact ⟨a2, n2, c2, rfl, unhide HE, unhide HB⟩
end Go.Proofs.Ytdpaocikmijioac

namespace Go.Proofs.Ytdpaocikmijioac
open Go.RowKit Go.Maps

/-- How an element of the map reads: as the entry that it is. -/
def RK : Value → Option (DataW Key × List MemPlace)
  | .agg cs => match cs.toList with
    | [.int .i64 i, .int .i64 r, .int .i64 b, .int .i64 v, .string d] => some (.held (i, r, b, v, d), [])
    | _ => none
  | _ => none
theorem RK_mk (e : Key) : RK (.agg #[.int .i64 e.1, .int .i64 e.2.1, .int .i64 e.2.2.1, .int .i64 e.2.2.2.1, .string e.2.2.2.2]) = some (.held e, []) := rfl
theorem RK_inv {v : Value} {z : DataW Key × List MemPlace} (h : RK v = some z) : ∃ e : Key, v = .agg #[.int .i64 e.1, .int .i64 e.2.1, .int .i64 e.2.2.1, .int .i64 e.2.2.2.1, .string e.2.2.2.2] ∧ z = (.held e, []) := by
  unfold RK at h
  split at h
  · rename_i cs
    split at h
    · rename_i i r b v d hcs
      cases h
      refine ⟨(i, r, b, v, d), ?_, rfl⟩
      obtain ⟨l⟩ := cs
      simp only at hcs
      rw [hcs]
    · cases h
  · cases h

theorem klaw : Keyed Try.prog 3 := int_keyed Try.underlying3
theorem wf_fit {n : Int} (h : FitN n) : (Lit.int .i64 n).wf = true := by
  unfold FitN at h
  simp [Lit.wf, IntKind.min, IntKind.max, IntKind.bits, IntKind.signed]
  omega
theorem kof {n : Int} (h : FitN n) : keyOf Try.prog 3 (.int .i64 n) = some (.int .i64 n) := keyOf_int_mk Try.underlying3 (wf_fit h)

/-- The map reads as the function m. -/
def MapV (D : DataW Key) (m : Int → Option Key) : Prop := ∀ id, FitN id → ∀ z, D.atKey (.int .i64 id) z = (match m id with
  | some e => .held e
  | none => z)
def upd (m : Int → Option Key) (id : Int) (e : Key) : Int → Option Key := fun j => if j = id then some e else m j
def cut (m : Int → Option Key) (id : Int) : Int → Option Key := fun j => if j = id then none else m j
def mget (m : Int → Option Key) (id : Int) : Key := (m id).getD zeroK
theorem MapV.nil : MapV (.map []) (fun _ => none) := fun _ _ _ => rfl
theorem lit_ne {a b : Int} (h : a ≠ b) : (Lit.int .i64 a) ≠ Lit.int .i64 b := fun e => h (by injection e)
theorem MapV.put {D : DataW Key} {m : Int → Option Key} (h : MapV D m) (hm : IsMap D) {id : Int} (hk : WideAt.IsKeyLit (Lit.int .i64 id)) (e : Key) : MapV (D.put (.int .i64 id) (.held e)) (upd m id e) := by
  intro j hj z
  unfold upd
  by_cases c : j = id
  · subst c
    rw [atKey_put_same hm hk, if_pos rfl]
  · rw [atKey_put_other (lit_ne c), if_neg c]
    exact h j hj z
theorem MapV.del {D : DataW Key} {m : Int → Option Key} (h : MapV D m) (id : Int) : MapV (D.del (.int .i64 id)) (cut m id) := by
  intro j hj z
  unfold cut
  by_cases c : j = id
  · subst c
    rw [atKey_del_same, if_pos rfl]
  · rw [atKey_del_other (lit_ne c), if_neg c]
    exact h j hj z
theorem key_lit (id : Int) : WideAt.IsKeyLit (Lit.int .i64 id) := trivial

theorem zeroE (w : World) : (zeroValue 55).run Try.prog w = .ok (.agg #[.int .i64 zeroK.1, .int .i64 zeroK.2.1, .int .i64 zeroK.2.2.1, .int .i64 zeroK.2.2.2.1, .string zeroK.2.2.2.2]) w := by kernel_rfl
theorem field0 (e : Key) (w : World) : (Instr.field 55 (.agg #[.int .i64 e.1, .int .i64 e.2.1, .int .i64 e.2.2.1, .int .i64 e.2.2.2.1, .string e.2.2.2.2]) 0).run Try.prog w = .ok (.int .i64 e.1) w := by
  have h := Try.underlying55
  have h3 := Try.underlying3
  simp [Instr.field, run_underlying h, asAgg, part, isAgg, sizeOf, run_underlying h3, typeInfo]
abbrev OwM (w : World) (b n : Nat) (D : DataW Key) : Prop := w.ownsMap Try.prog 3 RK b n D
/-- 'm[id]'. -/
theorem look {w : World} {b n : Nat} {D : DataW Key} {m : Int → Option Key} (h : OwM w b n D) (hv : MapV D m) {id : Int} (hid : FitN id) :
    (Instr.lookup 92 (.map (some b)) (.int .i64 id) false).run Try.prog w = .ok (.agg #[.int .i64 (mget m id).1, .int .i64 (mget m id).2.1, .int .i64 (mget m id).2.2.1, .int .i64 (mget m id).2.2.2.1, .string (mget m id).2.2.2.2]) w := by
  obtain ⟨v, ps, hrun, hR⟩ := h.lookup klaw Try.underlying92 (zeroE w) (RK_mk zeroK) (kof hid)
  obtain ⟨e, rfl, he⟩ := RK_inv hR
  rw [hrun]
  simp only [Prod.mk.injEq] at he
  have h1 := hv id hid (.held zeroK)
  rw [h1] at he
  have : mget m id = e := by
    unfold mget
    cases hm : m id with
    | none => rw [hm] at he; simp only [DataW.held.injEq] at he; exact he.1
    | some x => rw [hm] at he; simp only [DataW.held.injEq] at he; exact he.1
  rw [this]
end Go.Proofs.Ytdpaocikmijioac

namespace Go.Proofs.Ytdpaocikmijioac
open Go.RowKit Go.Maps

theorem imaxK_any (a b r : Key) (hr : Hid (mx a b = r)) (ha : a.2.2.2.2.size ≤ 1048576) (hb : b.2.2.2.2.size ≤ 1048576) (w : World) : Calls Try.prog 92 #[.agg #[.int .i64 a.1, .int .i64 a.2.1, .int .i64 a.2.2.1, .int .i64 a.2.2.2.1, .string a.2.2.2.2], .agg #[.int .i64 b.1, .int .i64 b.2.1, .int .i64 b.2.2.1, .int .i64 b.2.2.2.1, .string b.2.2.2.2]] w fun e w' => e = .returned (.agg #[.int .i64 r.1, .int .i64 r.2.1, .int .i64 r.2.2.1, .int .i64 r.2.2.2.1, .string r.2.2.2.2]) ∧ Below w.heap.size w w' := by
  refine imax_is _ _ _ _ _ _ _ _ _ _ _ _ _ _ _ ?_ (by omega) (by omega) w
  rw [isMax_mx]
  exact (unhide hr).symm

/-- The items laid into the map, one behind the other. -/
def fm (m : Int → Option Key) : List Itm → Int → Option Key
  | [] => m
  | x :: r => fm (upd m x.1 (mx (mget m x.1) x.2)) r
theorem fm_at {m : Int → Option Key} {xs : List Itm} {k : Nat} {x : Itm} (h : xs[k]? = some x) : fm m (xs.drop k) = fm (upd m x.1 (mx (mget m x.1) x.2)) (xs.drop (k + 1)) := by
  rw [drop_at h, fm]
def SmlM (m : Int → Option Key) : Prop := ∀ id e, m id = some e → e.2.2.2.2.size ≤ 1048576
theorem mget_sml {m : Int → Option Key} (h : SmlM m) (id : Int) : (mget m id).2.2.2.2.size ≤ 1048576 := by
  unfold mget
  cases hm : m id with
  | none => show (zeroK.2.2.2.2.size) ≤ _; exact Nat.zero_le _
  | some e => exact h id e hm
theorem mx_sml {a b : Key} (ha : a.2.2.2.2.size ≤ 1048576) (hb : b.2.2.2.2.size ≤ 1048576) : (mx a b).2.2.2.2.size ≤ 1048576 := by
  unfold mx
  split
  · exact hb
  · exact ha
theorem upd_sml {m : Int → Option Key} (h : SmlM m) (id : Int) {e : Key} (he : e.2.2.2.2.size ≤ 1048576) : SmlM (upd m id e) := by
  intro j x hx
  unfold upd at hx
  split at hx
  · cases hx; exact he
  · exact h j x hx
theorem cut_sml {m : Int → Option Key} (h : SmlM m) (id : Int) : SmlM (cut m id) := by
  intro j x hx
  unfold cut at hx
  split at hx
  · cases hx
  · exact h j x hx

theorem owm_later {w w' : World} {b n : Nat} {D : DataW Key} (h : OwM w b n D) (hb : Below w.heap.size w w') : OwM w' b n D := h.kept (grown_below none hb) (by simp)
/-- A row of cells is no map. -/
theorem Rw.beside {α : Type} {enc : α → List Value} {k : Nat} (hk : ∀ x, (enc x).length = k) (h0 : 0 < k) {w w' : World} {v : Value} {xs : List α} (h : Rw enc k w v xs) {b n : Nat} {D : DataW Key} (hm : OwM w b n D) (hg : w.grownBy w' (some b)) : Rw enc k w' v xs := by
  obtain ⟨a, cap, rfl, hcap, h⟩ := h
  refine ⟨a, cap, rfl, hcap, ?_⟩
  rcases h with h | ⟨g, off, rfl, hlt, hc⟩
  · exact .inl h
  · by_cases hz : xs = []
    · exact .inl hz
    · refine .inr ⟨g, off, rfl, Nat.lt_of_lt_of_le hlt hg.size, fun i x hx j hj => ?_⟩
      have hne : g ≠ b := by
        intro e
        subst e
        have hpos : 0 < xs.length := List.length_pos_iff.2 hz
        have := hc 0 xs[0] (by simp [hpos]) 0 h0
        obtain ⟨es, clock, hh, _⟩ := hm
        have e0 : (enc xs[0])[0]? = some ((enc xs[0])[0]'(by rw [hk]; exact h0)) := List.getElem?_eq_getElem _
        rw [e0] at this
        simp [World.cell?, hh] at this
      exact (World.cell?_of_block (w := w) (hg.block g hlt (by simp [hne]))).trans (hc i x hx j hj)

theorem keepX {W : World} {g : Nat} {T : TypeId} {c0 c1 c2 c3 c4 c5 : Value} (h : W.heap[g]? = some (.cells #[c0, c1, c2, c3, c4, c5] T (0, 0))) : W.cell? ⟨g, 0, none⟩ = some c0 ∧ W.cell? ⟨g, 1, none⟩ = some c1 ∧ W.cell? ⟨g, 2, none⟩ = some c2 ∧ W.cell? ⟨g, 3, none⟩ = some c3 ∧ W.cell? ⟨g, 4, none⟩ = some c4 ∧ W.cell? ⟨g, 5, none⟩ = some c5 := by
  obtain ⟨h0, h1, h2, h3, h4, h5, -⟩ := blk_cells6 h
  exact ⟨h0, h1, h2, h3, h4, h5⟩
set_option maxHeartbeats 8000000 in
set_option maxRecDepth 100000 in
theorem ijoini_any (bm n : Nat) (D : DataW Key) (m : Int → Option Key) (ai : Option Addr) (ni ci : Nat) (xs : List Itm) (hfit : ∀ (k : Nat) (x : Itm), xs[k]? = some x → FitN x.1 ∧ x.2.2.2.2.2.size ≤ 1048576) (hsm : SmlM m) (w : World) (hni : ni ≤ 1000000) (hn : n ≤ 1000000)
    (hm : OwM w bm n D) (hv : MapV D m) (hx : Rw encI 6 w (.slice ai ni ci) xs) :
    Calls Try.prog 66 #[.map (some bm), .slice ai ni ci] w fun e w' => e = .returned (.tuple #[]) ∧ (∃ n' D', OwM w' bm n' D' ∧ n' ≤ n + ni ∧ MapV D' (fm m xs) ∧ SmlM (fm m xs)) ∧ w.grownBy w' (some bm) := by
  have HX := hide hx
  have HM := hide hm
  have HV := hide hv
  have HS := hide hsm
  have HFT := hide hfit
  clear hx hm hv hsm hfit
  go_enter Try.func66, Try.ntmps66
  go_wp2
  go_loopw [8] (fun i wr => ∃ (k n' : Nat) (D' : DataW Key) (m' : Int → Option Key), k ≤ ni ∧ i = .int .i64 k ∧ n' ≤ n + k ∧ OwM wr bm n' D' ∧ MapV D' m' ∧ SmlM m' ∧ fm m' (xs.drop k) = fm m xs ∧ w.grownBy wr (some bm)) (fun i _ => ni - (intOf i).toNat)
  case atStart => exact ⟨0, n, D, m, Nat.zero_le _, rfl, by omega, unhide HM, unhide HV, unhide HS, rfl, grown_refl _ _⟩
  case round =>
    obtain ⟨k, n', D', m', hk, rfl, hn', hM, hV, hS, hrec, hgr⟩ := hrel
    have HM1 := hide hM
    have HV1 := hide hV
    have HS1 := hide hS
    have HR := hide hrec
    have HG := hide hgr
    have RX := hide ((unhide HX).beside encI_len (by omega) (unhide HM) hgr)
    clear hM hV hS hrec hgr
    by_cases hlt : k < ni
    · obtain ⟨x, b, off, hx, rfl, hb, hcap, hc⟩ := (unhide RX).at hlt
      obtain ⟨c0, c1, c2, c3, c4, c5⟩ := item_cells hc
      obtain ⟨hid, hxs⟩ := unhide HFT k x hx
      obtain ⟨g, hg⟩ : ∃ g, mget m' x.1 = g := ⟨_, rfl⟩
      obtain ⟨r, hr⟩ : ∃ r, mx g x.2 = r := ⟨_, rfl⟩
      have hgs : g.2.2.2.2.size ≤ 1048576 := by rw [← hg]; exact mget_sml (unhide HS1) _
      have hrs : r.2.2.2.2.size ≤ 1048576 := by rw [← hr]; exact mx_sml hgs hxs
      have HE := hide (fm_at (m := m') hx)
      rw [unhide HR, hg, hr] at HE
      have HRR := hide hr
      have HID := hide hid
      have hlk := look (unhide HM1) (unhide HV1) hid
      rw [hg] at hlk
      have HLK := hide hlk
      clear hc hx hg hr hlk hid
      go_wp2_with fail
      obtain ⟨W, hW⟩ : ∃ W, W = wr.alloc (.cells #[.int .i64 x.1, .int .i64 x.2.1, .int .i64 x.2.2.1, .int .i64 x.2.2.2.1, .int .i64 x.2.2.2.2.1, .string x.2.2.2.2.2] 75) := ⟨_, rfl⟩
      rw [← hW]
      have hWB : Below wr.heap.size wr W := by rw [hW]; exact (Below.refl _ _).alloc (Nat.le_refl _) _
      have KX : Hid (W.heap[wr.heap.size]? = some (.cells #[.int .i64 x.1, .int .i64 x.2.1, .int .i64 x.2.2.1, .int .i64 x.2.2.2.1, .int .i64 x.2.2.2.2.1, .string x.2.2.2.2.2] 75 (0, 0)) ∧ wr.heap.size < W.heap.size) := by rw [hW]; exact hide ⟨newB1 wr _, by simp⟩
      have KXD : Hid (W.drew.heap[wr.heap.size]? = some (.cells #[.int .i64 x.1, .int .i64 x.2.1, .int .i64 x.2.2.1, .int .i64 x.2.2.2.1, .int .i64 x.2.2.2.2.1, .string x.2.2.2.2.2] 75 (0, 0)) ∧ wr.heap.size < W.drew.heap.size) := KX
      have HMW := hide (owm_later (unhide HM1) hWB)
      have hlk : (Instr.lookup 92 (.map (some bm)) (.int .i64 x.1) false).run Try.prog W.drew = .ok (.agg #[.int .i64 g.1, .int .i64 g.2.1, .int .i64 g.2.2.1, .int .i64 g.2.2.2.1, .string g.2.2.2.2]) W.drew := by
        have h := look (show OwM W.drew bm n' D' from unhide HMW) (unhide HV1) (unhide HID)
        have h2 := unhide HLK
        rw [look (unhide HM1) (unhide HV1) (unhide HID)] at h2
        simp only [Result.ok.injEq, and_true] at h2
        rw [h2] at h
        exact h
      have HWB := hide hWB
      clear hW hWB HLK c0 c1 c2 c3 c4 c5
      have hbmne : bm ≠ wr.heap.size := fun e => by have := (unhide HM1).lt; omega
      go_region_held3 (fun V => V.cell? ⟨wr.heap.size, 0, none⟩ = some (.int .i64 x.1) ∧ V.cell? ⟨wr.heap.size, 1, none⟩ = some (.int .i64 x.2.1) ∧ V.cell? ⟨wr.heap.size, 2, none⟩ = some (.int .i64 x.2.2.1) ∧ V.cell? ⟨wr.heap.size, 3, none⟩ = some (.int .i64 x.2.2.2.1) ∧ V.cell? ⟨wr.heap.size, 4, none⟩ = some (.int .i64 x.2.2.2.2.1) ∧ V.cell? ⟨wr.heap.size, 5, none⟩ = some (.string x.2.2.2.2.2))
        (first | (with_reducible exact keepX (unhide KX).1) | (with_reducible exact keepX (unhide KXD).1) | (with_reducible exact keepX (unhide KX1).1) | (with_reducible exact keepX (unhide KX2).1))
        (first | (go_at_call 92; refine (imaxK_any g x.2 r HRR hgs hxs _).mono ?_; rintro e w1 ⟨rfl, b1⟩; have b1' : Below W.heap.size W w1 := ⟨b1.os, b1.tape, b1.output, b1.size, b1.block⟩; have KX1 := hide (keptblk b1' KX); obtain ⟨w2, hrun, hM2, hG2⟩ := (owm_later (unhide HMW) b1').update klaw Try.underlying92 (by unfold maxLen; omega) (kof (unhide HID)) (RK_mk r); have KX2 := hide (And.intro ((hG2.block _ (unhide KX1).2 (by simp; exact fun e => hbmne e.symm)).trans (unhide KX1).1) (Nat.lt_of_lt_of_le (unhide KX1).2 hG2.size)); have HM2 := hide hM2; have HG2 := hide hG2; have HB1 := hide b1'; clear b1 b1' hM2 hG2))
      have HG3 := hide (grown_trans2 (unhide HG) (grown_trans2 (grown_below _ ((unhide HWB).trans ((unhide HB1).mono (unhide HWB).size))) (unhide HG2)))
      clear HG HWB HB1 HG2 hrun hlk KX KXD KX1 KX2
      go_wp2
      go_roundw
      case rel => exact ⟨k + 1, n' + 1, _, upd m' x.1 r, by omega, by go_num, by omega, unhide HM2, (unhide HV1).put (unhide HM1).isMap (key_lit _) r, upd_sml (unhide HS1) _ hrs, (unhide HE).symm, unhide HG3⟩
      case measure => simp [intOf]; omega
    · have HE : Hid (m' = fm m xs) := by
        have h := unhide HR
        rw [drop_end (unhide HX).len.1 hk hlt] at h
        exact hide h
      go_wp2
      go_end0
      exact ⟨rfl, ⟨n', D', unhide HM1, by omega, unhide HE ▸ unhide HV1, unhide HE ▸ unhide HS1⟩, unhide HG⟩

/-- What is over is dropped, floor by floor. -/
def fd (m : Int → Option Key) : List Flr → Int → Option Key
  | [] => m
  | f :: r => fd (if (mget m f.1).1 ≤ f.2 then cut m f.1 else m) r
theorem fd_hit {m : Int → Option Key} {fs : List Flr} {k : Nat} {f : Flr} {g : Key} (h : fs[k]? = some f) (hg : mget m f.1 = g) (hd : decide (g.1 ≤ f.2) = true) : fd m (fs.drop k) = fd (cut m f.1) (fs.drop (k + 1)) := by
  rw [drop_at h, fd, hg, if_pos (of_decide_eq_true hd)]
theorem fd_miss {m : Int → Option Key} {fs : List Flr} {k : Nat} {f : Flr} {g : Key} (h : fs[k]? = some f) (hg : mget m f.1 = g) (hd : decide (g.1 ≤ f.2) = false) : fd m (fs.drop k) = fd m (fs.drop (k + 1)) := by
  rw [drop_at h, fd, hg, if_neg (of_decide_eq_false hd)]

set_option maxHeartbeats 8000000 in
set_option maxRecDepth 100000 in
theorem idrop_any (bm n : Nat) (D : DataW Key) (m : Int → Option Key) (af : Option Addr) (nf cf : Nat) (fs : List Flr) (hfit : ∀ (k : Nat) (x : Flr), fs[k]? = some x → FitN x.1) (hsm : SmlM m) (w : World) (hnf : nf ≤ 1000000)
    (hm : OwM w bm n D) (hv : MapV D m) (hx : Rw encF 2 w (.slice af nf cf) fs) :
    Calls Try.prog 67 #[.map (some bm), .slice af nf cf] w fun e w' => e = .returned (.tuple #[]) ∧ (∃ D', OwM w' bm n D' ∧ MapV D' (fd m fs) ∧ SmlM (fd m fs)) ∧ w.grownBy w' (some bm) := by
  have HX := hide hx
  have HM := hide hm
  have HV := hide hv
  have HS := hide hsm
  have HFT := hide hfit
  clear hx hm hv hsm hfit
  go_enter Try.func67, Try.ntmps67
  go_wp2
  go_loopw [8] (fun i wr => ∃ (k : Nat) (D' : DataW Key) (m' : Int → Option Key), k ≤ nf ∧ i = .int .i64 k ∧ OwM wr bm n D' ∧ MapV D' m' ∧ SmlM m' ∧ fd m' (fs.drop k) = fd m fs ∧ w.grownBy wr (some bm)) (fun i _ => nf - (intOf i).toNat)
  case atStart => exact ⟨0, D, m, Nat.zero_le _, rfl, unhide HM, unhide HV, unhide HS, rfl, grown_refl _ _⟩
  case round =>
    obtain ⟨k, D', m', hk, rfl, hM, hV, hS, hrec, hgr⟩ := hrel
    have HM1 := hide hM
    have HV1 := hide hV
    have HS1 := hide hS
    have HR := hide hrec
    have HG := hide hgr
    have RX := hide ((unhide HX).beside encF_len (by omega) (unhide HM) hgr)
    clear hM hV hS hrec hgr
    by_cases hlt : k < nf
    · obtain ⟨x, b, off, hx, rfl, hb, hcap, hc⟩ := (unhide RX).at hlt
      have c0 : wr.cell? ⟨b, off + k * 2, none⟩ = some (.int .i64 x.1) := hc 0 (by omega)
      have c1 : wr.cell? ⟨b, off + k * 2 + 1, none⟩ = some (.int .i64 x.2) := hc 1 (by omega)
      have hid := unhide HFT k x hx
      obtain ⟨g, hg⟩ : ∃ g, mget m' x.1 = g := ⟨_, rfl⟩
      have HMW := hide (owm_later (unhide HM1) ((Below.refl wr.heap.size wr).alloc (Nat.le_refl _) (.cells #[.int .i64 x.1, .int .i64 x.2] 78)))
      have hlk := look (unhide HMW) (unhide HV1) hid
      rw [hg] at hlk
      have HK := hide (kof hid)
      have hf0 := field0 g
      rcases Bool.eq_false_or_eq_true (decide (g.1 ≤ x.2)) with hle | hle
      · have HE := hide (fd_hit hx hg hle)
        rw [unhide HR] at HE
        clear hc hx hg hid
        go_wp2_with (first | (at_delete; refine wpList_delete_own _ rfl _ _ 92 3 rfl 55 klaw Try.underlying92 RK bm n D' rfl (unhide HMW) _ _ rfl (unhide HK) ?_; intro w1 hM2 ht2; have HM2 := hide hM2; have HT2 := hide ht2.grown; clear hM2 ht2))
        go_roundw
        case rel => exact ⟨k + 1, _, cut m' x.1, by omega, by go_num, unhide HM2, (unhide HV1).del _, cut_sml (unhide HS1) _, (unhide HE).symm, grown_trans2 (unhide HG) (grown_trans2 (World.grownBy_alloc _ _ _) (unhide HT2))⟩
        case measure => simp [intOf]; omega
      · have HE := hide (fd_miss hx hg hle)
        rw [unhide HR] at HE
        clear hc hx hg hid
        go_wp2
        go_roundw
        case rel => exact ⟨k + 1, D', m', by omega, by go_num, unhide HMW, unhide HV1, unhide HS1, (unhide HE).symm, grown_trans2 (unhide HG) (World.grownBy_alloc _ _ _)⟩
        case measure => simp [intOf]; omega
    · have HE : Hid (m' = fd m fs) := by
        have h := unhide HR
        rw [drop_end (unhide HX).len.1 hk hlt] at h
        exact hide h
      go_wp2
      go_end0
      exact ⟨rfl, ⟨D', unhide HM1, unhide HE ▸ unhide HV1, unhide HE ▸ unhide HS1⟩, unhide HG⟩
end Go.Proofs.Ytdpaocikmijioac

namespace Go.Proofs.Ytdpaocikmijioac
open Go.RowKit Go.Maps

theorem ent_cons (x : Itm) (r : List Itm) (id : Int) : ent (x :: r) id = if x.1 = id then some x.2 else ent r id := by
  unfold ent
  rw [List.find?_cons]
  by_cases h : x.1 = id
  · simp [h]
  · rw [show (x.1 == id) = false by simpa using h, if_neg h]
theorem fm_ent : ∀ (xs : List Itm) (m : Int → Option Key), xs.Pairwise (fun a b => a.1 < b.1) → ∀ id, fm m xs id = (match ent xs id with
    | some e => some (mx (mget m id) e)
    | none => m id)
  | [], m, _, id => rfl
  | x :: r, m, h, id => by
    obtain ⟨h1, h2⟩ := List.pairwise_cons.1 h
    rw [fm, fm_ent r _ h2 id, ent_cons]
    by_cases hx : x.1 = id
    · subst hx
      have : ent r x.1 = none := by
        cases hq : ent r x.1 with
        | none => rfl
        | some e => have := h1 _ ((ent_iff h2).1 hq); simp at this
      rw [this]
      simp [upd]
    · rw [if_neg hx]
      have hu : upd m x.1 (mx (mget m x.1) x.2) id = m id := by rw [upd, if_neg (Ne.symm hx)]
      have hg : mget (upd m x.1 (mx (mget m x.1) x.2)) id = mget m id := by rw [mget, hu, mget]
      rw [hu, hg]
theorem mx_zero {e : Key} (h : 1 ≤ e.1) : mx zeroK e = e := by
  have : keyC zeroK e < 0 := by
    have : cmpI 0 e.1 = -1 := by unfold cmpI; rw [if_pos (by omega)]
    unfold keyC lexC
    rw [show zeroK.1 = 0 from rfl, this]
    simp
  rw [mx, if_pos this]
theorem fd_none : ∀ (fs : List Flr) (m : Int → Option Key) (id : Int), m id = none → fd m fs id = none
  | [], _, _, h => h
  | f :: r, m, id, h => by
    rw [fd]
    refine fd_none r _ id ?_
    split
    · rw [cut]; split
      · rfl
      · exact h
    · exact h
theorem fd_at : ∀ (fs : List Flr) (m : Int → Option Key), fs.Pairwise (fun a b => a.1 < b.1) → (∀ f ∈ fs, 1 ≤ f.2) → ∀ (id : Int) (e : Key), m id = some e → 1 ≤ e.1 → fd m fs id = if e.1 ≤ flo fs id then none else some e
  | [], m, _, _, id, e, h, he => by rw [fd, h, if_neg (by show ¬ e.1 ≤ 0; omega)]
  | f :: r, m, hp, h1, id, e, h, he => by
    obtain ⟨p1, p2⟩ := List.pairwise_cons.1 hp
    rw [fd]
    by_cases hf : f.1 = id
    · have hfl : flo (f :: r) id = f.2 := flo_mem hp (by rw [← hf]; simp)
      have hg : mget m f.1 = e := by rw [mget, hf, h]; rfl
      rw [hfl, hg]
      by_cases hle : e.1 ≤ f.2
      · rw [if_pos hle, if_pos hle]
        exact fd_none r _ id (by rw [cut, if_pos hf.symm])
      · rw [if_neg hle, if_neg hle, fd_at r m p2 (fun g hg => h1 g (by simp [hg])) id e h he]
        have : flo r id = 0 := by
          by_cases hc : flo r id = 0
          · exact hc
          · have := p1 _ ((flo_pos p2 hc).1 rfl)
            simp only at this; omega
        rw [this, if_neg (by omega)]
    · have hfl : flo (f :: r) id = flo r id := by
        unfold flo
        rw [List.find?_cons, show (f.1 == id) = false by simpa using hf]
      rw [hfl]
      refine fd_at r _ p2 (fun g hg => h1 g (by simp [hg])) id e ?_ he
      split
      · rw [cut, if_neg (Ne.symm hf)]; exact h
      · exact h
section
variable {xs ys : List Itm} {fs gs : List Flr}
theorem map_join (hx : OkS xs fs) (hy : OkS ys gs) (id : Int) : fm (fm (fun _ => none) xs) ys id = jE (ent xs id) (ent ys id) := by
  have h1 : fm (fun _ => none) xs id = ent xs id := by
    rw [fm_ent xs _ hx.px]
    cases hq : ent xs id with
    | none => rfl
    | some e =>
      show some (mx zeroK e) = _
      rw [mx_zero (okE_inc (hx.ent_in hq).2.2.1).1]
  rw [fm_ent ys _ hy.px]
  cases hq : ent ys id with
  | none =>
    rw [h1]
    cases ent xs id <;> rfl
  | some e =>
    show some (mx (mget (fm (fun _ => none) xs) id) e) = _
    rw [mget, h1]
    cases ent xs id with
    | none => show some (mx zeroK e) = some e; rw [mx_zero (okE_inc (hy.ent_in hq).2.2.1).1]
    | some d => rfl
theorem map_end (hx : OkS xs fs) (hy : OkS ys gs) (x : Itm) : x ∈ joinI xs fs ys gs ↔ FitN x.1 ∧ fd (fm (fm (fun _ => none) xs) ys) (joinF fs gs) x.1 = some x.2 := by
  have hm := map_join hx hy x.1
  rw [joinI, mem_jI]
  cases hj : jE (ent xs x.1) (ent ys x.1) with
  | none =>
    rw [hj] at hm
    rw [fd_none _ _ _ hm]
    simp
  | some e =>
    rw [hj] at hm
    have hin := hx.jE_in hy hj
    have he := okE_inc hin.2.2
    rw [fd_at (joinF fs gs) _ (jF_pair 5) (fun f hf => (mem_jF.1 hf).2.2.1) x.1 e hm he.1, join_flo hx hy]
    constructor
    · rintro ⟨_, _, h3, h4⟩
      cases h3
      rw [if_neg (by omega)]
      exact ⟨by unfold FitN; omega, rfl⟩
    · rintro ⟨_, h⟩
      split at h
      · cases h
      · cases h
        exact ⟨hin.1, by omega, rfl, by omega⟩
end
end Go.Proofs.Ytdpaocikmijioac
