/-
  spec.l3Draw: some state of at most six items and floors, with short texts; the cursor goes on, nothing else turns. No statement is proved here.
-/
import Derived.Test.YtdpaocikmijioabGreatL3R
import Derived.Test.YtdpaocikmijioabGreatL3Q
import Derived.Deep.RegionWith
namespace Go.Proofs.YtdpaocikmijioabGreat
open Go.RowKit

set_option maxHeartbeats 8000000 in
set_option maxRecDepth 100000 in
theorem l3draw_any (g : Nat) (v : Value) (xs : List Int) (w : World) (hlen : xs.length ≤ 1048576) (hbd : ∀ z ∈ xs, 0 ≤ z ∧ z ≤ 255) (hc : Cur w g v xs) :
    Calls Tryz.prog 56 #[.pointer (some ⟨g, 0, none⟩)] w fun e w' => ∃ a1 n1 c1 a2 n2 c2 its fls, e = .returned (.agg #[.slice a1 n1 c1, .slice a2 n2 c2]) ∧ D3 w w' g v xs (.slice a1 n1 c1) (.slice a2 n2 c2) its fls := by
  obtain ⟨i0, hi, hz0, hz1, hz2⟩ := info_parts Tryz.infoItem
  obtain ⟨i1, gi, gz0, gz1, gz2⟩ := info_parts Tryz.infoFloor
  have HD := hide hbd
  have HC := hide hc
  have C0 := hide (cur_alloc hc (StB (.slice none 0 0) (.slice none 0 0)))
  clear hbd hc
  go_enter Tryz.func56, Tryz.ntmps56
  go_wp2_with fail
  refine (l3right_any g v xs _ hlen (unhide HD) (unhide C0)).mono ?_
  rintro e w1 ⟨a1, n1, c1, a2, n2, c2, its, fls, rfl, d, l1, l2⟩
  have R1 := hide (R3.of_draw rfl (unhide HC) d l1 l2)
  clear d l1 l2 C0
  go_wp2_with fail
  refine (below_any g v xs 14 _ hlen (unhide HD) (by omega) (by omega) (unhide R1).cu).mono ?_
  rintro e w2 ⟨⟨n, rfl, na, nb⟩, c2', g2⟩
  have R2 := hide ((unhide R1).call c2' g2)
  have RD := hide (unhide R2).drew
  have e1 := ((unhide R2).oi.rw encI_len).len.1
  have e2 := ((unhide R2).of.rw encF_len).len.1
  have l1 := (unhide R2).li
  have l2 := (unhide R2).lf
  obtain ⟨h1, h2⟩ : n1 ≤ 5 ∧ n2 ≤ 5 := by omega
  have E1 := hide e1
  have E2 := hide e2
  have hw2 := (unhide R2).gr.size
  have hbl2 := (unhide R2).bl
  clear e1 e2 l1 l2 c2' g2 R1
  obtain ⟨p0, p1, p2⟩ := blk_cells2 (unhide R2).k1
  by_cases h0 : n = 0
  · subst h0
    go_upto_region 4 with fail
    go_region_law (first
      | (go_simp; go_at_call_of 70 (Value.int IntKind.i64 7); refine (below_any g v xs 7 _ hlen (unhide HD) (by omega) (by omega) (unhide RD).cu).mono ?_; rintro e w3 ⟨⟨x3, rfl, x3a, x3b⟩, c3, g3⟩; have RX := hide ((unhide RD).call c3 g3); have zbRX := (unhide RX).bl; have zsRX := (unhide RX).gr.size; obtain ⟨p0, p1, p2⟩ := blk_cells2 (unhide RX).k1; clear c3 g3)
      | (go_simp; go_at_call 71; refine (draw_any g v xs _ hlen (unhide HD) (unhide RX).cu).mono ?_; rintro e w4 ⟨⟨ai, ar, ab, av, ad, rfl, had⟩, c4, g4⟩; have RY := hide ((unhide RX).call c4 g4); have HN := hide had; have zbRY := (unhide RY).bl; have zsRY := (unhide RY).gr.size; obtain ⟨p0, p1, p2⟩ := blk_cells2 (unhide RY).k1; clear c4 g4 had)
      | (refine step_app1 encI_len (by omega) oneI 40 24 i0 _ 56 Tryz.underlying24 hi hz0 hz1 hz2 rfl (by omega) w4 (IntKind.i64.wrap (x3 - 1), ((ai, ar, ab, av, ad) : Key)) rfl _ _ rfl w.heap.size _ its n1 E1 rfl (unhide RY).oi rfl (by omega) (by omega) ?_; intro a5 c5 w5 hO hG; have RZ := hide ((unhide RY).appI (m' := 6) hO hG (by omega) (by simp; have := (unhide RY).li; omega) (nine_app (unhide RY).ni (unhide HN))); obtain ⟨p0, p1, p2⟩ := blk_cells2 ((unhide RY).turn hG (unhide RY).rowI).2.2.2; clear hO hG))
    all_goals clear p0 p1 p2
    all_goals
      obtain ⟨s0, s1, s2⟩ := blk_cells2 (unhide RZ).k1
      obtain ⟨q0, q1, q2⟩ := blk_cells2 (unhide RZ).k0
      have F := hide ((unhide RZ).fin (by omega))
      clear RZ
      go_wp2
      exact bodyPost_ret (v := .agg #[(.slice a5 (n1 + 1) c5), (.slice a2 n2 c2)]) (by simp [results, Tryz.results56, go_sem, q0, q1]) rfl ⟨_, _, _, _, _, _, _, _, rfl, unhide F⟩
  have e0 : (n == 0) = false := by simpa using h0
  by_cases h1' : n = 1
  · subst h1'
    go_upto_region 6 with fail
    have SGA := hide (seg_new w2.drew 3 [.int .i64 0, .int .i64 1, .int .i64 5, .int .i64 1001] 4 rfl (by decide))
    have hgl : g < w2.heap.size := Nat.lt_of_lt_of_le (unhide R2).gl hw2
    have NE := hide (ne_new (k := w2.drew.heap.size) hgl 4 4)
    go_region_law (first
      | (go_simp; go_at_call 70; refine (below_any g v xs 7 w2.drew hlen (unhide HD) (by omega) (by omega) (unhide RD).cu).mono ?_; rintro e w3 ⟨⟨x3, rfl, xa, xb⟩, c3, g3⟩; have RX := hide ((unhide RD).call c3 g3); have zx : g < w3.heap.size := Nat.lt_of_lt_of_le (unhide RX).gl (unhide RX).gr.size; have zbX := (unhide RX).bl; have SGX := hide (seg_new w3 3 [.int .i64 0, .int .i64 1, .int .i64 5, .int .i64 1001] 4 rfl (by decide)); have RXA := hide (unhide (R3.allocH RX (.cells ([.int .i64 0, .int .i64 1, .int .i64 5, .int .i64 1001] : List Value).toArray 3))); have zs := (unhide RX).gr.size; obtain ⟨p0, p1, p2⟩ := blk_cells2 (unhide RX).k1; clear c3 g3)
      | (go_simp; go_at_call 70; refine (below_any g v xs 7 (w2.drew.alloc (.cells ([.int .i64 0, .int .i64 1, .int .i64 5, .int .i64 1001] : List Value).toArray 3)) hlen (unhide HD) (by omega) (by omega) (unhide (R3.allocH RD _)).cu).mono ?_; rintro e w3 ⟨⟨x3, rfl, xa, xb⟩, c3, g3⟩; have RXA := hide ((unhide (R3.allocH RD _)).call c3 g3); have SGY := hide (segv_grown (unhide SGA) g3 (unhide NE)); have zbX := (unhide RXA).bl; have zs := (unhide RXA).gr.size; obtain ⟨p0, p1, p2⟩ := blk_cells2 (unhide RXA).k1; clear c3 g3)
      | (go_simp; go_at_call 95; refine (pickint_any g v xs (.slice (some ⟨w2.drew.heap.size, 0, none⟩) 4 4) [.int .i64 0, .int .i64 1, .int .i64 5, .int .i64 1001] w3 hlen (unhide HD) (unhide RXA).cu (unhide SGY) (unhide NE) (by decide) (by decide)).mono ?_; rintro e w5 ⟨⟨c, hcm, rfl⟩, c5, g5⟩; obtain ⟨q, rfl⟩ := pick4 hcm; have RY := hide ((unhide RXA).call c5 g5); have zbY := (unhide RY).bl; have zsY := (unhide RY).gr.size; obtain ⟨p0, p1, p2⟩ := blk_cells2 (unhide RY).k1; clear c5 g5 hcm)
      | (go_simp; go_at_call 95; refine (pickint_any g v xs (.slice (some ⟨w3.heap.size, 0, none⟩) 4 4) [.int .i64 0, .int .i64 1, .int .i64 5, .int .i64 1001] (w3.alloc (.cells ([.int .i64 0, .int .i64 1, .int .i64 5, .int .i64 1001] : List Value).toArray 3)) hlen (unhide HD) (unhide RXA).cu (unhide SGX) (ne_new zx _ _) (by decide) (by decide)).mono ?_; rintro e w5 ⟨⟨c, hcm, rfl⟩, c5, g5⟩; obtain ⟨q, rfl⟩ := pick4 hcm; have RY := hide ((unhide RXA).call c5 g5); have zbY := (unhide RY).bl; have zsY := (unhide RY).gr.size; obtain ⟨p0, p1, p2⟩ := blk_cells2 (unhide RY).k1; clear c5 g5 hcm)
      | (refine step_app1 encF_len (by omega) oneF 84 25 i1 _ 16 Tryz.underlying25 gi gz0 gz1 gz2 rfl (by omega) w5 (IntKind.i64.wrap (x3 - 1), q) rfl _ _ rfl w.heap.size _ fls n2 E2 rfl (unhide RY).of rfl (by omega) (by omega) ?_; intro a5 c5 w6 hO hG; have RZ := hide ((unhide RY).appF (m' := 6) hO hG (by omega) (by simp; have := (unhide RY).lf; omega)); obtain ⟨p0, p1, p2⟩ := blk_cells2 ((unhide RY).turn hG (unhide RY).rowF).2.2.2; clear hO hG))
    all_goals clear p0 p1 p2
    all_goals
      obtain ⟨s0, s1, s2⟩ := blk_cells2 (unhide RZ).k1
      obtain ⟨q0, q1, q2⟩ := blk_cells2 (unhide RZ).k0
      have F := hide ((unhide RZ).fin (by omega))
      clear RZ
      go_wp2
      exact bodyPost_ret (v := .agg #[(.slice a1 n1 c1), (.slice a5 (n2 + 1) c5)]) (by simp [results, Tryz.results56, go_sem, q0, q1]) rfl ⟨_, _, _, _, _, _, _, _, rfl, unhide F⟩
  have e1 : (n == 1) = false := by simpa using h1'
  by_cases h2' : n = 2
  · subst h2'
    by_cases hp : 0 < n1
    · obtain ⟨q, cap, hq, hqb, hql⟩ := World.ownsRow.form (unhide R2).oi (by have := unhide E1; omega)
      simp only [Value.slice.injEq] at hq
      obtain ⟨rfl, -, rfl⟩ := hq
      have hd : decide (0 < (n1 : Int)) = true := by simp; omega
      go_upto_region 9 with fail
      go_region_law (first
        | (go_simp; go_at_call 70; refine (below_any g v xs (n1 : Int) _ hlen (unhide HD) (by omega) (by omega) (unhide RD).cu).mono ?_; rintro e w3 ⟨⟨x3, rfl, xa, xb⟩, c3, g3⟩; obtain ⟨k, rfl⟩ := Int.eq_ofNat_of_zero_le xa; have hk : k < n1 := (by omega); have RX := hide ((unhide RD).call c3 g3); have zbX := (unhide RX).bl; obtain ⟨p0, p1, p2⟩ := blk_cells2 (unhide RX).k1; clear c3 g3)
        | (go_simp; go_at_call 71; refine (draw_any g v xs _ hlen (unhide HD) (unhide RX).cu).mono ?_; rintro e w4 ⟨⟨ai, ar, ab, av, ad, rfl, had⟩, c4, g4⟩; have RY := hide ((unhide RX).call c4 g4); have RZ := hide ((unhide RY).ent hk ((ai, ar, ab, av, ad) : Key) had); obtain ⟨y0, y1, y2, y3, y4, y5, t0, t1, t2, t3, t4, t5, tf⟩ := items_cells (unhide RY).oi hk; have zbY := (unhide RY).bl; obtain ⟨p0, p1, p2⟩ := blk_cells2 (unhide RY).k1; clear c4 g4 had))
      all_goals clear p0 p1 p2 t0 t1 t2 t3 t4 t5 tf
      all_goals
        obtain ⟨wz, hwz⟩ : ∃ W, W = (((((w4.setCell ⟨q, k * 6 + 1, none⟩ (.int .i64 ai)).setCell ⟨q, k * 6 + 1 + 1, none⟩ (.int .i64 ar)).setCell ⟨q, k * 6 + 1 + 2, none⟩ (.int .i64 ab)).setCell ⟨q, k * 6 + 1 + 3, none⟩ (.int .i64 av)).setCell ⟨q, k * 6 + 1 + 4, none⟩ (.string ad)) := ⟨_, rfl⟩
        rw [← hwz]
        have rz : ∃ is', R3 5 w wz g v xs w.heap.size w1.heap.size (.slice (some ⟨q, 0, none⟩) n1 c1) (.slice a2 n2 c2) is' fls := by rw [hwz]; exact unhide RZ
        obtain ⟨is', rz'⟩ := rz
        have RW := hide rz'
        clear rz' RZ hwz
        obtain ⟨s0, s1, s2⟩ := blk_cells2 (unhide RW).k1
        obtain ⟨q0, q1, q2⟩ := blk_cells2 (unhide RW).k0
        have F := hide ((unhide RW).fin (by omega))
        clear RW
        go_wp2
        exact bodyPost_ret (v := .agg #[(.slice (some ⟨q, 0, none⟩) n1 c1), (.slice a2 n2 c2)]) (by simp [results, Tryz.results56, go_sem, q0, q1]) rfl ⟨_, _, _, _, _, _, _, _, rfl, unhide F⟩
    · have hd : decide (0 < (n1 : Int)) = false := by simp; omega
      obtain ⟨s0, s1, s2⟩ := blk_cells2 (unhide R2).k1
      obtain ⟨q0, q1, q2⟩ := blk_cells2 (unhide R2).k0
      have F := hide ((unhide R2).fin (by omega))
      clear R2
      go_wp2
      exact bodyPost_ret (v := .agg #[(.slice a1 n1 c1), (.slice a2 n2 c2)]) (by simp [results, Tryz.results56, go_sem, q0, q1]) rfl ⟨_, _, _, _, _, _, _, _, rfl, unhide F⟩
  have e2 : (n == 2) = false := by simpa using h2'
  by_cases h3' : n = 3
  · subst h3'
    by_cases hp : 1 < n1
    · obtain ⟨q, cap, hq, hqb, hql⟩ := World.ownsRow.form (unhide R2).oi (by have := unhide E1; omega)
      simp only [Value.slice.injEq] at hq
      obtain ⟨rfl, -, rfl⟩ := hq
      obtain ⟨x, b0, off, hx, ha, hb, hcap, hc⟩ := ((unhide R2).oi.rw encI_len).at hp
      simp only [Option.some.injEq, Addr.mk.injEq, and_true] at ha
      obtain ⟨rfl, rfl⟩ := ha
      have t0 : w2.cell? ⟨q, 6, none⟩ = some (.int .i64 x.1) := hc 0 (by omega)
      have t1 : w2.cell? ⟨q, 7, none⟩ = some (.int .i64 x.2.1) := hc 1 (by omega)
      have t2 : w2.cell? ⟨q, 8, none⟩ = some (.int .i64 x.2.2.1) := hc 2 (by omega)
      have t3 : w2.cell? ⟨q, 9, none⟩ = some (.int .i64 x.2.2.2.1) := hc 3 (by omega)
      have t4 : w2.cell? ⟨q, 10, none⟩ = some (.int .i64 x.2.2.2.2.1) := hc 4 (by omega)
      have t5 : w2.cell? ⟨q, 11, none⟩ = some (.string x.2.2.2.2.2) := hc 5 (by omega)
      obtain ⟨y0, y1, y2, y3, y4, y5, u0', u1', u2', u3', u4', u5', uf⟩ := items_cells (k := 0) (unhide R2).oi (by omega)
      have u0 : w2.cell? ⟨q, 0, none⟩ = some y0 := u0'
      have u1 : w2.cell? ⟨q, 1, none⟩ = some y1 := u1'
      have u2 : w2.cell? ⟨q, 2, none⟩ = some y2 := u2'
      have u3 : w2.cell? ⟨q, 3, none⟩ = some y3 := u3'
      have u4 : w2.cell? ⟨q, 4, none⟩ = some y4 := u4'
      have u5 : w2.cell? ⟨q, 5, none⟩ = some y5 := u5'
      obtain ⟨is0, rz0⟩ := (unhide R2).itm (by omega) (List.mem_of_getElem? hx)
      have RZ := hide (show ∃ is', R3 5 w (setW w2 q (0 * 6) (encI x)).drew g v xs w.heap.size w1.heap.size (.slice (some ⟨q, 0, none⟩) n1 c1) (.slice a2 n2 c2) is' fls from ⟨is0, rz0.drew⟩)
      clear u0' u1' u2' u3' u4' u5' hc hx rz0
      have hd : decide (1 < (n1 : Int)) = true := by simp; omega
      go_upto_region 12 with fail
      go_region
      all_goals clear p0 p1 p2 t0 t1 t2 t3 t4 t5 u0 u1 u2 u3 u4 u5 uf
      all_goals
        obtain ⟨wz, hwz⟩ : ∃ W, W = ((((((w2.setCell ⟨q, 0, none⟩ (.int .i64 x.1)).setCell ⟨q, 1, none⟩ (.int .i64 x.2.1)).setCell ⟨q, 2, none⟩ (.int .i64 x.2.2.1)).setCell ⟨q, 3, none⟩ (.int .i64 x.2.2.2.1)).setCell ⟨q, 4, none⟩ (.int .i64 x.2.2.2.2.1)).setCell ⟨q, 5, none⟩ (.string x.2.2.2.2.2)).drew := ⟨_, rfl⟩
        rw [← hwz]
        have rz : ∃ is', R3 5 w wz g v xs w.heap.size w1.heap.size (.slice (some ⟨q, 0, none⟩) n1 c1) (.slice a2 n2 c2) is' fls := by rw [hwz]; exact unhide RZ
        obtain ⟨is', rz'⟩ := rz
        have RW := hide rz'
        clear rz' RZ hwz
        obtain ⟨s0, s1, s2⟩ := blk_cells2 (unhide RW).k1
        obtain ⟨q0, q1, q2⟩ := blk_cells2 (unhide RW).k0
        have F := hide ((unhide RW).fin (by omega))
        clear RW
        go_wp2
        exact bodyPost_ret (v := .agg #[(.slice (some ⟨q, 0, none⟩) n1 c1), (.slice a2 n2 c2)]) (by simp [results, Tryz.results56, go_sem, q0, q1]) rfl ⟨_, _, _, _, _, _, _, _, rfl, unhide F⟩
    · have hd : decide (1 < (n1 : Int)) = false := by simp; omega
      obtain ⟨s0, s1, s2⟩ := blk_cells2 (unhide R2).k1
      obtain ⟨q0, q1, q2⟩ := blk_cells2 (unhide R2).k0
      have F := hide ((unhide R2).fin (by omega))
      clear R2
      go_wp2
      exact bodyPost_ret (v := .agg #[(.slice a1 n1 c1), (.slice a2 n2 c2)]) (by simp [results, Tryz.results56, go_sem, q0, q1]) rfl ⟨_, _, _, _, _, _, _, _, rfl, unhide F⟩
  have e3 : (n == 3) = false := by simpa using h3'
  clear p0 p1 p2
  obtain ⟨s0, s1, s2⟩ := blk_cells2 (unhide R2).k1
  obtain ⟨q0, q1, q2⟩ := blk_cells2 (unhide R2).k0
  have F := hide ((unhide R2).fin (by omega))
  clear R2
  go_wp2
  exact bodyPost_ret (v := .agg #[(.slice a1 n1 c1), (.slice a2 n2 c2)]) (by simp [results, Tryz.results56, go_sem, q0, q1]) rfl ⟨_, _, _, _, _, _, _, _, rfl, unhide F⟩
end Go.Proofs.YtdpaocikmijioabGreat
