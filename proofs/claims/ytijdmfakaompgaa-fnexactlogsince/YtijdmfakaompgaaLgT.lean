/-
  What was said since some number: the specification's. No statement is proved here.
-/
import Derived.Test.YtijdmfakaompgaaLgJ
import Derived.Test.YtijdmfakaompgaaSJoin2
namespace Go.Proofs.Ytijdmfakaompgaa
open Go.RowKit

theorem kept3' {w W : World} {A B C : Obj} (b : Below (((w.alloc A).alloc B).alloc C).heap.size (((w.alloc A).alloc B).alloc C) W) : W.heap[w.heap.size]? = some A ∧ W.heap[w.heap.size + 1]? = some B ∧ W.heap[w.heap.size + 1 + 1]? = some C := (kept3 b).2.imp id (fun h => ⟨h.1, h.2.1⟩)
set_option maxHeartbeats 8000000 in
set_option maxRecDepth 100000 in
theorem slogsince_any (c f : Int) (a : Option Addr) (n cap : Nat) (ss : List Sta) (seq : Int) (r : Bool) (h0 : Hid (kps c f ss seq = r)) (n1 n2 : Nat) (hn1 : Hid ((lsn r f seq ss).1.length = n1)) (hn2 : Hid ((lsn r f seq ss).2.length = n2)) (w : World) (hn : n ≤ 140737488351232) (ht : tot ss ≤ 140737488351232) (hx : RwS w (.slice a n cap) ss) :
    Calls Try.prog 12 #[LgV c f (.slice a n cap), .int .i64 seq] w fun e w' => ∃ a1 c1 a2 c2, e = .returned (.tuple #[.agg #[.slice a1 n1 c1, .slice a2 n2 c2], .bool r]) ∧ OwI w.heap.size w' (.slice a1 n1 c1) (lsn r f seq ss).1 ∧ OwF w.heap.size w' (.slice a2 n2 c2) (lsn r f seq ss).2 ∧ Below w.heap.size w w' := by
  have HX := hide hx
  have HL := hide hx.len.1
  obtain ⟨ok, hok⟩ : ∃ ok, lok c f ss = ok := ⟨_, rfl⟩
  obtain ⟨q, hq⟩ : ∃ q, inB seq f (f + (n : Int)) = q := ⟨_, rfl⟩
  have hE := unhide h0
  rw [kps, hok, ← unhide HL, hq] at hE
  have HOK := hide hok
  have HQ := hide hq
  have HBV := hide (show Below w.heap.size w (((w.alloc (LgO c f (.slice a n cap))).alloc StZ).alloc StZ) from (((Below.refl w.heap.size w).alloc (Nat.le_refl _) _).alloc (by simp) _).alloc (by simp; omega) _)
  clear hx hok hq
  go_enter Try.func12, Try.ntmps12
  go_wp2_with fail
  refine (slogok_any c f a n cap ss ok HOK _ hn ht ((unhide HX).later (unhide HBV))).mono ?_
  rintro e w1 ⟨rfl, b1⟩
  obtain ⟨B1, k1, k2, k3, z1⟩ := kept3 b1
  have HB1 := hide B1
  have K1 := hide k1
  have K2 := hide k2
  have K3 := hide k3
  have z0 : w.heap.size < w1.heap.size := by omega
  have zz : w.heap.size + 1 < w1.heap.size := by omega
  clear b1 B1 k1 k2 k3 HBV
  cases ok
  · obtain rfl : r = false := by rw [← hE]; rfl
    obtain ⟨q0, q1, qf⟩ := blk_cells2 (unhide K2)
    obtain ⟨t0, t1, tf⟩ := blk_cells2 (unhide K3)
    have e1 : n1 = 0 := (unhide hn1).symm
    have e2 : n2 = 0 := (unhide hn2).symm
    subst e1 e2
    go_wp2
    exact bodyPost_ret (v := .tuple #[.agg #[.slice none 0 0, .slice none 0 0], .bool false]) (by simp [results, Try.results12, go_sem, q0, q1]) rfl ⟨none, 0, none, 0, rfl, World.ownsRow_nil _ _ _ _, World.ownsRow_nil _ _ _ _, ((unhide HB1).setCell (p := ⟨w.heap.size + 1, 0, none⟩) (by simp) _).setCell (p := ⟨w.heap.size + 1, 1, none⟩) (by simp) _⟩
  obtain ⟨⟨c1, c2⟩, cn, ⟨f1, f2⟩, fn, hokL⟩ := lok_iff.1 (unhide HOK)
  have cn' : (n : Int) ≤ c := by rw [unhide HL]; exact cn
  have HKL := hide hokL
  obtain ⟨p0, p1, p2, pf⟩ := blk_cells3 (unhide K1)
  clear cn fn hokL
  go_wp2_with fail
  refine (l1in_is seq f (f + (n : Int)) q (unhide HQ) _).mono ?_
  rintro e w2 ⟨rfl, rfl⟩
  cases q
  · obtain rfl : r = false := by rw [← hE]; rfl
    obtain ⟨q0, q1, qf⟩ := blk_cells2 (unhide K2)
    obtain ⟨t0, t1, tf⟩ := blk_cells2 (unhide K3)
    have e1 : n1 = 0 := (unhide hn1).symm
    have e2 : n2 = 0 := (unhide hn2).symm
    subst e1 e2
    go_wp2
    exact bodyPost_ret (v := .tuple #[.agg #[.slice none 0 0, .slice none 0 0], .bool false]) (by simp [results, Try.results12, go_sem, q0, q1]) rfl ⟨none, 0, none, 0, rfl, World.ownsRow_nil _ _ _ _, World.ownsRow_nil _ _ _ _, ((unhide HB1).setCell (p := ⟨w.heap.size + 1, 0, none⟩) (by simp) _).setCell (p := ⟨w.heap.size + 1, 1, none⟩) (by simp) _⟩
  obtain rfl : r = true := by rw [← hE]; rfl
  obtain ⟨k, m, hk, hs, ht2, -, h8, -, -, -⟩ := kps_parts (unhide HL) (unhide h0)
  have HR : Hid (lsn true f seq ss = jnL (ss.drop k)) := hide (by rw [lsn, if_pos rfl, ht2])
  rw [unhide HR] at hn1 hn2
  have HK := hide hk
  have hkn : k ≤ n := by omega
  clear hE HQ h0 hk ht2
  go_wp2
  clear p0 p1 p2 pf
  go_loopw [7] (fun i wr => ∃ (j : Nat) (v1 v2 : Value), k ≤ j ∧ j ≤ n ∧ i = .int .i64 j ∧ Below w.heap.size w wr ∧ wr.heap[w.heap.size]? = some (LgO c f (.slice a n cap)) ∧ wr.heap[w.heap.size + 1]? = some StZ ∧ wr.heap[w.heap.size + 1 + 1]? = some (.cells #[v1, v2] 32 (0, 0)) ∧ OwI (w.heap.size + 1 + 1) wr v1 (jnL ((ss.drop k).take (j - k))).1 ∧ OwF (w.heap.size + 1 + 1) wr v2 (jnL ((ss.drop k).take (j - k))).2) (fun i _ => n - (intOf i).toNat)
  case atStart => exact ⟨k, .slice none 0 0, .slice none 0 0, Nat.le_refl _, hkn, by first | rfl | (rw [hs]), unhide HB1, unhide K1, unhide K2, unhide K3, by rw [Nat.sub_self]; exact World.ownsRow_nil _ _ _ _, by rw [Nat.sub_self]; exact World.ownsRow_nil _ _ _ _⟩
  case round =>
    obtain ⟨j, v1, v2, hj1, hj, rfl, hb, hk1, hk2, hk3, ho1, ho2⟩ := hrel
    obtain ⟨b1, e1, rfl⟩ := ho1.form
    obtain ⟨b2, e2, rfl⟩ := ho2.form
    have hzg : w.heap.size + 1 + 1 < wr.heap.size := (Array.getElem?_eq_some_iff.1 hk3).1
    have hzr : w.heap.size + 1 < wr.heap.size := by omega
    have hzl : w.heap.size < wr.heap.size := by omega
    have hJ := jnL_ok (okL_take (okL_drop (unhide HKL) k) (j - k))
    obtain ⟨s0, s1, s2, -⟩ := blk_cells3 hk1
    by_cases hlt : j < n
    · obtain ⟨xs, fs, ai, ni, ci, af, nf, cf, b, off, hx, rfl, hbw, hcap, c0, c1, rx, rf⟩ := (unhide HX).at hlt
      have d0 := (hb.cell (p := ⟨b, off + j * 2, none⟩) hbw).trans c0
      have d1 := (hb.cell (p := ⟨b, off + j * 2 + 1, none⟩) hbw).trans c1
      have hoks : okS xs fs = true := okL_at (unhide HKL) hx
      have hO := (okS_iff _ _).1 hoks
      have hn5 : ni ≤ 5 := by have := hO.len5.1; have := rx.len.1; omega
      have hf5 : nf ≤ 5 := by have := hO.len5.2; have := rf.len.1; omega
      have l1 := hJ.len5.1
      have l2 := hJ.len5.2
      have hxd : (ss.drop k)[j - k]? = some (xs, fs) := by rw [List.getElem?_drop, show k + (j - k) = j by omega]; exact hx
      have HNX : Hid (jnL ((ss.drop k).take (j + 1 - k)) = jn2 (jnL ((ss.drop k).take (j - k))) (xs, fs)) := hide (by rw [show j + 1 - k = (j - k) + 1 by omega]; exact jnL_next hxd)
      generalize hjt : jnL ((ss.drop k).take (j - k)) = jt at *
      have hbwr : b < wr.heap.size := Nat.lt_of_lt_of_le hbw hb.size
      have RX := hide (rx.later hb)
      have RF := hide (rf.later hb)
      have HB := hide hb
      have HKL1 := hide hk1
      have HKR := hide hk2
      have HKG := hide hk3
      have HO1 := hide ho1
      have HO2 := hide ho2
      generalize hl1 : jt.1.length = q1 at *
      generalize hl2 : jt.2.length = q2 at *
      obtain ⟨g0, g1, gf⟩ := blk_cells2 hk3
      have HL1 := hide hl1
      have HL2 := hide hl2
      have HJT := hide hjt
      clear c0 c1 rx rf hx hb hk1 hk2 hk3 ho1 ho2 hoks hO hJ hl1 hl2 hjt hxd
      go_upto_region 7 with fail
      have RXd := hide ((unhide RX).later ((Below.refl _ _).drew))
      have RFd := hide ((unhide RF).later ((Below.refl _ _).drew))
      have RId := hide (((unhide HO1).rw encI_len).later ((Below.refl _ _).drew))
      have RGd := hide (((unhide HO2).rw encF_len).later ((Below.refl _ _).drew))
      go_region_law (go_simp; go_at_call 37; refine (l3join_any b1 q1 e1 jt.1 b2 q2 e2 jt.2 ai ni ci xs af nf cf fs _ (by omega) (by omega) (by omega) (by omega) (unhide RId) (unhide RGd) (unhide RXd) (unhide RFd)).mono ?_; rintro e w4 ⟨a5, r1, c5, a6, r2, c6, rfl, o5, o6, b4⟩; have b4' : Below wr.heap.size wr w4 := up0 b4; have kg4 := (b4'.block _ hzg).trans (unhide HKG); obtain ⟨t0, t1, tf⟩ := blk_cells2 kg4; have zg4 : w.heap.size + 1 + 1 < w4.heap.size := (Array.getElem?_eq_some_iff.1 kg4).1; have HKG4 := hide kg4; have HKR4 := hide ((b4'.block _ hzr).trans (unhide HKR)); have HKL4 := hide ((b4'.block _ hzl).trans (unhide HKL1)); have HB4 := hide ((unhide HB).trans (b4'.mono (unhide HB).size)); have O5 := hide (Ow.base (base' := w.heap.size + 1 + 1) o5 (by show w.heap.size + 1 + 1 ≤ wr.heap.size; omega)); have O6 := hide (Ow.base (base' := w.heap.size + 1 + 1) o6 (by show w.heap.size + 1 + 1 ≤ wr.heap.size; omega)); clear o5 o6 b4 b4' kg4)
      all_goals
        clear g0 g1 gf d0 d1 s0 s1 s2 HKG HKR HKL1 HB HO1 HO2 RX RF RXd RFd RId RGd
        go_wp2
        go_roundw
        case rel =>
          have hqq : ∀ q, some (w.heap.size + 1 + 1) = some q → ∃ cs fz, w4.heap[q]? = some (.cells cs 32 fz) := fun q e => by cases e; exact ⟨_, _, unhide HKG4⟩
          refine ⟨j + 1, .slice a5 r1 c5, .slice a6 r2 c6, by omega, by omega, by go_num, ((unhide HB4).setCell (p := ⟨w.heap.size + 1 + 1, 0, none⟩) (by simp; omega) _).setCell (p := ⟨w.heap.size + 1 + 1, 1, none⟩) (by simp; omega) _, blk_at (blk_at (unhide HKL4) (by omega)) (by omega), blk_at (blk_at (unhide HKR4) (by omega)) (by omega), blk_set2 (unhide HKG4) _ _, ?_, ?_⟩
          · rw [unhide HNX]; exact (unhide O5).otherT hqq (by decide) (grownS _ _ _ _)
          · rw [unhide HNX]; exact (unhide O6).otherT hqq (by decide) (grownS _ _ _ _)
        case measure => simp [intOf]; omega
    · have hjm : j = n := by omega
      obtain ⟨g0, g1, gf⟩ := blk_cells2 hk3
      obtain ⟨p0, p1, pf⟩ := blk_cells2 hk2
      have hT : (ss.drop k).take (j - k) = ss.drop k := List.take_of_length_le (by rw [List.length_drop, ← unhide HL]; omega)
      rw [hT] at ho1 ho2 g0 g1
      have o1 := ho1.otherT (T := 32) (b := some (w.heap.size + 1)) (fun q e => by cases e; exact ⟨_, _, hk2⟩) (by decide) (grownS wr (w.heap.size + 1) (.slice b1 n1 e1) (.slice b2 n2 e2))
      have o2 := ho2.otherT (T := 32) (b := some (w.heap.size + 1)) (fun q e => by cases e; exact ⟨_, _, hk2⟩) (by decide) (grownS wr (w.heap.size + 1) (.slice b1 n1 e1) (.slice b2 n2 e2))
      rw [unhide hn1] at g0 o1
      rw [unhide hn2] at g1 o2
      have O1 := hide (Ow.base (base' := w.heap.size) o1 (by omega))
      have O2 := hide (Ow.base (base' := w.heap.size) o2 (by omega))
      have HB := hide hb
      clear hb hk1 hk2 hk3 ho1 ho2 hJ hT o1 o2
      go_wp2
      exact bodyPost_ret (v := .tuple #[.agg #[.slice b1 n1 e1, .slice b2 n2 e2], .bool true]) (by simp [results, Try.results12, go_sem, p0, p1]) rfl ⟨b1, e1, b2, e2, rfl, by rw [unhide HR]; exact unhide O1, by rw [unhide HR]; exact unhide O2, ((unhide HB).setCell (p := ⟨w.heap.size + 1, 0, none⟩) (by simp) _).setCell (p := ⟨w.heap.size + 1, 1, none⟩) (by simp) _⟩
end Go.Proofs.Ytijdmfakaompgaa
