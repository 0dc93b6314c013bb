/-
  What was said since some number: the program's. No statement is proved here.
-/
import Derived.Test.YtijdmfakaompgaaLgJ
namespace Go.Proofs.Ytijdmfakaompgaa
open Go.RowKit

set_option maxHeartbeats 8000000 in
set_option maxRecDepth 100000 in
theorem ilogsince_any (c f : Int) (a : Option Addr) (n cap : Nat) (ss : List Sta) (seq : Int) (r : Bool) (h0 : Hid (kps c f ss seq = r)) (n1 n2 : Nat) (hn1 : Hid ((lsn r f seq ss).1.length = n1)) (hn2 : Hid ((lsn r f seq ss).2.length = n2)) (w : World) (hn : n ≤ 140737488351232) (ht : tot ss ≤ 140737488351232) (hx : RwS w (.slice a n cap) ss) :
    Calls Try.prog 11 #[LgV c f (.slice a n cap), .int .i64 seq] w fun e w' => ∃ a1 c1 a2 c2, e = .returned (.tuple #[.agg #[.slice a1 n1 c1, .slice a2 n2 c2], .bool r]) ∧ OwI w.heap.size w' (.slice a1 n1 c1) (lsn r f seq ss).1 ∧ OwF w.heap.size w' (.slice a2 n2 c2) (lsn r f seq ss).2 ∧ Below w.heap.size w w' := by
  have HX := hide hx
  have HL := hide hx.len.1
  have hbV : Below w.heap.size w ((w.alloc (LgO c f (.slice a n cap))).alloc StZ) := ((Below.refl w.heap.size w).alloc (Nat.le_refl _) _).alloc (by simp) _
  have HBV := hide hbV
  clear hx hbV
  go_enter Try.func11, Try.ntmps11
  go_wp2_with fail
  refine (ikeeps_any c f a n cap ss seq r h0 _ hn ht ((unhide HX).later (unhide HBV))).mono ?_
  rintro e w1 ⟨rfl, b1⟩
  have k1 : w1.heap[w.heap.size]? = some (LgO c f (.slice a n cap)) := (b1.block _ (by simp; omega)).trans (lowB2 w _ _)
  have k2 : w1.heap[w.heap.size + 1]? = some StZ := (b1.block _ (by simp)).trans (newB2 w _ _)
  have B1 := hide ((unhide HBV).trans (b1.mono (unhide HBV).size))
  have z1 : w.heap.size + 1 < w1.heap.size := (Array.getElem?_eq_some_iff.1 k2).1
  have z0 : w.heap.size < w1.heap.size := by omega
  have K1 := hide k1
  have K2 := hide k2
  clear b1 k1 k2 HBV
  cases r
  · obtain ⟨q0, q1, qf⟩ := blk_cells2 (unhide K2)
    have e1 : n1 = 0 := (unhide hn1).symm
    have e2 : n2 = 0 := (unhide hn2).symm
    subst e1 e2
    go_wp2
    exact bodyPost_ret (v := .tuple #[.agg #[.slice none 0 0, .slice none 0 0], .bool false]) (by simp [results, Try.results11, go_sem, q0, q1]) rfl ⟨none, 0, none, 0, rfl, World.ownsRow_nil _ _ _ _, World.ownsRow_nil _ _ _ _, ((unhide B1).setCell (p := ⟨w.heap.size + 1, 0, none⟩) (by simp) _).setCell (p := ⟨w.heap.size + 1, 1, none⟩) (by simp) _⟩
  · obtain ⟨k, m, hk, hs, ht2, hok, h8, -, -, -⟩ := kps_parts (unhide HL) (unhide h0)
    have HR : Hid (lsn true f seq ss = jnL (ss.drop k)) := hide (by rw [lsn, if_pos rfl, ht2])
    have HOK := hide (okL_drop hok k)
    have HK := hide hk
    have HSQ := hide hs
    have hm8 : m ≤ 8 := by omega
    obtain ⟨p0, p1, p2, -⟩ := blk_cells3 (unhide K1)
    have hLT : Hid (m = (ss.drop k).length) := hide (by rw [List.length_drop, ← unhide HL]; omega)
    have bA : Below w.heap.size w (w1.alloc StZ) := (unhide B1).alloc (by omega) _
    have BA := hide bA
    clear hk hs ht2 hok h0 bA
    rw [unhide HR] at hn1 hn2
    go_wp2_with fail
    refine (iabove_any c f a n cap ss seq k m (unhide HK) (unhide HSQ) w _ hn (unhide HX)).mono ?_
    rintro e w2 ⟨a3, rfl, r3, b2⟩
    have k1 : w2.heap[w.heap.size]? = some (LgO c f (.slice a n cap)) := (b2.block _ (by simp; omega)).trans ((Below.heap_alloc _ _ _ (by omega)).trans (unhide K1))
    have k2 : w2.heap[w.heap.size + 1]? = some StZ := (b2.block _ (by simp; omega)).trans ((Below.heap_alloc _ _ _ (by omega)).trans (unhide K2))
    have k3 : w2.heap[w1.heap.size]? = some StZ := (b2.block _ (by simp)).trans (heap_alloc_new _ _)
    have B2 := hide ((unhide BA).trans (b2.mono (unhide BA).size))
    have R3 := hide r3
    generalize hg : w1.heap.size = g at *
    have HK1 := hide k1
    have HK2 := hide k2
    have HK3 := hide k3
    clear r3 b2 k1 k2 k3 BA p0 p1 p2 K1 K2 B1
    go_wp2
    go_loopw [18] (fun i wr => ∃ (j : Nat) (v1 v2 : Value), j ≤ m ∧ i = .int .i64 j ∧ Below w.heap.size w wr ∧ wr.heap[w.heap.size + 1]? = some StZ ∧ wr.heap[g]? = some (.cells #[v1, v2] 32 (0, 0)) ∧ OwI (w.heap.size + 1 + 1) wr v1 (jnL ((ss.drop k).take j)).1 ∧ OwF (w.heap.size + 1 + 1) wr v2 (jnL ((ss.drop k).take j)).2) (fun i _ => m - (intOf i).toNat)
    case atStart => exact ⟨0, .slice none 0 0, .slice none 0 0, Nat.zero_le _, rfl, unhide B2, unhide HK2, unhide HK3, World.ownsRow_nil _ _ _ _, World.ownsRow_nil _ _ _ _⟩
    case round =>
      obtain ⟨j, v1, v2, hj, rfl, hb, hk2, hk3, ho1, ho2⟩ := hrel
      obtain ⟨b1, e1, rfl⟩ := ho1.form
      obtain ⟨b2, e2, rfl⟩ := ho2.form
      have hzr : w.heap.size + 1 < wr.heap.size := (Array.getElem?_eq_some_iff.1 hk2).1
      have hzg : g < wr.heap.size := (Array.getElem?_eq_some_iff.1 hk3).1
      have hJ := jnL_ok (okL_take (unhide HOK) j)
      by_cases hlt : j < m
      · obtain ⟨xs, fs, ai, ni, ci, af, nf, cf, b, off, hx, rfl, hbw, hcap, c0, c1, rx, rf⟩ := (unhide R3).at hlt
        have d0 := (hb.cell (p := ⟨b, off + j * 2, none⟩) hbw).trans c0
        have d1 := (hb.cell (p := ⟨b, off + j * 2 + 1, none⟩) hbw).trans c1
        have hoks : okS xs fs = true := okL_at (unhide HOK) hx
        have hO := (okS_iff _ _).1 hoks
        have hn5 : ni ≤ 5 := by have := hO.len5.1; have := rx.len.1; omega
        have hf5 : nf ≤ 5 := by have := hO.len5.2; have := rf.len.1; omega
        have l1 := hJ.len5.1
        have l2 := hJ.len5.2
        have HNX := hide (jnL_next hx)
        have HJ2 : Hid ((okS (jnL ((ss.drop k).take j)).1 (jnL ((ss.drop k).take j)).2 && okS xs fs) = true) := hide (by rw [hoks, (okS_iff _ _).2 hJ]; rfl)
        generalize hjt : jnL ((ss.drop k).take j) = jt at *
        have hbwr : b < wr.heap.size := Nat.lt_of_lt_of_le hbw hb.size
        have RX := hide (rx.later hb)
        have RF := hide (rf.later hb)
        have HB := hide hb
        have HKR := hide hk2
        have HKG := hide hk3
        have HO1 := hide ho1
        have HO2 := hide ho2
        generalize hl1 : jt.1.length = q1 at *
        generalize hl2 : jt.2.length = q2 at *
        obtain ⟨g0, g1, gf⟩ := blk_cells2 hk3
        obtain ⟨r1, hr1⟩ : ∃ r, (jnI true jt.1 jt.2 xs fs).length = r := ⟨_, rfl⟩
        obtain ⟨r2, hr2⟩ : ∃ r, (jnF true jt.2 fs).length = r := ⟨_, rfl⟩
        have HR1 := hide hr1
        have HR2 := hide hr2
        have HL1 := hide hl1
        have HL2 := hide hl2
        have HJT := hide hjt
        clear c0 c1 rx rf hx hb hk2 hk3 ho1 ho2 hoks hO hJ hr1 hr2 hl1 hl2 hjt
        go_wp2_with fail
        obtain ⟨Y, hY⟩ : ∃ Y, Y = wr.alloc (.cells #[.slice ai ni ci, .slice af nf cf] 32) := ⟨_, rfl⟩
        have bY : Below wr.heap.size wr Y := by rw [hY]; exact (Below.refl wr.heap.size wr).alloc (Nat.le_refl _) _
        rw [← hY]
        clear hY
        refine (ijoin_any b1 q1 e1 jt.1 b2 q2 e2 jt.2 ai ni ci xs af nf cf fs true HJ2 r1 r2 HR1 HR2 _ (by omega) (by omega) (by omega) (by omega) (((unhide HO1).rw encI_len).later bY) (((unhide HO2).rw encF_len).later bY) ((unhide RX).later bY) ((unhide RF).later bY)).mono ?_
        rintro e w4 ⟨a5, c5, a6, c6, rfl, o5, o6, b4⟩
        have b4' : Below wr.heap.size wr w4 := bY.trans (b4.mono bY.size)
        have kg4 := (b4'.block _ hzg).trans (unhide HKG)
        obtain ⟨t0, t1, tf⟩ := blk_cells2 kg4
        have zg4 : g < w4.heap.size := (Array.getElem?_eq_some_iff.1 kg4).1
        have HKG4 := hide kg4
        have HKR4 := hide ((b4'.block _ hzr).trans (unhide HKR))
        have HB4 := hide ((unhide HB).trans (b4'.mono (unhide HB).size))
        have O5 := hide (Ow.base (base' := w.heap.size + 1 + 1) o5 (by have := bY.size; omega))
        have O6 := hide (Ow.base (base' := w.heap.size + 1 + 1) o6 (by have := bY.size; omega))
        clear o5 o6 b4 b4' kg4 bY g0 g1 gf d0 d1 HKG HKR HB HO1 HO2 RX RF
        go_wp2
        go_roundw
        case rel =>
          have hqq : ∀ q, some g = some q → ∃ cs fz, w4.heap[q]? = some (.cells cs 32 fz) := fun q e => by cases e; exact ⟨_, _, unhide HKG4⟩
          refine ⟨j + 1, .slice a5 r1 c5, .slice a6 r2 c6, by omega, by go_num, ((unhide HB4).setCell (p := ⟨g, 0, none⟩) (by simp; omega) _).setCell (p := ⟨g, 1, none⟩) (by simp; omega) _, blk_at (blk_at (unhide HKR4) (by omega)) (by omega), blk_set2 (unhide HKG4) _ _, ?_, ?_⟩
          · rw [unhide HNX]; exact (unhide O5).otherT hqq (by decide) (grownS _ _ _ _)
          · rw [unhide HNX]; exact (unhide O6).otherT hqq (by decide) (grownS _ _ _ _)
        case measure => simp [intOf]; omega
      · have hjm : j = m := by omega
        obtain ⟨g0, g1, gf⟩ := blk_cells2 hk3
        obtain ⟨p0, p1, pf⟩ := blk_cells2 hk2
        have hT : (ss.drop k).take j = ss.drop k := List.take_of_length_le (by have := unhide hLT; omega)
        rw [hT] at ho1 ho2 g0 g1
        have HO1 := hide ho1
        have HO2 := hide ho2
        have HB := hide hb
        have HKR := hide hk2
        rw [unhide hn1] at g0
        rw [unhide hn2] at g1
        clear hb hk2 hk3 ho1 ho2 hJ hT
        go_wp2
        refine bodyPost_ret (v := .tuple #[.agg #[.slice b1 n1 e1, .slice b2 n2 e2], .bool true]) (by simp [results, Try.results11, go_sem, p0, p1]) rfl ⟨b1, e1, b2, e2, rfl, ?_, ?_, ((unhide HB).setCell (p := ⟨w.heap.size + 1, 0, none⟩) (by simp) _).setCell (p := ⟨w.heap.size + 1, 1, none⟩) (by simp) _⟩
        · rw [unhide HR]
          have h := (((unhide HO1).set ⟨w.heap.size + 1, 0, none⟩ (by simp) (.slice b1 n1 e1)).set ⟨w.heap.size + 1, 1, none⟩ (by simp) (.slice b2 n2 e2)).base (base' := w.heap.size) (by omega)
          rw [unhide hn1] at h
          exact h
        · rw [unhide HR]
          have h := (((unhide HO2).set ⟨w.heap.size + 1, 0, none⟩ (by simp) (.slice b1 n1 e1)).set ⟨w.heap.size + 1, 1, none⟩ (by simp) (.slice b2 n2 e2)).base (base' := w.heap.size) (by omega)
          rw [unhide hn2] at h
          exact h
end Go.Proofs.Ytijdmfakaompgaa
