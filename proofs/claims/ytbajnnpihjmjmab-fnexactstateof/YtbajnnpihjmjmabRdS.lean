/-
  The program's reader: a state; whether all was read; StateOf. No statement is proved here.
-/
import Derived.Test.YtbajnnpihjmjmabRdL
import Derived.Test.YtbajnnpihjmjmabIStOk
import Derived.Deep.DeepCutAuto
namespace Go.Proofs.Ytbajnnpihjmjmab
open Go.RowKit

abbrev SttB (v1 v2 : Value) : Obj := .cells #[v1, v2] 26 (0, 0)
set_option maxHeartbeats 4000000 in
set_option maxRecDepth 100000 in
theorem rstate_any (g : Nat) (v : Value) (xs : List Int) (c : Cu) (w : World) (hlen : xs.length ≤ 140737488351232) (hbd : ∀ z ∈ xs, 0 ≤ z ∧ z ≤ 255) (h : Ri w g v xs c) :
    Calls Try.prog 23 #[.pointer (some ⟨g, 0, none⟩)] w fun e w' => ∃ a1 n1 c1 a2 n2 c2, e = .returned (.agg #[.slice a1 n1 c1, .slice a2 n2 c2]) ∧ OwI w.heap.size w' (.slice a1 n1 c1) (riS xs c).1.1 ∧ OwF w.heap.size w' (.slice a2 n2 c2) (riS xs c).1.2 ∧ Ri w' g v xs (riS xs c).2 ∧ w.grownBy w' (some g) := by
  have H0 := hide h
  have HD := hide hbd
  have hgl := h.lt
  clear h hbd
  go_enter Try.func23, Try.ntmps23
  have R0 := hide ((unhide H0).later (al_below w (SttB (.slice none 0 0) (.slice none 0 0))))
  go_wp2_with fail
  refine (rlistI_any g v xs c _ hlen (unhide HD) (unhide R0)).mono ?_
  rintro e w1 ⟨a1, n1, c1, rfl, o1, r1, g1⟩
  have K1 := hide (al_kept hgl g1)
  have G1 := hide (grown_lowR (al_below w _) g1)
  have R1 := hide r1
  have O1 := hide (Ow.base (base' := w.heap.size + 1) o1 (by simp))
  have hs1 : w.heap.size + 1 ≤ w1.heap.size := (Array.getElem?_eq_some_iff.1 (unhide K1)).1
  clear o1 r1 g1 R0
  go_wp2_with fail
  refine (rlistF_any g v xs (lsR xs 5 (riI xs) c).2 w1 hlen (unhide HD) (unhide R1)).mono ?_
  rintro e w2 ⟨a2, n2, c2, rfl, o2, r2, g2⟩
  have K2 := hide (kept_on hgl (unhide K1) g2)
  have G2 := hide (grown_all (unhide G1) g2)
  have R2 := hide r2
  have O2 := hide (Ow.base (base' := w.heap.size + 1) o2 hs1)
  have O1' := hide (owF_far (unhide O1) g2 (by omega))
  clear o2 r2 g2 R1 G1 K1 O1
  obtain ⟨r0, r1, rf⟩ := blk_cells2 (unhide K2)
  have hr : w.heap.size < w2.heap.size := (Array.getElem?_eq_some_iff.1 (unhide K2)).1
  have F0 := hide ((unhide H0).far (unhide R2) (unhide G2) (q := w.heap.size) (o := 0) (Nat.le_refl _) (.slice a1 n1 c1))
  have F1 := hide ((unhide H0).far (unhide F0).1 (unhide F0).2 (q := w.heap.size) (o := 1) (Nat.le_refl _) (.slice a2 n2 c2))
  have P1 := hide (Ow.base (((unhide O1').set ⟨w.heap.size, 0, none⟩ (by show w.heap.size < _; omega) (.slice a1 n1 c1)).set ⟨w.heap.size, 1, none⟩ (by show w.heap.size < _; omega) (.slice a2 n2 c2)) (show w.heap.size ≤ w.heap.size + 1 by omega))
  have P2 := hide (Ow.base (((unhide O2).set ⟨w.heap.size, 0, none⟩ (by show w.heap.size < _; omega) (.slice a1 n1 c1)).set ⟨w.heap.size, 1, none⟩ (by show w.heap.size < _; omega) (.slice a2 n2 c2)) (show w.heap.size ≤ w.heap.size + 1 by omega))
  clear R2 K2 G2 O1' O2
  go_wp2
  exact bodyPost_ret (v := .agg #[.slice a1 n1 c1, .slice a2 n2 c2]) (by simp [results, Try.results23, go_sem, r0, r1]) rfl ⟨a1, n1, c1, a2, n2, c2, rfl, unhide P1, unhide P2, (unhide F1).1, (unhide F1).2⟩
set_option maxHeartbeats 4000000 in
set_option maxRecDepth 100000 in
theorem rwhole_any (g : Nat) (v : Value) (xs : List Int) (c : Cu) (b : Bool) (hb : Hid ((!c.2 && (c.1 == (xs.length : Int))) = b)) (w : World) (h : Ri w g v xs c) :
    Calls Try.prog 24 #[.pointer (some ⟨g, 0, none⟩)] w fun e w' => e = .returned (.bool b) ∧ Below w.heap.size w w' := by
  obtain ⟨p, k⟩ := c
  obtain ⟨c0, c1, c2, cf⟩ := h.cells
  have hgl := h.lt
  obtain ⟨a, cap, rfl, hcap, -⟩ := h.seg
  simp only at c1 c2
  have hB := unhide hb
  simp only at hB
  clear h hb
  obtain ⟨q, hq⟩ : ∃ q, (p == (xs.length : Int)) = q := ⟨_, rfl⟩
  rw [hq] at hB
  subst hB
  have l0 := later_some (w := w) hgl c0
  have l1 := later_some (w := w) hgl c1
  have l2 := later_some (w := w) hgl c2
  clear c0 c1 c2 cf
  cases k <;> cases q
  all_goals
    go_enter Try.func24, Try.ntmps24
    go_wp2_with fail
    refine wp_region_later (by kernel_rfl) (by kernel_rfl) ?_
    repeat (go_big_quiet_step (fail))
    refine wpQuiet_nil ?_
    intro w1 b1
    have HB := hide b1
    clear b1 l0 l1 l2
    go_wp2
    go_ret
    exact ⟨rfl, unhide HB⟩
set_option maxHeartbeats 4000000 in
set_option maxRecDepth 100000 in
theorem istateof_any (v : Value) (xs : List Int) (w : World) (hlen : xs.length ≤ 140737488351232) (hbd : ∀ z ∈ xs, 0 ≤ z ∧ z ≤ 255) (hv : Seg w v xs) :
    Calls Try.prog 7 #[v] w fun e w' => ∃ a1 n1 c1 a2 n2 c2, e = .returned (.tuple #[.agg #[.slice a1 n1 c1, .slice a2 n2 c2], .bool (sof xs).isSome]) ∧ OwI w.heap.size w' (.slice a1 n1 c1) (sofI xs) ∧ OwF w.heap.size w' (.slice a2 n2 c2) (sofF xs) ∧ Below w.heap.size w w' := by
  have HD := hide hbd
  have HS := hide hv
  have HSO := hide (sof_rd hbd)
  obtain ⟨a, cap, rfl, hcap, hr0⟩ := hv
  have HNE : Hid (xs = [] ∨ ∀ (x : Addr) n cc, Value.slice a xs.length cap = .slice (some x) n cc → x.block < w.heap.size) := hide (by
    rcases hr0 with h | ⟨bb, off, rfl, hlt, -⟩
    · exact .inl h
    · exact .inr (fun x n cc e => by simp only [Value.slice.injEq, Option.some.injEq] at e; rw [← e.1]; exact hlt))
  clear hbd hcap hr0
  obtain ⟨wA, hwA⟩ : ∃ W, W = (w.alloc (SttB (.slice none 0 0) (.slice none 0 0))).alloc (.cells #[.slice a xs.length cap, .int .i64 0, .bool false] 69) := ⟨_, rfl⟩
  have BA := hide (show Below w.heap.size w wA by rw [hwA]; exact ((Below.refl _ _).alloc (Nat.le_refl _) _).alloc (by simp) _)
  have KA := hide (show wA.heap[w.heap.size]? = some (SttB (.slice none 0 0) (.slice none 0 0)) by rw [hwA]; exact lowB2 w _ _)
  have R0 := hide (show Ri wA (w.heap.size + 1) (.slice a xs.length cap) xs (0, false) from ⟨by rw [hwA]; exact newB2 w _ _, (unhide HS).below (unhide BA) (Nat.le_refl _), (unhide HNE).imp id (fun h x n cc e => by have := h x n cc e; omega), by simp [Win]⟩)
  have zA : w.heap.size + 1 < wA.heap.size := (unhide R0).lt
  go_enter Try.func7, Try.ntmps7
  go_wp2_with fail
  rw [← hwA]
  clear hwA
  refine (rstate_any (w.heap.size + 1) (.slice a xs.length cap) xs (0, false) wA hlen (unhide HD) (unhide R0)).mono ?_
  rintro e w1 ⟨a1, n1, c1, a2, n2, c2, rfl, o1, o2, r1, g1⟩
  have bB := al_below w1 (SttB (.slice a1 n1 c1) (.slice a2 n2 c2))
  have KR := hide ((bB.block _ (Nat.lt_of_lt_of_le (by omega : w.heap.size < wA.heap.size) g1.size)).trans ((g1.block w.heap.size (by omega) (by simp)).trans (unhide KA)))
  have KS := hide (heap_alloc_new w1 (SttB (.slice a1 n1 c1) (.slice a2 n2 c2)))
  have BL := hide (((unhide BA).grown g1 (unhide BA).size (fun k hk => by simp at hk; omega)).trans (bB.mono (Nat.le_trans (unhide BA).size g1.size)))
  have R1 := hide (r1.later bB)
  have O1 := hide (o1.later bB)
  have O2 := hide (o2.later bB)
  have hs1 := g1.size
  obtain ⟨its, hits⟩ : ∃ l, (riS xs (0, false)).1.1 = l := ⟨_, rfl⟩
  obtain ⟨fls, hfls⟩ : ∃ l, (riS xs (0, false)).1.2 = l := ⟨_, rfl⟩
  rw [hits] at O1
  rw [hfls] at O2
  have HS1 := hide (show (riS xs (0, false)).1 = (its, fls) from by rw [← hits, ← hfls])
  have hl1 : n1 ≤ 5 := by rw [((unhide O1).rw encI_len).len.1, ← hits]; exact lsR_len
  have hl2 : n2 ≤ 5 := by rw [((unhide O2).rw encF_len).len.1, ← hfls]; exact lsR_len
  clear o1 o2 r1 g1 R0 KA BA bB hits hfls
  obtain ⟨b, hb⟩ : ∃ b, Hid ((!(riS xs (0, false)).2.2 && ((riS xs (0, false)).2.1 == (xs.length : Int))) = b) := ⟨_, hide rfl⟩
  go_wp2_with fail
  refine (rwhole_any (w.heap.size + 1) (.slice a xs.length cap) xs (riS xs (0, false)).2 b hb _ (unhide R1)).mono ?_
  rintro e w2 ⟨rfl, b2⟩
  have KR2 := hide ((b2.block _ (by simp; omega)).trans (unhide KR))
  have KS2 := hide ((b2.block w1.heap.size (by simp)).trans (unhide KS))
  have BL2 := hide ((unhide BL).trans (b2.mono (unhide BL).size))
  have O12 := hide ((unhide O1).later b2)
  have O22 := hide ((unhide O2).later b2)
  clear b2 KR KS BL O1 O2 R1
  obtain ⟨s0, s1, sf⟩ := blk_cells2 (unhide KS2)
  obtain ⟨r0, r1, rf⟩ := blk_cells2 (unhide KR2)
  have hz1 : w1.heap.size < w2.heap.size := (Array.getElem?_eq_some_iff.1 (unhide KS2)).1
  have hz2 : w.heap.size < w2.heap.size := by omega
  cases b
  · have hno : Hid (sof xs = none) := hide (by
      rw [unhide HSO, if_neg]
      rintro ⟨⟨h1, h2⟩, -⟩
      have h := unhide hb
      rw [h1, h2] at h
      simp at h)
    have BW := hide (((unhide BL2).setCell (p := ⟨w.heap.size, 0, none⟩) (Nat.le_refl _) (.slice none 0 0)).setCell (p := ⟨w.heap.size, 1, none⟩) (Nat.le_refl _) (.slice none 0 0))
    go_wp2_with fail
    exact bodyPost_ret (v := .tuple #[.agg #[.slice none 0 0, .slice none 0 0], .bool false]) (by simp [results, Try.results7, go_sem, r0, r1]) rfl ⟨_, _, _, _, _, _, by rw [unhide hno]; rfl, by rw [sofI, unhide hno]; exact World.ownsRow_nil _ _ _ _, by rw [sofF, unhide hno]; exact World.ownsRow_nil _ _ _ _, unhide BW⟩
  · have hw : Hid ((riS xs (0, false)).2.2 = false ∧ (riS xs (0, false)).2.1 = (xs.length : Int)) := hide (by
      have h := unhide hb
      simp only [Bool.and_eq_true, Bool.not_eq_true', beq_iff_eq] at h
      exact h)
    obtain ⟨ok, hok⟩ : ∃ ok, Hid (okS its fls = ok) := ⟨_, hide rfl⟩
    go_wp2_with fail
    refine (istateok_any a1 n1 c1 its a2 n2 c2 fls ok hok w2 (by omega) (by omega) ((unhide O12).rw encI_len) ((unhide O22).rw encF_len)).mono ?_
    rintro e w3 ⟨rfl, b3⟩
    have KR3 := hide ((b3.block _ hz2).trans (unhide KR2))
    have KS3 := hide ((b3.block _ hz1).trans (unhide KS2))
    have BL3 := hide ((unhide BL2).trans (b3.mono (unhide BL2).size))
    have O13 := hide ((unhide O12).later b3)
    have O23 := hide ((unhide O22).later b3)
    have hz3 : w1.heap.size < w3.heap.size := Nat.lt_of_lt_of_le hz1 b3.size
    have hz4 : w.heap.size < w3.heap.size := by omega
    clear b3 KR2 KS2 BL2 O12 O22 s0 s1 sf r0 r1 rf
    obtain ⟨s0, s1, sf⟩ := blk_cells2 (unhide KS3)
    obtain ⟨r0, r1, rf⟩ := blk_cells2 (unhide KR3)
    cases ok
    · have hno : Hid (sof xs = none) := hide (by
        rw [unhide HSO, if_neg]
        rintro ⟨-, h⟩
        rw [unhide HS1] at h
        simp only at h
        rw [unhide hok] at h
        cases h)
      have BW := hide (((unhide BL3).setCell (p := ⟨w.heap.size, 0, none⟩) (Nat.le_refl _) (.slice none 0 0)).setCell (p := ⟨w.heap.size, 1, none⟩) (Nat.le_refl _) (.slice none 0 0))
      go_wp2_with fail
      exact bodyPost_ret (v := .tuple #[.agg #[.slice none 0 0, .slice none 0 0], .bool false]) (by simp [results, Try.results7, go_sem, r0, r1]) rfl ⟨_, _, _, _, _, _, by rw [unhide hno]; rfl, by rw [sofI, unhide hno]; exact World.ownsRow_nil _ _ _ _, by rw [sofF, unhide hno]; exact World.ownsRow_nil _ _ _ _, unhide BW⟩
    · have hso : Hid (sof xs = some (its, fls)) := hide (by
        rw [unhide HSO, if_pos ⟨unhide hw, by rw [unhide HS1]; exact unhide hok⟩, unhide HS1])
      have BW := hide (((unhide BL3).setCell (p := ⟨w.heap.size, 0, none⟩) (Nat.le_refl _) (.slice a1 n1 c1)).setCell (p := ⟨w.heap.size, 1, none⟩) (Nat.le_refl _) (.slice a2 n2 c2))
      have P1 := hide (Ow.base (((unhide O13).set ⟨w.heap.size, 0, none⟩ (by show w.heap.size < _; omega) (.slice a1 n1 c1)).set ⟨w.heap.size, 1, none⟩ (by show w.heap.size < _; omega) (.slice a2 n2 c2)) (show w.heap.size ≤ wA.heap.size by omega))
      have P2 := hide (Ow.base (((unhide O23).set ⟨w.heap.size, 0, none⟩ (by show w.heap.size < _; omega) (.slice a1 n1 c1)).set ⟨w.heap.size, 1, none⟩ (by show w.heap.size < _; omega) (.slice a2 n2 c2)) (show w.heap.size ≤ wA.heap.size by omega))
      go_wp2_with fail
      exact bodyPost_ret (v := .tuple #[.agg #[.slice a1 n1 c1, .slice a2 n2 c2], .bool true]) (by simp [results, Try.results7, go_sem, r0, r1]) rfl ⟨_, _, _, _, _, _, by rw [unhide hso]; rfl, by rw [sofI, unhide hso]; exact unhide P1, by rw [sofF, unhide hso]; exact unhide P2, unhide BW⟩
end Go.Proofs.Ytbajnnpihjmjmab
