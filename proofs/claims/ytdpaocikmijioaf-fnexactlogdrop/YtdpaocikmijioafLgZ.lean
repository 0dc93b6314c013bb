/-
  spec.LogDrop: a log that was dropped of. No statement is proved here.
  A log that came in as an argument: its value written out, and what its rows read as. No statement is proved here.
-/
import Derived.Test.YtdpaocikmijioafLgQ
import Derived.Test.YtdpaocikmijioafLgL
import Derived.Test.YtdpaocikmijioafLgA
import Derived.Test.YtdpaocikmijioafStO
import Derived.ProofKit
import Derived.ChangeArms
import Derived.Deep.Slices
namespace Go.Proofs.Ytdpaocikmijioaf
open Go.RowKit

/-- While a log is dropped of: the argument's variable, the result's, the new log's. -/
structure Ld7 (w W : World) (c f c2 f2 : Int) (va : Value) (g : Nat) (v : Value) : Prop where
  bel : Below w.heap.size w W
  k1 : W.heap[w.heap.size]? = some (LgO c f va)
  k3 : W.heap[w.heap.size + 1]? = some (LgO 0 0 (.slice none 0 0))
  kg : W.heap[g]? = some (LgO c2 f2 v)
theorem Ld7.later {w W Y : World} {c f c2 f2 : Int} {va : Value} {g : Nat} {v : Value} (h : Ld7 w W c f c2 f2 va g v) (b : Below W.heap.size W Y) : Ld7 w Y c f c2 f2 va g v :=
  ⟨h.bel.trans (b.mono h.bel.size), (b.block _ (Array.getElem?_eq_some_iff.1 h.k1).1).trans h.k1, (b.block _ (Array.getElem?_eq_some_iff.1 h.k3).1).trans h.k3, (b.block _ (Array.getElem?_eq_some_iff.1 h.kg).1).trans h.kg⟩
theorem Ld7.lt {w W : World} {c f c2 f2 : Int} {va : Value} {g : Nat} {v : Value} (h : Ld7 w W c f c2 f2 va g v) : w.heap.size + 1 < W.heap.size ∧ g < W.heap.size := ⟨(Array.getElem?_eq_some_iff.1 h.k3).1, (Array.getElem?_eq_some_iff.1 h.kg).1⟩

set_option maxHeartbeats 8000000 in
set_option maxRecDepth 100000 in
theorem slogdrop_any (c f : Int) (a : Option Addr) (n cap : Nat) (ss : List Sta) (seq : Int) (r : Bool) (h0 : Hid (kps c f ss seq = r)) (f1 : Int) (ss1 : List Sta) (h1 : Hid (ldr r f seq ss = (f1, ss1))) (m : Nat) (hm : Hid (m = ss1.length)) (w : World) (hn : n ≤ 1048576) (ht : tot ss ≤ 1048576) (hx : RwS w (.slice a n cap) ss) :
    Calls Try.prog 30 #[LgV c f (.slice a n cap), .int .i64 seq] w fun e w' => ∃ a' c', e = .returned (LgV c f1 (.slice a' m c')) ∧ RwS w' (.slice a' m c') ss1 ∧ Below w.heap.size w w' := by
  obtain ⟨i0, hi, hz0, hz1, hz2⟩ := info_parts Try.infoState
  have HX := hide hx
  have HL := hide hx.len.1
  obtain ⟨ok, hok⟩ : ∃ ok, lok c f ss = ok := ⟨_, rfl⟩
  obtain ⟨q, hq⟩ : ∃ q, inB seq f (f + (n : Int)) = q := ⟨_, rfl⟩
  have hE := unhide h0
  rw [kps, hok, ← unhide HL, hq] at hE
  have HOK := hide hok
  have HQ := hide hq
  have HV := hide (show Below w.heap.size w ((w.alloc (LgO c f (.slice a n cap))).alloc (LgO 0 0 (.slice none 0 0))) from ((Below.refl w.heap.size w).alloc (Nat.le_refl _) _).alloc (by simp) _)
  clear hx hok hq
  go_enter Try.func30, Try.ntmps30
  go_wp2_with fail
  refine (l7copy_any c f a n cap ss (SzS.tot ht) _ (by omega) ((unhide HX).later (unhide HV))).mono ?_
  rintro e w1 ⟨a1, c1, rfl, o1, b1⟩
  have k1 : w1.heap[w.heap.size]? = some (LgO c f (.slice a n cap)) := (b1.block _ (by simp; omega)).trans (lowB2 w _ _)
  have k3 : w1.heap[w.heap.size + 1]? = some (LgO 0 0 (.slice none 0 0)) := (b1.block _ (by simp)).trans (newB2 w _ _)
  have B1 := (unhide HV).trans (b1.mono (unhide HV).size)
  have z1 : w.heap.size + 1 < w1.heap.size := (Array.getElem?_eq_some_iff.1 k3).1
  have C1 : Hid (Ld7 w (w1.alloc (LgO c f (.slice a1 n c1))) c f c f (.slice a n cap) w1.heap.size (.slice a1 n c1)) := hide ⟨B1.alloc B1.size _, (Below.heap_alloc _ _ _ (by omega)).trans k1, (Below.heap_alloc _ _ _ z1).trans k3, heap_alloc_new _ _⟩
  have O1 := hide ((o1.mono (base' := w.heap.size + 1 + 1) (by simp)).later ((Below.refl w1.heap.size w1).alloc (Nat.le_refl _) (LgO c f (.slice a1 n c1))))
  obtain ⟨p0, p1, p2, pf⟩ := blk_cells3 k1
  have zl : w.heap.size < w1.heap.size := by omega
  clear o1 b1 B1 k1 k3 HV
  go_wp2_with fail
  refine (slogok_any c f a n cap ss ok HOK _ (by omega) (by omega) ((unhide HX).later (unhide C1).bel)).mono ?_
  rintro e w2 ⟨rfl, b2⟩
  have C2 := hide ((unhide C1).later b2)
  have O2 := hide ((unhide O1).later b2)
  clear b2 C1 O1 p0 p1 p2 pf
  cases ok
  · obtain rfl : r = false := by rw [← hE]; rfl
    obtain ⟨rfl, rfl⟩ : f1 = f ∧ ss1 = ss := by have h := unhide h1; simp [ldr] at h; exact ⟨h.1.symm, h.2.symm⟩
    obtain rfl : m = n := by rw [unhide hm, unhide HL]
    obtain ⟨q0, q1, q2, qf⟩ := blk_cells3 (unhide C2).k3
    obtain ⟨j0, j1, j2, jf⟩ := blk_cells3 (unhide C2).kg
    obtain ⟨zr, zg⟩ := (unhide C2).lt
    go_wp2
    exact bodyPost_ret (v := LgV c f1 (.slice a1 m c1)) (by simp [results, Try.results30, go_sem, q0, q1, q2]) rfl ⟨a1, c1, rfl, (OwW.log3 (unhide C2).k3 _ _ _ (unhide O2)).rw, below_set3 (by omega) (unhide C2).bel⟩
  obtain ⟨⟨c1', c2'⟩, cn, ⟨f1', f2'⟩, fn, hokL⟩ := lok_iff.1 (unhide HOK)
  have cn' : (n : Int) ≤ c := by rw [unhide HL]; exact cn
  clear cn fn hokL
  obtain ⟨p0, p1, p2, pf⟩ := blk_cells3 (unhide C2).k1
  obtain ⟨zr2, zg2⟩ := (unhide C2).lt
  have zl2 : w.heap.size < w2.heap.size := by omega
  go_wp2_with fail
  refine (l1in_is seq f (f + (n : Int)) q (unhide HQ) _).mono ?_
  rintro e w3 ⟨rfl, rfl⟩
  cases q
  · obtain rfl : r = false := by rw [← hE]; rfl
    obtain ⟨rfl, rfl⟩ : f1 = f ∧ ss1 = ss := by have h := unhide h1; simp [ldr] at h; exact ⟨h.1.symm, h.2.symm⟩
    obtain rfl : m = n := by rw [unhide hm, unhide HL]
    obtain ⟨q0, q1, q2, qf⟩ := blk_cells3 (unhide C2).k3
    obtain ⟨j0, j1, j2, jf⟩ := blk_cells3 (unhide C2).kg
    obtain ⟨zr, zg⟩ := (unhide C2).lt
    go_wp2
    exact bodyPost_ret (v := LgV c f1 (.slice a1 m c1)) (by simp [results, Try.results30, go_sem, q0, q1, q2]) rfl ⟨a1, c1, rfl, (OwW.log3 (unhide C2).k3 _ _ _ (unhide O2)).rw, below_set3 (by omega) (unhide C2).bel⟩
  obtain rfl : r = true := by rw [← hE]; rfl
  obtain ⟨k, m', hk, hs, ht2, -, h8, -, -, -⟩ := kps_parts (unhide HL) (unhide h0)
  obtain ⟨rfl, rfl⟩ : f1 = seq ∧ ss1 = ss.drop k := by have h := unhide h1; rw [ldr, if_pos rfl, ht2] at h; simp at h; exact ⟨h.1.symm, h.2.symm⟩
  obtain rfl : m = m' := by have := unhide hm; rw [List.length_drop, ← unhide HL] at this; omega
  generalize hg : w1.heap.size = g at *
  obtain ⟨j0, j1, j2, jf⟩ := blk_cells3 (unhide C2).kg
  obtain ⟨ps, hrow, hwn⟩ := unhide O2
  have hrw := Ow.rw encS_len hrow
  have hcc := hrw.len.2
  have hpl : Hid (m = (ps.drop k).length) := hide (by have := hrw.len.1; simp; omega)
  have HWN := hide (hwn.drop k)
  have HRW := hide hrw
  have HK := hide hk
  have hkn : k ≤ n := by omega
  have hmn : m ≤ 1048576 := by omega
  have hnk : n - k = m := by omega
  have hkm1 : k + m ≤ n := by omega
  have hkm2 : n ≤ k + m := by omega
  clear hrow hwn hrw hE h0 h1 hm O2 HQ hk ht2
  have RD : Hid (Rw encS 2 (w2.alloc (.cells #[] 37)) (.slice (a1.map fun x => x.add (k * 2)) m (c1 - k)) (ps.drop k)) := by
    by_cases h0 : m = 0
    · have e : ps.drop k = [] := List.eq_nil_of_length_eq_zero (by rw [← unhide hpl]; exact h0)
      rw [e, h0]
      exact hide ⟨_, _, rfl, Nat.zero_le _, .inl rfl⟩
    · exact hide (((unhide HRW).drop (unhide HK) h0 (by omega)).alloc _)
  have RE : m = 0 → Hid (Rw encS 2 (w2.alloc (.cells #[] 37)) (.slice a1 0 0) (ps.drop k)) := fun h0 => by
    have e : ps.drop k = [] := List.eq_nil_of_length_eq_zero (by rw [← unhide hpl]; exact h0)
    rw [e]
    exact hide ⟨_, _, rfl, Nat.zero_le _, .inl rfl⟩
  have KG := hide (unhide C2).kg
  have K3 := hide (unhide C2).k3
  have BC := hide (unhide C2).bel
  have hgw : w.heap.size + 1 + 1 ≤ g := by omega
  by_cases hck : c1 = k
  · obtain rfl : m = 0 := by omega
    have RE' := RE rfl
    clear RE RD
    have hz0' : n = k := by omega
    subst hz0' hck
    go_wp2_with (first | (at_builtin; refine wpList_cp7 encS_len (by omega) 37 49 i0 _ 48 Try.underlying49 hi hz0 hz1 hz2 rfl (by omega) (w2.alloc (.cells #[] 37)) rfl _ _ rfl _ rfl _ _ 0 hpl rfl (unhide RE') (by omega) ?_; intro a8 c8 w8 hO8 hB8; have O8 := hide hO8; have B8 := hide (later_al7 hB8); clear hO8 hB8; obtain ⟨q0', q1', q2', qf'⟩ := blk_cells3 (((unhide B8).block _ zr2).trans (unhide K3)); obtain ⟨j0', j1', j2', jf'⟩ := blk_cells3 (((unhide B8).block _ zg2).trans (unhide KG)); have z8 := (unhide B8).size; have zr8 : w.heap.size + 1 < w8.heap.size := (by omega); have zg8 : g < w8.heap.size := (by omega)))
    have kg8 := ((unhide B8).block _ zg2).trans (unhide KG)
    have k38 := ((unhide B8).block _ zr2).trans (unhide K3)
    obtain ⟨Z, hZ⟩ : ∃ Z, Z = (w8.setCell ⟨g, 2, none⟩ (.slice a8 0 c8)).setCell ⟨g, 1, none⟩ (.int .i64 f1) := ⟨_, rfl⟩
    have kZ : Z.heap[w.heap.size + 1]? = some (LgO 0 0 (.slice none 0 0)) := by rw [hZ]; exact blk_at (blk_at k38 (by omega)) (by omega)
    have bZ : Below w.heap.size w Z := by rw [hZ]; exact (((unhide BC).trans ((unhide B8).mono (unhide BC).size)).setCell (p := ⟨g, 2, none⟩) (by simp; omega) _).setCell (p := ⟨g, 1, none⟩) (by simp; omega) _
    have oZ : RwS (((Z.setCell ⟨w.heap.size + 1, 0, none⟩ (.int .i64 c)).setCell ⟨w.heap.size + 1, 1, none⟩ (.int .i64 f1)).setCell ⟨w.heap.size + 1, 2, none⟩ (.slice a8 0 c8)) (.slice a8 0 c8) (ss.drop c1) := by
      rcases unhide O8 with h | ⟨h, -⟩
      · have ow8 : OwW (w.heap.size + 1 + 1) w8 (.slice a8 0 c8) (ss.drop c1) := ⟨_, h.base (by simp; omega), (unhide HWN).later (unhide B8)⟩
        exact (OwW.log3 kZ _ _ _ (by rw [hZ]; exact (ow8.log kg8 2 _).log (heap_setCell_same _ _ _ _ _ _ kg8) 1 _)).rw
      · have h2 := (unhide HWN).len
        rw [h] at h2
        have h3 : ss.drop c1 = [] := List.eq_nil_of_length_eq_zero (by rw [← h2]; rfl)
        rw [h3]
        exact RwS.none
    rw [← hZ]
    obtain ⟨y0, y1, y2, yf⟩ := blk_cells3 kZ
    exact bodyPost_ret (v := LgV c f1 (.slice a8 0 c8)) (by simp [results, Try.results30, go_sem, y0, y1, y2]) rfl ⟨a8, c8, rfl, oZ, below_set3 (by omega) bZ⟩
  · clear RE
    go_wp2_with (first | (at_builtin; refine wpList_cp7 encS_len (by omega) 37 49 i0 _ 48 Try.underlying49 hi hz0 hz1 hz2 rfl (by omega) (w2.alloc (.cells #[] 37)) rfl _ _ rfl _ rfl _ (ps.drop k) m hpl rfl (unhide RD) (by omega) ?_; intro a8 c8 w8 hO8 hB8; have O8 := hide hO8; have B8 := hide (later_al7 hB8); clear hO8 hB8; obtain ⟨q0', q1', q2', qf'⟩ := blk_cells3 (((unhide B8).block _ zr2).trans (unhide K3)); obtain ⟨j0', j1', j2', jf'⟩ := blk_cells3 (((unhide B8).block _ zg2).trans (unhide KG)); have z8 := (unhide B8).size; have zr8 : w.heap.size + 1 < w8.heap.size := (by omega); have zg8 : g < w8.heap.size := (by omega)))
    have kg8 := ((unhide B8).block _ zg2).trans (unhide KG)
    have k38 := ((unhide B8).block _ zr2).trans (unhide K3)
    obtain ⟨Z, hZ⟩ : ∃ Z, Z = (w8.setCell ⟨g, 2, none⟩ (.slice a8 m c8)).setCell ⟨g, 1, none⟩ (.int .i64 f1) := ⟨_, rfl⟩
    have kZ : Z.heap[w.heap.size + 1]? = some (LgO 0 0 (.slice none 0 0)) := by rw [hZ]; exact blk_at (blk_at k38 (by omega)) (by omega)
    have bZ : Below w.heap.size w Z := by rw [hZ]; exact (((unhide BC).trans ((unhide B8).mono (unhide BC).size)).setCell (p := ⟨g, 2, none⟩) (by simp; omega) _).setCell (p := ⟨g, 1, none⟩) (by simp; omega) _
    have oZ : RwS (((Z.setCell ⟨w.heap.size + 1, 0, none⟩ (.int .i64 c)).setCell ⟨w.heap.size + 1, 1, none⟩ (.int .i64 f1)).setCell ⟨w.heap.size + 1, 2, none⟩ (.slice a8 m c8)) (.slice a8 m c8) (ss.drop k) := by
      rcases unhide O8 with h | ⟨h, -⟩
      · have ow8 : OwW (w.heap.size + 1 + 1) w8 (.slice a8 m c8) (ss.drop k) := ⟨_, h.base (by simp; omega), (unhide HWN).later (unhide B8)⟩
        exact (OwW.log3 kZ _ _ _ (by rw [hZ]; exact (ow8.log kg8 2 _).log (heap_setCell_same _ _ _ _ _ _ kg8) 1 _)).rw
      · have h2 := (unhide HWN).len
        rw [h] at h2
        have h3 : ss.drop k = [] := List.eq_nil_of_length_eq_zero (by rw [← h2]; rfl)
        have h4 : m = 0 := by rw [unhide hpl, h]; rfl
        rw [h3, h4]
        exact RwS.none
    rw [← hZ]
    obtain ⟨y0, y1, y2, yf⟩ := blk_cells3 kZ
    exact bodyPost_ret (v := LgV c f1 (.slice a8 m c8)) (by simp [results, Try.results30, go_sem, y0, y1, y2]) rfl ⟨a8, c8, rfl, oZ, below_set3 (by omega) bZ⟩
end Go.Proofs.Ytdpaocikmijioaf

namespace Go.Proofs.Ytdpaocikmijioaf
open Go.ChangeShapes Go.WideShapes Go.ChangeAt Go.RowKit

section
variable {H : Type} {enc : TypeId × Value → H} {w : World} {base : Nat} {spare : Nat → Bool} {held : Bool}

def StaAt (w : World) (p : Two) (s : Sta) : Prop := Rw encI 6 w p.1 s.1 ∧ Rw encF 2 w p.2 s.2 ∧ Big s.1 ∧ s.1.length ≤ 9223372036854775807 ∧ s.2.length ≤ 9223372036854775807
set_option maxRecDepth 100000 in
theorem sta_of_cells {fuel : Nat} {cs : List Value} {x : DataW H × List MemPlace} (h : DataW.trod enc Try.prog w base spare held fuel 28 cs = some x) :
    ∃ p : Two, cs = encS p ∧ ∃ s : Sta, StaAt w p s := by
  obtain ⟨xs, n, _, hx, hl, hlen, hfs⟩ := DataW.trod_struct Try.underlying28 h
  have hl2 : cs.length = 2 := hl.trans (by kernel_rfl)
  have c1 : Try.prog.cellsOf 25 = 1 := by kernel_rfl
  have c2 : Try.prog.cellsOf 26 = 1 := by kernel_rfl
  match cs, hl2 with
  | [v0, v1], _ =>
    have h0 : DataW.trod enc Try.prog w base spare held n 25 [v0] = xs[0]? := by
      have := hfs 0 _ rfl
      simpa [c1] using this
    have h1 : DataW.trod enc Try.prog w base spare held n 26 [v1] = xs[1]? := by
      have := hfs 1 _ rfl
      simpa [c2] using this
    match xs, hlen with
    | [y0, y1], _ =>
      simp only [List.getElem?_cons_zero, List.getElem?_cons_succ] at h0 h1
      obtain ⟨ai, ni, ci, xs, rfl, l1, r1, q1⟩ := rw_of_slice (ec := encI) (k := 6) (Q := fun y => y.2.2.2.2.2.size ≤ maxLen ∧ FitN y.1 ∧ FitK y.2) Try.underlying25 (by kernel_rfl) (by omega) (fun _ _ _ h => itm_of_cells h) h0
      obtain ⟨af, nf, cf, fs, rfl, l2, r2, q2⟩ := rw_of_slice (ec := encF) (k := 2) (Q := fun y => FitN y.1 ∧ FitN y.2) Try.underlying26 (by kernel_rfl) (by omega) (fun _ _ _ h => flr_of_cells h) h1
      unfold maxLen at l1 l2
      refine ⟨(.slice ai ni ci, .slice af nf cf), rfl, (xs, fs), r1, r2, fun k x hx => (q1 k x hx).1, ?_, ?_⟩
      · rw [← r1.len.1]; exact l1
      · rw [← r2.len.1]; exact l2

set_option maxRecDepth 100000 in
theorem open_log {r : Reach} {b0 : Nat} {v : Value} {d : DataW H} {p : List MemPlace}
    (hv : Value.okWide Try.prog w r b0 46 v) (h : DataW.Trod enc Try.prog w base spare held 46 v d p) :
    ∃ (c f : Int) (a : Option Addr) (n cap : Nat) (ss : List Sta), v = .agg #[.int .i64 c, .int .i64 f, .slice a n cap] ∧ n ≤ 9223372036854775807 ∧ RwS w (.slice a n cap) ss ∧ BigS ss ∧ FitN c ∧ FitN f := by
  obtain ⟨cs, rfl, hsz⟩ := okWide_struct Try.underlying46 hv
  have hs3 : cs.size = 3 := hsz.trans (by kernel_rfl)
  have c1 : Try.prog.cellsOf 44 = 1 := by kernel_rfl
  have ci : Try.prog.cellsOf 3 = 1 := by kernel_rfl
  obtain ⟨l⟩ := cs
  match l, hs3 with
  | [v0, v1, v2], _ =>
    obtain ⟨fuel, hf⟩ := h
    obtain ⟨xs, n, _, hx, hl, hlen, hfs⟩ := DataW.trod_struct Try.underlying46 hf
    have h0 : DataW.trod enc Try.prog w base spare held n 3 [v0] = xs[0]? := by
      have := hfs 0 _ rfl
      simpa [Value.cells, ci] using this
    have h1 : DataW.trod enc Try.prog w base spare held n 3 [v1] = xs[1]? := by
      have := hfs 1 _ rfl
      simpa [Value.cells, ci] using this
    have h2 : DataW.trod enc Try.prog w base spare held n 44 [v2] = xs[2]? := by
      have := hfs 2 _ rfl
      simpa [Value.cells, c1] using this
    match xs, hlen with
    | [y0, y1, y2], _ =>
      simp only [List.getElem?_cons_zero, List.getElem?_cons_succ] at h0 h1 h2
      obtain ⟨n0, e0, -, f0⟩ := DataW.trod_int Try.underlying3 h0
      obtain ⟨n1, e1, -, f1⟩ := DataW.trod_int Try.underlying3 h1
      simp only [List.cons.injEq, and_true] at e0 e1
      subst e0 e1
      obtain ⟨a, m, cap, ps, rfl, l1, r1, q1⟩ := rw_of_slice (ec := encS) (k := 2) (Q := fun y => ∃ s : Sta, StaAt w y s) Try.underlying44 (by kernel_rfl) (by omega) (fun _ _ _ h => sta_of_cells h) h2
      obtain ⟨ss, hsl, hss⟩ := list_of (p := fun i s => ∀ y, ps[i]? = some y → StaAt w y s) ps.length (fun i hi => by
        obtain ⟨s, hs⟩ := q1 i ps[i] (by simp [hi])
        exact ⟨s, fun y hy => by simp [hi] at hy; subst hy; exact hs⟩)
      unfold maxLen at l1
      refine ⟨n0, n1, a, m, cap, ss, rfl, l1, ⟨ps, r1, hsl.symm, fun i p s hp hs => ⟨(hss i s hs p hp).1, (hss i s hs p hp).2.1⟩⟩, fun i s hs => ?_, fit_of f0, fit_of f1⟩
      have hi : i < ps.length := by rw [← hsl]; exact (List.getElem?_eq_some_iff.1 hs).1
      exact (hss i s hs ps[i] (by simp [hi])).2.2
end
end Go.Proofs.Ytdpaocikmijioaf
