/-
  spec.LogAdd: a change is logged. No statement is proved here.
-/
import Derived.Test.YtdpaocikmijioafLgQ
import Derived.Test.YtdpaocikmijioafLgI
namespace Go.Proofs.Ytdpaocikmijioaf
open Go.RowKit

theorem app_keep {w4 w6 : World} {O : Obj} {v : Value} (hG : (w4.alloc O).grownBy w6 v.ownBlock) {g : Nat} {x : Obj} (hk : w4.heap[g]? = some x) (hne : v.ownBlock ≠ some g) : w6.heap[g]? = some x := by
  have hlt : g < w4.heap.size := (Array.getElem?_eq_some_iff.1 hk).1
  exact (hG.block g (by simp; omega) (fun e => hne e.symm)).trans ((Below.heap_alloc _ _ _ hlt).trans hk)

def lar (c f : Int) (ss : List Sta) (d : Sta) : Bool := lok c f ss && okS d.1 d.2 && !(f + (ss.length : Int) == 100000)
def lad (r : Bool) (c f : Int) (ss : List Sta) (d : Sta) : Int × List Sta := if r = true then (if (ss.length : Int) = c then (f + 1, (ss ++ [d]).drop 1) else (f, ss ++ [d])) else (f, ss)

/-- While a change is added: both arguments' variables, the result's, the new log's. -/
structure La7 (w W : World) (c f c2 f2 : Int) (va v1 v2 : Value) (g : Nat) (v : Value) : Prop where
  bel : Below w.heap.size w W
  k1 : W.heap[w.heap.size]? = some (LgO c f va)
  k2 : W.heap[w.heap.size + 1]? = some (.cells #[v1, v2] 37 (0, 0))
  k3 : W.heap[w.heap.size + 1 + 1]? = some (LgO 0 0 (.slice none 0 0))
  kg : W.heap[g]? = some (LgO c2 f2 v)
theorem La7.later {w W Y : World} {c f c2 f2 : Int} {va v1 v2 : Value} {g : Nat} {v : Value} (h : La7 w W c f c2 f2 va v1 v2 g v) (b : Below W.heap.size W Y) : La7 w Y c f c2 f2 va v1 v2 g v :=
  ⟨h.bel.trans (b.mono h.bel.size), (b.block _ (Array.getElem?_eq_some_iff.1 h.k1).1).trans h.k1, (b.block _ (Array.getElem?_eq_some_iff.1 h.k2).1).trans h.k2, (b.block _ (Array.getElem?_eq_some_iff.1 h.k3).1).trans h.k3, (b.block _ (Array.getElem?_eq_some_iff.1 h.kg).1).trans h.kg⟩
theorem La7.lt {w W : World} {c f c2 f2 : Int} {va v1 v2 : Value} {g : Nat} {v : Value} (h : La7 w W c f c2 f2 va v1 v2 g v) : w.heap.size + 1 + 1 < W.heap.size ∧ g < W.heap.size := ⟨(Array.getElem?_eq_some_iff.1 h.k3).1, (Array.getElem?_eq_some_iff.1 h.kg).1⟩

/-- Behind append(out.List, x). -/
structure Ad7 (w W : World) (c2 f2 : Int) (g : Nat) (v u : Value) (ss : List Sta) : Prop where
  bel : Below w.heap.size w W
  k3 : W.heap[w.heap.size + 1 + 1]? = some (LgO 0 0 (.slice none 0 0))
  kg : W.heap[g]? = some (LgO c2 f2 v)
  row : OwW (w.heap.size + 1 + 1 + 1) W u ss
theorem Ad7.lt {w W : World} {c2 f2 : Int} {g : Nat} {v u : Value} {ss : List Sta} (h : Ad7 w W c2 f2 g v u ss) : w.heap.size + 1 + 1 < W.heap.size ∧ g < W.heap.size := ⟨(Array.getElem?_eq_some_iff.1 h.k3).1, (Array.getElem?_eq_some_iff.1 h.kg).1⟩
theorem add7_facts {w w4 w6 : World} {c f c2 f2 : Int} {va v1 v2 v u : Value} {g : Nat} {ps : List Two} {p : Two} {ss : List Sta} {s : Sta} {O : Obj} (h : La7 w w4 c f c2 f2 va v1 v2 g v) (_ : w.heap.size + 1 + 1 + 1 ≤ g) (row : OwV (w.heap.size + 1 + 1 + 1) w4 v ps) (wn : Wn (w.heap.size + 1 + 1 + 1) w4 ps ss) (o5 : Wk7I (w.heap.size + 1 + 1 + 1) w4 p.1 s.1) (o6 : Wk7F (w.heap.size + 1 + 1 + 1) w4 p.2 s.2)
    (hO : OwV (w.heap.size + 1 + 1 + 1) w6 u (ps ++ [p])) (hG : (w4.alloc O).grownBy w6 v.ownBlock) : Ad7 w w6 c2 f2 g v u (ss ++ [s]) := by
  have al : Below w4.heap.size w4 (w4.alloc O) := (Below.refl _ _).alloc (Nat.le_refl _) O
  have row' := row.later al
  refine ⟨?_, app_keep hG h.k3 (own_ne row h.k3 (by decide)), app_keep hG h.kg (own_ne row h.kg (by decide)), ps ++ [p], hO, ((wn.snoc o5 o6).later al).otherS (OwV.blk row') hG⟩
  have := h.lt
  exact (Trn.of_grown hG).below (h.bel.trans (al.mono h.bel.size)) (by simp; omega) (fun i q => by have := (World.ownsRow.lt row' _ q).1; omega)

set_option maxHeartbeats 8000000 in
set_option maxRecDepth 100000 in
theorem slogadd_any (c f : Int) (a : Option Addr) (n cap : Nat) (ss : List Sta) (ai : Option Addr) (ni ci : Nat) (xs : List Itm) (af : Option Addr) (nf cf : Nat) (fs : List Flr) (r : Bool) (h0 : Hid (lar c f ss (xs, fs) = r)) (f1 : Int) (ss1 : List Sta) (h1 : Hid (lad r c f ss (xs, fs) = (f1, ss1))) (m : Nat) (hm : Hid (m = ss1.length)) (w : World) (hn : n ≤ 1048576) (ht : tot ss ≤ 1048576) (hni : ni ≤ 1048576) (hnf : nf ≤ 1048576) (hx : RwS w (.slice a n cap) ss) (hd : Rw encI 6 w (.slice ai ni ci) xs) (he : Rw encF 2 w (.slice af nf cf) fs) :
    Calls Try.prog 26 #[LgV c f (.slice a n cap), .agg #[.slice ai ni ci, .slice af nf cf]] w fun e w' => ∃ a' c', e = .returned (.tuple #[LgV c f1 (.slice a' m c'), .bool r]) ∧ OwW w.heap.size w' (.slice a' m c') ss1 ∧ Below w.heap.size w w' := by
  obtain ⟨i0, hi, hz0, hz1, hz2⟩ := info_parts Try.infoState
  have HX := hide hx
  have HL := hide hx.len.1
  have HD := hide hd
  have HE := hide he
  obtain ⟨ok, hok⟩ : ∃ ok, lok c f ss = ok := ⟨_, rfl⟩
  obtain ⟨q, hq⟩ : ∃ q, okS xs fs = q := ⟨_, rfl⟩
  obtain ⟨b3, d3⟩ : ∃ b, (f + (n : Int) == 100000) = b := ⟨_, rfl⟩
  have hE := unhide h0
  rw [lar, hok, hq, ← unhide HL, d3] at hE
  have HOK := hide hok
  have HQ := hide hq
  have HV := hide (show Below w.heap.size w (((w.alloc (LgO c f (.slice a n cap))).alloc (.cells #[.slice ai ni ci, .slice af nf cf] 37)).alloc (LgO 0 0 (.slice none 0 0))) from (((Below.refl w.heap.size w).alloc (Nat.le_refl _) _).alloc (by simp) _).alloc (by simp; omega) _)
  clear hx hd he hok hq h0
  go_enter Try.func26, Try.ntmps26
  go_wp2_with fail
  refine (l7copy_any c f a n cap ss (SzS.tot ht) _ (by omega) ((unhide HX).later (unhide HV))).mono ?_
  rintro e w1 ⟨a1, c1, rfl, o1, b1⟩
  obtain ⟨B1, k1, k2, k3, z1⟩ := kept3 b1
  have C1 : Hid (La7 w (w1.alloc (LgO c f (.slice a1 n c1))) c f c f (.slice a n cap) (.slice ai ni ci) (.slice af nf cf) w1.heap.size (.slice a1 n c1)) := hide ⟨B1.alloc B1.size _, (Below.heap_alloc _ _ _ (by omega)).trans k1, (Below.heap_alloc _ _ _ (by omega)).trans k2, (Below.heap_alloc _ _ _ z1).trans k3, heap_alloc_new _ _⟩
  have O1 := hide ((o1.mono (base' := w.heap.size + 1 + 1 + 1) (by simp)).later ((Below.refl w1.heap.size w1).alloc (Nat.le_refl _) (LgO c f (.slice a1 n c1))))
  have hgb : w.heap.size + 1 + 1 + 1 ≤ w1.heap.size := by omega
  obtain ⟨p0, p1, p2, pf⟩ := blk_cells3 k1
  have zl : w.heap.size < w1.heap.size := by omega
  clear o1 b1 B1 k1 k2 k3 HV
  go_wp2_with fail
  refine (slogok_any c f a n cap ss ok HOK _ (by omega) (by omega) ((unhide HX).later (unhide C1).bel)).mono ?_
  rintro e w2 ⟨rfl, b2⟩
  have C2 := hide ((unhide C1).later b2)
  have O2 := hide ((unhide O1).later b2)
  clear b2 C1 O1 p0 p1 p2 pf
  cases ok
  · obtain rfl : r = false := by rw [← hE]; rfl
    obtain ⟨rfl, rfl⟩ : f1 = f ∧ ss1 = ss := by have h := unhide h1; simp [lad] at h; exact ⟨h.1.symm, h.2.symm⟩
    obtain rfl : m = n := by rw [unhide hm, unhide HL]
    obtain ⟨q0, q1, q2, qf⟩ := blk_cells3 (unhide C2).k3
    obtain ⟨j0, j1, j2, jf⟩ := blk_cells3 (unhide C2).kg
    obtain ⟨zr, zg⟩ := (unhide C2).lt
    go_wp2
    exact bodyPost_ret (v := .tuple #[LgV c f1 (.slice a1 m c1), .bool false]) (by simp [results, Try.results26, go_sem, q0, q1, q2]) rfl ⟨a1, c1, rfl, OwW.mono (OwW.log3 (unhide C2).k3 _ _ _ (unhide O2)) (by omega), below_set3 (by omega) (unhide C2).bel⟩
  obtain ⟨⟨c1', c2'⟩, cn, ⟨f1', f2'⟩, fn, hokL⟩ := lok_iff.1 (unhide HOK)
  have cn' : (n : Int) ≤ c := by rw [unhide HL]; exact cn
  clear cn fn hokL
  obtain ⟨p0, p1, p2, pf⟩ := blk_cells3 (unhide C2).k1
  obtain ⟨s0, s1, sf⟩ := blk_cells2 (unhide C2).k2
  obtain ⟨zr2, zg2⟩ := (unhide C2).lt
  have zl2 : w.heap.size < w2.heap.size := by omega
  have zd2 : w.heap.size + 1 < w2.heap.size := by omega
  go_wp2_with fail
  refine (sstateok_any ai ni ci xs af nf cf fs q HQ _ (by omega) (by omega) ((unhide HD).later (unhide C2).bel) ((unhide HE).later (unhide C2).bel)).mono ?_
  rintro e w3 ⟨rfl, b3'⟩
  have C3 := hide ((unhide C2).later b3')
  have O3 := hide ((unhide O2).later b3')
  clear b3' C2 O2 p0 p1 p2 pf s0 s1 sf
  cases q
  · obtain rfl : r = false := by rw [← hE]; rfl
    obtain ⟨rfl, rfl⟩ : f1 = f ∧ ss1 = ss := by have h := unhide h1; simp [lad] at h; exact ⟨h.1.symm, h.2.symm⟩
    obtain rfl : m = n := by rw [unhide hm, unhide HL]
    obtain ⟨q0, q1, q2, qf⟩ := blk_cells3 (unhide C3).k3
    obtain ⟨j0, j1, j2, jf⟩ := blk_cells3 (unhide C3).kg
    obtain ⟨zr, zg⟩ := (unhide C3).lt
    go_wp2
    exact bodyPost_ret (v := .tuple #[LgV c f1 (.slice a1 m c1), .bool false]) (by simp [results, Try.results26, go_sem, q0, q1, q2]) rfl ⟨a1, c1, rfl, OwW.mono (OwW.log3 (unhide C3).k3 _ _ _ (unhide O3)) (by omega), below_set3 (by omega) (unhide C3).bel⟩
  obtain ⟨p0, p1, p2, pf⟩ := blk_cells3 (unhide C3).k1
  obtain ⟨zr3, zg3⟩ := (unhide C3).lt
  have zl3 : w.heap.size < w3.heap.size := by omega
  have zd3 : w.heap.size + 1 < w3.heap.size := by omega
  cases b3
  · obtain rfl : r = true := by rw [← hE]; rfl
    obtain ⟨s0, s1, sf⟩ := blk_cells2 (unhide C3).k2
    obtain ⟨j0, j1, j2, jf⟩ := blk_cells3 (unhide C3).kg
    generalize hg : w1.heap.size = g at *
    obtain ⟨ps, hrow, hwn⟩ := unhide O3
    have hpl : Hid (n = ps.length) := hide (by rw [hwn.len]; exact unhide HL)
    have HROW := hide hrow
    have HWN := hide hwn
    have RX := hide (((unhide HD).later (unhide C3).bel).later ((Below.refl _ _).drew))
    have RF := hide (((unhide HE).later (unhide C3).bel).later ((Below.refl _ _).drew))
    clear hrow hwn O3 hE
    go_upto_region 4 with fail
    go_region_law (first
      | (go_simp; go_at_call 65; refine (l3copy7_any ai ni ci xs af nf cf fs _ (by omega) (by omega) (unhide RX) (unhide RF)).mono ?_; rintro e w4 ⟨b1, e1, b2, e2, rfl, o5, o6, b4⟩; have b4' : Below w3.heap.size w3 w4 := up0 b4; have C4 := hide ((unhide C3).later b4'); obtain ⟨t0, t1, t2, tf⟩ := blk_cells3 (unhide C4).kg; obtain ⟨zr4, zg4⟩ := (unhide C4).lt; have O5 := hide (Wk7.base (base' := w.heap.size + 1 + 1 + 1) o5 (by show w.heap.size + 1 + 1 + 1 ≤ w3.heap.size; omega)); have O6 := hide (Wk7.base (base' := w.heap.size + 1 + 1 + 1) o6 (by show w.heap.size + 1 + 1 + 1 ≤ w3.heap.size; omega)); have HROW4 := hide ((unhide HROW).later b4'); have HWN4 := hide ((unhide HWN).later b4'); clear o5 o6 b4 b4')
      | (refine step_app7 encS_len (by omega) 37 49 i0 _ 48 Try.underlying49 hi hz0 hz1 hz2 rfl (by omega) (w4.alloc (.cells #[.slice b1 ni e1, .slice b2 nf e2] 37)) (.slice b1 ni e1, .slice b2 nf e2) (oneS _ rfl rfl) rfl _ _ rfl (w.heap.size + 1 + 1 + 1) (.slice a1 n c1) ps n hpl rfl ((unhide HROW4).later ((Below.refl _ _).alloc (Nat.le_refl _) _)) w4.heap.size rfl (heap_alloc_new w4 _) (by omega) (by simp; omega) ?_; intro a7 c7 w6 hO hG; have A7 := add7_facts (s := (xs, fs)) (unhide C4) hgb (unhide HROW4) (unhide HWN4) (unhide O5) (unhide O6) hO hG; obtain ⟨m0, m1, m2, mf⟩ := blk_cells3 A7.kg; have z6 := A7.lt; have HA7 := hide A7; clear hO hG A7))
    all_goals
      clear t0 t1 t2 tf s0 s1 sf j0 j1 j2 jf p0 p1 p2 pf RX RF HROW HWN HROW4 HWN4 O5 O6 C3 C4
      obtain ⟨zr6, zg6⟩ := z6
      obtain ⟨X, hX⟩ : ∃ X, X = w6.setCell ⟨g, 2, none⟩ (.slice a7 (n + 1) c7) := ⟨_, rfl⟩
      have bX : Below w.heap.size w X := by rw [hX]; exact (unhide HA7).bel.setCell (p := ⟨g, 2, none⟩) (by simp; omega) _
      have kX : X.heap[w.heap.size + 1 + 1]? = some (LgO 0 0 (.slice none 0 0)) := by rw [hX]; exact blk_at (unhide HA7).k3 (by omega)
      have kgX : X.heap[g]? = some (LgO c f (.slice a7 (n + 1) c7)) := by rw [hX]; exact heap_setCell_same _ _ _ _ _ _ (unhide HA7).kg
      have OX : OwW (w.heap.size + 1 + 1 + 1) X (.slice a7 (n + 1) c7) (ss ++ [(xs, fs)]) := by rw [hX]; exact (unhide HA7).row.log (unhide HA7).kg 2 _
      rw [← hX]
      obtain ⟨q0, q1, q2, qf⟩ := blk_cells3 kX
      obtain ⟨j0, j1, j2, jf⟩ := blk_cells3 kgX
      have zrX : w.heap.size + 1 + 1 < X.heap.size := (Array.getElem?_eq_some_iff.1 kX).1
      have zgX : g < X.heap.size := (Array.getElem?_eq_some_iff.1 kgX).1
      have BX := hide bX
      have KX := hide kX
      have KGX := hide kgX
      have HOX := hide OX
      clear hX bX kX kgX OX HA7 m0 m1 m2 mf
      by_cases hnc : (n : Int) = c
      · have hd5 : decide ((n : Int) + 1 > c) = true := by simp; omega
        simp only [gt_iff_lt] at hd5
        obtain ⟨rfl, rfl⟩ : f1 = f + 1 ∧ ss1 = (ss ++ [(xs, fs)]).drop 1 := by have h := unhide h1; rw [lad, if_pos rfl, if_pos (by rw [← unhide HL]; exact hnc)] at h; simp only [Prod.mk.injEq] at h; exact ⟨h.1.symm, h.2.symm⟩
        obtain rfl : m = n := by rw [unhide hm, unhide HL]; simp
        obtain ⟨ps', hrow', hwn'⟩ := unhide HOX
        have hcc := (Ow.rw encS_len hrow').len.2
        have hc7 : ¬ c7 = 1 := by omega
        have hpl' : Hid (m = (ps'.drop 1).length) := hide (by have := (Ow.rw encS_len hrow').len.1; simp; omega)
        have RD : Hid (Rw encS 2 (X.alloc (.cells #[] 37)) (.slice (a7.map fun x => x.add 2) m (c7 - 1)) (ps'.drop 1)) := hide (((Ow.rw encS_len hrow').drop (j := 1) (m := m) (c := c7 - 1) (by omega) (by omega) (by omega)).alloc _)
        have HW' := hide (hwn'.drop 1)
        have hm1 : 1 ≤ m := by omega
        have HNC := hide hnc
        clear hrow' hwn' hnc hcc HOX
        go_wp2_with (first | (at_builtin; refine wpList_cp7 encS_len (by omega) 37 49 i0 _ 48 Try.underlying49 hi hz0 hz1 hz2 rfl (by omega) (X.alloc (.cells #[] 37)) rfl _ _ rfl _ rfl _ (ps'.drop 1) m hpl' rfl (unhide RD) (by omega) ?_; intro a8 c8 w8 hO8 hB8; have O8 := hide hO8; have B8 := hide (later_al7 hB8); clear hO8 hB8; obtain ⟨q0', q1', q2', qf'⟩ := blk_cells3 (((unhide B8).block _ zrX).trans (unhide KX)); obtain ⟨j0', j1', j2', jf'⟩ := blk_cells3 (((unhide B8).block _ zgX).trans (unhide KGX)); have z8 := (unhide B8).size; have zr8 : w.heap.size + 1 + 1 < w8.heap.size := (by omega); have zg8 : g < w8.heap.size := (by omega)))
        have kg8 := ((unhide B8).block _ zgX).trans (unhide KGX)
        have k38 := ((unhide B8).block _ zrX).trans (unhide KX)
        have row8 : OwV (w.heap.size + 1 + 1 + 1) w8 (.slice a8 m c8) (ps'.drop 1) := by
          rcases unhide O8 with h | ⟨h, -⟩
          · exact h.base (by simp; omega)
          · have := unhide hpl'; rw [h] at this; simp at this; omega
        have ow8 : OwW (w.heap.size + 1 + 1 + 1) w8 (.slice a8 m c8) ((ss ++ [(xs, fs)]).drop 1) := ⟨_, row8, (unhide HW').later (unhide B8)⟩
        obtain ⟨Z, hZ⟩ : ∃ Z, Z = (w8.setCell ⟨g, 2, none⟩ (.slice a8 m c8)).setCell ⟨g, 1, none⟩ (.int .i64 (f + 1)) := ⟨_, rfl⟩
        have kZ : Z.heap[w.heap.size + 1 + 1]? = some (LgO 0 0 (.slice none 0 0)) := by rw [hZ]; exact blk_at (blk_at k38 (by omega)) (by omega)
        have oZ : OwW (w.heap.size + 1 + 1 + 1) Z (.slice a8 m c8) ((ss ++ [(xs, fs)]).drop 1) := by rw [hZ]; exact (ow8.log kg8 2 _).log (heap_setCell_same _ _ _ _ _ _ kg8) 1 _
        have bZ : Below w.heap.size w Z := by rw [hZ]; exact (((unhide BX).trans ((unhide B8).mono (unhide BX).size)).setCell (p := ⟨g, 2, none⟩) (by simp; omega) _).setCell (p := ⟨g, 1, none⟩) (by simp; omega) _
        rw [← hZ]
        obtain ⟨y0, y1, y2, yf⟩ := blk_cells3 kZ
        exact bodyPost_ret (v := .tuple #[LgV c (f + 1) (.slice a8 m c8), .bool true]) (by simp [results, Try.results26, go_sem, y0, y1, y2]) rfl ⟨a8, c8, rfl, OwW.mono (OwW.log3 kZ _ _ _ oZ) (by omega), below_set3 (by omega) bZ⟩
      · have hd5 : decide ((n : Int) + 1 > c) = false := by simp; omega
        simp only [gt_iff_lt] at hd5
        obtain ⟨rfl, rfl⟩ : f1 = f ∧ ss1 = ss ++ [(xs, fs)] := by have h := unhide h1; rw [lad, if_pos rfl, if_neg (by rw [← unhide HL]; exact hnc)] at h; simp at h; exact ⟨h.1.symm, h.2.symm⟩
        obtain rfl : m = n + 1 := by rw [unhide hm, unhide HL]; simp
        go_wp2
        exact bodyPost_ret (v := .tuple #[LgV c f1 (.slice a7 (n + 1) c7), .bool true]) (by simp [results, Try.results26, go_sem, q0, q1, q2]) rfl ⟨a7, c7, rfl, OwW.mono (OwW.log3 (unhide KX) _ _ _ (unhide HOX)) (by omega), below_set3 (by omega) (unhide BX)⟩
  · obtain rfl : r = false := by rw [← hE]; rfl
    obtain ⟨rfl, rfl⟩ : f1 = f ∧ ss1 = ss := by have h := unhide h1; simp [lad] at h; exact ⟨h.1.symm, h.2.symm⟩
    obtain rfl : m = n := by rw [unhide hm, unhide HL]
    obtain ⟨q0, q1, q2, qf⟩ := blk_cells3 (unhide C3).k3
    obtain ⟨j0, j1, j2, jf⟩ := blk_cells3 (unhide C3).kg
    obtain ⟨zr, zg⟩ := (unhide C3).lt
    go_wp2
    exact bodyPost_ret (v := .tuple #[LgV c f1 (.slice a1 m c1), .bool false]) (by simp [results, Try.results26, go_sem, q0, q1, q2]) rfl ⟨a1, c1, rfl, OwW.mono (OwW.log3 (unhide C3).k3 _ _ _ (unhide O3)) (by omega), below_set3 (by omega) (unhide C3).bel⟩
end Go.Proofs.Ytdpaocikmijioaf
