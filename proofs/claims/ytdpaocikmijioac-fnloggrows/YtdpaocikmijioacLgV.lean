/-
  spec.l7Copy: a log in memory of the call's own. No statement is proved here.
-/
import Derived.Test.YtdpaocikmijioacLgU
import Derived.Test.YtdpaocikmijioacLgK
import Derived.Test.YtdpaocikmijioacApp2
namespace Go.Proofs.Ytdpaocikmijioac
open Go.RowKit

/-- append(dst, x) of one element that lies in a block of its own. -/
theorem step_app7 {P : Program} {α : Type} {enc : α → List Value} {k : Nat} (hk : ∀ x, (enc x).length = k) (h0 : 0 < k) {ops : Array Oper} {o : Oper} {a : Act} {K : Act → World → Prop} {Q : Exit → Act → World → Prop} {R : Prop}
    (E T : TypeId) (i : TypeInfo) (z : Value) (bytes : Nat) (ht : P.underlying T = some (.slice E)) (hi : P.info? E = some i) (hz : i.zero = some z) (hsize : i.size = k) (hby : i.bytes = bytes) (hzs : z.cells.size = k) (hb : bytes ≤ 1000)
    (w : World) (x : α) (h1 : ∀ u ∈ enc x, u.oneCell' = true) (hgd : o.guard = none) (s xo : Operand) (ho : o.op = .call { callee := .builtin .append, args := #[s, xo], argTypes := #[T, T] })
    (base : Nat) (v : Value) (xs : List α) (n : Nat) (hn : Hid (n = xs.length)) (hs : a.eval s = v) (hown : Ow enc k E base w v xs) (g : Nat) (hx : a.eval xo = .slice (some ⟨g, 0, none⟩) 1 1) (hg : w.heap[g]? = some (.cells (enc x).toArray E (0, 0))) (hlen : n ≤ 2000000) (hbase : base ≤ w.heap.size)
    (h : ∀ a' c' w', Ow enc k E base w' (.slice a' (n + 1) c') (xs ++ [x]) → w.grownBy w' v.ownBlock → K (a.put o.dst (.slice a' (n + 1) c')) w') :
    if Region.wanted o (yielded ops a.tmps) = true then Oper.wp P o a w K Q else R := by
  obtain rfl := unhide hn
  refine step_append_lies _ hgd s xo T ho base E i z k bytes ht hi hz hsize hby hzs h0 v xs.length (xs.flatMap enc) hs hown ⟨g, 0, none⟩ 1 1 (enc x) hx (by rw [hk]; omega) ?_ h1 (by omega) (by unfold maxLen; omega) ?_ hbase _ rfl ?_
  · intro j u hj
    rw [add_off, Nat.zero_add]
    simp only [World.cell?, hg]
    simpa using hj
  · have : (xs.length + 1) * bytes ≤ 2000001 * 1000 := Nat.mul_le_mul (by omega) hb
    omega
  · intro g' cap w' h2 h3 _ _
    have hO : Ow enc k E base w' (.slice (some ⟨g', 0, none⟩) (xs.length + 1) cap) (xs ++ [x]) := by
      unfold Ow
      rw [List.length_append, List.flatMap_append]
      simpa using h2
    exact h _ _ w' hO h3

/-- The inner rows of states of the call's own, or empty ones. -/
structure Wn (base : Nat) (w : World) (ps : List Two) (ss : List Sta) : Prop where
  len : ps.length = ss.length
  ins : ∀ (i : Nat) (p : Two) (s : Sta), ps[i]? = some p → ss[i]? = some s → Wk7I base w p.1 s.1 ∧ Wk7F base w p.2 s.2
theorem Wn.nil (base : Nat) (w : World) : Wn base w [] [] := ⟨rfl, fun i p s h => by simp at h⟩
theorem Wn.later {base : Nat} {w w' : World} {ps : List Two} {ss : List Sta} (h : Wn base w ps ss) (hb : Below w.heap.size w w') : Wn base w' ps ss := ⟨h.len, fun i p s hp hs => ⟨(h.ins i p s hp hs).1.later hb, (h.ins i p s hp hs).2.later hb⟩⟩
theorem Wn.rw {base : Nat} {w : World} {ps : List Two} {ss : List Sta} (h : Wn base w ps ss) : Ins w ps ss := ⟨h.len, fun i p s hp hs => ⟨(h.ins i p s hp hs).1.rw encI_len, (h.ins i p s hp hs).2.rw encF_len⟩⟩
theorem Wn.mono {base base' : Nat} {w : World} {ps : List Two} {ss : List Sta} (h : Wn base w ps ss) (hb : base' ≤ base) : Wn base' w ps ss := ⟨h.len, fun i p s hp hs => ⟨(h.ins i p s hp hs).1.base hb, (h.ins i p s hp hs).2.base hb⟩⟩
/-- A write into a block of states, or into a variable of type Log. -/
theorem Wk7.otherB {α : Type} {enc : α → List Value} {k : Nat} {E T : TypeId} {base : Nat} {w w' : World} {v : Value} {xs : List α} {b : Option Nat} (h : Wk7 enc k E base w v xs) (hb : ∀ g, b = some g → ∃ cs fz, w.heap[g]? = some (.cells cs T fz)) (hne : E ≠ T) (hg : w.grownBy w' b) : Wk7 enc k E base w' v xs := h.imp (fun h => h.otherT hb hne hg) id
theorem Wn.otherS {base : Nat} {w w' : World} {ps : List Two} {ss : List Sta} {b : Option Nat} (h : Wn base w ps ss) (hb : ∀ g, b = some g → ∃ cs fz, w.heap[g]? = some (.cells cs 30 fz)) (hg : w.grownBy w' b) : Wn base w' ps ss :=
  ⟨h.len, fun i p s hp hs => ⟨(h.ins i p s hp hs).1.otherB hb (by decide) hg, (h.ins i p s hp hs).2.otherB hb (by decide) hg⟩⟩
theorem Wn.otherL {base : Nat} {w w' : World} {ps : List Two} {ss : List Sta} {b : Option Nat} (h : Wn base w ps ss) (hb : ∀ g, b = some g → ∃ cs fz, w.heap[g]? = some (.cells cs 26 fz)) (hg : w.grownBy w' b) : Wn base w' ps ss :=
  ⟨h.len, fun i p s hp hs => ⟨(h.ins i p s hp hs).1.otherB hb (by decide) hg, (h.ins i p s hp hs).2.otherB hb (by decide) hg⟩⟩
theorem Wn.snoc {base : Nat} {w : World} {ps : List Two} {ss : List Sta} {p : Two} {s : Sta} (h : Wn base w ps ss) (h1 : Wk7I base w p.1 s.1) (h2 : Wk7F base w p.2 s.2) : Wn base w (ps ++ [p]) (ss ++ [s]) := by
  refine ⟨by simp [h.len], fun i q t hq ht => ?_⟩
  by_cases hi : i < ps.length
  · rw [List.getElem?_append_left hi] at hq
    rw [List.getElem?_append_left (by rw [← h.len]; exact hi)] at ht
    exact h.ins i q t hq ht
  · rw [List.getElem?_append_right (by omega)] at hq
    rw [List.getElem?_append_right (by rw [← h.len]; omega), ← h.len] at ht
    have e : i - ps.length = 0 := by
      have := (List.getElem?_eq_some_iff.1 hq).1
      simp at this; omega
    rw [e] at hq ht
    simp at hq ht
    subst hq ht
    exact ⟨h1, h2⟩
/-- A list of states of the call's own; what is in it may be empty rows that lie anywhere. -/
def OwW (base : Nat) (w : World) (v : Value) (ss : List Sta) : Prop := ∃ ps, OwV base w v ps ∧ Wn base w ps ss
theorem OwW.later {base : Nat} {w w' : World} {v : Value} {ss : List Sta} (h : OwW base w v ss) (hb : Below w.heap.size w w') : OwW base w' v ss := by
  obtain ⟨ps, h1, h2⟩ := h
  exact ⟨ps, h1.later hb, h2.later hb⟩
theorem OwW.rw {base : Nat} {w : World} {v : Value} {ss : List Sta} (h : OwW base w v ss) : RwS w v ss := by
  obtain ⟨ps, h1, h2⟩ := h
  exact ⟨ps, h1.rw encS_len, h2.rw⟩
theorem OwW.mono {base base' : Nat} {w : World} {v : Value} {ss : List Sta} (h : OwW base w v ss) (hb : base' ≤ base) : OwW base' w v ss := by
  obtain ⟨ps, h1, h2⟩ := h
  exact ⟨ps, h1.base hb, h2.mono hb⟩
theorem OwW.log {base : Nat} {w : World} {v : Value} {ss : List Sta} (h : OwW base w v ss) {g : Nat} {cs : Array Value} {fz : Nat × Nat} (hg : w.heap[g]? = some (.cells cs 26 fz)) (o : Nat) (u : Value) : OwW base (w.setCell ⟨g, o, none⟩ u) v ss := by
  obtain ⟨ps, h1, h2⟩ := h
  have hb : ∀ q, some g = some q → ∃ cs fz, w.heap[q]? = some (.cells cs 26 fz) := fun q e => by cases e; exact ⟨_, _, hg⟩
  exact ⟨ps, h1.otherT hb (by decide) (grown_set1 w g o u), h2.otherL hb (grown_set1 w g o u)⟩
theorem OwW.log3 {base : Nat} {w : World} {g : Nat} {c0 c1 c2 : Value} (h : w.heap[g]? = some (.cells #[c0, c1, c2] 26 (0, 0))) (v0 v1 v2 : Value) {v : Value} {ss : List Sta} (k : OwW base w v ss) :
    OwW base (((w.setCell ⟨g, 0, none⟩ v0).setCell ⟨g, 1, none⟩ v1).setCell ⟨g, 2, none⟩ v2) v ss :=
  ((k.log h 0 v0).log (heap_setCell_same _ _ _ _ _ _ h) 1 v1).log (heap_setCell_same _ _ _ _ _ _ (heap_setCell_same _ _ _ _ _ _ h)) 2 v2
theorem OwW.form {base : Nat} {w : World} {v : Value} {ss : List Sta} (h : OwW base w v ss) : ∃ a c, v = .slice a ss.length c := by
  obtain ⟨ps, h1, h2⟩ := h
  obtain ⟨a, c, e⟩ := Ow.form h1
  exact ⟨a, c, by rw [e, h2.len]⟩

/-- Behind append(out.List, x): what has stayed, what has come. -/
structure Ap7 (w W : World) (c f c0 f0 c2 f2 : Int) (va vr v u : Value) (ss : List Sta) : Prop where
  bel : Below w.heap.size w W
  k1 : W.heap[w.heap.size]? = some (LgO c f va)
  k2 : W.heap[w.heap.size + 1]? = some (LgO c0 f0 vr)
  k3 : W.heap[w.heap.size + 1 + 1]? = some (LgO c2 f2 v)
  z : w.heap.size + 1 + 1 < W.heap.size
  row : OwW (w.heap.size + 1 + 1) W u ss
theorem app7_facts {w w4 w6 : World} {c f c0 f0 c2 f2 : Int} {va vr v u : Value} {ps : List Two} {p : Two} {ss : List Sta} {s : Sta} {O : Obj}
    (k1 : w4.heap[w.heap.size]? = some (LgO c f va)) (k2 : w4.heap[w.heap.size + 1]? = some (LgO c0 f0 vr)) (k3 : w4.heap[w.heap.size + 1 + 1]? = some (LgO c2 f2 v)) (row : OwV (w.heap.size + 1 + 1) w4 v ps) (wn : Wn (w.heap.size + 1 + 1) w4 ps ss) (o5 : Wk7I (w.heap.size + 1 + 1) w4 p.1 s.1) (o6 : Wk7F (w.heap.size + 1 + 1) w4 p.2 s.2) (bel : Below w.heap.size w w4)
    (hO : OwV (w.heap.size + 1 + 1) w6 u (ps ++ [p])) (hG : (w4.alloc O).grownBy w6 v.ownBlock) : Ap7 w w6 c f c0 f0 c2 f2 va vr v u (ss ++ [s]) := by
  have al : Below w4.heap.size w4 (w4.alloc O) := (Below.refl _ _).alloc (Nat.le_refl _) O
  have row' := row.later al
  have hst := OwV.blk row'
  have keep : ∀ {g : Nat} {cc : Array Value} {fz : Nat × Nat}, w4.heap[g]? = some (.cells cc 26 fz) → w6.heap[g]? = some (.cells cc 26 fz) := fun {g cc fz} hk => by
    have hlt : g < w4.heap.size := (Array.getElem?_eq_some_iff.1 hk).1
    have hk' := (al.block _ hlt).trans hk
    refine (hG.block g (Nat.lt_of_lt_of_le hlt al.size) (fun e => ?_)).trans hk'
    exact own_ne row' hk' (by decide) e.symm
  have hz : w.heap.size + 1 + 1 < w4.heap.size := (Array.getElem?_eq_some_iff.1 k3).1
  refine ⟨?_, keep k1, keep k2, keep k3, Nat.lt_of_lt_of_le hz (Nat.le_trans al.size hG.size), ps ++ [p], hO, ?_⟩
  · exact (Trn.of_grown hG).below (bel.trans (al.mono bel.size)) (by simp; omega) (fun i q => by have := (World.ownsRow.lt row' _ q).1; omega)
  · exact ((wn.snoc o5 o6).later al).otherS hst hG

set_option maxHeartbeats 8000000 in
set_option maxRecDepth 100000 in
theorem l7copy_any (c f : Int) (a : Option Addr) (n cap : Nat) (ss : List Sta) (hz : ∀ (i : Nat) (s : Sta), ss[i]? = some s → s.1.length ≤ 1048576 ∧ s.2.length ≤ 1048576) (w : World) (hn : n ≤ 1999999) (hx : RwS w (.slice a n cap) ss) :
    Calls Try.prog 44 #[LgV c f (.slice a n cap)] w fun e w' => ∃ a' c', e = .returned (LgV c f (.slice a' n c')) ∧ OwW w.heap.size w' (.slice a' n c') ss ∧ Below w.heap.size w w' := by
  obtain ⟨i0, hi, hz0, hz1, hz2⟩ := info_parts Try.infoState
  have HX := hide hx
  have HL := hide hx.len.1
  have HZ := hide hz
  have HBV := hide (show Below w.heap.size w (((w.alloc (LgO c f (.slice a n cap))).alloc (LgO 0 0 (.slice none 0 0))).alloc (LgO c f (.slice none 0 0))) from (((Below.refl w.heap.size w).alloc (Nat.le_refl _) _).alloc (by simp) _).alloc (by simp; omega) _)
  clear hx hz
  go_enter Try.func44, Try.ntmps44
  go_wp2
  go_loopw [4] (fun i wr => ∃ (j : Nat) (v : Value), j ≤ n ∧ i = .int .i64 j ∧ Below w.heap.size w wr ∧ wr.heap[w.heap.size]? = some (LgO c f (.slice a n cap)) ∧ wr.heap[w.heap.size + 1]? = some (LgO 0 0 (.slice none 0 0)) ∧ wr.heap[w.heap.size + 1 + 1]? = some (LgO c f v) ∧ OwW (w.heap.size + 1 + 1) wr v (ss.take j)) (fun i _ => n - (intOf i).toNat)
  case atStart => exact ⟨0, .slice none 0 0, Nat.zero_le _, rfl, unhide HBV, lowB3 w _ _ _, midB3 w _ _ _, newB3 w _ _ _, [], World.ownsRow_nil _ _ _ _, Wn.nil _ _⟩
  case round =>
    obtain ⟨j, v, hj, rfl, hb, hk1, hk2, hk3, ho⟩ := hrel
    have hzg : w.heap.size + 1 + 1 < wr.heap.size := (Array.getElem?_eq_some_iff.1 hk3).1
    have hzr : w.heap.size + 1 < wr.heap.size := by omega
    have hzl : w.heap.size < wr.heap.size := by omega
    obtain ⟨s0, s1, s2, -⟩ := blk_cells3 hk1
    obtain ⟨g0, g1, g2, gf⟩ := blk_cells3 hk3
    by_cases hlt : j < n
    · obtain ⟨xs, fs, ai, ni, ci, af, nf, cf, b, off, hx, rfl, hbw, hcap, c0, c1, rx, rf⟩ := (unhide HX).at hlt
      have d0 := (hb.cell (p := ⟨b, off + j * 2, none⟩) hbw).trans c0
      have d1 := (hb.cell (p := ⟨b, off + j * 2 + 1, none⟩) hbw).trans c1
      obtain ⟨m1, m2⟩ := unhide HZ j _ hx
      have hn1 : ni ≤ 2000000 := by have := rx.len.1; simp only at m1; omega
      have hn2 : nf ≤ 2000000 := by have := rf.len.1; simp only at m2; omega
      have hbwr : b < wr.heap.size := Nat.lt_of_lt_of_le hbw hb.size
      have RX := hide (rx.later (hb.trans (((Below.refl wr.heap.size wr).drew).mono hb.size)))
      have RF := hide (rf.later (hb.trans (((Below.refl wr.heap.size wr).drew).mono hb.size)))
      obtain ⟨ps, hrow, hwn⟩ := ho
      obtain ⟨a9, c9, rfl⟩ := Ow.form hrow
      have hpl0 : ps.length = j := by rw [hwn.len]; simp; have := unhide HL; omega
      rw [hpl0] at hrow hk3 g2
      have hpl : Hid (j = ps.length) := hide hpl0.symm
      have HTK := hide (take_at hx)
      have HROW := hide hrow
      have HWN := hide hwn
      have HB := hide hb
      have HKL1 := hide hk1
      have HKR := hide hk2
      have HKG := hide hk3
      clear c0 c1 rx rf hx hb hk1 hk2 hk3 hrow hwn m1 m2 hpl0
      go_upto_region 5 with fail
      go_region_law (first
        | (go_simp; go_at_call 46; refine (l3copy7_any ai ni ci xs af nf cf fs _ hn1 hn2 (unhide RX) (unhide RF)).mono ?_; rintro e w4 ⟨b1, e1, b2, e2, rfl, o5, o6, b4⟩; have b4' : Below wr.heap.size wr w4 := up0 b4; have kg4 := (b4'.block _ hzg).trans (unhide HKG); obtain ⟨t0, t1, t2, tf⟩ := blk_cells3 kg4; have zg4 : w.heap.size + 1 + 1 < w4.heap.size := (Array.getElem?_eq_some_iff.1 kg4).1; have HKG4 := hide kg4; have HKR4 := hide ((b4'.block _ hzr).trans (unhide HKR)); have HKL4 := hide ((b4'.block _ hzl).trans (unhide HKL1)); have HB4 := hide ((unhide HB).trans (b4'.mono (unhide HB).size)); have O5 := hide (Wk7.base (base' := w.heap.size + 1 + 1) o5 (by show w.heap.size + 1 + 1 ≤ wr.heap.size; omega)); have O6 := hide (Wk7.base (base' := w.heap.size + 1 + 1) o6 (by show w.heap.size + 1 + 1 ≤ wr.heap.size; omega)); have HROW4 := hide ((unhide HROW).later b4'); have HWN4 := hide ((unhide HWN).later b4'); clear o5 o6 b4 b4' kg4)
        | (refine step_app7 encS_len (by omega) 30 24 i0 _ 48 Try.underlying24 hi hz0 hz1 hz2 rfl (by omega) (w4.alloc (.cells #[.slice b1 ni e1, .slice b2 nf e2] 30)) (.slice b1 ni e1, .slice b2 nf e2) (oneS _ rfl rfl) rfl _ _ rfl (w.heap.size + 1 + 1) (.slice a9 j c9) ps j hpl rfl ((unhide HROW4).later ((Below.refl _ _).alloc (Nat.le_refl _) _)) w4.heap.size rfl (heap_alloc_new w4 _) (by omega) (by simp; omega) ?_; intro a7 c7 w6 hO hG; have A7 := app7_facts (s := (xs, fs)) (unhide HKL4) (unhide HKR4) (unhide HKG4) (unhide HROW4) (unhide HWN4) (unhide O5) (unhide O6) (unhide HB4) hO hG; obtain ⟨m0, m1, m2, mf⟩ := blk_cells3 A7.k3; have z6 := A7.z; have HA7 := hide A7; clear hO hG A7))
      all_goals
        clear g0 g1 g2 gf t0 t1 t2 tf d0 d1 s0 s1 s2 HKG HKR HKL1 HB RX RF HROW HWN HROW4 HWN4 O5 O6 HKG4 HKR4 HKL4 HB4
        go_wp2
        go_roundw
        case rel => exact ⟨j + 1, .slice a7 (j + 1) c7, by omega, by go_num, (unhide HA7).bel.setCell (p := ⟨w.heap.size + 1 + 1, 2, none⟩) (by simp; omega) _, blk_at (unhide HA7).k1 (by omega), blk_at (unhide HA7).k2 (by omega), heap_setCell_same _ _ _ _ _ _ (unhide HA7).k3, by rw [unhide HTK]; exact (unhide HA7).row.log (unhide HA7).k3 2 _⟩
        case measure => simp [intOf]; omega
    · have hjn : j = n := by omega
      obtain ⟨p0, p1, p2, pf⟩ := blk_cells3 hk2
      have hT : ss.take j = ss := List.take_of_length_le (by have := unhide HL; omega)
      rw [hT] at ho
      obtain ⟨a9, c9, rfl⟩ := ho.form
      rw [← unhide HL] at ho g2 hk3
      have HO := hide ho
      have HB := hide hb
      have HKR := hide hk2
      clear hb hk1 hk2 hk3 ho hT
      go_wp2
      exact bodyPost_ret (v := LgV c f (.slice a9 n c9)) (by simp [results, Try.results44, go_sem, p0, p1, p2]) rfl ⟨a9, c9, rfl, OwW.mono (OwW.log3 (unhide HKR) _ _ _ (unhide HO)) (by omega), below_set3 (by omega) (unhide HB)⟩
end Go.Proofs.Ytdpaocikmijioac
