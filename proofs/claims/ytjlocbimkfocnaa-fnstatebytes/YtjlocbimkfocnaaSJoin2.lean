/-
  The specification's l3Join: it answers the joined lists, in memory of its own. No statement is proved here.
  StateJoin of the specification. No statement is proved here.
-/
import Derived.Test.YtjlocbimkfocnaaApp2
import Derived.Test.YtjlocbimkfocnaaSStOk
import Derived.Test.YtjlocbimkfocnaaStT
import Derived.Test.YtjlocbimkfocnaaStM
import Derived.Deep.CutRange
namespace Go.Proofs.Ytjlocbimkfocnaa
open Go.RowKit

abbrev StB (v1 v2 : Value) : Obj := .cells #[v1, v2] 27 (0, 0)
/-- What lies in memory while the joined state is made: the two arguments, the result, and what is made, in blocks H to H + 3. -/
structure J3 (w X : World) (A B : Obj) (a1 : Option Addr) (n1 c1 : Nat) (a2 : Option Addr) (n2 c2 : Nat) (its : List Itm) (fls : List Flr) : Prop where
  bel : Below w.heap.size w X
  ka : X.heap[w.heap.size]? = some A
  kb : X.heap[w.heap.size + 1]? = some B
  kr : X.heap[w.heap.size + 1 + 1]? = some (StB (.slice none 0 0) (.slice none 0 0))
  ko : X.heap[w.heap.size + 1 + 1 + 1]? = some (StB (.slice a1 n1 c1) (.slice a2 n2 c2))
  oi : OwI (w.heap.size + 4) X (.slice a1 n1 c1) its
  of : OwF (w.heap.size + 4) X (.slice a2 n2 c2) fls
theorem J3.sz {w X : World} {A B : Obj} {a1 : Option Addr} {n1 c1 : Nat} {a2 : Option Addr} {n2 c2 : Nat} {its : List Itm} {fls : List Flr} (h : J3 w X A B a1 n1 c1 a2 n2 c2 its fls) : w.heap.size + 4 ≤ X.heap.size := by
  have := (Array.getElem?_eq_some_iff.mp h.ko).1
  omega
theorem J3.later {w X Y : World} {A B : Obj} {a1 : Option Addr} {n1 c1 : Nat} {a2 : Option Addr} {n2 c2 : Nat} {its : List Itm} {fls : List Flr} (h : J3 w X A B a1 n1 c1 a2 n2 c2 its fls) (b : Below X.heap.size X Y) : J3 w Y A B a1 n1 c1 a2 n2 c2 its fls := by
  have hs := h.sz
  exact ⟨h.bel.trans (b.mono (by omega)), (b.block _ (by omega)).trans h.ka, (b.block _ (by omega)).trans h.kb, (b.block _ (by omega)).trans h.kr, (b.block _ (by omega)).trans h.ko, h.oi.later b, h.of.later b⟩
theorem J3.appI {w X Y : World} {A B : Obj} {a1 : Option Addr} {n1 c1 : Nat} {a2 : Option Addr} {n2 c2 : Nat} {its its' : List Itm} {fls : List Flr} (h : J3 w X A B a1 n1 c1 a2 n2 c2 its fls) {a' : Option Addr} {n' c' : Nat}
    (ho : OwI (w.heap.size + 4) Y (.slice a' n' c') its') (hg : X.grownBy Y (Value.slice a1 n1 c1).ownBlock) : J3 w (Y.setCell ⟨w.heap.size + 1 + 1 + 1, 0, none⟩ (.slice a' n' c')) A B a' n' c' a2 n2 c2 its' fls := by
  have hs := h.sz
  have hlt := World.ownsRow.lt h.oi
  have t := Trn.of_grown hg
  have hne : ∀ g, g < w.heap.size + 4 → ¬ (Value.slice a1 n1 c1).ownBlock = some g := fun g hg q => by have := hlt g q; omega
  have hap := owns_apart h.of h.oi (by decide)
  have bl : ∀ g, g < w.heap.size + 1 + 1 + 1 → (Y.setCell ⟨w.heap.size + 1 + 1 + 1, 0, none⟩ (.slice a' n' c')).heap[g]? = X.heap[g]? := fun g hg' => by
    rw [heap_setCell_other _ _ _ _ (by show g ≠ w.heap.size + 1 + 1 + 1; omega)]
    exact t.block g (by omega) (hne g (by omega))
  refine ⟨(t.below h.bel h.bel.size (fun i q => by have := hlt i q; omega)).setCell (p := ⟨w.heap.size + 1 + 1 + 1, 0, none⟩) (by simp <;> omega) _, (bl _ (by omega)).trans h.ka, (bl _ (by omega)).trans h.kb, (bl _ (by omega)).trans h.kr, ?_, ho.set _ (by simp <;> omega) _, ?_⟩
  · exact heap_setCell_same _ _ _ _ _ _ ((t.block _ (by omega) (hne _ (by omega))).trans h.ko)
  · exact (t.own h.of (fun i hi q => by rcases hap with e | e; rw [e] at hi; cases hi; exact e (hi.trans q.symm))).set _ (by simp <;> omega) _
theorem J3.appF {w X Y : World} {A B : Obj} {a1 : Option Addr} {n1 c1 : Nat} {a2 : Option Addr} {n2 c2 : Nat} {its : List Itm} {fls fls' : List Flr} (h : J3 w X A B a1 n1 c1 a2 n2 c2 its fls) {a' : Option Addr} {n' c' : Nat}
    (ho : OwF (w.heap.size + 4) Y (.slice a' n' c') fls') (hg : X.grownBy Y (Value.slice a2 n2 c2).ownBlock) : J3 w (Y.setCell ⟨w.heap.size + 1 + 1 + 1, 1, none⟩ (.slice a' n' c')) A B a1 n1 c1 a' n' c' its fls' := by
  have hs := h.sz
  have hlt := World.ownsRow.lt h.of
  have t := Trn.of_grown hg
  have hne : ∀ g, g < w.heap.size + 4 → ¬ (Value.slice a2 n2 c2).ownBlock = some g := fun g hg q => by have := hlt g q; omega
  have hap := owns_apart h.oi h.of (by decide)
  have bl : ∀ g, g < w.heap.size + 1 + 1 + 1 → (Y.setCell ⟨w.heap.size + 1 + 1 + 1, 1, none⟩ (.slice a' n' c')).heap[g]? = X.heap[g]? := fun g hg' => by
    rw [heap_setCell_other _ _ _ _ (by show g ≠ w.heap.size + 1 + 1 + 1; omega)]
    exact t.block g (by omega) (hne g (by omega))
  refine ⟨(t.below h.bel h.bel.size (fun i q => by have := hlt i q; omega)).setCell (p := ⟨w.heap.size + 1 + 1 + 1, 1, none⟩) (by simp <;> omega) _, (bl _ (by omega)).trans h.ka, (bl _ (by omega)).trans h.kb, (bl _ (by omega)).trans h.kr, ?_, ?_, ho.set _ (by simp <;> omega) _⟩
  · exact heap_setCell_same _ _ _ _ _ _ ((t.block _ (by omega) (hne _ (by omega))).trans h.ko)
  · exact (t.own h.oi (fun i hi q => by rcases hap with e | e; rw [e] at hi; cases hi; exact e (hi.trans q.symm))).set _ (by simp <;> omega) _

theorem cmpK_key (a b : Key) : cmpE a.1 a.2.1 a.2.2.1 a.2.2.2.1 a.2.2.2.2 b.1 b.2.1 b.2.2.1 b.2.2.2.1 b.2.2.2.2 = keyC a b := cmpE_key _ _ _ _ _ _ _ _ _ _
theorem scmpK_any (a b : Key) (c : Int) (h : Hid (cmpE a.1 a.2.1 a.2.2.1 a.2.2.2.1 a.2.2.2.2 b.1 b.2.1 b.2.2.1 b.2.2.2.1 b.2.2.2.2 = c)) (w : World) : Calls Try.prog 123 #[.agg #[.int .i64 a.1, .int .i64 a.2.1, .int .i64 a.2.2.1, .int .i64 a.2.2.2.1, .string a.2.2.2.2], .agg #[.int .i64 b.1, .int .i64 b.2.1, .int .i64 b.2.2.1, .int .i64 b.2.2.2.1, .string b.2.2.2.2]] w fun e w' => e = .returned (.int .i64 c) ∧ Below w.heap.size w w' := by
  rw [← unhide h]; exact scmp_any _ _ _ _ _ _ _ _ _ _ w
theorem l1max_v (a b r : Int) (hr : Hid ((if a < b then b else a) = r)) (w : World) : Calls Try.prog 121 #[.int .i64 a, .int .i64 b] w fun e w' => e = .returned (.int .i64 r) ∧ w = w' := by
  have hrr := unhide hr
  clear hr
  rcases Bool.eq_false_or_eq_true (decide (b < a)) with h | h
  · have e : r = a := by have := of_decide_eq_true h; rw [← hrr, if_neg (by omega)]
    clear hrr
    subst e
    go_enter Try.func121, Try.ntmps121
    go_wp2
    go_ret
    exact ⟨rfl, rfl⟩
  · have e : r = b := by
      have := of_decide_eq_false h
      rw [← hrr]
      split <;> omega
    clear hrr
    subst e
    go_enter Try.func121, Try.ntmps121
    go_wp2
    go_ret
    exact ⟨rfl, rfl⟩

set_option maxHeartbeats 8000000 in
set_option maxRecDepth 100000 in
theorem l3join_any (ai : Option Addr) (ni ci : Nat) (xs : List Itm) (af : Option Addr) (nf cf : Nat) (fs : List Flr) (bi : Option Addr) (mi di : Nat) (ys : List Itm) (bf : Option Addr) (mf df : Nat) (gs : List Flr) (w : World)
    (hni : ni ≤ 140737488351232) (hnf : nf ≤ 140737488351232) (hmi : mi ≤ 140737488351232) (hmf : mf ≤ 140737488351232) (hx : Rw encI 6 w (.slice ai ni ci) xs) (hf : Rw encF 2 w (.slice af nf cf) fs) (hy : Rw encI 6 w (.slice bi mi di) ys) (hg : Rw encF 2 w (.slice bf mf df) gs) :
    Calls Try.prog 105 #[.agg #[.slice ai ni ci, .slice af nf cf], .agg #[.slice bi mi di, .slice bf mf df]] w fun e w' => ∃ a1 n1 c1 a2 n2 c2, e = .returned (.agg #[.slice a1 n1 c1, .slice a2 n2 c2]) ∧ OwI w.heap.size w' (.slice a1 n1 c1) (joinI xs fs ys gs) ∧ OwF w.heap.size w' (.slice a2 n2 c2) (joinF fs gs) ∧ Below w.heap.size w w' := by
  obtain ⟨i0, hi, hz0, hz1, hz2⟩ := info_parts Try.infoItem
  obtain ⟨i1, gi, gz0, gz1, gz2⟩ := info_parts Try.infoFloor
  have HX := hide hx
  have HY := hide hy
  have HF := hide hf
  have HG := hide hg
  clear hx hy hf hg
  go_enter Try.func105, Try.ntmps105
  go_wp2
  go_loopw [6] (fun i wr => ∃ (k : Nat) (a1 : Option Addr) (n1 c1 : Nat) (a2 : Option Addr) (n2 c2 : Nat), k ≤ 5 ∧ i = .int .i64 k ∧ J3 w wr (StB (.slice ai ni ci) (.slice af nf cf)) (StB (.slice bi mi di) (.slice bf mf df)) a1 n1 c1 a2 n2 c2 (jI xs fs ys gs k) (jF fs gs k)) (fun i _ => 5 - (intOf i).toNat)
  case atStart => 
    obtain ⟨m1, m2, m3⟩ := new4 w (StB (.slice ai ni ci) (.slice af nf cf)) (StB (.slice bi mi di) (.slice bf mf df)) (StB (.slice none 0 0) (.slice none 0 0)) (StB (.slice none 0 0) (.slice none 0 0))
    exact ⟨0, none, 0, 0, none, 0, 0, by omega, rfl, ⟨(((((Below.refl w.heap.size w).alloc (Nat.le_refl _) _).alloc (by simp) _).alloc (by simp; omega) _).alloc (by simp; omega) _), (Below.heap_alloc _ _ _ (by simp; omega)).trans (lowB3 w _ _ _), m1, m2, m3, World.ownsRow_nil _ _ _ _, World.ownsRow_nil _ _ _ _⟩⟩
  case round =>
    obtain ⟨k, a1, n1, c1, a2, n2, c2, hk, rfl, hJ⟩ := hrel
    have HJ := hide hJ
    have hsz := hJ.sz
    obtain ⟨pa0, pa1, -⟩ := blk_cells2 hJ.ka
    obtain ⟨pb0, pb1, -⟩ := blk_cells2 hJ.kb
    obtain ⟨po0, po1, pof⟩ := blk_cells2 hJ.ko
    clear hJ
    by_cases hlt : k < 5
    · obtain ⟨fa, hfa⟩ : ∃ fa, flo fs k = fa := ⟨_, rfl⟩
      obtain ⟨fb, hfb⟩ : ∃ fb, flo gs k = fb := ⟨_, rfl⟩
      obtain ⟨f, hf⟩ : ∃ f, (if fa < fb then fb else fa) = f := ⟨_, rfl⟩
      have HFA := hide hfa
      have HFB := hide hfb
      have HFL := hide hf
      have HF2 : Hid (fl2 fs gs k = f) := hide (by rw [← hf, fl2, hfa, hfb])
      clear hfa hfb hf
      go_wp2_with fail
      have la0 := later_some (w := wr) (b := w.heap.size) (o := 0) (by omega) pa0
      have la1 := later_some (w := wr) (b := w.heap.size) (o := 1) (by omega) pa1
      have lb0 := later_some (w := wr) (b := w.heap.size + 1) (o := 0) (by omega) pb0
      have lb1 := later_some (w := wr) (b := w.heap.size + 1) (o := 1) (by omega) pb1
      have RF := hide ((unhide HF).later (unhide HJ).bel)
      have RG := hide ((unhide HG).later (unhide HJ).bel)
      refine wp_region_later (by kernel_rfl) (by kernel_rfl) ?_
      repeat (go_big_quiet_step (first
        | (go_at_call_of 31 (Value.slice af nf cf); exact Calls.later_of (sfloor_v _ af nf cf fs _ fa HFA _ hnf ((unhide RF).in_later _ _)))
        | (go_at_call_of 31 (Value.slice bf mf df); exact Calls.later_of (sfloor_v _ bf mf df gs _ fb HFB _ hmf ((unhide RG).in_later _ _)))
        | (go_at_call 121; exact Calls.later_same (l1max_v fa fb f HFL _))))
      refine wpQuiet_nil ?_
      intro w1 hb1
      have HJ1 := hide ((unhide HJ).later hb1)
      clear hb1 la0 la1 lb0 lb1 RF RG pa0 pa1 pb0 pb1 po0 po1 pof hsz HJ HFA HFB HFL
      have hsz := (unhide HJ1).sz
      obtain ⟨po0, po1, pof⟩ := blk_cells2 (unhide HJ1).ko
      have hn2 : Hid (n2 = (jF fs gs k).length) := hide ((unhide HJ1).of.rw encF_len).len.1
      have hn2l : n2 ≤ 5 := by have := unhide hn2; have := jF_len fs gs k; omega
      obtain ⟨rA, okA, hA⟩ : ∃ rA okA, entR xs k = (rA, okA) := ⟨_, _, rfl⟩
      obtain ⟨rB, okB, hB⟩ : ∃ rB okB, entR ys k = (rB, okB) := ⟨_, _, rfl⟩
      have HA := hide hA
      have HB := hide hB
      clear hA hB
--@round
      rcases Bool.eq_false_or_eq_true (decide (0 < f)) with hpos | hpos
      · go_upto_region 8 with (first | (at_builtin; refine wpList_app1 encF_len (by omega) oneF 67 25 i1 _ 16 Try.underlying25 gi gz0 gz1 gz2 rfl (by omega) w1 ((k : Int), f) rfl _ _ rfl (w.heap.size + 4) _ (jF fs gs k) n2 hn2 rfl (unhide HJ1).of rfl (by omega) hsz ?_; intro a2' c2' w2 hO hG; have po0' := (hG.block _ (by omega) (fun q => by have := World.ownsRow.lt (unhide HJ1).of _ q.symm; omega)).trans (unhide HJ1).ko; obtain ⟨pq0, pq1, pqf⟩ := blk_cells2 po0'; have HJ2 := hide ((unhide HJ1).appF hO hG); clear hO hG po0' po0 po1 pof))
        obtain ⟨X, hX⟩ : ∃ X, X = w2.setCell ⟨w.heap.size + 1 + 1 + 1, 1, none⟩ (.slice a2' (n2 + 1) c2') := ⟨_, rfl⟩
        rw [← hX]
        obtain ⟨a3, n3, c3, HJX⟩ : ∃ a3 n3 c3, Hid (J3 w X (StB (.slice ai ni ci) (.slice af nf cf)) (StB (.slice bi mi di) (.slice bf mf df)) a1 n1 c1 a3 n3 c3 (jI xs fs ys gs k) (jF fs gs (k + 1))) := ⟨a2', n2 + 1, c2', by rw [hX, jF_pos (by rw [unhide HF2]; exact hpos), unhide HF2]; exact unhide HJ2⟩
        clear hX HJ2 HJ1 pq0 pq1 pqf hsz hn2 hn2l hpos
        have hsz := (unhide HJX).sz
        obtain ⟨pa0, pa1, -⟩ := blk_cells2 (unhide HJX).ka
        go_wp2_with fail
        refine (sentry_any _ ai ni ci xs _ rA okA HA _ hni ((unhide HX).later (unhide HJX).bel)).mono ?_
        rintro e w3 ⟨rfl, b3⟩
        have J3' := hide ((unhide HJX).later b3)
        have z3 := b3.size
        have B3 := hide b3
        obtain ⟨pb0, pb1, -⟩ := blk_cells2 (unhide J3').kb
        clear pa0 pa1 b3
        have zb : w.heap.size + 1 < w3.heap.size := by omega
        go_wp2_with fail
        refine (sentry_any _ bi mi di ys _ rB okB HB _ hmi (((unhide HY).later (unhide J3').bel).alloc _)).mono ?_
        rintro e w4 ⟨rfl, b4⟩
        have b4' := ((Below.refl w3.heap.size w3).alloc (Nat.le_refl _) _).trans (b4.mono (by simp))
        have kx := (b4.block w3.heap.size (by simp)).trans (newB1 w3 _)
        have zx : w3.heap.size < w4.heap.size := by have := b4.size; simp at this; omega
        have J4 := hide ((unhide J3').later b4')
        have B4 := hide ((unhide B3).trans (b4'.mono z3))
        have KX := hide kx
        obtain ⟨px0, px1, px2, px3, px4, -⟩ := ent_cells kx
        clear pb0 pb1 b4 b4' kx J3' B3
        cases okA
        · cases okB
          · have HE := hide (show jE (ent xs k) (ent ys k) = none by rw [entR_false (unhide HA), entR_false (unhide HB)]; rfl)
            have B5 := hide ((unhide B4).alloc (by omega) (.cells #[.int .i64 rB.1, .int .i64 rB.2.1, .int .i64 rB.2.2.1, .int .i64 rB.2.2.2.1, .string rB.2.2.2.2] 62))
            go_wp2
            go_roundw
            case rel => exact ⟨k + 1, a1, n1, c1, a3, n3, c3, by omega, by go_num, by rw [jI_none (unhide HE)]; exact (unhide HJX).later (unhide B5)⟩
            case measure => simp [intOf]; omega
          · have HE := hide (show jE (ent xs k) (ent ys k) = some rB by rw [entR_false (unhide HA), entR_true (unhide HB)]; rfl)
            go_upto_region 14 with fail
            obtain ⟨Y, hY⟩ : ∃ Y, Y = ((w4.alloc (.cells #[.int .i64 rB.1, .int .i64 rB.2.1, .int .i64 rB.2.2.1, .int .i64 rB.2.2.2.1, .string rB.2.2.2.2] 62)).alloc (.cells #[.int .i64 rB.1, .int .i64 rB.2.1, .int .i64 rB.2.2.1, .int .i64 rB.2.2.2.1, .string rB.2.2.2.2] 62)) := ⟨_, rfl⟩
            rw [← hY]
            have KE : Hid (Y.heap[w4.heap.size + 1]? = some (.cells #[.int .i64 rB.1, .int .i64 rB.2.1, .int .i64 rB.2.2.1, .int .i64 rB.2.2.2.1, .string rB.2.2.2.2] 62 (0, 0))) := hide (by rw [hY]; exact newB2 w4 _ _)
            have BY : Hid (Below X.heap.size X Y) := hide (by rw [hY]; exact ((unhide B4).alloc (by omega) _).alloc (by simp; omega) _)
            clear hY
            obtain ⟨pe0, pe1, pe2, pe3, pe4, -⟩ := ent_cells (unhide KE)
            have JY := hide ((unhide HJX).later (unhide BY))
            have hszY := (unhide JY).sz
            obtain ⟨po0, po1, pof⟩ := blk_cells2 (unhide JY).ko
            have hn1 : Hid (n1 = (jI xs fs ys gs k).length) := hide ((unhide JY).oi.rw encI_len).len.1
            have hn1l : n1 ≤ 5 := by have := unhide hn1; have := jI_len xs fs ys gs k; omega
            have hge : w4.heap.size + 1 < Y.heap.size := (Array.getElem?_eq_some_iff.mp (unhide KE)).1
            rcases Bool.eq_false_or_eq_true (decide (f < rB.1)) with hin | hin
            · go_wp2_with (first | (at_builtin; refine wpList_app1 encI_len (by omega) oneI 64 24 i0 _ 56 Try.underlying24 hi hz0 hz1 hz2 rfl (by omega) Y ((k : Int), rB) rfl _ _ rfl (w.heap.size + 4) _ (jI xs fs ys gs k) n1 hn1 rfl (unhide JY).oi rfl (by omega) hszY ?_; intro a1' c1' w6 hO hG; have po0' := (hG.block _ (by omega) (fun q => by have := World.ownsRow.lt (unhide JY).oi _ q.symm; omega)).trans (unhide JY).ko; obtain ⟨pq0, pq1, pqf⟩ := blk_cells2 po0'; have HJ6 := hide ((unhide JY).appI hO hG); clear hO hG po0' po0 po1 pof))
              go_roundw
              case rel => exact ⟨k + 1, a1', n1 + 1, c1', a3, n3, c3, by omega, by go_num, by rw [jI_pos (unhide HE) (by rw [unhide HF2]; exact hin)]; exact unhide HJ6⟩
              case measure => simp [intOf]; omega
            · go_wp2
              go_roundw
              case rel => exact ⟨k + 1, a1, n1, c1, a3, n3, c3, by omega, by go_num, by rw [jI_neg (unhide HE) (by rw [unhide HF2]; exact hin)]; exact unhide JY⟩
              case measure => simp [intOf]; omega
        · cases okB
          · have HE := hide (show jE (ent xs k) (ent ys k) = some rA by rw [entR_true (unhide HA), entR_false (unhide HB)]; rfl)
            go_upto_region 14 with fail
            obtain ⟨Y, hY⟩ : ∃ Y, Y = ((w4.alloc (.cells #[.int .i64 rB.1, .int .i64 rB.2.1, .int .i64 rB.2.2.1, .int .i64 rB.2.2.2.1, .string rB.2.2.2.2] 62)).alloc (.cells #[.int .i64 rA.1, .int .i64 rA.2.1, .int .i64 rA.2.2.1, .int .i64 rA.2.2.2.1, .string rA.2.2.2.2] 62)) := ⟨_, rfl⟩
            rw [← hY]
            have KE : Hid (Y.heap[w4.heap.size + 1]? = some (.cells #[.int .i64 rA.1, .int .i64 rA.2.1, .int .i64 rA.2.2.1, .int .i64 rA.2.2.2.1, .string rA.2.2.2.2] 62 (0, 0))) := hide (by rw [hY]; exact newB2 w4 _ _)
            have BY : Hid (Below X.heap.size X Y) := hide (by rw [hY]; exact ((unhide B4).alloc (by omega) _).alloc (by simp; omega) _)
            clear hY
            obtain ⟨pe0, pe1, pe2, pe3, pe4, -⟩ := ent_cells (unhide KE)
            have JY := hide ((unhide HJX).later (unhide BY))
            have hszY := (unhide JY).sz
            obtain ⟨po0, po1, pof⟩ := blk_cells2 (unhide JY).ko
            have hn1 : Hid (n1 = (jI xs fs ys gs k).length) := hide ((unhide JY).oi.rw encI_len).len.1
            have hn1l : n1 ≤ 5 := by have := unhide hn1; have := jI_len xs fs ys gs k; omega
            have hge : w4.heap.size + 1 < Y.heap.size := (Array.getElem?_eq_some_iff.mp (unhide KE)).1
            rcases Bool.eq_false_or_eq_true (decide (f < rA.1)) with hin | hin
            · go_wp2_with (first | (at_builtin; refine wpList_app1 encI_len (by omega) oneI 64 24 i0 _ 56 Try.underlying24 hi hz0 hz1 hz2 rfl (by omega) Y ((k : Int), rA) rfl _ _ rfl (w.heap.size + 4) _ (jI xs fs ys gs k) n1 hn1 rfl (unhide JY).oi rfl (by omega) hszY ?_; intro a1' c1' w6 hO hG; have po0' := (hG.block _ (by omega) (fun q => by have := World.ownsRow.lt (unhide JY).oi _ q.symm; omega)).trans (unhide JY).ko; obtain ⟨pq0, pq1, pqf⟩ := blk_cells2 po0'; have HJ6 := hide ((unhide JY).appI hO hG); clear hO hG po0' po0 po1 pof))
              go_roundw
              case rel => exact ⟨k + 1, a1', n1 + 1, c1', a3, n3, c3, by omega, by go_num, by rw [jI_pos (unhide HE) (by rw [unhide HF2]; exact hin)]; exact unhide HJ6⟩
              case measure => simp [intOf]; omega
            · go_wp2
              go_roundw
              case rel => exact ⟨k + 1, a1, n1, c1, a3, n3, c3, by omega, by go_num, by rw [jI_neg (unhide HE) (by rw [unhide HF2]; exact hin)]; exact unhide JY⟩
              case measure => simp [intOf]; omega
          · obtain ⟨cm, hcm⟩ : ∃ cm, cmpE rB.1 rB.2.1 rB.2.2.1 rB.2.2.2.1 rB.2.2.2.2 rA.1 rA.2.1 rA.2.2.1 rA.2.2.2.1 rA.2.2.2.2 = cm := ⟨_, rfl⟩
            have HC := hide hcm
            clear hcm
            go_wp2_with fail
            refine (scmpK_any rB rA cm HC _).mono ?_
            rintro e w5 ⟨rfl, b5⟩
            have b5' := (((Below.refl w4.heap.size w4).alloc (Nat.le_refl _) _).alloc (by simp) _).trans (b5.mono (by simp; omega))
            have B5 := hide ((unhide B4).trans (b5'.mono (by omega)))
            have KY := hide ((b5.block w4.heap.size (by simp; omega)).trans (lowB2 w4 _ _))
            have KE0 := hide ((b5.block (w4.heap.size + 1) (by simp)).trans (newB2 w4 _ _))
            obtain ⟨py0, py1, py2, py3, py4, pyf⟩ := ent_cells (unhide KY)
            obtain ⟨pz0, pz1, pz2, pz3, pz4, pzf⟩ := ent_cells (unhide KE0)
            clear b5 b5'
            rcases Bool.eq_false_or_eq_true (decide (0 < cm)) with hgt | hgt
            · have HE := hide (show jE (ent xs k) (ent ys k) = some rB by rw [entR_true (unhide HA), entR_true (unhide HB)]; exact congrArg some (mx_gt (by rw [← cmpK_key, unhide HC]; exact hgt)))
              go_upto_region 14 with fail
              obtain ⟨Y, hY⟩ : ∃ Y, Y = (((((w5.setCell ⟨w4.heap.size + 1, 0, none⟩ (.int .i64 rB.1)).setCell ⟨w4.heap.size + 1, 1, none⟩ (.int .i64 rB.2.1)).setCell ⟨w4.heap.size + 1, 2, none⟩ (.int .i64 rB.2.2.1)).setCell ⟨w4.heap.size + 1, 3, none⟩ (.int .i64 rB.2.2.2.1)).setCell ⟨w4.heap.size + 1, 4, none⟩ (.string rB.2.2.2.2)) := ⟨_, rfl⟩
              rw [← hY]
              have KE : Hid (Y.heap[w4.heap.size + 1]? = some (.cells #[.int .i64 rB.1, .int .i64 rB.2.1, .int .i64 rB.2.2.1, .int .i64 rB.2.2.2.1, .string rB.2.2.2.2] 62 (0, 0))) := hide (by rw [hY]; exact ent_set (unhide KE0) _ _ _ _ _)
              have BY : Hid (Below X.heap.size X Y) := hide (by rw [hY]; exact below_set5 (by omega) (unhide B5))
              clear hY
              obtain ⟨pe0, pe1, pe2, pe3, pe4, -⟩ := ent_cells (unhide KE)
              have JY := hide ((unhide HJX).later (unhide BY))
              have hszY := (unhide JY).sz
              obtain ⟨po0, po1, pof⟩ := blk_cells2 (unhide JY).ko
              have hn1 : Hid (n1 = (jI xs fs ys gs k).length) := hide ((unhide JY).oi.rw encI_len).len.1
              have hn1l : n1 ≤ 5 := by have := unhide hn1; have := jI_len xs fs ys gs k; omega
              have hge : w4.heap.size + 1 < Y.heap.size := (Array.getElem?_eq_some_iff.mp (unhide KE)).1
              rcases Bool.eq_false_or_eq_true (decide (f < rB.1)) with hin | hin
              · go_wp2_with (first | (at_builtin; refine wpList_app1 encI_len (by omega) oneI 64 24 i0 _ 56 Try.underlying24 hi hz0 hz1 hz2 rfl (by omega) Y ((k : Int), rB) rfl _ _ rfl (w.heap.size + 4) _ (jI xs fs ys gs k) n1 hn1 rfl (unhide JY).oi rfl (by omega) hszY ?_; intro a1' c1' w6 hO hG; have po0' := (hG.block _ (by omega) (fun q => by have := World.ownsRow.lt (unhide JY).oi _ q.symm; omega)).trans (unhide JY).ko; obtain ⟨pq0, pq1, pqf⟩ := blk_cells2 po0'; have HJ6 := hide ((unhide JY).appI hO hG); clear hO hG po0' po0 po1 pof))
                go_roundw
                case rel => exact ⟨k + 1, a1', n1 + 1, c1', a3, n3, c3, by omega, by go_num, by rw [jI_pos (unhide HE) (by rw [unhide HF2]; exact hin)]; exact unhide HJ6⟩
                case measure => simp [intOf]; omega
              · go_wp2
                go_roundw
                case rel => exact ⟨k + 1, a1, n1, c1, a3, n3, c3, by omega, by go_num, by rw [jI_neg (unhide HE) (by rw [unhide HF2]; exact hin)]; exact unhide JY⟩
                case measure => simp [intOf]; omega
            · have HE := hide (show jE (ent xs k) (ent ys k) = some rA by rw [entR_true (unhide HA), entR_true (unhide HB)]; exact congrArg some (mx_le1 (by rw [← cmpK_key, unhide HC]; exact hgt)))
              go_upto_region 14 with fail
              obtain ⟨Y, hY⟩ : ∃ Y, Y = w5 := ⟨_, rfl⟩
              rw [← hY]
              have KE : Hid (Y.heap[w4.heap.size + 1]? = some (.cells #[.int .i64 rA.1, .int .i64 rA.2.1, .int .i64 rA.2.2.1, .int .i64 rA.2.2.2.1, .string rA.2.2.2.2] 62 (0, 0))) := hide (by rw [hY]; exact unhide KE0)
              have BY : Hid (Below X.heap.size X Y) := hide (by rw [hY]; exact unhide B5)
              clear hY
              obtain ⟨pe0, pe1, pe2, pe3, pe4, -⟩ := ent_cells (unhide KE)
              have JY := hide ((unhide HJX).later (unhide BY))
              have hszY := (unhide JY).sz
              obtain ⟨po0, po1, pof⟩ := blk_cells2 (unhide JY).ko
              have hn1 : Hid (n1 = (jI xs fs ys gs k).length) := hide ((unhide JY).oi.rw encI_len).len.1
              have hn1l : n1 ≤ 5 := by have := unhide hn1; have := jI_len xs fs ys gs k; omega
              have hge : w4.heap.size + 1 < Y.heap.size := (Array.getElem?_eq_some_iff.mp (unhide KE)).1
              rcases Bool.eq_false_or_eq_true (decide (f < rA.1)) with hin | hin
              · go_wp2_with (first | (at_builtin; refine wpList_app1 encI_len (by omega) oneI 64 24 i0 _ 56 Try.underlying24 hi hz0 hz1 hz2 rfl (by omega) Y ((k : Int), rA) rfl _ _ rfl (w.heap.size + 4) _ (jI xs fs ys gs k) n1 hn1 rfl (unhide JY).oi rfl (by omega) hszY ?_; intro a1' c1' w6 hO hG; have po0' := (hG.block _ (by omega) (fun q => by have := World.ownsRow.lt (unhide JY).oi _ q.symm; omega)).trans (unhide JY).ko; obtain ⟨pq0, pq1, pqf⟩ := blk_cells2 po0'; have HJ6 := hide ((unhide JY).appI hO hG); clear hO hG po0' po0 po1 pof))
                go_roundw
                case rel => exact ⟨k + 1, a1', n1 + 1, c1', a3, n3, c3, by omega, by go_num, by rw [jI_pos (unhide HE) (by rw [unhide HF2]; exact hin)]; exact unhide HJ6⟩
                case measure => simp [intOf]; omega
              · go_wp2
                go_roundw
                case rel => exact ⟨k + 1, a1, n1, c1, a3, n3, c3, by omega, by go_num, by rw [jI_neg (unhide HE) (by rw [unhide HF2]; exact hin)]; exact unhide JY⟩
                case measure => simp [intOf]; omega
      · go_upto_region 8 with fail
        obtain ⟨X, hX⟩ : ∃ X, X = w1 := ⟨_, rfl⟩
        rw [← hX]
        obtain ⟨a3, n3, c3, HJX⟩ : ∃ a3 n3 c3, Hid (J3 w X (StB (.slice ai ni ci) (.slice af nf cf)) (StB (.slice bi mi di) (.slice bf mf df)) a1 n1 c1 a3 n3 c3 (jI xs fs ys gs k) (jF fs gs (k + 1))) := ⟨a2, n2, c2, by rw [hX, jF_neg (by rw [unhide HF2]; exact hpos)]; exact unhide HJ1⟩
        clear hX HJ1 po0 po1 pof hsz hn2 hn2l hpos
        have hsz := (unhide HJX).sz
        obtain ⟨pa0, pa1, -⟩ := blk_cells2 (unhide HJX).ka
        go_wp2_with fail
        refine (sentry_any _ ai ni ci xs _ rA okA HA _ hni ((unhide HX).later (unhide HJX).bel)).mono ?_
        rintro e w3 ⟨rfl, b3⟩
        have J3' := hide ((unhide HJX).later b3)
        have z3 := b3.size
        have B3 := hide b3
        obtain ⟨pb0, pb1, -⟩ := blk_cells2 (unhide J3').kb
        clear pa0 pa1 b3
        have zb : w.heap.size + 1 < w3.heap.size := by omega
        go_wp2_with fail
        refine (sentry_any _ bi mi di ys _ rB okB HB _ hmi (((unhide HY).later (unhide J3').bel).alloc _)).mono ?_
        rintro e w4 ⟨rfl, b4⟩
        have b4' := ((Below.refl w3.heap.size w3).alloc (Nat.le_refl _) _).trans (b4.mono (by simp))
        have kx := (b4.block w3.heap.size (by simp)).trans (newB1 w3 _)
        have zx : w3.heap.size < w4.heap.size := by have := b4.size; simp at this; omega
        have J4 := hide ((unhide J3').later b4')
        have B4 := hide ((unhide B3).trans (b4'.mono z3))
        have KX := hide kx
        obtain ⟨px0, px1, px2, px3, px4, -⟩ := ent_cells kx
        clear pb0 pb1 b4 b4' kx J3' B3
        cases okA
        · cases okB
          · have HE := hide (show jE (ent xs k) (ent ys k) = none by rw [entR_false (unhide HA), entR_false (unhide HB)]; rfl)
            have B5 := hide ((unhide B4).alloc (by omega) (.cells #[.int .i64 rB.1, .int .i64 rB.2.1, .int .i64 rB.2.2.1, .int .i64 rB.2.2.2.1, .string rB.2.2.2.2] 62))
            go_wp2
            go_roundw
            case rel => exact ⟨k + 1, a1, n1, c1, a3, n3, c3, by omega, by go_num, by rw [jI_none (unhide HE)]; exact (unhide HJX).later (unhide B5)⟩
            case measure => simp [intOf]; omega
          · have HE := hide (show jE (ent xs k) (ent ys k) = some rB by rw [entR_false (unhide HA), entR_true (unhide HB)]; rfl)
            go_upto_region 14 with fail
            obtain ⟨Y, hY⟩ : ∃ Y, Y = ((w4.alloc (.cells #[.int .i64 rB.1, .int .i64 rB.2.1, .int .i64 rB.2.2.1, .int .i64 rB.2.2.2.1, .string rB.2.2.2.2] 62)).alloc (.cells #[.int .i64 rB.1, .int .i64 rB.2.1, .int .i64 rB.2.2.1, .int .i64 rB.2.2.2.1, .string rB.2.2.2.2] 62)) := ⟨_, rfl⟩
            rw [← hY]
            have KE : Hid (Y.heap[w4.heap.size + 1]? = some (.cells #[.int .i64 rB.1, .int .i64 rB.2.1, .int .i64 rB.2.2.1, .int .i64 rB.2.2.2.1, .string rB.2.2.2.2] 62 (0, 0))) := hide (by rw [hY]; exact newB2 w4 _ _)
            have BY : Hid (Below X.heap.size X Y) := hide (by rw [hY]; exact ((unhide B4).alloc (by omega) _).alloc (by simp; omega) _)
            clear hY
            obtain ⟨pe0, pe1, pe2, pe3, pe4, -⟩ := ent_cells (unhide KE)
            have JY := hide ((unhide HJX).later (unhide BY))
            have hszY := (unhide JY).sz
            obtain ⟨po0, po1, pof⟩ := blk_cells2 (unhide JY).ko
            have hn1 : Hid (n1 = (jI xs fs ys gs k).length) := hide ((unhide JY).oi.rw encI_len).len.1
            have hn1l : n1 ≤ 5 := by have := unhide hn1; have := jI_len xs fs ys gs k; omega
            have hge : w4.heap.size + 1 < Y.heap.size := (Array.getElem?_eq_some_iff.mp (unhide KE)).1
            rcases Bool.eq_false_or_eq_true (decide (f < rB.1)) with hin | hin
            · go_wp2_with (first | (at_builtin; refine wpList_app1 encI_len (by omega) oneI 64 24 i0 _ 56 Try.underlying24 hi hz0 hz1 hz2 rfl (by omega) Y ((k : Int), rB) rfl _ _ rfl (w.heap.size + 4) _ (jI xs fs ys gs k) n1 hn1 rfl (unhide JY).oi rfl (by omega) hszY ?_; intro a1' c1' w6 hO hG; have po0' := (hG.block _ (by omega) (fun q => by have := World.ownsRow.lt (unhide JY).oi _ q.symm; omega)).trans (unhide JY).ko; obtain ⟨pq0, pq1, pqf⟩ := blk_cells2 po0'; have HJ6 := hide ((unhide JY).appI hO hG); clear hO hG po0' po0 po1 pof))
              go_roundw
              case rel => exact ⟨k + 1, a1', n1 + 1, c1', a3, n3, c3, by omega, by go_num, by rw [jI_pos (unhide HE) (by rw [unhide HF2]; exact hin)]; exact unhide HJ6⟩
              case measure => simp [intOf]; omega
            · go_wp2
              go_roundw
              case rel => exact ⟨k + 1, a1, n1, c1, a3, n3, c3, by omega, by go_num, by rw [jI_neg (unhide HE) (by rw [unhide HF2]; exact hin)]; exact unhide JY⟩
              case measure => simp [intOf]; omega
        · cases okB
          · have HE := hide (show jE (ent xs k) (ent ys k) = some rA by rw [entR_true (unhide HA), entR_false (unhide HB)]; rfl)
            go_upto_region 14 with fail
            obtain ⟨Y, hY⟩ : ∃ Y, Y = ((w4.alloc (.cells #[.int .i64 rB.1, .int .i64 rB.2.1, .int .i64 rB.2.2.1, .int .i64 rB.2.2.2.1, .string rB.2.2.2.2] 62)).alloc (.cells #[.int .i64 rA.1, .int .i64 rA.2.1, .int .i64 rA.2.2.1, .int .i64 rA.2.2.2.1, .string rA.2.2.2.2] 62)) := ⟨_, rfl⟩
            rw [← hY]
            have KE : Hid (Y.heap[w4.heap.size + 1]? = some (.cells #[.int .i64 rA.1, .int .i64 rA.2.1, .int .i64 rA.2.2.1, .int .i64 rA.2.2.2.1, .string rA.2.2.2.2] 62 (0, 0))) := hide (by rw [hY]; exact newB2 w4 _ _)
            have BY : Hid (Below X.heap.size X Y) := hide (by rw [hY]; exact ((unhide B4).alloc (by omega) _).alloc (by simp; omega) _)
            clear hY
            obtain ⟨pe0, pe1, pe2, pe3, pe4, -⟩ := ent_cells (unhide KE)
            have JY := hide ((unhide HJX).later (unhide BY))
            have hszY := (unhide JY).sz
            obtain ⟨po0, po1, pof⟩ := blk_cells2 (unhide JY).ko
            have hn1 : Hid (n1 = (jI xs fs ys gs k).length) := hide ((unhide JY).oi.rw encI_len).len.1
            have hn1l : n1 ≤ 5 := by have := unhide hn1; have := jI_len xs fs ys gs k; omega
            have hge : w4.heap.size + 1 < Y.heap.size := (Array.getElem?_eq_some_iff.mp (unhide KE)).1
            rcases Bool.eq_false_or_eq_true (decide (f < rA.1)) with hin | hin
            · go_wp2_with (first | (at_builtin; refine wpList_app1 encI_len (by omega) oneI 64 24 i0 _ 56 Try.underlying24 hi hz0 hz1 hz2 rfl (by omega) Y ((k : Int), rA) rfl _ _ rfl (w.heap.size + 4) _ (jI xs fs ys gs k) n1 hn1 rfl (unhide JY).oi rfl (by omega) hszY ?_; intro a1' c1' w6 hO hG; have po0' := (hG.block _ (by omega) (fun q => by have := World.ownsRow.lt (unhide JY).oi _ q.symm; omega)).trans (unhide JY).ko; obtain ⟨pq0, pq1, pqf⟩ := blk_cells2 po0'; have HJ6 := hide ((unhide JY).appI hO hG); clear hO hG po0' po0 po1 pof))
              go_roundw
              case rel => exact ⟨k + 1, a1', n1 + 1, c1', a3, n3, c3, by omega, by go_num, by rw [jI_pos (unhide HE) (by rw [unhide HF2]; exact hin)]; exact unhide HJ6⟩
              case measure => simp [intOf]; omega
            · go_wp2
              go_roundw
              case rel => exact ⟨k + 1, a1, n1, c1, a3, n3, c3, by omega, by go_num, by rw [jI_neg (unhide HE) (by rw [unhide HF2]; exact hin)]; exact unhide JY⟩
              case measure => simp [intOf]; omega
          · obtain ⟨cm, hcm⟩ : ∃ cm, cmpE rB.1 rB.2.1 rB.2.2.1 rB.2.2.2.1 rB.2.2.2.2 rA.1 rA.2.1 rA.2.2.1 rA.2.2.2.1 rA.2.2.2.2 = cm := ⟨_, rfl⟩
            have HC := hide hcm
            clear hcm
            go_wp2_with fail
            refine (scmpK_any rB rA cm HC _).mono ?_
            rintro e w5 ⟨rfl, b5⟩
            have b5' := (((Below.refl w4.heap.size w4).alloc (Nat.le_refl _) _).alloc (by simp) _).trans (b5.mono (by simp; omega))
            have B5 := hide ((unhide B4).trans (b5'.mono (by omega)))
            have KY := hide ((b5.block w4.heap.size (by simp; omega)).trans (lowB2 w4 _ _))
            have KE0 := hide ((b5.block (w4.heap.size + 1) (by simp)).trans (newB2 w4 _ _))
            obtain ⟨py0, py1, py2, py3, py4, pyf⟩ := ent_cells (unhide KY)
            obtain ⟨pz0, pz1, pz2, pz3, pz4, pzf⟩ := ent_cells (unhide KE0)
            clear b5 b5'
            rcases Bool.eq_false_or_eq_true (decide (0 < cm)) with hgt | hgt
            · have HE := hide (show jE (ent xs k) (ent ys k) = some rB by rw [entR_true (unhide HA), entR_true (unhide HB)]; exact congrArg some (mx_gt (by rw [← cmpK_key, unhide HC]; exact hgt)))
              go_upto_region 14 with fail
              obtain ⟨Y, hY⟩ : ∃ Y, Y = (((((w5.setCell ⟨w4.heap.size + 1, 0, none⟩ (.int .i64 rB.1)).setCell ⟨w4.heap.size + 1, 1, none⟩ (.int .i64 rB.2.1)).setCell ⟨w4.heap.size + 1, 2, none⟩ (.int .i64 rB.2.2.1)).setCell ⟨w4.heap.size + 1, 3, none⟩ (.int .i64 rB.2.2.2.1)).setCell ⟨w4.heap.size + 1, 4, none⟩ (.string rB.2.2.2.2)) := ⟨_, rfl⟩
              rw [← hY]
              have KE : Hid (Y.heap[w4.heap.size + 1]? = some (.cells #[.int .i64 rB.1, .int .i64 rB.2.1, .int .i64 rB.2.2.1, .int .i64 rB.2.2.2.1, .string rB.2.2.2.2] 62 (0, 0))) := hide (by rw [hY]; exact ent_set (unhide KE0) _ _ _ _ _)
              have BY : Hid (Below X.heap.size X Y) := hide (by rw [hY]; exact below_set5 (by omega) (unhide B5))
              clear hY
              obtain ⟨pe0, pe1, pe2, pe3, pe4, -⟩ := ent_cells (unhide KE)
              have JY := hide ((unhide HJX).later (unhide BY))
              have hszY := (unhide JY).sz
              obtain ⟨po0, po1, pof⟩ := blk_cells2 (unhide JY).ko
              have hn1 : Hid (n1 = (jI xs fs ys gs k).length) := hide ((unhide JY).oi.rw encI_len).len.1
              have hn1l : n1 ≤ 5 := by have := unhide hn1; have := jI_len xs fs ys gs k; omega
              have hge : w4.heap.size + 1 < Y.heap.size := (Array.getElem?_eq_some_iff.mp (unhide KE)).1
              rcases Bool.eq_false_or_eq_true (decide (f < rB.1)) with hin | hin
              · go_wp2_with (first | (at_builtin; refine wpList_app1 encI_len (by omega) oneI 64 24 i0 _ 56 Try.underlying24 hi hz0 hz1 hz2 rfl (by omega) Y ((k : Int), rB) rfl _ _ rfl (w.heap.size + 4) _ (jI xs fs ys gs k) n1 hn1 rfl (unhide JY).oi rfl (by omega) hszY ?_; intro a1' c1' w6 hO hG; have po0' := (hG.block _ (by omega) (fun q => by have := World.ownsRow.lt (unhide JY).oi _ q.symm; omega)).trans (unhide JY).ko; obtain ⟨pq0, pq1, pqf⟩ := blk_cells2 po0'; have HJ6 := hide ((unhide JY).appI hO hG); clear hO hG po0' po0 po1 pof))
                go_roundw
                case rel => exact ⟨k + 1, a1', n1 + 1, c1', a3, n3, c3, by omega, by go_num, by rw [jI_pos (unhide HE) (by rw [unhide HF2]; exact hin)]; exact unhide HJ6⟩
                case measure => simp [intOf]; omega
              · go_wp2
                go_roundw
                case rel => exact ⟨k + 1, a1, n1, c1, a3, n3, c3, by omega, by go_num, by rw [jI_neg (unhide HE) (by rw [unhide HF2]; exact hin)]; exact unhide JY⟩
                case measure => simp [intOf]; omega
            · have HE := hide (show jE (ent xs k) (ent ys k) = some rA by rw [entR_true (unhide HA), entR_true (unhide HB)]; exact congrArg some (mx_le1 (by rw [← cmpK_key, unhide HC]; exact hgt)))
              go_upto_region 14 with fail
              obtain ⟨Y, hY⟩ : ∃ Y, Y = w5 := ⟨_, rfl⟩
              rw [← hY]
              have KE : Hid (Y.heap[w4.heap.size + 1]? = some (.cells #[.int .i64 rA.1, .int .i64 rA.2.1, .int .i64 rA.2.2.1, .int .i64 rA.2.2.2.1, .string rA.2.2.2.2] 62 (0, 0))) := hide (by rw [hY]; exact unhide KE0)
              have BY : Hid (Below X.heap.size X Y) := hide (by rw [hY]; exact unhide B5)
              clear hY
              obtain ⟨pe0, pe1, pe2, pe3, pe4, -⟩ := ent_cells (unhide KE)
              have JY := hide ((unhide HJX).later (unhide BY))
              have hszY := (unhide JY).sz
              obtain ⟨po0, po1, pof⟩ := blk_cells2 (unhide JY).ko
              have hn1 : Hid (n1 = (jI xs fs ys gs k).length) := hide ((unhide JY).oi.rw encI_len).len.1
              have hn1l : n1 ≤ 5 := by have := unhide hn1; have := jI_len xs fs ys gs k; omega
              have hge : w4.heap.size + 1 < Y.heap.size := (Array.getElem?_eq_some_iff.mp (unhide KE)).1
              rcases Bool.eq_false_or_eq_true (decide (f < rA.1)) with hin | hin
              · go_wp2_with (first | (at_builtin; refine wpList_app1 encI_len (by omega) oneI 64 24 i0 _ 56 Try.underlying24 hi hz0 hz1 hz2 rfl (by omega) Y ((k : Int), rA) rfl _ _ rfl (w.heap.size + 4) _ (jI xs fs ys gs k) n1 hn1 rfl (unhide JY).oi rfl (by omega) hszY ?_; intro a1' c1' w6 hO hG; have po0' := (hG.block _ (by omega) (fun q => by have := World.ownsRow.lt (unhide JY).oi _ q.symm; omega)).trans (unhide JY).ko; obtain ⟨pq0, pq1, pqf⟩ := blk_cells2 po0'; have HJ6 := hide ((unhide JY).appI hO hG); clear hO hG po0' po0 po1 pof))
                go_roundw
                case rel => exact ⟨k + 1, a1', n1 + 1, c1', a3, n3, c3, by omega, by go_num, by rw [jI_pos (unhide HE) (by rw [unhide HF2]; exact hin)]; exact unhide HJ6⟩
                case measure => simp [intOf]; omega
              · go_wp2
                go_roundw
                case rel => exact ⟨k + 1, a1, n1, c1, a3, n3, c3, by omega, by go_num, by rw [jI_neg (unhide HE) (by rw [unhide HF2]; exact hin)]; exact unhide JY⟩
                case measure => simp [intOf]; omega
    · have ek : k = 5 := by omega
      have HJ5 : Hid (J3 w wr (StB (.slice ai ni ci) (.slice af nf cf)) (StB (.slice bi mi di) (.slice bf mf df)) a1 n1 c1 a2 n2 c2 (joinI xs fs ys gs) (joinF fs gs)) := by
        have h := unhide HJ
        rw [ek] at h
        exact hide h
      obtain ⟨pr0, pr1, prf⟩ := blk_cells2 (unhide HJ5).kr
      clear HJ ek
      go_wp2
      exact bodyPost_ret (v := .agg #[.slice a1 n1 c1, .slice a2 n2 c2]) (by simp [results, Try.results105, go_sem, pr0, pr1]) rfl ⟨a1, n1, c1, a2, n2, c2, rfl, Ow.base (((unhide HJ5).oi.set ⟨w.heap.size + 1 + 1, 0, none⟩ (by simp <;> omega) _).set ⟨w.heap.size + 1 + 1, 1, none⟩ (by simp <;> omega) _) (by omega), Ow.base (((unhide HJ5).of.set ⟨w.heap.size + 1 + 1, 0, none⟩ (by simp <;> omega) _).set ⟨w.heap.size + 1 + 1, 1, none⟩ (by simp <;> omega) _) (by omega), ((unhide HJ5).bel.setCell (p := ⟨w.heap.size + 1 + 1, 0, none⟩) (by simp <;> omega) _).setCell (p := ⟨w.heap.size + 1 + 1, 1, none⟩) (by simp <;> omega) _⟩
end Go.Proofs.Ytjlocbimkfocnaa

namespace Go.Proofs.Ytjlocbimkfocnaa
open Go.RowKit

def jnI (ok : Bool) (xs : List Itm) (fs : List Flr) (ys : List Itm) (gs : List Flr) : List Itm := match ok with
  | true => joinI xs fs ys gs
  | false => []
def jnF (ok : Bool) (fs gs : List Flr) : List Flr := match ok with
  | true => joinF fs gs
  | false => []
theorem jnI_len (ok : Bool) (xs : List Itm) (fs : List Flr) (ys : List Itm) (gs : List Flr) : (jnI ok xs fs ys gs).length ≤ 5 := by
  cases ok
  · simp [jnI]
  · exact jI_len xs fs ys gs 5
theorem jnF_len (ok : Bool) (fs gs : List Flr) : (jnF ok fs gs).length ≤ 5 := by
  cases ok
  · simp [jnF]
  · exact jF_len fs gs 5

end Go.Proofs.Ytjlocbimkfocnaa
