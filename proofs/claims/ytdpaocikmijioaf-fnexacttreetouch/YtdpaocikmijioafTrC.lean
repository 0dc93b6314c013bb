/-
  A state that is sliced to some leaves: the specification's. No statement is proved here.
-/
import Derived.Test.YtdpaocikmijioafTrL
import Derived.Test.YtdpaocikmijioafApp2
import Derived.Test.YtdpaocikmijioafStT
import Derived.Test.YtdpaocikmijioafStM
namespace Go.Proofs.Ytdpaocikmijioaf
open Go.RowKit

abbrev StC (v1 v2 : Value) : Obj := .cells #[v1, v2] 37 (0, 0)
/-- What lies in memory while a slice is made: the argument, the result, and what is made, in blocks H to H + 2. -/
structure J2 (w X : World) (A : Obj) (a1 : Option Addr) (n1 c1 : Nat) (a2 : Option Addr) (n2 c2 : Nat) (its : List Itm) (fls : List Flr) : Prop where
  bel : Below w.heap.size w X
  ka : X.heap[w.heap.size]? = some A
  kr : X.heap[w.heap.size + 1]? = some (StC (.slice none 0 0) (.slice none 0 0))
  ko : X.heap[w.heap.size + 1 + 1]? = some (StC (.slice a1 n1 c1) (.slice a2 n2 c2))
  oi : OwI (w.heap.size + 3) X (.slice a1 n1 c1) its
  of : OwF (w.heap.size + 3) X (.slice a2 n2 c2) fls
section
variable {w X Y : World} {A : Obj} {a1 : Option Addr} {n1 c1 : Nat} {a2 : Option Addr} {n2 c2 : Nat} {its its' : List Itm} {fls fls' : List Flr}
theorem J2.sz (h : J2 w X A a1 n1 c1 a2 n2 c2 its fls) : w.heap.size + 3 ≤ X.heap.size := by
  have := (Array.getElem?_eq_some_iff.mp h.ko).1
  omega
theorem J2.later (h : J2 w X A a1 n1 c1 a2 n2 c2 its fls) (b : Below X.heap.size X Y) : J2 w Y A a1 n1 c1 a2 n2 c2 its fls := by
  have hs := h.sz
  exact ⟨h.bel.trans (b.mono (by omega)), (b.block _ (by omega)).trans h.ka, (b.block _ (by omega)).trans h.kr, (b.block _ (by omega)).trans h.ko, h.oi.later b, h.of.later b⟩
theorem J2.appI (h : J2 w X A a1 n1 c1 a2 n2 c2 its fls) {a' : Option Addr} {n' c' : Nat}
    (ho : OwI (w.heap.size + 3) Y (.slice a' n' c') its') (hg : X.grownBy Y (Value.slice a1 n1 c1).ownBlock) : J2 w (Y.setCell ⟨w.heap.size + 1 + 1, 0, none⟩ (.slice a' n' c')) A a' n' c' a2 n2 c2 its' fls := by
  have hs := h.sz
  have hlt := World.ownsRow.lt h.oi
  have t := Trn.of_grown hg
  have hne : ∀ g, g < w.heap.size + 3 → ¬ (Value.slice a1 n1 c1).ownBlock = some g := fun g hg q => by have := hlt g q; omega
  have hap := owns_apart h.of h.oi (by decide)
  have bl : ∀ g, g < w.heap.size + 1 + 1 → (Y.setCell ⟨w.heap.size + 1 + 1, 0, none⟩ (.slice a' n' c')).heap[g]? = X.heap[g]? := fun g hg' => by
    rw [heap_setCell_other _ _ _ _ (by show g ≠ w.heap.size + 1 + 1; omega)]
    exact t.block g (by omega) (hne g (by omega))
  refine ⟨(t.below h.bel h.bel.size (fun i q => by have := hlt i q; omega)).setCell (p := ⟨w.heap.size + 1 + 1, 0, none⟩) (by simp <;> omega) _, (bl _ (by omega)).trans h.ka, (bl _ (by omega)).trans h.kr, ?_, ho.set _ (by simp <;> omega) _, ?_⟩
  · exact heap_setCell_same _ _ _ _ _ _ ((t.block _ (by omega) (hne _ (by omega))).trans h.ko)
  · exact (t.own h.of (fun i hi q => by rcases hap with e | e; rw [e] at hi; cases hi; exact e (hi.trans q.symm))).set _ (by simp <;> omega) _
theorem J2.appF (h : J2 w X A a1 n1 c1 a2 n2 c2 its fls) {a' : Option Addr} {n' c' : Nat}
    (ho : OwF (w.heap.size + 3) Y (.slice a' n' c') fls') (hg : X.grownBy Y (Value.slice a2 n2 c2).ownBlock) : J2 w (Y.setCell ⟨w.heap.size + 1 + 1, 1, none⟩ (.slice a' n' c')) A a1 n1 c1 a' n' c' its fls' := by
  have hs := h.sz
  have hlt := World.ownsRow.lt h.of
  have t := Trn.of_grown hg
  have hne : ∀ g, g < w.heap.size + 3 → ¬ (Value.slice a2 n2 c2).ownBlock = some g := fun g hg q => by have := hlt g q; omega
  have hap := owns_apart h.oi h.of (by decide)
  have bl : ∀ g, g < w.heap.size + 1 + 1 → (Y.setCell ⟨w.heap.size + 1 + 1, 1, none⟩ (.slice a' n' c')).heap[g]? = X.heap[g]? := fun g hg' => by
    rw [heap_setCell_other _ _ _ _ (by show g ≠ w.heap.size + 1 + 1; omega)]
    exact t.block g (by omega) (hne g (by omega))
  refine ⟨(t.below h.bel h.bel.size (fun i q => by have := hlt i q; omega)).setCell (p := ⟨w.heap.size + 1 + 1, 1, none⟩) (by simp <;> omega) _, (bl _ (by omega)).trans h.ka, (bl _ (by omega)).trans h.kr, ?_, ?_, ho.set _ (by simp <;> omega) _⟩
  · exact heap_setCell_same _ _ _ _ _ _ ((t.block _ (by omega) (hne _ (by omega))).trans h.ko)
  · exact (t.own h.oi (fun i hi q => by rcases hap with e | e; rw [e] at hi; cases hi; exact e (hi.trans q.symm))).set _ (by simp <;> omega) _
end
theorem J2.drew {w X : World} {A : Obj} {a1 : Option Addr} {n1 c1 : Nat} {a2 : Option Addr} {n2 c2 : Nat} {its : List Itm} {fls : List Flr} (h : J2 w X A a1 n1 c1 a2 n2 c2 its fls) : J2 w X.drew A a1 n1 c1 a2 n2 c2 its fls := h.later ((Below.refl _ _).drew)
theorem J2.new (w : World) (v1 v2 : Value) : J2 w (((w.alloc (StC v1 v2)).alloc (StC (.slice none 0 0) (.slice none 0 0))).alloc (StC (.slice none 0 0) (.slice none 0 0))) (StC v1 v2) none 0 0 none 0 0 [] [] :=
  ⟨((((Below.refl w.heap.size w).alloc (Nat.le_refl _) _).alloc (by simp) _).alloc (by simp; omega) _), lowB3 w _ _ _, midB3 w _ _ _, newB3 w _ _ _, World.ownsRow_nil _ _ _ _, World.ownsRow_nil _ _ _ _⟩

set_option maxHeartbeats 8000000 in
set_option maxRecDepth 100000 in
theorem l6slice_any (ai : Option Addr) (ni ci : Nat) (xs : List Itm) (af : Option Addr) (nf cf : Nat) (fs : List Flr) (la : Option Addr) (ln lc : Nat) (ls : List Int) (n1 n2 : Nat) (hn1 : Hid ((slI ls xs).length = n1)) (hn2 : Hid ((slF ls fs).length = n2)) (w : World)
    (m5 : ni ≤ 5) (f5 : nf ≤ 5) (hln : ln ≤ 140737488351232) (hx : Rw encI 6 w (.slice ai ni ci) xs) (hf : Rw encF 2 w (.slice af nf cf) fs) (hl : RwN w (.slice la ln lc) ls) :
    Calls Try.prog 78 #[.agg #[.slice ai ni ci, .slice af nf cf], .slice la ln lc] w fun e w' => ∃ a1 c1 a2 c2, e = .returned (.agg #[.slice a1 n1 c1, .slice a2 n2 c2]) ∧ OwI w.heap.size w' (.slice a1 n1 c1) (slI ls xs) ∧ OwF w.heap.size w' (.slice a2 n2 c2) (slF ls fs) ∧ Below w.heap.size w w' := by
  obtain ⟨i0, hi, hz0, hz1, hz2⟩ := info_parts Try.infoItem
  obtain ⟨i1, gi, gz0, gz1, gz2⟩ := info_parts Try.infoFloor
  have HX := hide hx
  have HF := hide hf
  have HL := hide hl
  clear hx hf hl
  go_enter Try.func78, Try.ntmps78
  go_wp2
  go_loopw [6] (fun i wr => ∃ (k : Nat) (a1 : Option Addr) (m1 c1 : Nat), k ≤ ni ∧ i = .int .i64 k ∧ J2 w wr (StC (.slice ai ni ci) (.slice af nf cf)) a1 m1 c1 none 0 0 (slI ls (xs.take k)) []) (fun i _ => ni - (intOf i).toNat)
  case atStart => exact ⟨0, none, 0, 0, by omega, rfl, J2.new w _ _⟩
  case round =>
    obtain ⟨k, a1, m1, c1, hk, rfl, hJ⟩ := hrel
    have HJ := hide hJ
    have hsz := hJ.sz
    obtain ⟨pa0, pa1, -⟩ := blk_cells2 hJ.ka
    clear hJ
    by_cases hlt : k < ni
    · obtain ⟨x, b, off, hx, rfl, hb, hcap, hc⟩ := ((unhide HX).later (unhide HJ).bel).at hlt
      obtain ⟨c0, c1', c2', c3, c4, c5⟩ := item_cells hc
      obtain ⟨q, hq⟩ : ∃ q, Hid (lf x.1 = q) := ⟨_, hide rfl⟩
      obtain ⟨r, hr⟩ : ∃ r, Hid (hasN ls q = r) := ⟨_, hide rfl⟩
      have HX1 := hide hx
      clear hx
      go_wp2_with fail
      refine (sleaf_any x.1 q hq _).mono ?_
      rintro e w3 ⟨rfl, b3⟩
      have J4 := hide ((unhide HJ).later b3)
      have hsz4 := (unhide J4).sz
      have hb4 : b < w3.heap.size := Nat.lt_of_lt_of_le hb b3.size
      obtain ⟨pb0, pb1, -⟩ := blk_cells2 (unhide J4).ka
      have HC4 := hide (fun j hj => (b3.cell (p := ⟨b, off + k * 6 + j, none⟩) hb).trans (hc j hj))
      clear b3 HJ c0 c1' c2' c3 c4 c5 pa0 pa1 hc
      go_wp2_with fail
      refine (l1has_any la ln lc ls q r hr _ hln ((unhide HL).later (unhide J4).bel)).mono ?_
      rintro e _ ⟨rfl, rfl⟩
      cases r
      · have HP := hide (slI_neg (ls := ls) (unhide HX1) (by rw [unhide hq]; exact unhide hr))
        go_wp2
        go_roundw
        case rel => exact ⟨k + 1, a1, m1, c1, by omega, by go_num, by rw [unhide HP]; exact unhide J4⟩
        case measure => simp [intOf]; omega
      · have HP := hide (slI_pos (ls := ls) (unhide HX1) (by rw [unhide hq]; exact unhide hr))
        have hm1 : Hid (m1 = (slI ls (xs.take k)).length) := hide ((unhide J4).oi.rw encI_len).len.1
        have hm1l : m1 ≤ k := by have := unhide hm1; have := slI_k (ls := ls) (xs := xs) (k := k); omega
        obtain ⟨po0, po1, pof⟩ := blk_cells2 (unhide J4).ko
        obtain ⟨c0, c1', c2', c3, c4, c5⟩ := item_cells (unhide HC4)
        have JD := hide (unhide J4).drew
        have zo : w.heap.size + 1 + 1 < w3.heap.size := by omega
        go_upto_region 6 with fail
        go_region_law (first | (refine step_app1 encI_len (by omega) oneI 101 34 i0 _ 56 Try.underlying34 hi hz0 hz1 hz2 rfl (by omega) w3.drew x rfl _ _ rfl (w.heap.size + 3) _ (slI ls (xs.take k)) m1 hm1 rfl (unhide JD).oi rfl (by omega) (unhide JD).sz ?_; intro a8 c8 w6 hO hG; have po0' := (hG.block _ zo (fun q => by have := World.ownsRow.lt (unhide JD).oi _ q.symm; omega)).trans (unhide JD).ko; obtain ⟨pq0, pq1, pqf⟩ := blk_cells2 po0'; have HJ6 := hide ((unhide JD).appI hO hG); clear hO hG po0'))
        all_goals clear po0 po1 pof c0 c1' c2' c3 c4 c5 pb0 pb1
        all_goals
          go_wp2
          go_roundw
          case rel => exact ⟨k + 1, a8, m1 + 1, c8, by omega, by go_num, by rw [unhide HP]; exact unhide HJ6⟩
          case measure => simp [intOf]; omega
    · have J5 : Hid (J2 w wr (StC (.slice ai ni ci) (.slice af nf cf)) a1 m1 c1 none 0 0 (slI ls xs) []) := hide (by
        have e : slI ls (xs.take k) = slI ls xs := by rw [List.take_of_length_le (by have := (unhide HX).len.1; omega)]
        rw [← e]; exact unhide HJ)
      clear HJ
      obtain rfl : m1 = n1 := by have := ((unhide J5).oi.rw encI_len).len.1; rw [this]; exact unhide hn1
      go_wp2
      go_loopw [7] (fun i wr => ∃ (k : Nat) (a2 : Option Addr) (m2 c2 : Nat), k ≤ nf ∧ i = .int .i64 k ∧ J2 w wr (StC (.slice ai ni ci) (.slice af nf cf)) a1 m1 c1 a2 m2 c2 (slI ls xs) (slF ls (fs.take k))) (fun i _ => nf - (intOf i).toNat)
      case atStart => exact ⟨0, none, 0, 0, by omega, rfl, unhide J5⟩
      case round =>
        clear J5 pa0 pa1 hsz hlt hk
        obtain ⟨k, a2, m2, c2, hk, rfl, hJ⟩ := hrel
        have HJ := hide hJ
        have hsz := hJ.sz
        obtain ⟨pa0, pa1, -⟩ := blk_cells2 hJ.ka
        clear hJ
        by_cases hlt : k < nf
        · obtain ⟨x, b, off, hx, rfl, hb, hcap, hc⟩ := ((unhide HF).later (unhide HJ).bel).at hlt
          have c0 : wr.cell? ⟨b, off + k * 2, none⟩ = some (.int .i64 x.1) := hc 0 (by omega)
          have c1' : wr.cell? ⟨b, off + k * 2 + 1, none⟩ = some (.int .i64 x.2) := hc 1 (by omega)
          obtain ⟨q, hq⟩ : ∃ q, Hid (lf x.1 = q) := ⟨_, hide rfl⟩
          obtain ⟨r, hr⟩ : ∃ r, Hid (hasN ls q = r) := ⟨_, hide rfl⟩
          have HX1 := hide hx
          clear hx
          go_wp2_with fail
          refine (sleaf_any x.1 q hq _).mono ?_
          rintro e w3 ⟨rfl, b3⟩
          have J4 := hide ((unhide HJ).later b3)
          have hsz4 := (unhide J4).sz
          have hb4 : b < w3.heap.size := Nat.lt_of_lt_of_le hb b3.size
          obtain ⟨pb0, pb1, -⟩ := blk_cells2 (unhide J4).ka
          have HC4 := hide (fun j hj => (b3.cell (p := ⟨b, off + k * 2 + j, none⟩) hb).trans (hc j hj))
          clear b3 HJ c0 c1' pa0 pa1 hc
          go_wp2_with fail
          refine (l1has_any la ln lc ls q r hr _ hln ((unhide HL).later (unhide J4).bel)).mono ?_
          rintro e _ ⟨rfl, rfl⟩
          cases r
          · have HP := hide (slF_neg (ls := ls) (unhide HX1) (by rw [unhide hq]; exact unhide hr))
            go_wp2
            go_roundw
            case rel => exact ⟨k + 1, a2, m2, c2, by omega, by go_num, by rw [unhide HP]; exact unhide J4⟩
            case measure => simp [intOf]; omega
          · have HP := hide (slF_pos (ls := ls) (unhide HX1) (by rw [unhide hq]; exact unhide hr))
            have hm2 : Hid (m2 = (slF ls (fs.take k)).length) := hide ((unhide J4).of.rw encF_len).len.1
            have hm2l : m2 ≤ k := by have := unhide hm2; have := slF_k (ls := ls) (xs := fs) (k := k); omega
            obtain ⟨po0, po1, pof⟩ := blk_cells2 (unhide J4).ko
            have c0 : w3.cell? ⟨b, off + k * 2, none⟩ = some (.int .i64 x.1) := unhide HC4 0 (by omega)
            have c1' : w3.cell? ⟨b, off + k * 2 + 1, none⟩ = some (.int .i64 x.2) := unhide HC4 1 (by omega)
            have JD := hide (unhide J4).drew
            have zo : w.heap.size + 1 + 1 < w3.heap.size := by omega
            go_upto_region 11 with fail
            go_region_law (first | (refine step_app1 encF_len (by omega) oneF 104 35 i1 _ 16 Try.underlying35 gi gz0 gz1 gz2 rfl (by omega) w3.drew x rfl _ _ rfl (w.heap.size + 3) _ (slF ls (fs.take k)) m2 hm2 rfl (unhide JD).of rfl (by omega) (unhide JD).sz ?_; intro a8 c8 w6 hO hG; have po0' := (hG.block _ zo (fun q => by have := World.ownsRow.lt (unhide JD).of _ q.symm; omega)).trans (unhide JD).ko; obtain ⟨pq0, pq1, pqf⟩ := blk_cells2 po0'; have HJ6 := hide ((unhide JD).appF hO hG); clear hO hG po0'))
            all_goals clear po0 po1 pof c0 c1' pb0 pb1
            all_goals
              go_wp2
              go_roundw
              case rel => exact ⟨k + 1, a8, m2 + 1, c8, by omega, by go_num, by rw [unhide HP]; exact unhide HJ6⟩
              case measure => simp [intOf]; omega
        · have J6 : Hid (J2 w wr (StC (.slice ai ni ci) (.slice af nf cf)) a1 m1 c1 a2 m2 c2 (slI ls xs) (slF ls fs)) := hide (by
            have e : slF ls (fs.take k) = slF ls fs := by rw [List.take_of_length_le (by have := (unhide HF).len.1; omega)]
            rw [← e]; exact unhide HJ)
          clear HJ
          obtain rfl : m2 = n2 := by have := ((unhide J6).of.rw encF_len).len.1; rw [this]; exact unhide hn2
          obtain ⟨po0, po1, pof⟩ := blk_cells2 (unhide J6).ko
          obtain ⟨pr0, pr1, prf⟩ := blk_cells2 (unhide J6).kr
          go_wp2
          exact bodyPost_ret (v := .agg #[.slice a1 m1 c1, .slice a2 m2 c2]) (by simp [results, Try.results78, go_sem, pr0, pr1]) rfl ⟨a1, c1, a2, c2, rfl, (Ow.base (((unhide J6).oi.set _ (by simp <;> omega) _).set _ (by simp <;> omega) _) (by omega)), (Ow.base (((unhide J6).of.set _ (by simp <;> omega) _).set _ (by simp <;> omega) _) (by omega)), ((unhide J6).bel.setCell (p := ⟨w.heap.size + 1, 0, none⟩) (by simp <;> omega) _).setCell (p := ⟨w.heap.size + 1, 1, none⟩) (by simp <;> omega) _⟩
end Go.Proofs.Ytdpaocikmijioaf
