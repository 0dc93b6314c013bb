/-
  The laws' 'markState' and 'heldState': what is marked is held. No statement is proved here.
-/
import Derived.Test.YtjlocbimkfocnaaCrcP
import Derived.BigQuiet
import Derived.Deep.QuietTactic
import Derived.Deep.RegionWith
import Derived.Test.YtjlocbimkfocnaaStA
import Derived.Test.YtjlocbimkfocnaaApp2
import Derived.Test.YtjlocbimkfocnaaTrn
import Derived.Test.YtjlocbimkfocnaaPrt
namespace Go.Proofs.Ytjlocbimkfocnaa
open Go.RowKit

def mtx (k : Int) : ByteArray := strOfNums (mtext k.toNat)
theorem marktext_v (k : Int) (h1 : 0 ≤ k) (h2 : k ≤ 1000000000000) (w : World) : Calls Try.prog 119 #[.int .i64 k] w fun e w' => e = .returned (.string (mtx k)) ∧ Below w.heap.size w w' := by
  obtain ⟨m, rfl⟩ := Int.eq_ofNat_of_zero_le h1
  exact marktext_any m w h2
def mkI (k : Int) : Itm := (k, (k + 1, k + 1 + 1, k + 1 + 1 + 1, k + 1 + 1 + 1 + 1, mtx (k + 1 + 1 + 1 + 1 + 1)))
def mkIs (k : Int) (n : Nat) : List Itm := (List.range n).map fun i : Nat => mkI (k + 6 * (i : Int))
theorem mkIs_len (k : Int) (n : Nat) : (mkIs k n).length = n := by simp [mkIs]
theorem mkIs_at (k : Int) (n i : Nat) (h : i < n) : (mkIs k n)[i]? = some (mkI (k + 6 * (i : Int))) := by simp [mkIs, h]
/-- Five of the six cells are stored, a call makes memory, the sixth is stored. -/
theorem put6 {base : Nat} {e : TypeId} {w w1 : World} {g n cap : Nat} {ys : List Itm} {x : Itm} (h : Ow encI 6 e base w (.slice (some ⟨g, 0, none⟩) n cap) ys) (hn : n = ys.length) (i : Nat) (hi : i < n)
    (hb : Below (setW w g (i * 6) [.int .i64 x.1, .int .i64 x.2.1, .int .i64 x.2.2.1, .int .i64 x.2.2.2.1, .int .i64 x.2.2.2.2.1]).heap.size (setW w g (i * 6) [.int .i64 x.1, .int .i64 x.2.1, .int .i64 x.2.2.1, .int .i64 x.2.2.2.1, .int .i64 x.2.2.2.2.1]) w1) :
    (∃ y5, w1.cell? ⟨g, i * 6 + 5, none⟩ = some y5) ∧ (∀ o, w1.frozen? ⟨g, o, none⟩ = false) ∧ Ow encI 6 e base (w1.setCell ⟨g, i * 6 + 5, none⟩ (.string x.2.2.2.2.2)) (.slice (some ⟨g, 0, none⟩) n cap) (ys.set i x) ∧ w.grownBy (w1.setCell ⟨g, i * 6 + 5, none⟩ (.string x.2.2.2.2.2)) (some g) := by
  subst hn
  obtain ⟨h1, h2⟩ := setW_own [.int .i64 x.1, .int .i64 x.2.1, .int .i64 x.2.2.1, .int .i64 x.2.2.2.1, .int .i64 x.2.2.2.2.1] (show w.ownsRow base e 6 (.slice (some ⟨g, 0, none⟩) ys.length cap) ys.length (ys.flatMap encI) from h) (i * 6)
  have h3 := owns_later h1 hb (Nat.le_refl _)
  obtain ⟨h4, h5⟩ := h3.stored (i * 6 + 5) (.string x.2.2.2.2.2)
  obtain ⟨y0, y1, y2, y3, y4, y5, -, -, -, -, -, q5, qf⟩ := own_cells6 h3 hi
  refine ⟨⟨y5, q5⟩, qf, ?_, grown_trans2 h2 (grown_trans2 (grown_below _ hb) h5)⟩
  unfold Ow
  rw [List.length_set, ← setL_flat (by omega) encI_len ys i hi x]
  exact h4

set_option maxHeartbeats 4000000 in
set_option maxRecDepth 100000 in
theorem markI_any (base : Nat) (a : Option Addr) (n cap : Nat) (xs : List Itm) (k : Int) (h1 : 0 ≤ k) (h2 : k ≤ 100000000) (w : World) (hn : n ≤ 2000000) (hx : OwI base w (.slice a n cap) xs) :
    Calls Try.prog 101 #[.slice a n cap, .int .i64 k] w fun e w' => e = .returned (.int .i64 (k + 6 * n)) ∧ OwI base w' (.slice a n cap) (mkIs k n) ∧ w.grownBy w' (Value.slice a n cap).ownBlock := by
  have hlen := (hx.rw encI_len).len.1
  rcases hx.2 with ⟨hv, h0⟩ | ⟨g, cap', cur, hv, hb, hg, hnc, hcm, hcs, htake⟩
  · simp only [Value.slice.injEq] at hv
    obtain ⟨rfl, rfl, rfl⟩ := hv
    obtain rfl : xs = [] := List.eq_nil_of_length_eq_zero h0
    have HX := hide hx
    clear hx hlen h0
    go_enter Try.func101, Try.ntmps101
    go_wp2
    go_loop [1, 5] (fun q i => i = .int .i64 0 ∧ q = .int .i64 k) (fun _ i => 0)
    case atStart => exact ⟨rfl, rfl⟩
    case round =>
      obtain ⟨rfl, rfl⟩ := hrel
      go_wp2
      go_ret
      exact ⟨ret_int (by simp), unhide HX, grown_refl _ _⟩
  · simp only [Value.slice.injEq] at hv
    obtain ⟨rfl, -, rfl⟩ := hv
    clear hb hg hnc hcm hcs htake
    have HX := hide hx
    have HL := hide hlen
    clear hx hlen
    go_enter Try.func101, Try.ntmps101
    go_wp2
    go_loopw [1, 5] (fun q i wr => ∃ j : Nat, j ≤ n ∧ i = .int .i64 j ∧ q = .int .i64 (k + 6 * j) ∧ OwI base wr (.slice (some ⟨g, 0, none⟩) n cap) ((mkIs k n).take j ++ xs.drop j) ∧ w.grownBy wr (some g)) (fun _ i _ => n - (intOf i).toNat)
    case atStart => exact ⟨0, Nat.zero_le _, rfl, by simp, by simpa using unhide HX, grown_refl _ _⟩
    case round =>
      obtain ⟨j, hj, rfl, rfl, hown, hgr⟩ := hrel
      by_cases hlt : j < n
      · have hfl := part_len (mkIs k n) xs n j (mkIs_len k n) (unhide HL).symm (by omega)
        obtain ⟨y0, y1, y2, y3, y4, y5, z0, z1, z2, z3, z4, z5, zf⟩ := own_cells6 (show wr.ownsRow base 64 6 (.slice (some ⟨g, 0, none⟩) n cap) n _ from by have h := hown; unfold OwI Ow at h; rw [hfl] at h; exact h) hlt
        have HO := hide hown
        have HG := hide hgr
        have HFL := hide hfl
        have hj0 : (0 : Int) ≤ (j : Int) := by omega
        clear hown hgr hfl
        go_wp2_with fail
        refine (marktext_v (k + 6 * (j : Int) + 1 + 1 + 1 + 1 + 1) (by omega) (by omega) _).mono ?_
        rintro e w1 ⟨rfl, b1⟩
        obtain ⟨⟨y5', q5⟩, qf, R1, R2⟩ := put6 (x := mkI (k + 6 * (j : Int))) (unhide HO) (unhide HFL).symm j hlt b1
        rw [part_set (mkIs k n) xs n j _ (mkIs_len k n) (unhide HL).symm hlt (mkIs_at k n j hlt)] at R1
        have HR1 := hide R1
        have HR2 := hide (grown_trans2 (unhide HG) R2)
        clear R1 R2 b1 z0 z1 z2 z3 z4 z5 zf HO HG HFL
        go_wp2
        go_roundw
        case rel => exact ⟨j + 1, by omega, by go_num, by go_num, unhide HR1, unhide HR2⟩
        case measure => simp [intOf]; omega
      · have HE : Hid (OwI base wr (.slice (some ⟨g, 0, none⟩) n cap) (mkIs k n)) := by
          have e : j = n := by omega
          subst e
          have h := hown
          rw [List.take_of_length_le (by rw [mkIs_len]; omega), List.drop_of_length_le (by have := unhide HL; omega), List.append_nil] at h
          exact hide h
        have HG := hide hgr
        have e : j = n := by omega
        clear hown hgr
        subst e
        go_wp2
        go_ret
        exact ⟨rfl, unhide HE, unhide HG⟩

set_option maxHeartbeats 4000000 in
set_option maxRecDepth 100000 in
theorem markF_any (base : Nat) (a : Option Addr) (n cap : Nat) (xs : List Flr) (k : Int) (h1 : 0 ≤ k) (h2 : k ≤ 100000000) (w : World) (hn : n ≤ 2000000) (hx : OwF base w (.slice a n cap) xs) :
    Calls Try.prog 102 #[.slice a n cap, .int .i64 k] w fun e w' => e = .returned (.int .i64 (k + 2 * n)) ∧ OwF base w' (.slice a n cap) (mkFs k n) ∧ w.grownBy w' (Value.slice a n cap).ownBlock := by
  have hlen := (hx.rw encF_len).len.1
  rcases hx.2 with ⟨hv, h0⟩ | ⟨g, cap', cur, hv, hb, hg, hnc, hcm, hcs, htake⟩
  · simp only [Value.slice.injEq] at hv
    obtain ⟨rfl, rfl, rfl⟩ := hv
    obtain rfl : xs = [] := List.eq_nil_of_length_eq_zero h0
    have HX := hide hx
    clear hx hlen h0
    go_enter Try.func102, Try.ntmps102
    go_wp2
    go_loop [1, 5] (fun q i => i = .int .i64 0 ∧ q = .int .i64 k) (fun _ i => 0)
    case atStart => exact ⟨rfl, rfl⟩
    case round =>
      obtain ⟨rfl, rfl⟩ := hrel
      go_wp2
      go_ret
      exact ⟨ret_int (by simp), unhide HX, grown_refl _ _⟩
  · simp only [Value.slice.injEq] at hv
    obtain ⟨rfl, -, rfl⟩ := hv
    clear hb hg hnc hcm hcs htake
    have HX := hide hx
    have HL := hide hlen
    clear hx hlen
    go_enter Try.func102, Try.ntmps102
    go_wp2
    go_loopw [1, 5] (fun q i wr => ∃ j : Nat, j ≤ n ∧ i = .int .i64 j ∧ q = .int .i64 (k + 2 * j) ∧ OwF base wr (.slice (some ⟨g, 0, none⟩) n cap) ((mkFs k n).take j ++ xs.drop j) ∧ w.grownBy wr (some g)) (fun _ i _ => n - (intOf i).toNat)
    case atStart => exact ⟨0, Nat.zero_le _, rfl, by simp, by simpa using unhide HX, grown_refl _ _⟩
    case round =>
      obtain ⟨j, hj, rfl, rfl, hown, hgr⟩ := hrel
      by_cases hlt : j < n
      · have hfl := part_len (mkFs k n) xs n j (mkFs_len k n) (unhide HL).symm (by omega)
        obtain ⟨y0, y1, z0, z1, zf⟩ := own_cells2 (show wr.ownsRow base 67 2 (.slice (some ⟨g, 0, none⟩) n cap) n _ from by have h := hown; unfold OwF Ow at h; rw [hfl] at h; exact h) hlt
        have HO := hide hown
        have HG := hide hgr
        have HFL := hide hfl
        have hj0 : (0 : Int) ≤ (j : Int) := by omega
        clear hown hgr hfl
        have R1 := (unhide HO).put (by omega) encF_len (unhide HFL).symm j hlt (mkF (k + 2 * (j : Int)))
        rw [part_set (mkFs k n) xs n j _ (mkFs_len k n) (unhide HL).symm hlt (mkFs_at k n j hlt)] at R1
        have R2 := (setW_own (encF (mkF (k + 2 * (j : Int)))) (show wr.ownsRow base 67 2 (.slice (some ⟨g, 0, none⟩) n cap) n _ from by have h := unhide HO; unfold OwF Ow at h; rw [unhide HFL] at h; exact h) (j * 2)).2
        have HR1 := hide R1
        have HR2 := hide (grown_trans2 (unhide HG) R2)
        clear R1 R2 HO HG HFL
        go_wp2
        go_roundw
        case rel => exact ⟨j + 1, by omega, by go_num, by go_num, unhide HR1, unhide HR2⟩
        case measure => simp [intOf]; omega
      · have HE : Hid (OwF base wr (.slice (some ⟨g, 0, none⟩) n cap) (mkFs k n)) := by
          have e : j = n := by omega
          subst e
          have h := hown
          rw [List.take_of_length_le (by rw [mkFs_len]; omega), List.drop_of_length_le (by have := unhide HL; omega), List.append_nil] at h
          exact hide h
        have HG := hide hgr
        have e : j = n := by omega
        clear hown hgr
        subst e
        go_wp2
        go_ret
        exact ⟨rfl, unhide HE, unhide HG⟩

set_option maxHeartbeats 1000000 in
theorem markS_any (base : Nat) (ai : Option Addr) (ni ci : Nat) (xs : List Itm) (af : Option Addr) (nf cf : Nat) (fs : List Flr) (k : Int) (h1 : 0 ≤ k) (h2 : k ≤ 50000000) (w : World) (hni : ni ≤ 2000000) (hnf : nf ≤ 2000000) (hx : OwI base w (.slice ai ni ci) xs) (hf : OwF base w (.slice af nf cf) fs) :
    Calls Try.prog 66 #[.agg #[.slice ai ni ci, .slice af nf cf], .int .i64 k] w fun e w' => e = .returned (.int .i64 (k + 6 * ni + 2 * nf)) ∧ OwI base w' (.slice ai ni ci) (mkIs k ni) ∧ OwF base w' (.slice af nf cf) (mkFs (k + 6 * ni) nf) ∧
      Trn (fun i => (Value.slice ai ni ci).ownBlock = some i ∨ (Value.slice af nf cf).ownBlock = some i) w w' := by
  have HX := hide hx
  have HF := hide hf
  clear hx hf
  go_enter Try.func66, Try.ntmps66
  go_wp2_with fail
  refine (markI_any base ai ni ci xs k h1 (by omega) _ hni ((unhide HX).later ((Below.refl _ _).alloc (Nat.le_refl _) _))).mono ?_
  rintro e w1 ⟨rfl, o1, g1⟩
  have hne : (Value.slice ai ni ci).ownBlock ≠ some w.heap.size := fun e => by have := (World.ownsRow.lt (unhide HX) _ e).2; omega
  have hK : w1.heap[w.heap.size]? = some (.cells #[.slice ai ni ci, .slice af nf cf] 27 (0, 0)) := (g1.block _ (by simp) (fun e => hne e.symm)).trans (heap_alloc_new w _)
  have hap := owns_apart (unhide HF) (unhide HX) (by decide)
  have HF1 := hide ((Trn.of_grown g1).own ((unhide HF).later ((Below.refl _ _).alloc (Nat.le_refl _) _)) (fun i hi e => by rcases hap with h | h; rw [h] at hi; cases hi; exact h (hi.trans e.symm)))
  have HT1 := hide ((Trn.of_below ((Below.refl w.heap.size w).alloc (Nat.le_refl _) _)).trans ((Trn.of_grown g1).mono (T := fun i => (Value.slice ai ni ci).ownBlock = some i ∨ (Value.slice af nf cf).ownBlock = some i) (fun i h => .inl h)))
  have HO1 := hide o1
  obtain ⟨p0, p1, -⟩ := blk_cells2 hK
  have hap2 := hap
  have HAP := hide hap2
  clear o1 g1 hne hK hap hap2
  go_wp2_with fail
  refine (markF_any base af nf cf fs (k + 6 * ni) (by omega) (by omega) _ hnf (unhide HF1)).mono ?_
  rintro e w2 ⟨rfl, o2, g2⟩
  have HO2 := hide o2
  have HI2 := hide ((Trn.of_grown g2).own (unhide HO1) (fun i hi e => by rcases unhide HAP with h | h; rw [h] at e; cases e; exact h (e.trans hi.symm)))
  have HT2 := hide ((unhide HT1).trans ((Trn.of_grown g2).mono (fun i h => .inr h)))
  clear o2 g2 HO1 HT1 HF1 HAP
  go_wp2
  go_ret
  exact ⟨rfl, unhide HI2, unhide HO2, unhide HT2⟩
end Go.Proofs.Ytjlocbimkfocnaa
