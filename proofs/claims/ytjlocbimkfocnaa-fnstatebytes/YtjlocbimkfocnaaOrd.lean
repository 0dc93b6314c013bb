/-
  Lists in order of their numbers: the program asks it of a generic type. No statement is proved here.
-/
import Derived.Test.YtjlocbimkfocnaaApp2
namespace Go.Proofs.Ytjlocbimkfocnaa
open Go.RowKit

theorem inode_any (x : Int) (b : Bool) (hb : Hid (inB x 0 4 = b)) (w : World) : Calls Try.prog 79 #[.int .i64 x] w fun e w' => e = .returned (.bool b) ∧ w = w' := by
  go_enter Try.func79, Try.ntmps79
  go_wp2_with fail
  refine (within_is x 0 4 b (unhide hb) _).mono ?_
  rintro e _ ⟨rfl, rfl⟩
  go_wp2
  go_ret
  exact ⟨rfl, rfl⟩
theorem iover_any (x : Int) (b : Bool) (hb : Hid (inB x 1 1000 = b)) (w : World) : Calls Try.prog 159 #[.int .i64 x] w fun e w' => e = .returned (.bool b) ∧ w = w' := by
  go_enter Try.func159, Try.ntmps159
  go_wp2_with fail
  refine (within_is x 1 1000 b (unhide hb) _).mono ?_
  rintro e _ ⟨rfl, rfl⟩
  go_wp2
  go_ret
  exact ⟨rfl, rfl⟩
theorem blk_get2 {w : World} {g : Nat} {T : TypeId} {c0 c1 : Value} (h : w.heap[g]? = some (.cells #[c0, c1] T (0, 0))) : w.cell? ⟨g, 0, none⟩ = some c0 ∧ w.cell? ⟨g, 1, none⟩ = some c1 := by simp [World.cell?, h]
theorem blk_get6 {w : World} {g : Nat} {T : TypeId} {c0 c1 c2 c3 c4 c5 : Value} (h : w.heap[g]? = some (.cells #[c0, c1, c2, c3, c4, c5] T (0, 0))) :
    w.cell? ⟨g, 0, none⟩ = some c0 ∧ w.cell? ⟨g, 1, none⟩ = some c1 ∧ w.cell? ⟨g, 2, none⟩ = some c2 ∧ w.cell? ⟨g, 3, none⟩ = some c3 ∧ w.cell? ⟨g, 4, none⟩ = some c4 ∧ w.cell? ⟨g, 5, none⟩ = some c5 := by simp [World.cell?, h]
theorem mnode_any (x : Flr) (w : World) : Calls Try.prog 160 #[.agg #[.int .i64 x.1, .int .i64 x.2]] w fun e w' => e = .returned (.int .i64 x.1) ∧ Below w.heap.size w w' := by
  go_enter Try.func160, Try.ntmps160
  go_wp2
  go_ret
  exact ⟨rfl, (Below.refl _ _).alloc (Nat.le_refl _) _⟩
theorem mright_any (x : Flr) (b : Bool) (hb : Hid (inB x.2 1 1000 = b)) (w : World) : Calls Try.prog 161 #[.agg #[.int .i64 x.1, .int .i64 x.2]] w fun e w' => e = .returned (.bool b) ∧ Below w.heap.size w w' := by
  go_enter Try.func161, Try.ntmps161
  go_wp2_with fail
  refine (iover_any x.2 b hb _).mono ?_
  rintro e _ ⟨rfl, rfl⟩
  go_wp2
  go_ret
  exact ⟨rfl, (Below.refl _ _).alloc (Nat.le_refl _) _⟩
theorem mnode_m (a b : Value) (w : World) : (method 293 127 (.agg #[a, b]) "loop.example/g00487/impl.node").run Try.prog w = .ok (160, .agg #[a, b]) w := by kernel_rfl
theorem mright_m (a b : Value) (w : World) : (method 293 127 (.agg #[a, b]) "loop.example/g00487/impl.right").run Try.prog w = .ok (161, .agg #[a, b]) w := by kernel_rfl
set_option maxHeartbeats 4000000 in
set_option maxRecDepth 100000 in
theorem iordM_any (af : Option Addr) (nf cf : Nat) (fs : List Flr) (ok : Bool) (h0 : Hid (gF (-1) fs = ok)) (w : World) (hnf : nf ≤ 140737488351232) (hf : Rw encF 2 w (.slice af nf cf) fs) :
    Calls Try.prog 116 #[.slice af nf cf] w fun e w' => e = .returned (.bool ok) ∧ Below w.heap.size w w' := by
  have HX := hide hf
  clear hf
  go_enter Try.func116, Try.ntmps116
  go_wp2
  go_loopw [3, 8] (fun l i wr => ∃ k : Nat, k ≤ nf ∧ i = .int .i64 k ∧ l = .int .i64 (prv fs k) ∧ gF (prv fs k) (fs.drop k) = ok ∧ Below w.heap.size w wr) (fun _ i _ => nf - (intOf i).toNat)
  case atStart => exact ⟨0, Nat.zero_le _, rfl, rfl, unhide h0, Below.refl _ _⟩
  case round =>
    obtain ⟨k, hk, rfl, rfl, hrec, hbel⟩ := hrel
    have HR := hide hrec
    have HB := hide hbel
    have hsz := hbel.size
    clear hrec
    by_cases hlt : k < nf
    · obtain ⟨x, b, off, hx, rfl, hb, hcap, hc⟩ := (unhide HX).at hlt
      have c0 : wr.cell? ⟨b, off + k * 2, none⟩ = some (.int .i64 x.1) := (hbel.cell (p := ⟨b, off + k * 2, none⟩) hb).trans (hc 0 (by omega))
      have c1 : wr.cell? ⟨b, off + k * 2 + 1, none⟩ = some (.int .i64 x.2) := (hbel.cell (p := ⟨b, off + k * 2 + 1, none⟩) hb).trans (hc 1 (by omega))
      have hEq := gF_at (last := prv fs k) hx
      rw [unhide HR, prv_succ hx] at hEq
      have HE := hide hEq
      have HPV := hide (prv_succ hx)
      have hm1 := mnode_m (.int .i64 x.1) (.int .i64 x.2)
      have hm2 := mright_m (.int .i64 x.1) (.int .i64 x.2)
      clear hc hx hbel hEq
      generalize prv fs k = pv at HE ⊢
      obtain ⟨q1, hq1⟩ : ∃ q, Hid (inB x.1 0 4 = q) := ⟨_, hide rfl⟩
      obtain ⟨q2, hq2⟩ : ∃ q, decide (x.1 ≤ pv) = q := ⟨_, rfl⟩
      obtain ⟨q3, hq3⟩ : ∃ q, Hid (inB x.2 1 1000 = q) := ⟨_, hide rfl⟩
      have HE2 : Hid (ok = (q1 && !q2 && q3 && gF x.1 (fs.drop (k + 1)))) := hide (by rw [← unhide hq1, ← unhide hq3, ← le_lt hq2]; exact unhide HE)
      go_wp2_with fail
      refine (mnode_any x _).mono ?_
      rintro e w1 ⟨rfl, b1⟩
      have k1 := (b1.block _ (by simp)).trans (heap_alloc_new wr _)
      have s1 : wr.heap.size < w1.heap.size := by have := b1.size; simp at this; omega
      obtain ⟨p0, p1⟩ := blk_get2 k1
      have HB1 := hide (((unhide HB).alloc hsz _).trans (b1.mono (by simp; omega)))
      have HK1 := hide k1
      clear b1 k1 HB HE c0 c1
      go_wp2_with fail
      refine (inode_any _ _ hq1 _).mono ?_
      rintro e _ ⟨rfl, rfl⟩
      cases q1
      · obtain rfl : ok = false := by rw [unhide HE2]; rfl
        go_wp2
        go_ret
        exact ⟨rfl, unhide HB1⟩
      go_wp2_with fail
      refine (mnode_any x _).mono ?_
      rintro e w2 ⟨rfl, b2⟩
      have k2 := (b2.block _ s1).trans (unhide HK1)
      have s2 : wr.heap.size < w2.heap.size := Nat.lt_of_lt_of_le s1 b2.size
      have HB2 := hide ((unhide HB1).trans (b2.mono (by omega)))
      clear p0 p1
      obtain ⟨p0, p1⟩ := blk_get2 k2
      have HK2 := hide k2
      clear b2 k2 HB1 HK1
      cases q2
      rotate_left
      · obtain rfl : ok = false := by rw [unhide HE2]; rfl
        go_wp2
        go_ret
        exact ⟨rfl, unhide HB2⟩
      go_wp2_with fail
      refine (mright_any x q3 hq3 _).mono ?_
      rintro e w3 ⟨rfl, b3⟩
      have k3 := (b3.block _ s2).trans (unhide HK2)
      have s3 : wr.heap.size < w3.heap.size := Nat.lt_of_lt_of_le s2 b3.size
      have HB3 := hide ((unhide HB2).trans (b3.mono (by omega)))
      clear p0 p1
      obtain ⟨p0, p1⟩ := blk_get2 k3
      clear b3 k3 HB2 HK2
      cases q3
      · obtain rfl : ok = false := by rw [unhide HE2]; rfl
        go_wp2
        go_ret
        exact ⟨rfl, unhide HB3⟩
      go_wp2_with fail
      refine (mnode_any x _).mono ?_
      rintro e w4 ⟨rfl, b4⟩
      have HB4 := hide ((unhide HB3).trans (b4.mono (by omega)))
      clear b4 HB3 p0 p1
      go_wp2
      go_roundw
      case rel => exact ⟨k + 1, by omega, by go_num, by rw [unhide HPV], by
        rw [unhide HPV, unhide HE2]; rfl, unhide HB4⟩
      case measure => simp [intOf]; omega
    · have hEq : ok = true := by
        have h := unhide HR
        rw [drop_end (unhide HX).len.1 hk hlt] at h
        rw [← h]; rfl
      subst hEq
      clear hbel
      go_wp2
      go_ret
      exact ⟨rfl, unhide HB⟩
theorem fnode_any (x : Flr) (w : World) : Calls Try.prog 157 #[.agg #[.int .i64 x.1, .int .i64 x.2]] w fun e w' => e = .returned (.int .i64 x.1) ∧ Below w.heap.size w w' := by
  go_enter Try.func157, Try.ntmps157
  go_wp2
  go_ret
  exact ⟨rfl, (Below.refl _ _).alloc (Nat.le_refl _) _⟩
theorem fright_any (x : Flr) (b : Bool) (hb : Hid (inB x.2 1 1000 = b)) (w : World) : Calls Try.prog 158 #[.agg #[.int .i64 x.1, .int .i64 x.2]] w fun e w' => e = .returned (.bool b) ∧ Below w.heap.size w w' := by
  go_enter Try.func158, Try.ntmps158
  go_wp2_with fail
  refine (iover_any x.2 b hb _).mono ?_
  rintro e _ ⟨rfl, rfl⟩
  go_wp2
  go_ret
  exact ⟨rfl, (Below.refl _ _).alloc (Nat.le_refl _) _⟩
theorem fnode_m (a b : Value) (w : World) : (method 293 67 (.agg #[a, b]) "loop.example/g00487/impl.node").run Try.prog w = .ok (157, .agg #[a, b]) w := by kernel_rfl
theorem fright_m (a b : Value) (w : World) : (method 293 67 (.agg #[a, b]) "loop.example/g00487/impl.right").run Try.prog w = .ok (158, .agg #[a, b]) w := by kernel_rfl
set_option maxHeartbeats 4000000 in
set_option maxRecDepth 100000 in
theorem iordF_any (af : Option Addr) (nf cf : Nat) (fs : List Flr) (ok : Bool) (h0 : Hid (gF (-1) fs = ok)) (w : World) (hnf : nf ≤ 140737488351232) (hf : Rw encF 2 w (.slice af nf cf) fs) :
    Calls Try.prog 41 #[.slice af nf cf] w fun e w' => e = .returned (.bool ok) ∧ Below w.heap.size w w' := by
  have HX := hide hf
  clear hf
  go_enter Try.func41, Try.ntmps41
  go_wp2
  go_loopw [3, 8] (fun l i wr => ∃ k : Nat, k ≤ nf ∧ i = .int .i64 k ∧ l = .int .i64 (prv fs k) ∧ gF (prv fs k) (fs.drop k) = ok ∧ Below w.heap.size w wr) (fun _ i _ => nf - (intOf i).toNat)
  case atStart => exact ⟨0, Nat.zero_le _, rfl, rfl, unhide h0, Below.refl _ _⟩
  case round =>
    obtain ⟨k, hk, rfl, rfl, hrec, hbel⟩ := hrel
    have HR := hide hrec
    have HB := hide hbel
    have hsz := hbel.size
    clear hrec
    by_cases hlt : k < nf
    · obtain ⟨x, b, off, hx, rfl, hb, hcap, hc⟩ := (unhide HX).at hlt
      have c0 : wr.cell? ⟨b, off + k * 2, none⟩ = some (.int .i64 x.1) := (hbel.cell (p := ⟨b, off + k * 2, none⟩) hb).trans (hc 0 (by omega))
      have c1 : wr.cell? ⟨b, off + k * 2 + 1, none⟩ = some (.int .i64 x.2) := (hbel.cell (p := ⟨b, off + k * 2 + 1, none⟩) hb).trans (hc 1 (by omega))
      have hEq := gF_at (last := prv fs k) hx
      rw [unhide HR, prv_succ hx] at hEq
      have HE := hide hEq
      have HPV := hide (prv_succ hx)
      have hm1 := fnode_m (.int .i64 x.1) (.int .i64 x.2)
      have hm2 := fright_m (.int .i64 x.1) (.int .i64 x.2)
      clear hc hx hbel hEq
      generalize prv fs k = pv at HE ⊢
      obtain ⟨q1, hq1⟩ : ∃ q, Hid (inB x.1 0 4 = q) := ⟨_, hide rfl⟩
      obtain ⟨q2, hq2⟩ : ∃ q, decide (x.1 ≤ pv) = q := ⟨_, rfl⟩
      obtain ⟨q3, hq3⟩ : ∃ q, Hid (inB x.2 1 1000 = q) := ⟨_, hide rfl⟩
      have HE2 : Hid (ok = (q1 && !q2 && q3 && gF x.1 (fs.drop (k + 1)))) := hide (by rw [← unhide hq1, ← unhide hq3, ← le_lt hq2]; exact unhide HE)
      go_wp2_with fail
      refine (fnode_any x _).mono ?_
      rintro e w1 ⟨rfl, b1⟩
      have k1 := (b1.block _ (by simp)).trans (heap_alloc_new wr _)
      have s1 : wr.heap.size < w1.heap.size := by have := b1.size; simp at this; omega
      obtain ⟨p0, p1⟩ := blk_get2 k1
      have HB1 := hide (((unhide HB).alloc hsz _).trans (b1.mono (by simp; omega)))
      have HK1 := hide k1
      clear b1 k1 HB HE c0 c1
      go_wp2_with fail
      refine (inode_any _ _ hq1 _).mono ?_
      rintro e _ ⟨rfl, rfl⟩
      cases q1
      · obtain rfl : ok = false := by rw [unhide HE2]; rfl
        go_wp2
        go_ret
        exact ⟨rfl, unhide HB1⟩
      go_wp2_with fail
      refine (fnode_any x _).mono ?_
      rintro e w2 ⟨rfl, b2⟩
      have k2 := (b2.block _ s1).trans (unhide HK1)
      have s2 : wr.heap.size < w2.heap.size := Nat.lt_of_lt_of_le s1 b2.size
      have HB2 := hide ((unhide HB1).trans (b2.mono (by omega)))
      clear p0 p1
      obtain ⟨p0, p1⟩ := blk_get2 k2
      have HK2 := hide k2
      clear b2 k2 HB1 HK1
      cases q2
      rotate_left
      · obtain rfl : ok = false := by rw [unhide HE2]; rfl
        go_wp2
        go_ret
        exact ⟨rfl, unhide HB2⟩
      go_wp2_with fail
      refine (fright_any x q3 hq3 _).mono ?_
      rintro e w3 ⟨rfl, b3⟩
      have k3 := (b3.block _ s2).trans (unhide HK2)
      have s3 : wr.heap.size < w3.heap.size := Nat.lt_of_lt_of_le s2 b3.size
      have HB3 := hide ((unhide HB2).trans (b3.mono (by omega)))
      clear p0 p1
      obtain ⟨p0, p1⟩ := blk_get2 k3
      clear b3 k3 HB2 HK2
      cases q3
      · obtain rfl : ok = false := by rw [unhide HE2]; rfl
        go_wp2
        go_ret
        exact ⟨rfl, unhide HB3⟩
      go_wp2_with fail
      refine (fnode_any x _).mono ?_
      rintro e w4 ⟨rfl, b4⟩
      have HB4 := hide ((unhide HB3).trans (b4.mono (by omega)))
      clear b4 HB3 p0 p1
      go_wp2
      go_roundw
      case rel => exact ⟨k + 1, by omega, by go_num, by rw [unhide HPV], by
        rw [unhide HPV, unhide HE2]; rfl, unhide HB4⟩
      case measure => simp [intOf]; omega
    · have hEq : ok = true := by
        have h := unhide HR
        rw [drop_end (unhide HX).len.1 hk hlt] at h
        rw [← h]; rfl
      subst hEq
      clear hbel
      go_wp2
      go_ret
      exact ⟨rfl, unhide HB⟩
theorem xnode_any (x : Itm) (w : World) : Calls Try.prog 153 #[.agg #[.int .i64 x.1, .int .i64 x.2.1, .int .i64 x.2.2.1, .int .i64 x.2.2.2.1, .int .i64 x.2.2.2.2.1, .string x.2.2.2.2.2]] w fun e w' => e = .returned (.int .i64 x.1) ∧ Below w.heap.size w w' := by
  go_enter Try.func153, Try.ntmps153
  go_wp2
  go_ret
  exact ⟨rfl, (Below.refl _ _).alloc (Nat.le_refl _) _⟩
theorem iokK_any (e : Key) (b : Bool) (hb : Hid (okE e.1 e.2.1 e.2.2.1 e.2.2.2.1 e.2.2.2.2 = b)) (w : World) : Calls Try.prog 155 #[.agg #[.int .i64 e.1, .int .i64 e.2.1, .int .i64 e.2.2.1, .int .i64 e.2.2.2.1, .string e.2.2.2.2]] w fun r w' => r = .returned (.bool b) ∧ Below w.heap.size w w' := by
  rw [← unhide hb]; exact iok_any _ _ _ _ _ w
theorem xright_any (x : Itm) (b : Bool) (hb : Hid (okE x.2.1 x.2.2.1 x.2.2.2.1 x.2.2.2.2.1 x.2.2.2.2.2 = b)) (w : World) : Calls Try.prog 154 #[.agg #[.int .i64 x.1, .int .i64 x.2.1, .int .i64 x.2.2.1, .int .i64 x.2.2.2.1, .int .i64 x.2.2.2.2.1, .string x.2.2.2.2.2]] w fun e w' => e = .returned (.bool b) ∧ Below w.heap.size w w' := by
  go_enter Try.func154, Try.ntmps154
  go_wp2_with fail
  refine (iokK_any x.2 b hb _).mono ?_
  rintro e w1 ⟨rfl, b1⟩
  have HB := hide (((Below.refl w.heap.size w).alloc (Nat.le_refl _) _).trans (b1.mono (by simp)))
  clear b1
  go_wp2
  go_ret
  exact ⟨rfl, unhide HB⟩
theorem xnode_m (a b c d e f : Value) (w : World) : (method 293 64 (.agg #[a, b, c, d, e, f]) "loop.example/g00487/impl.node").run Try.prog w = .ok (153, .agg #[a, b, c, d, e, f]) w := by kernel_rfl
theorem xright_m (a b c d e f : Value) (w : World) : (method 293 64 (.agg #[a, b, c, d, e, f]) "loop.example/g00487/impl.right").run Try.prog w = .ok (154, .agg #[a, b, c, d, e, f]) w := by kernel_rfl
set_option maxHeartbeats 4000000 in
set_option maxRecDepth 100000 in
theorem iordX_any (af : Option Addr) (nf cf : Nat) (fs : List Itm) (ok : Bool) (h0 : Hid (hI (-1) fs = ok)) (w : World) (hnf : nf ≤ 140737488351232) (hf : Rw encI 6 w (.slice af nf cf) fs) :
    Calls Try.prog 40 #[.slice af nf cf] w fun e w' => e = .returned (.bool ok) ∧ Below w.heap.size w w' := by
  have HX := hide hf
  clear hf
  go_enter Try.func40, Try.ntmps40
  go_wp2
  go_loopw [3, 8] (fun l i wr => ∃ k : Nat, k ≤ nf ∧ i = .int .i64 k ∧ l = .int .i64 (prv fs k) ∧ hI (prv fs k) (fs.drop k) = ok ∧ Below w.heap.size w wr) (fun _ i _ => nf - (intOf i).toNat)
  case atStart => exact ⟨0, Nat.zero_le _, rfl, rfl, unhide h0, Below.refl _ _⟩
  case round =>
    obtain ⟨k, hk, rfl, rfl, hrec, hbel⟩ := hrel
    have HR := hide hrec
    have HB := hide hbel
    have hsz := hbel.size
    clear hrec
    by_cases hlt : k < nf
    · obtain ⟨x, b, off, hx, rfl, hb, hcap, hc⟩ := (unhide HX).at hlt
      obtain ⟨c0, c1, c2, c3, c4, c5⟩ := item_cells (w := wr) (b := b) (off := off) (k := k) (x := x) (fun j hj => (hbel.cell (p := ⟨b, off + k * 6 + j, none⟩) hb).trans (hc j hj))
      have hEq := hI_at (last := prv fs k) hx
      rw [unhide HR, prv_succ hx] at hEq
      have HE := hide hEq
      have HPV := hide (prv_succ hx)
      have hm1 := xnode_m (.int .i64 x.1) (.int .i64 x.2.1) (.int .i64 x.2.2.1) (.int .i64 x.2.2.2.1) (.int .i64 x.2.2.2.2.1) (.string x.2.2.2.2.2)
      have hm2 := xright_m (.int .i64 x.1) (.int .i64 x.2.1) (.int .i64 x.2.2.1) (.int .i64 x.2.2.2.1) (.int .i64 x.2.2.2.2.1) (.string x.2.2.2.2.2)
      clear hc hx hbel hEq
      generalize prv fs k = pv at HE ⊢
      obtain ⟨q1, hq1⟩ : ∃ q, Hid (inB x.1 0 4 = q) := ⟨_, hide rfl⟩
      obtain ⟨q2, hq2⟩ : ∃ q, decide (x.1 ≤ pv) = q := ⟨_, rfl⟩
      obtain ⟨q3, hq3⟩ : ∃ q, Hid (okE x.2.1 x.2.2.1 x.2.2.2.1 x.2.2.2.2.1 x.2.2.2.2.2 = q) := ⟨_, hide rfl⟩
      have HE2 : Hid (ok = (q1 && !q2 && q3 && hI x.1 (fs.drop (k + 1)))) := hide (by rw [← unhide hq1, ← unhide hq3, ← le_lt hq2]; exact unhide HE)
      go_wp2_with fail
      refine (xnode_any x _).mono ?_
      rintro e w1 ⟨rfl, b1⟩
      have k1 := (b1.block _ (by simp)).trans (heap_alloc_new wr _)
      have s1 : wr.heap.size < w1.heap.size := by have := b1.size; simp at this; omega
      obtain ⟨p0, p1, p2, p3, p4, p5⟩ := blk_get6 k1
      have HB1 := hide (((unhide HB).alloc hsz _).trans (b1.mono (by simp; omega)))
      have HK1 := hide k1
      clear b1 k1 HB HE c0 c1 c2 c3 c4 c5
      go_wp2_with fail
      refine (inode_any _ _ hq1 _).mono ?_
      rintro e _ ⟨rfl, rfl⟩
      cases q1
      · obtain rfl : ok = false := by rw [unhide HE2]; rfl
        go_wp2
        go_ret
        exact ⟨rfl, unhide HB1⟩
      go_wp2_with fail
      refine (xnode_any x _).mono ?_
      rintro e w2 ⟨rfl, b2⟩
      have k2 := (b2.block _ s1).trans (unhide HK1)
      have s2 : wr.heap.size < w2.heap.size := Nat.lt_of_lt_of_le s1 b2.size
      have HB2 := hide ((unhide HB1).trans (b2.mono (by omega)))
      clear p0 p1 p2 p3 p4 p5
      obtain ⟨p0, p1, p2, p3, p4, p5⟩ := blk_get6 k2
      have HK2 := hide k2
      clear b2 k2 HB1 HK1
      cases q2
      rotate_left
      · obtain rfl : ok = false := by rw [unhide HE2]; rfl
        go_wp2
        go_ret
        exact ⟨rfl, unhide HB2⟩
      go_wp2_with fail
      refine (xright_any x q3 hq3 _).mono ?_
      rintro e w3 ⟨rfl, b3⟩
      have k3 := (b3.block _ s2).trans (unhide HK2)
      have s3 : wr.heap.size < w3.heap.size := Nat.lt_of_lt_of_le s2 b3.size
      have HB3 := hide ((unhide HB2).trans (b3.mono (by omega)))
      clear p0 p1 p2 p3 p4 p5
      obtain ⟨p0, p1, p2, p3, p4, p5⟩ := blk_get6 k3
      clear b3 k3 HB2 HK2
      cases q3
      · obtain rfl : ok = false := by rw [unhide HE2]; rfl
        go_wp2
        go_ret
        exact ⟨rfl, unhide HB3⟩
      go_wp2_with fail
      refine (xnode_any x _).mono ?_
      rintro e w4 ⟨rfl, b4⟩
      have HB4 := hide ((unhide HB3).trans (b4.mono (by omega)))
      clear b4 HB3 p0 p1 p2 p3 p4 p5
      go_wp2
      go_roundw
      case rel => exact ⟨k + 1, by omega, by go_num, by rw [unhide HPV], by
        rw [unhide HPV, unhide HE2]; rfl, unhide HB4⟩
      case measure => simp [intOf]; omega
    · have hEq : ok = true := by
        have h := unhide HR
        rw [drop_end (unhide HX).len.1 hk hlt] at h
        rw [← h]; rfl
      subst hEq
      clear hbel
      go_wp2
      go_ret
      exact ⟨rfl, unhide HB⟩
end Go.Proofs.Ytjlocbimkfocnaa
