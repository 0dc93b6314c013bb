/-
  StateOk of the specification: it answers by 'okS'. No statement is proved here.
-/
import Derived.Test.YtjlocbimkfocnaaApp2
namespace Go.Proofs.Ytjlocbimkfocnaa
open Go.RowKit

theorem sokK_any (e : Key) (b : Bool) (hb : Hid (okE e.1 e.2.1 e.2.2.1 e.2.2.2.1 e.2.2.2.2 = b)) (w : World) : Calls Try.prog 30 #[.agg #[.int .i64 e.1, .int .i64 e.2.1, .int .i64 e.2.2.1, .int .i64 e.2.2.2.1, .string e.2.2.2.2]] w fun r w' => r = .returned (.bool b) ∧ Below w.heap.size w w' := by
  rw [← unhide hb]; exact sok_any _ _ _ _ _ w
theorem l3node_any (x : Int) (b : Bool) (hb : Hid (inB x 0 4 = b)) (w : World) : Calls Try.prog 29 #[.int .i64 x] w fun e w' => e = .returned (.bool b) ∧ w = w' := by
  go_enter Try.func29, Try.ntmps29
  go_wp2_with fail
  refine (l1in_is x 0 4 b (unhide hb) _).mono ?_
  rintro e _ ⟨rfl, rfl⟩
  go_wp2
  go_ret
  exact ⟨rfl, rfl⟩
theorem l1in_v (x lo hi : Int) (b : Bool) (hb : Hid (inB x lo hi = b)) (w : World) :
    Calls Try.prog 32 #[.int .i64 x, .int .i64 lo, .int .i64 hi] w fun e w' => e = .returned (.bool b) ∧ w = w' := l1in_is x lo hi b (unhide hb) w
theorem sfloor_v (vi : Value) (a : Option Addr) (n cap : Nat) (fs : List Flr) (id f : Int) (hid : Hid (flo fs id = f)) (w : World) (hn : n ≤ 140737488351232) (hf : Rw encF 2 w (.slice a n cap) fs) :
    Calls Try.prog 31 #[.agg #[vi, .slice a n cap], .int .i64 id] w fun e w' => e = .returned (.int .i64 f) ∧ Below w.heap.size w w' := by
  rw [← unhide hid]; exact sfloor_any vi a n cap fs id w hn hf

set_option maxHeartbeats 8000000 in
set_option maxRecDepth 100000 in
theorem sstateok_any (ai : Option Addr) (ni ci : Nat) (xs : List Itm) (af : Option Addr) (nf cf : Nat) (fs : List Flr) (ok : Bool) (h0 : Hid (okS xs fs = ok)) (w : World) (hni : ni ≤ 140737488351232) (hnf : nf ≤ 140737488351232) (hx : Rw encI 6 w (.slice ai ni ci) xs) (hf : Rw encF 2 w (.slice af nf cf) fs) :
    Calls Try.prog 9 #[.agg #[.slice ai ni ci, .slice af nf cf]] w fun e w' => e = .returned (.bool ok) ∧ Below w.heap.size w w' := by
  have HX := hide hx
  have HF := hide hf
  clear hx hf
  go_enter Try.func9, Try.ntmps9
  go_wp2
  go_loopw [3] (fun i wr => ∃ k : Nat, k ≤ ni ∧ i = .int .i64 k ∧ (gI fs (prv xs k) (xs.drop k) && gF (-1) fs) = ok ∧ Below w.heap.size w wr ∧ wr.heap[w.heap.size]? = some (.cells #[.slice ai ni ci, .slice af nf cf] 27 (0, 0))) (fun i _ => ni - (intOf i).toNat)
  case atStart => exact ⟨0, Nat.zero_le _, rfl, unhide h0, (Below.refl _ _).alloc (Nat.le_refl _) _, heap_alloc_new w _⟩
  case round =>
    obtain ⟨k, hk, rfl, hrec, hbel, hblk⟩ := hrel
    have HR := hide hrec
    have HB := hide hbel
    have HK := hide hblk
    have hsz := hbel.size
    have hz0 : w.heap.size < wr.heap.size := (Array.getElem?_eq_some_iff.mp hblk).1
    obtain ⟨p0, p1, p2⟩ := blk_cells2 hblk
    clear hblk hrec
    by_cases hlt : k < ni
    · obtain ⟨x, b, off, hx, rfl, hb, hcap, hc⟩ := (unhide HX).at hlt
      obtain ⟨c0, c1, c2, c3, c4, c5⟩ := item_cells (w := wr) (b := b) (off := off) (k := k) (x := x) (fun j hj => (hbel.cell (p := ⟨b, off + k * 6 + j, none⟩) hb).trans (hc j hj))
      have HX1 := hide hx
      obtain ⟨fv, hfv⟩ : ∃ fv, flo fs x.1 = fv := ⟨_, rfl⟩
      have HFV := hide hfv
      clear hc hfv
      by_cases hk0 : 0 < k
      · obtain ⟨y, b', off', hy, hab, hb', hcap', hc'⟩ := (unhide HX).at (i := k - 1) (by omega)
        simp only [Option.some.injEq, Addr.mk.injEq] at hab
        obtain ⟨rfl, rfl, -⟩ := hab
        obtain ⟨d0, d1, d2, d3, d4, d5⟩ := item_cells (w := wr) (b := b) (off := off) (k := k - 1) (x := y) (fun j hj => (hbel.cell (p := ⟨b, off + (k - 1) * 6 + j, none⟩) hb).trans (hc' j hj))
        have hpv : prv xs k = y.1 := by
          obtain ⟨m, rfl⟩ : ∃ m, k = m + 1 := ⟨k - 1, by omega⟩
          exact prv_succ hy
        have HP := hide hpv
        have hkd : decide ((0 : Int) < (k : Int)) = true := by simpa using hk0
        clear hbel hc' hy hpv
        rcases Bool.eq_false_or_eq_true (inB x.1 0 4) with hn1 | hn1
        · have Hn1 := hide hn1
          clear hn1
          rcases Bool.eq_false_or_eq_true (decide (x.1 ≤ y.1)) with hle | hle
          · go_wp2_with fail
            obtain ⟨W, hW⟩ : ∃ W, W = wr.alloc (.cells #[.int .i64 x.1, .int .i64 x.2.1, .int .i64 x.2.2.1, .int .i64 x.2.2.2.1, .int .i64 x.2.2.2.2.1, .string x.2.2.2.2.2] 64) := ⟨_, rfl⟩
            rw [← hW]
            have hWB : Below wr.heap.size wr W := by rw [hW]; exact (Below.refl _ _).alloc (Nat.le_refl _) _
            have hWs : W.heap.size = wr.heap.size + 1 := by rw [hW]; simp
            have l0 := later_some (w := W) (b := w.heap.size) (o := 0) (by omega) ((hWB.cell (p := ⟨w.heap.size, 0, none⟩) hz0).trans p0)
            have l1 := later_some (w := W) (b := w.heap.size) (o := 1) (by omega) ((hWB.cell (p := ⟨w.heap.size, 1, none⟩) hz0).trans p1)
            have ld := later_some (w := W) (b := b) (o := off + (k - 1) * 6) (by omega) ((hWB.cell (p := ⟨b, off + (k - 1) * 6, none⟩) (by show b < _; omega)).trans d0)
            have lx0 := later_some (w := W) (b := wr.heap.size) (o := 0) (v := .int .i64 x.1) (by omega) (by rw [hW]; simp)
            have lx1 := later_some (w := W) (b := wr.heap.size) (o := 1) (v := .int .i64 x.2.1) (by omega) (by rw [hW]; simp)
            have lx2 := later_some (w := W) (b := wr.heap.size) (o := 2) (v := .int .i64 x.2.2.1) (by omega) (by rw [hW]; simp)
            have lx3 := later_some (w := W) (b := wr.heap.size) (o := 3) (v := .int .i64 x.2.2.2.1) (by omega) (by rw [hW]; simp)
            have lx4 := later_some (w := W) (b := wr.heap.size) (o := 4) (v := .int .i64 x.2.2.2.2.1) (by omega) (by rw [hW]; simp)
            have lx5 := later_some (w := W) (b := wr.heap.size) (o := 5) (v := .string x.2.2.2.2.2) (by omega) (by rw [hW]; simp)
            have HFW := hide ((unhide HF).below (unhide HB |>.trans (hWB.mono hsz)) (Nat.le_refl _))
            have HW := hide (And.intro hWB hWs)
            clear hW hWB hWs
            refine wp_region_later (by kernel_rfl) (by kernel_rfl) ?_
            repeat (go_big_quiet_step (first | (go_at_call 29; exact Calls.later_same (l3node_any _ _ Hn1 _))))
            refine wpQuiet_nil ?_
            intro w1 hb1
            obtain ⟨hWB, hWs⟩ := unhide HW
            have HB1 := hide (((unhide HB).trans (hWB.mono hsz)).trans (hb1.mono (by omega)))
            have HK1 := hide ((hb1.block _ (by omega)).trans ((hWB.block _ hz0).trans (unhide HK)))
            clear hb1 hWB hWs HW HB HK HFW
            have hEq : ok = false := by
              have h := unhide HR
              rw [gI_at (unhide HX1), unhide HP] at h
              rw [← h]
              simp [le_lt hle]
            subst hEq
            go_wp2
            go_ret
            exact ⟨rfl, unhide HB1⟩
          · rcases Bool.eq_false_or_eq_true (okE x.2.1 x.2.2.1 x.2.2.2.1 x.2.2.2.2.1 x.2.2.2.2.2) with ho1 | ho1
            · have Ho1 := hide ho1
              clear ho1
              rcases Bool.eq_false_or_eq_true (decide (x.2.1 ≤ fv)) with hfl | hfl
              · go_wp2_with fail
                obtain ⟨W, hW⟩ : ∃ W, W = wr.alloc (.cells #[.int .i64 x.1, .int .i64 x.2.1, .int .i64 x.2.2.1, .int .i64 x.2.2.2.1, .int .i64 x.2.2.2.2.1, .string x.2.2.2.2.2] 64) := ⟨_, rfl⟩
                rw [← hW]
                have hWB : Below wr.heap.size wr W := by rw [hW]; exact (Below.refl _ _).alloc (Nat.le_refl _) _
                have hWs : W.heap.size = wr.heap.size + 1 := by rw [hW]; simp
                have l0 := later_some (w := W) (b := w.heap.size) (o := 0) (by omega) ((hWB.cell (p := ⟨w.heap.size, 0, none⟩) hz0).trans p0)
                have l1 := later_some (w := W) (b := w.heap.size) (o := 1) (by omega) ((hWB.cell (p := ⟨w.heap.size, 1, none⟩) hz0).trans p1)
                have ld := later_some (w := W) (b := b) (o := off + (k - 1) * 6) (by omega) ((hWB.cell (p := ⟨b, off + (k - 1) * 6, none⟩) (by show b < _; omega)).trans d0)
                have lx0 := later_some (w := W) (b := wr.heap.size) (o := 0) (v := .int .i64 x.1) (by omega) (by rw [hW]; simp)
                have lx1 := later_some (w := W) (b := wr.heap.size) (o := 1) (v := .int .i64 x.2.1) (by omega) (by rw [hW]; simp)
                have lx2 := later_some (w := W) (b := wr.heap.size) (o := 2) (v := .int .i64 x.2.2.1) (by omega) (by rw [hW]; simp)
                have lx3 := later_some (w := W) (b := wr.heap.size) (o := 3) (v := .int .i64 x.2.2.2.1) (by omega) (by rw [hW]; simp)
                have lx4 := later_some (w := W) (b := wr.heap.size) (o := 4) (v := .int .i64 x.2.2.2.2.1) (by omega) (by rw [hW]; simp)
                have lx5 := later_some (w := W) (b := wr.heap.size) (o := 5) (v := .string x.2.2.2.2.2) (by omega) (by rw [hW]; simp)
                have HFW := hide ((unhide HF).below (unhide HB |>.trans (hWB.mono hsz)) (Nat.le_refl _))
                have HW := hide (And.intro hWB hWs)
                clear hW hWB hWs
                refine wp_region_later (by kernel_rfl) (by kernel_rfl) ?_
                repeat (go_big_quiet_step (first | (go_at_call 29; exact Calls.later_same (l3node_any _ _ Hn1 _)) | (go_at_call 30; exact Calls.later_of (sokK_any (x.2) _ Ho1 _)) | (go_at_call 31; exact Calls.later_of (sfloor_v _ _ _ _ _ _ _ HFV _ hnf ((unhide HFW).in_later _ _)))))
                refine wpQuiet_nil ?_
                intro w1 hb1
                obtain ⟨hWB, hWs⟩ := unhide HW
                have HB1 := hide (((unhide HB).trans (hWB.mono hsz)).trans (hb1.mono (by omega)))
                have HK1 := hide ((hb1.block _ (by omega)).trans ((hWB.block _ hz0).trans (unhide HK)))
                clear hb1 hWB hWs HW HB HK HFW
                have hEq : ok = false := by
                  have h := unhide HR
                  rw [gI_at (unhide HX1), unhide HP] at h
                  rw [← h]
                  simp [unhide HFV, le_lt hfl]
                subst hEq
                go_wp2
                go_ret
                exact ⟨rfl, unhide HB1⟩
              · go_wp2_with fail
                obtain ⟨W, hW⟩ : ∃ W, W = wr.alloc (.cells #[.int .i64 x.1, .int .i64 x.2.1, .int .i64 x.2.2.1, .int .i64 x.2.2.2.1, .int .i64 x.2.2.2.2.1, .string x.2.2.2.2.2] 64) := ⟨_, rfl⟩
                rw [← hW]
                have hWB : Below wr.heap.size wr W := by rw [hW]; exact (Below.refl _ _).alloc (Nat.le_refl _) _
                have hWs : W.heap.size = wr.heap.size + 1 := by rw [hW]; simp
                have l0 := later_some (w := W) (b := w.heap.size) (o := 0) (by omega) ((hWB.cell (p := ⟨w.heap.size, 0, none⟩) hz0).trans p0)
                have l1 := later_some (w := W) (b := w.heap.size) (o := 1) (by omega) ((hWB.cell (p := ⟨w.heap.size, 1, none⟩) hz0).trans p1)
                have ld := later_some (w := W) (b := b) (o := off + (k - 1) * 6) (by omega) ((hWB.cell (p := ⟨b, off + (k - 1) * 6, none⟩) (by show b < _; omega)).trans d0)
                have lx0 := later_some (w := W) (b := wr.heap.size) (o := 0) (v := .int .i64 x.1) (by omega) (by rw [hW]; simp)
                have lx1 := later_some (w := W) (b := wr.heap.size) (o := 1) (v := .int .i64 x.2.1) (by omega) (by rw [hW]; simp)
                have lx2 := later_some (w := W) (b := wr.heap.size) (o := 2) (v := .int .i64 x.2.2.1) (by omega) (by rw [hW]; simp)
                have lx3 := later_some (w := W) (b := wr.heap.size) (o := 3) (v := .int .i64 x.2.2.2.1) (by omega) (by rw [hW]; simp)
                have lx4 := later_some (w := W) (b := wr.heap.size) (o := 4) (v := .int .i64 x.2.2.2.2.1) (by omega) (by rw [hW]; simp)
                have lx5 := later_some (w := W) (b := wr.heap.size) (o := 5) (v := .string x.2.2.2.2.2) (by omega) (by rw [hW]; simp)
                have HFW := hide ((unhide HF).below (unhide HB |>.trans (hWB.mono hsz)) (Nat.le_refl _))
                have HW := hide (And.intro hWB hWs)
                clear hW hWB hWs
                refine wp_region_later (by kernel_rfl) (by kernel_rfl) ?_
                repeat (go_big_quiet_step (first | (go_at_call 29; exact Calls.later_same (l3node_any _ _ Hn1 _)) | (go_at_call 30; exact Calls.later_of (sokK_any (x.2) _ Ho1 _)) | (go_at_call 31; exact Calls.later_of (sfloor_v _ _ _ _ _ _ _ HFV _ hnf ((unhide HFW).in_later _ _)))))
                refine wpQuiet_nil ?_
                intro w1 hb1
                obtain ⟨hWB, hWs⟩ := unhide HW
                have HB1 := hide (((unhide HB).trans (hWB.mono hsz)).trans (hb1.mono (by omega)))
                have HK1 := hide ((hb1.block _ (by omega)).trans ((hWB.block _ hz0).trans (unhide HK)))
                clear hb1 hWB hWs HW HB HK HFW
                have hRR : (gI fs (prv xs (k + 1)) (xs.drop (k + 1)) && gF (-1) fs) = ok := by
                  have h := unhide HR
                  rw [gI_at (unhide HX1), unhide HP] at h
                  rw [← h]
                  simp [unhide Hn1, unhide Ho1, unhide HFV, le_lt hfl, le_lt hle]
                have HRR := hide hRR
                clear hRR
                go_wp2
                go_roundw
                case rel => exact ⟨k + 1, by omega, by go_num, unhide HRR, unhide HB1, unhide HK1⟩
                case measure => simp [intOf]; omega
            · have Ho1 := hide ho1
              clear ho1
              go_wp2_with fail
              obtain ⟨W, hW⟩ : ∃ W, W = wr.alloc (.cells #[.int .i64 x.1, .int .i64 x.2.1, .int .i64 x.2.2.1, .int .i64 x.2.2.2.1, .int .i64 x.2.2.2.2.1, .string x.2.2.2.2.2] 64) := ⟨_, rfl⟩
              rw [← hW]
              have hWB : Below wr.heap.size wr W := by rw [hW]; exact (Below.refl _ _).alloc (Nat.le_refl _) _
              have hWs : W.heap.size = wr.heap.size + 1 := by rw [hW]; simp
              have l0 := later_some (w := W) (b := w.heap.size) (o := 0) (by omega) ((hWB.cell (p := ⟨w.heap.size, 0, none⟩) hz0).trans p0)
              have l1 := later_some (w := W) (b := w.heap.size) (o := 1) (by omega) ((hWB.cell (p := ⟨w.heap.size, 1, none⟩) hz0).trans p1)
              have ld := later_some (w := W) (b := b) (o := off + (k - 1) * 6) (by omega) ((hWB.cell (p := ⟨b, off + (k - 1) * 6, none⟩) (by show b < _; omega)).trans d0)
              have lx0 := later_some (w := W) (b := wr.heap.size) (o := 0) (v := .int .i64 x.1) (by omega) (by rw [hW]; simp)
              have lx1 := later_some (w := W) (b := wr.heap.size) (o := 1) (v := .int .i64 x.2.1) (by omega) (by rw [hW]; simp)
              have lx2 := later_some (w := W) (b := wr.heap.size) (o := 2) (v := .int .i64 x.2.2.1) (by omega) (by rw [hW]; simp)
              have lx3 := later_some (w := W) (b := wr.heap.size) (o := 3) (v := .int .i64 x.2.2.2.1) (by omega) (by rw [hW]; simp)
              have lx4 := later_some (w := W) (b := wr.heap.size) (o := 4) (v := .int .i64 x.2.2.2.2.1) (by omega) (by rw [hW]; simp)
              have lx5 := later_some (w := W) (b := wr.heap.size) (o := 5) (v := .string x.2.2.2.2.2) (by omega) (by rw [hW]; simp)
              have HFW := hide ((unhide HF).below (unhide HB |>.trans (hWB.mono hsz)) (Nat.le_refl _))
              have HW := hide (And.intro hWB hWs)
              clear hW hWB hWs
              refine wp_region_later (by kernel_rfl) (by kernel_rfl) ?_
              repeat (go_big_quiet_step (first | (go_at_call 29; exact Calls.later_same (l3node_any _ _ Hn1 _)) | (go_at_call 30; exact Calls.later_of (sokK_any (x.2) _ Ho1 _))))
              refine wpQuiet_nil ?_
              intro w1 hb1
              obtain ⟨hWB, hWs⟩ := unhide HW
              have HB1 := hide (((unhide HB).trans (hWB.mono hsz)).trans (hb1.mono (by omega)))
              have HK1 := hide ((hb1.block _ (by omega)).trans ((hWB.block _ hz0).trans (unhide HK)))
              clear hb1 hWB hWs HW HB HK HFW
              have hEq : ok = false := by
                have h := unhide HR
                rw [gI_at (unhide HX1), unhide HP] at h
                rw [← h]
                simp [unhide Ho1]
              subst hEq
              go_wp2
              go_ret
              exact ⟨rfl, unhide HB1⟩
        · have Hn1 := hide hn1
          clear hn1
          go_wp2_with fail
          obtain ⟨W, hW⟩ : ∃ W, W = wr.alloc (.cells #[.int .i64 x.1, .int .i64 x.2.1, .int .i64 x.2.2.1, .int .i64 x.2.2.2.1, .int .i64 x.2.2.2.2.1, .string x.2.2.2.2.2] 64) := ⟨_, rfl⟩
          rw [← hW]
          have hWB : Below wr.heap.size wr W := by rw [hW]; exact (Below.refl _ _).alloc (Nat.le_refl _) _
          have hWs : W.heap.size = wr.heap.size + 1 := by rw [hW]; simp
          have l0 := later_some (w := W) (b := w.heap.size) (o := 0) (by omega) ((hWB.cell (p := ⟨w.heap.size, 0, none⟩) hz0).trans p0)
          have l1 := later_some (w := W) (b := w.heap.size) (o := 1) (by omega) ((hWB.cell (p := ⟨w.heap.size, 1, none⟩) hz0).trans p1)
          have ld := later_some (w := W) (b := b) (o := off + (k - 1) * 6) (by omega) ((hWB.cell (p := ⟨b, off + (k - 1) * 6, none⟩) (by show b < _; omega)).trans d0)
          have lx0 := later_some (w := W) (b := wr.heap.size) (o := 0) (v := .int .i64 x.1) (by omega) (by rw [hW]; simp)
          have lx1 := later_some (w := W) (b := wr.heap.size) (o := 1) (v := .int .i64 x.2.1) (by omega) (by rw [hW]; simp)
          have lx2 := later_some (w := W) (b := wr.heap.size) (o := 2) (v := .int .i64 x.2.2.1) (by omega) (by rw [hW]; simp)
          have lx3 := later_some (w := W) (b := wr.heap.size) (o := 3) (v := .int .i64 x.2.2.2.1) (by omega) (by rw [hW]; simp)
          have lx4 := later_some (w := W) (b := wr.heap.size) (o := 4) (v := .int .i64 x.2.2.2.2.1) (by omega) (by rw [hW]; simp)
          have lx5 := later_some (w := W) (b := wr.heap.size) (o := 5) (v := .string x.2.2.2.2.2) (by omega) (by rw [hW]; simp)
          have HFW := hide ((unhide HF).below (unhide HB |>.trans (hWB.mono hsz)) (Nat.le_refl _))
          have HW := hide (And.intro hWB hWs)
          clear hW hWB hWs
          refine wp_region_later (by kernel_rfl) (by kernel_rfl) ?_
          repeat (go_big_quiet_step (first | (go_at_call 29; exact Calls.later_same (l3node_any _ _ Hn1 _))))
          refine wpQuiet_nil ?_
          intro w1 hb1
          obtain ⟨hWB, hWs⟩ := unhide HW
          have HB1 := hide (((unhide HB).trans (hWB.mono hsz)).trans (hb1.mono (by omega)))
          have HK1 := hide ((hb1.block _ (by omega)).trans ((hWB.block _ hz0).trans (unhide HK)))
          clear hb1 hWB hWs HW HB HK HFW
          have hEq : ok = false := by
            have h := unhide HR
            rw [gI_at (unhide HX1), unhide HP] at h
            rw [← h]
            simp [unhide Hn1]
          subst hEq
          go_wp2
          go_ret
          exact ⟨rfl, unhide HB1⟩
      · have HK0 : Hid (k = 0) := hide (by omega)
        clear hbel hk0
        rcases Bool.eq_false_or_eq_true (inB x.1 0 4) with hn1 | hn1
        · have Hn1 := hide hn1
          clear hn1
          rcases Bool.eq_false_or_eq_true (okE x.2.1 x.2.2.1 x.2.2.2.1 x.2.2.2.2.1 x.2.2.2.2.2) with ho1 | ho1
          · have Ho1 := hide ho1
            clear ho1
            rcases Bool.eq_false_or_eq_true (decide (x.2.1 ≤ fv)) with hfl | hfl
            · go_wp2_with fail
              obtain ⟨W, hW⟩ : ∃ W, W = wr.alloc (.cells #[.int .i64 x.1, .int .i64 x.2.1, .int .i64 x.2.2.1, .int .i64 x.2.2.2.1, .int .i64 x.2.2.2.2.1, .string x.2.2.2.2.2] 64) := ⟨_, rfl⟩
              rw [← hW]
              have hWB : Below wr.heap.size wr W := by rw [hW]; exact (Below.refl _ _).alloc (Nat.le_refl _) _
              have hWs : W.heap.size = wr.heap.size + 1 := by rw [hW]; simp
              have l0 := later_some (w := W) (b := w.heap.size) (o := 0) (by omega) ((hWB.cell (p := ⟨w.heap.size, 0, none⟩) hz0).trans p0)
              have l1 := later_some (w := W) (b := w.heap.size) (o := 1) (by omega) ((hWB.cell (p := ⟨w.heap.size, 1, none⟩) hz0).trans p1)
              have lx0 := later_some (w := W) (b := wr.heap.size) (o := 0) (v := .int .i64 x.1) (by omega) (by rw [hW]; simp)
              have lx1 := later_some (w := W) (b := wr.heap.size) (o := 1) (v := .int .i64 x.2.1) (by omega) (by rw [hW]; simp)
              have lx2 := later_some (w := W) (b := wr.heap.size) (o := 2) (v := .int .i64 x.2.2.1) (by omega) (by rw [hW]; simp)
              have lx3 := later_some (w := W) (b := wr.heap.size) (o := 3) (v := .int .i64 x.2.2.2.1) (by omega) (by rw [hW]; simp)
              have lx4 := later_some (w := W) (b := wr.heap.size) (o := 4) (v := .int .i64 x.2.2.2.2.1) (by omega) (by rw [hW]; simp)
              have lx5 := later_some (w := W) (b := wr.heap.size) (o := 5) (v := .string x.2.2.2.2.2) (by omega) (by rw [hW]; simp)
              have HFW := hide ((unhide HF).below (unhide HB |>.trans (hWB.mono hsz)) (Nat.le_refl _))
              have HW := hide (And.intro hWB hWs)
              clear hW hWB hWs
              have hkn : (0 < k) = False := by have := unhide HK0; simp; omega
              have hkm : ((0 : Int) < (k : Int)) = False := by have := unhide HK0; simp; omega
              refine wp_region_later (by kernel_rfl) (by kernel_rfl) ?_
              repeat (go_big_quiet_step (first | (go_at_call 29; exact Calls.later_same (l3node_any _ _ Hn1 _)) | (go_at_call 30; exact Calls.later_of (sokK_any (x.2) _ Ho1 _)) | (go_at_call 31; exact Calls.later_of (sfloor_v _ _ _ _ _ _ _ HFV _ hnf ((unhide HFW).in_later _ _)))))
              refine wpQuiet_nil ?_
              intro w1 hb1
              obtain ⟨hWB, hWs⟩ := unhide HW
              have HB1 := hide (((unhide HB).trans (hWB.mono hsz)).trans (hb1.mono (by omega)))
              have HK1 := hide ((hb1.block _ (by omega)).trans ((hWB.block _ hz0).trans (unhide HK)))
              clear hb1 hWB hWs HW HB HK HFW
              clear hkn hkm
              have hEq : ok = false := by
                have h := unhide HR
                rw [gI_at (unhide HX1)] at h
                rw [← h]
                simp [unhide HFV, le_lt hfl]
              subst hEq
              go_wp2
              go_ret
              exact ⟨rfl, unhide HB1⟩
            · go_wp2_with fail
              obtain ⟨W, hW⟩ : ∃ W, W = wr.alloc (.cells #[.int .i64 x.1, .int .i64 x.2.1, .int .i64 x.2.2.1, .int .i64 x.2.2.2.1, .int .i64 x.2.2.2.2.1, .string x.2.2.2.2.2] 64) := ⟨_, rfl⟩
              rw [← hW]
              have hWB : Below wr.heap.size wr W := by rw [hW]; exact (Below.refl _ _).alloc (Nat.le_refl _) _
              have hWs : W.heap.size = wr.heap.size + 1 := by rw [hW]; simp
              have l0 := later_some (w := W) (b := w.heap.size) (o := 0) (by omega) ((hWB.cell (p := ⟨w.heap.size, 0, none⟩) hz0).trans p0)
              have l1 := later_some (w := W) (b := w.heap.size) (o := 1) (by omega) ((hWB.cell (p := ⟨w.heap.size, 1, none⟩) hz0).trans p1)
              have lx0 := later_some (w := W) (b := wr.heap.size) (o := 0) (v := .int .i64 x.1) (by omega) (by rw [hW]; simp)
              have lx1 := later_some (w := W) (b := wr.heap.size) (o := 1) (v := .int .i64 x.2.1) (by omega) (by rw [hW]; simp)
              have lx2 := later_some (w := W) (b := wr.heap.size) (o := 2) (v := .int .i64 x.2.2.1) (by omega) (by rw [hW]; simp)
              have lx3 := later_some (w := W) (b := wr.heap.size) (o := 3) (v := .int .i64 x.2.2.2.1) (by omega) (by rw [hW]; simp)
              have lx4 := later_some (w := W) (b := wr.heap.size) (o := 4) (v := .int .i64 x.2.2.2.2.1) (by omega) (by rw [hW]; simp)
              have lx5 := later_some (w := W) (b := wr.heap.size) (o := 5) (v := .string x.2.2.2.2.2) (by omega) (by rw [hW]; simp)
              have HFW := hide ((unhide HF).below (unhide HB |>.trans (hWB.mono hsz)) (Nat.le_refl _))
              have HW := hide (And.intro hWB hWs)
              clear hW hWB hWs
              have hkn : (0 < k) = False := by have := unhide HK0; simp; omega
              have hkm : ((0 : Int) < (k : Int)) = False := by have := unhide HK0; simp; omega
              refine wp_region_later (by kernel_rfl) (by kernel_rfl) ?_
              repeat (go_big_quiet_step (first | (go_at_call 29; exact Calls.later_same (l3node_any _ _ Hn1 _)) | (go_at_call 30; exact Calls.later_of (sokK_any (x.2) _ Ho1 _)) | (go_at_call 31; exact Calls.later_of (sfloor_v _ _ _ _ _ _ _ HFV _ hnf ((unhide HFW).in_later _ _)))))
              refine wpQuiet_nil ?_
              intro w1 hb1
              obtain ⟨hWB, hWs⟩ := unhide HW
              have HB1 := hide (((unhide HB).trans (hWB.mono hsz)).trans (hb1.mono (by omega)))
              have HK1 := hide ((hb1.block _ (by omega)).trans ((hWB.block _ hz0).trans (unhide HK)))
              clear hb1 hWB hWs HW HB HK HFW
              clear hkn hkm
              have hRR : (gI fs (prv xs (k + 1)) (xs.drop (k + 1)) && gF (-1) fs) = ok := by
                have h := unhide HR
                rw [gI_at (unhide HX1)] at h
                rw [← h]
                simp [unhide Hn1, unhide Ho1, unhide HFV, le_lt hfl, show prv xs k = -1 by rw [unhide HK0]; rfl, of_decide_eq_true (in_low (unhide Hn1))]
              have HRR := hide hRR
              clear hRR
              go_wp2
              go_roundw
              case rel => exact ⟨k + 1, by omega, by go_num, unhide HRR, unhide HB1, unhide HK1⟩
              case measure => simp [intOf]; omega
          · have Ho1 := hide ho1
            clear ho1
            go_wp2_with fail
            obtain ⟨W, hW⟩ : ∃ W, W = wr.alloc (.cells #[.int .i64 x.1, .int .i64 x.2.1, .int .i64 x.2.2.1, .int .i64 x.2.2.2.1, .int .i64 x.2.2.2.2.1, .string x.2.2.2.2.2] 64) := ⟨_, rfl⟩
            rw [← hW]
            have hWB : Below wr.heap.size wr W := by rw [hW]; exact (Below.refl _ _).alloc (Nat.le_refl _) _
            have hWs : W.heap.size = wr.heap.size + 1 := by rw [hW]; simp
            have l0 := later_some (w := W) (b := w.heap.size) (o := 0) (by omega) ((hWB.cell (p := ⟨w.heap.size, 0, none⟩) hz0).trans p0)
            have l1 := later_some (w := W) (b := w.heap.size) (o := 1) (by omega) ((hWB.cell (p := ⟨w.heap.size, 1, none⟩) hz0).trans p1)
            have lx0 := later_some (w := W) (b := wr.heap.size) (o := 0) (v := .int .i64 x.1) (by omega) (by rw [hW]; simp)
            have lx1 := later_some (w := W) (b := wr.heap.size) (o := 1) (v := .int .i64 x.2.1) (by omega) (by rw [hW]; simp)
            have lx2 := later_some (w := W) (b := wr.heap.size) (o := 2) (v := .int .i64 x.2.2.1) (by omega) (by rw [hW]; simp)
            have lx3 := later_some (w := W) (b := wr.heap.size) (o := 3) (v := .int .i64 x.2.2.2.1) (by omega) (by rw [hW]; simp)
            have lx4 := later_some (w := W) (b := wr.heap.size) (o := 4) (v := .int .i64 x.2.2.2.2.1) (by omega) (by rw [hW]; simp)
            have lx5 := later_some (w := W) (b := wr.heap.size) (o := 5) (v := .string x.2.2.2.2.2) (by omega) (by rw [hW]; simp)
            have HFW := hide ((unhide HF).below (unhide HB |>.trans (hWB.mono hsz)) (Nat.le_refl _))
            have HW := hide (And.intro hWB hWs)
            clear hW hWB hWs
            have hkn : (0 < k) = False := by have := unhide HK0; simp; omega
            have hkm : ((0 : Int) < (k : Int)) = False := by have := unhide HK0; simp; omega
            refine wp_region_later (by kernel_rfl) (by kernel_rfl) ?_
            repeat (go_big_quiet_step (first | (go_at_call 29; exact Calls.later_same (l3node_any _ _ Hn1 _)) | (go_at_call 30; exact Calls.later_of (sokK_any (x.2) _ Ho1 _))))
            refine wpQuiet_nil ?_
            intro w1 hb1
            obtain ⟨hWB, hWs⟩ := unhide HW
            have HB1 := hide (((unhide HB).trans (hWB.mono hsz)).trans (hb1.mono (by omega)))
            have HK1 := hide ((hb1.block _ (by omega)).trans ((hWB.block _ hz0).trans (unhide HK)))
            clear hb1 hWB hWs HW HB HK HFW
            clear hkn hkm
            have hEq : ok = false := by
              have h := unhide HR
              rw [gI_at (unhide HX1)] at h
              rw [← h]
              simp [unhide Ho1]
            subst hEq
            go_wp2
            go_ret
            exact ⟨rfl, unhide HB1⟩
        · have Hn1 := hide hn1
          clear hn1
          go_wp2_with fail
          obtain ⟨W, hW⟩ : ∃ W, W = wr.alloc (.cells #[.int .i64 x.1, .int .i64 x.2.1, .int .i64 x.2.2.1, .int .i64 x.2.2.2.1, .int .i64 x.2.2.2.2.1, .string x.2.2.2.2.2] 64) := ⟨_, rfl⟩
          rw [← hW]
          have hWB : Below wr.heap.size wr W := by rw [hW]; exact (Below.refl _ _).alloc (Nat.le_refl _) _
          have hWs : W.heap.size = wr.heap.size + 1 := by rw [hW]; simp
          have l0 := later_some (w := W) (b := w.heap.size) (o := 0) (by omega) ((hWB.cell (p := ⟨w.heap.size, 0, none⟩) hz0).trans p0)
          have l1 := later_some (w := W) (b := w.heap.size) (o := 1) (by omega) ((hWB.cell (p := ⟨w.heap.size, 1, none⟩) hz0).trans p1)
          have lx0 := later_some (w := W) (b := wr.heap.size) (o := 0) (v := .int .i64 x.1) (by omega) (by rw [hW]; simp)
          have lx1 := later_some (w := W) (b := wr.heap.size) (o := 1) (v := .int .i64 x.2.1) (by omega) (by rw [hW]; simp)
          have lx2 := later_some (w := W) (b := wr.heap.size) (o := 2) (v := .int .i64 x.2.2.1) (by omega) (by rw [hW]; simp)
          have lx3 := later_some (w := W) (b := wr.heap.size) (o := 3) (v := .int .i64 x.2.2.2.1) (by omega) (by rw [hW]; simp)
          have lx4 := later_some (w := W) (b := wr.heap.size) (o := 4) (v := .int .i64 x.2.2.2.2.1) (by omega) (by rw [hW]; simp)
          have lx5 := later_some (w := W) (b := wr.heap.size) (o := 5) (v := .string x.2.2.2.2.2) (by omega) (by rw [hW]; simp)
          have HFW := hide ((unhide HF).below (unhide HB |>.trans (hWB.mono hsz)) (Nat.le_refl _))
          have HW := hide (And.intro hWB hWs)
          clear hW hWB hWs
          have hkn : (0 < k) = False := by have := unhide HK0; simp; omega
          have hkm : ((0 : Int) < (k : Int)) = False := by have := unhide HK0; simp; omega
          refine wp_region_later (by kernel_rfl) (by kernel_rfl) ?_
          repeat (go_big_quiet_step (first | (go_at_call 29; exact Calls.later_same (l3node_any _ _ Hn1 _))))
          refine wpQuiet_nil ?_
          intro w1 hb1
          obtain ⟨hWB, hWs⟩ := unhide HW
          have HB1 := hide (((unhide HB).trans (hWB.mono hsz)).trans (hb1.mono (by omega)))
          have HK1 := hide ((hb1.block _ (by omega)).trans ((hWB.block _ hz0).trans (unhide HK)))
          clear hb1 hWB hWs HW HB HK HFW
          clear hkn hkm
          have hEq : ok = false := by
            have h := unhide HR
            rw [gI_at (unhide HX1)] at h
            rw [← h]
            simp [unhide Hn1]
          subst hEq
          go_wp2
          go_ret
          exact ⟨rfl, unhide HB1⟩
    · have hRe : gF (-1) fs = ok := by
        have h := unhide HR
        rw [drop_end (unhide HX).len.1 hk hlt] at h
        simpa [gI] using h
      have HR2 := hide hRe
      clear hRe hbel
      go_wp2
      clear p0 p1 p2
      go_loopw [5] (fun i wr => ∃ k : Nat, k ≤ nf ∧ i = .int .i64 k ∧ gF (prv fs k) (fs.drop k) = ok ∧ Below w.heap.size w wr ∧ wr.heap[w.heap.size]? = some (.cells #[.slice ai ni ci, .slice af nf cf] 27 (0, 0))) (fun i _ => nf - (intOf i).toNat)
      case atStart => exact ⟨0, Nat.zero_le _, rfl, unhide HR2, unhide HB, unhide HK⟩
      case round =>
        clear HR2 HR HB HK hsz hz0 hlt hk
        rename_i k0 _ _
        obtain ⟨k, hk, rfl, hrec, hbel, hblk⟩ := hrel
        have HR := hide hrec
        have HB := hide hbel
        have HK := hide hblk
        have hsz := hbel.size
        rename_i wr0 wr
        have hz0 : w.heap.size < wr.heap.size := (Array.getElem?_eq_some_iff.mp hblk).1
        obtain ⟨p0, p1, p2⟩ := blk_cells2 hblk
        clear hblk hrec
        by_cases hlt : k < nf
        · obtain ⟨x, b, off, hx, rfl, hb, hcap, hc⟩ := (unhide HF).at hlt
          have c0 : wr.cell? ⟨b, off + k * 2, none⟩ = some (.int .i64 x.1) := (hbel.cell (p := ⟨b, off + k * 2, none⟩) hb).trans (hc 0 (by omega))
          have c1 : wr.cell? ⟨b, off + k * 2 + 1, none⟩ = some (.int .i64 x.2) := (hbel.cell (p := ⟨b, off + k * 2 + 1, none⟩) hb).trans (hc 1 (by omega))
          have HX1 := hide hx
          clear hc
          by_cases hk0 : 0 < k
          · obtain ⟨y, b', off', hy, hab, hb', hcap', hc'⟩ := (unhide HF).at (i := k - 1) (by omega)
            simp only [Option.some.injEq, Addr.mk.injEq] at hab
            obtain ⟨rfl, rfl, -⟩ := hab
            have d0 : wr.cell? ⟨b, off + (k - 1) * 2, none⟩ = some (.int .i64 y.1) := (hbel.cell (p := ⟨b, off + (k - 1) * 2, none⟩) hb).trans (hc' 0 (by omega))
            have hpv : prv fs k = y.1 := by
              obtain ⟨m, rfl⟩ : ∃ m, k = m + 1 := ⟨k - 1, by omega⟩
              exact prv_succ hy
            have HP := hide hpv
            have hkd : decide ((0 : Int) < (k : Int)) = true := by simpa using hk0
            clear hbel hc' hy hpv
            rcases Bool.eq_false_or_eq_true (inB x.1 0 4) with hn1 | hn1
            · have Hn1 := hide hn1
              clear hn1
              rcases Bool.eq_false_or_eq_true (decide (x.1 ≤ y.1)) with hle | hle
              · go_wp2_with fail
                obtain ⟨W, hW⟩ : ∃ W, W = wr.alloc (.cells #[.int .i64 x.1, .int .i64 x.2] 67) := ⟨_, rfl⟩
                rw [← hW]
                have hWB : Below wr.heap.size wr W := by rw [hW]; exact (Below.refl _ _).alloc (Nat.le_refl _) _
                have hWs : W.heap.size = wr.heap.size + 1 := by rw [hW]; simp
                have l0 := later_some (w := W) (b := w.heap.size) (o := 0) (by omega) ((hWB.cell (p := ⟨w.heap.size, 0, none⟩) hz0).trans p0)
                have l1 := later_some (w := W) (b := w.heap.size) (o := 1) (by omega) ((hWB.cell (p := ⟨w.heap.size, 1, none⟩) hz0).trans p1)
                have ld := later_some (w := W) (b := b) (o := off + (k - 1) * 2) (by omega) ((hWB.cell (p := ⟨b, off + (k - 1) * 2, none⟩) (by show b < _; omega)).trans d0)
                have lx0 := later_some (w := W) (b := wr.heap.size) (o := 0) (v := .int .i64 x.1) (by omega) (by rw [hW]; simp)
                have lx1 := later_some (w := W) (b := wr.heap.size) (o := 1) (v := .int .i64 x.2) (by omega) (by rw [hW]; simp)
                have HFW := hide ((unhide HF).below (unhide HB |>.trans (hWB.mono hsz)) (Nat.le_refl _))
                have HW := hide (And.intro hWB hWs)
                clear hW hWB hWs
                refine wp_region_later (by kernel_rfl) (by kernel_rfl) ?_
                repeat (go_big_quiet_step (first | (go_at_call 29; exact Calls.later_same (l3node_any _ _ Hn1 _))))
                refine wpQuiet_nil ?_
                intro w1 hb1
                obtain ⟨hWB, hWs⟩ := unhide HW
                have HB1 := hide (((unhide HB).trans (hWB.mono hsz)).trans (hb1.mono (by omega)))
                have HK1 := hide ((hb1.block _ (by omega)).trans ((hWB.block _ hz0).trans (unhide HK)))
                clear hb1 hWB hWs HW HB HK HFW
                have hEq : ok = false := by
                  have h := unhide HR
                  rw [gF_at (unhide HX1), unhide HP] at h
                  rw [← h]
                  simp [le_lt hle]
                subst hEq
                go_wp2
                go_ret
                exact ⟨rfl, unhide HB1⟩
              · rcases Bool.eq_false_or_eq_true (inB x.2 1 1000) with ho1 | ho1
                · have Ho1 := hide ho1
                  clear ho1
                  go_wp2_with fail
                  obtain ⟨W, hW⟩ : ∃ W, W = wr.alloc (.cells #[.int .i64 x.1, .int .i64 x.2] 67) := ⟨_, rfl⟩
                  rw [← hW]
                  have hWB : Below wr.heap.size wr W := by rw [hW]; exact (Below.refl _ _).alloc (Nat.le_refl _) _
                  have hWs : W.heap.size = wr.heap.size + 1 := by rw [hW]; simp
                  have l0 := later_some (w := W) (b := w.heap.size) (o := 0) (by omega) ((hWB.cell (p := ⟨w.heap.size, 0, none⟩) hz0).trans p0)
                  have l1 := later_some (w := W) (b := w.heap.size) (o := 1) (by omega) ((hWB.cell (p := ⟨w.heap.size, 1, none⟩) hz0).trans p1)
                  have ld := later_some (w := W) (b := b) (o := off + (k - 1) * 2) (by omega) ((hWB.cell (p := ⟨b, off + (k - 1) * 2, none⟩) (by show b < _; omega)).trans d0)
                  have lx0 := later_some (w := W) (b := wr.heap.size) (o := 0) (v := .int .i64 x.1) (by omega) (by rw [hW]; simp)
                  have lx1 := later_some (w := W) (b := wr.heap.size) (o := 1) (v := .int .i64 x.2) (by omega) (by rw [hW]; simp)
                  have HFW := hide ((unhide HF).below (unhide HB |>.trans (hWB.mono hsz)) (Nat.le_refl _))
                  have HW := hide (And.intro hWB hWs)
                  clear hW hWB hWs
                  refine wp_region_later (by kernel_rfl) (by kernel_rfl) ?_
                  repeat (go_big_quiet_step (first | (go_at_call 29; exact Calls.later_same (l3node_any _ _ Hn1 _)) | (go_at_call 32; exact Calls.later_same (l1in_v x.2 1 1000 _ Ho1 _))))
                  refine wpQuiet_nil ?_
                  intro w1 hb1
                  obtain ⟨hWB, hWs⟩ := unhide HW
                  have HB1 := hide (((unhide HB).trans (hWB.mono hsz)).trans (hb1.mono (by omega)))
                  have HK1 := hide ((hb1.block _ (by omega)).trans ((hWB.block _ hz0).trans (unhide HK)))
                  clear hb1 hWB hWs HW HB HK HFW
                  have hRR : gF (prv fs (k + 1)) (fs.drop (k + 1)) = ok := by
                    have h := unhide HR
                    rw [gF_at (unhide HX1), unhide HP] at h
                    rw [← h]
                    simp [unhide Hn1, unhide Ho1, le_lt hle]
                  have HRR := hide hRR
                  clear hRR
                  go_wp2
                  go_roundw
                  case rel => exact ⟨k + 1, by omega, by go_num, unhide HRR, unhide HB1, unhide HK1⟩
                  case measure => simp [intOf]; omega
                · have Ho1 := hide ho1
                  clear ho1
                  go_wp2_with fail
                  obtain ⟨W, hW⟩ : ∃ W, W = wr.alloc (.cells #[.int .i64 x.1, .int .i64 x.2] 67) := ⟨_, rfl⟩
                  rw [← hW]
                  have hWB : Below wr.heap.size wr W := by rw [hW]; exact (Below.refl _ _).alloc (Nat.le_refl _) _
                  have hWs : W.heap.size = wr.heap.size + 1 := by rw [hW]; simp
                  have l0 := later_some (w := W) (b := w.heap.size) (o := 0) (by omega) ((hWB.cell (p := ⟨w.heap.size, 0, none⟩) hz0).trans p0)
                  have l1 := later_some (w := W) (b := w.heap.size) (o := 1) (by omega) ((hWB.cell (p := ⟨w.heap.size, 1, none⟩) hz0).trans p1)
                  have ld := later_some (w := W) (b := b) (o := off + (k - 1) * 2) (by omega) ((hWB.cell (p := ⟨b, off + (k - 1) * 2, none⟩) (by show b < _; omega)).trans d0)
                  have lx0 := later_some (w := W) (b := wr.heap.size) (o := 0) (v := .int .i64 x.1) (by omega) (by rw [hW]; simp)
                  have lx1 := later_some (w := W) (b := wr.heap.size) (o := 1) (v := .int .i64 x.2) (by omega) (by rw [hW]; simp)
                  have HFW := hide ((unhide HF).below (unhide HB |>.trans (hWB.mono hsz)) (Nat.le_refl _))
                  have HW := hide (And.intro hWB hWs)
                  clear hW hWB hWs
                  refine wp_region_later (by kernel_rfl) (by kernel_rfl) ?_
                  repeat (go_big_quiet_step (first | (go_at_call 29; exact Calls.later_same (l3node_any _ _ Hn1 _)) | (go_at_call 32; exact Calls.later_same (l1in_v x.2 1 1000 _ Ho1 _))))
                  refine wpQuiet_nil ?_
                  intro w1 hb1
                  obtain ⟨hWB, hWs⟩ := unhide HW
                  have HB1 := hide (((unhide HB).trans (hWB.mono hsz)).trans (hb1.mono (by omega)))
                  have HK1 := hide ((hb1.block _ (by omega)).trans ((hWB.block _ hz0).trans (unhide HK)))
                  clear hb1 hWB hWs HW HB HK HFW
                  have hEq : ok = false := by
                    have h := unhide HR
                    rw [gF_at (unhide HX1), unhide HP] at h
                    rw [← h]
                    simp [unhide Ho1]
                  subst hEq
                  go_wp2
                  go_ret
                  exact ⟨rfl, unhide HB1⟩
            · have Hn1 := hide hn1
              clear hn1
              go_wp2_with fail
              obtain ⟨W, hW⟩ : ∃ W, W = wr.alloc (.cells #[.int .i64 x.1, .int .i64 x.2] 67) := ⟨_, rfl⟩
              rw [← hW]
              have hWB : Below wr.heap.size wr W := by rw [hW]; exact (Below.refl _ _).alloc (Nat.le_refl _) _
              have hWs : W.heap.size = wr.heap.size + 1 := by rw [hW]; simp
              have l0 := later_some (w := W) (b := w.heap.size) (o := 0) (by omega) ((hWB.cell (p := ⟨w.heap.size, 0, none⟩) hz0).trans p0)
              have l1 := later_some (w := W) (b := w.heap.size) (o := 1) (by omega) ((hWB.cell (p := ⟨w.heap.size, 1, none⟩) hz0).trans p1)
              have ld := later_some (w := W) (b := b) (o := off + (k - 1) * 2) (by omega) ((hWB.cell (p := ⟨b, off + (k - 1) * 2, none⟩) (by show b < _; omega)).trans d0)
              have lx0 := later_some (w := W) (b := wr.heap.size) (o := 0) (v := .int .i64 x.1) (by omega) (by rw [hW]; simp)
              have lx1 := later_some (w := W) (b := wr.heap.size) (o := 1) (v := .int .i64 x.2) (by omega) (by rw [hW]; simp)
              have HFW := hide ((unhide HF).below (unhide HB |>.trans (hWB.mono hsz)) (Nat.le_refl _))
              have HW := hide (And.intro hWB hWs)
              clear hW hWB hWs
              refine wp_region_later (by kernel_rfl) (by kernel_rfl) ?_
              repeat (go_big_quiet_step (first | (go_at_call 29; exact Calls.later_same (l3node_any _ _ Hn1 _))))
              refine wpQuiet_nil ?_
              intro w1 hb1
              obtain ⟨hWB, hWs⟩ := unhide HW
              have HB1 := hide (((unhide HB).trans (hWB.mono hsz)).trans (hb1.mono (by omega)))
              have HK1 := hide ((hb1.block _ (by omega)).trans ((hWB.block _ hz0).trans (unhide HK)))
              clear hb1 hWB hWs HW HB HK HFW
              have hEq : ok = false := by
                have h := unhide HR
                rw [gF_at (unhide HX1), unhide HP] at h
                rw [← h]
                simp [unhide Hn1]
              subst hEq
              go_wp2
              go_ret
              exact ⟨rfl, unhide HB1⟩
          · have HK0 : Hid (k = 0) := hide (by omega)
            clear hbel hk0
            rcases Bool.eq_false_or_eq_true (inB x.1 0 4) with hn1 | hn1
            · have Hn1 := hide hn1
              clear hn1
              rcases Bool.eq_false_or_eq_true (inB x.2 1 1000) with ho1 | ho1
              · have Ho1 := hide ho1
                clear ho1
                go_wp2_with fail
                obtain ⟨W, hW⟩ : ∃ W, W = wr.alloc (.cells #[.int .i64 x.1, .int .i64 x.2] 67) := ⟨_, rfl⟩
                rw [← hW]
                have hWB : Below wr.heap.size wr W := by rw [hW]; exact (Below.refl _ _).alloc (Nat.le_refl _) _
                have hWs : W.heap.size = wr.heap.size + 1 := by rw [hW]; simp
                have l0 := later_some (w := W) (b := w.heap.size) (o := 0) (by omega) ((hWB.cell (p := ⟨w.heap.size, 0, none⟩) hz0).trans p0)
                have l1 := later_some (w := W) (b := w.heap.size) (o := 1) (by omega) ((hWB.cell (p := ⟨w.heap.size, 1, none⟩) hz0).trans p1)
                have lx0 := later_some (w := W) (b := wr.heap.size) (o := 0) (v := .int .i64 x.1) (by omega) (by rw [hW]; simp)
                have lx1 := later_some (w := W) (b := wr.heap.size) (o := 1) (v := .int .i64 x.2) (by omega) (by rw [hW]; simp)
                have HFW := hide ((unhide HF).below (unhide HB |>.trans (hWB.mono hsz)) (Nat.le_refl _))
                have HW := hide (And.intro hWB hWs)
                clear hW hWB hWs
                have hkn : (0 < k) = False := by have := unhide HK0; simp; omega
                have hkm : ((0 : Int) < (k : Int)) = False := by have := unhide HK0; simp; omega
                refine wp_region_later (by kernel_rfl) (by kernel_rfl) ?_
                repeat (go_big_quiet_step (first | (go_at_call 29; exact Calls.later_same (l3node_any _ _ Hn1 _)) | (go_at_call 32; exact Calls.later_same (l1in_v x.2 1 1000 _ Ho1 _))))
                refine wpQuiet_nil ?_
                intro w1 hb1
                obtain ⟨hWB, hWs⟩ := unhide HW
                have HB1 := hide (((unhide HB).trans (hWB.mono hsz)).trans (hb1.mono (by omega)))
                have HK1 := hide ((hb1.block _ (by omega)).trans ((hWB.block _ hz0).trans (unhide HK)))
                clear hb1 hWB hWs HW HB HK HFW
                clear hkn hkm
                have hRR : gF (prv fs (k + 1)) (fs.drop (k + 1)) = ok := by
                  have h := unhide HR
                  rw [gF_at (unhide HX1)] at h
                  rw [← h]
                  simp [unhide Hn1, unhide Ho1, show prv fs k = -1 by rw [unhide HK0]; rfl, of_decide_eq_true (in_low (unhide Hn1))]
                have HRR := hide hRR
                clear hRR
                go_wp2
                go_roundw
                case rel => exact ⟨k + 1, by omega, by go_num, unhide HRR, unhide HB1, unhide HK1⟩
                case measure => simp [intOf]; omega
              · have Ho1 := hide ho1
                clear ho1
                go_wp2_with fail
                obtain ⟨W, hW⟩ : ∃ W, W = wr.alloc (.cells #[.int .i64 x.1, .int .i64 x.2] 67) := ⟨_, rfl⟩
                rw [← hW]
                have hWB : Below wr.heap.size wr W := by rw [hW]; exact (Below.refl _ _).alloc (Nat.le_refl _) _
                have hWs : W.heap.size = wr.heap.size + 1 := by rw [hW]; simp
                have l0 := later_some (w := W) (b := w.heap.size) (o := 0) (by omega) ((hWB.cell (p := ⟨w.heap.size, 0, none⟩) hz0).trans p0)
                have l1 := later_some (w := W) (b := w.heap.size) (o := 1) (by omega) ((hWB.cell (p := ⟨w.heap.size, 1, none⟩) hz0).trans p1)
                have lx0 := later_some (w := W) (b := wr.heap.size) (o := 0) (v := .int .i64 x.1) (by omega) (by rw [hW]; simp)
                have lx1 := later_some (w := W) (b := wr.heap.size) (o := 1) (v := .int .i64 x.2) (by omega) (by rw [hW]; simp)
                have HFW := hide ((unhide HF).below (unhide HB |>.trans (hWB.mono hsz)) (Nat.le_refl _))
                have HW := hide (And.intro hWB hWs)
                clear hW hWB hWs
                have hkn : (0 < k) = False := by have := unhide HK0; simp; omega
                have hkm : ((0 : Int) < (k : Int)) = False := by have := unhide HK0; simp; omega
                refine wp_region_later (by kernel_rfl) (by kernel_rfl) ?_
                repeat (go_big_quiet_step (first | (go_at_call 29; exact Calls.later_same (l3node_any _ _ Hn1 _)) | (go_at_call 32; exact Calls.later_same (l1in_v x.2 1 1000 _ Ho1 _))))
                refine wpQuiet_nil ?_
                intro w1 hb1
                obtain ⟨hWB, hWs⟩ := unhide HW
                have HB1 := hide (((unhide HB).trans (hWB.mono hsz)).trans (hb1.mono (by omega)))
                have HK1 := hide ((hb1.block _ (by omega)).trans ((hWB.block _ hz0).trans (unhide HK)))
                clear hb1 hWB hWs HW HB HK HFW
                clear hkn hkm
                have hEq : ok = false := by
                  have h := unhide HR
                  rw [gF_at (unhide HX1)] at h
                  rw [← h]
                  simp [unhide Ho1]
                subst hEq
                go_wp2
                go_ret
                exact ⟨rfl, unhide HB1⟩
            · have Hn1 := hide hn1
              clear hn1
              go_wp2_with fail
              obtain ⟨W, hW⟩ : ∃ W, W = wr.alloc (.cells #[.int .i64 x.1, .int .i64 x.2] 67) := ⟨_, rfl⟩
              rw [← hW]
              have hWB : Below wr.heap.size wr W := by rw [hW]; exact (Below.refl _ _).alloc (Nat.le_refl _) _
              have hWs : W.heap.size = wr.heap.size + 1 := by rw [hW]; simp
              have l0 := later_some (w := W) (b := w.heap.size) (o := 0) (by omega) ((hWB.cell (p := ⟨w.heap.size, 0, none⟩) hz0).trans p0)
              have l1 := later_some (w := W) (b := w.heap.size) (o := 1) (by omega) ((hWB.cell (p := ⟨w.heap.size, 1, none⟩) hz0).trans p1)
              have lx0 := later_some (w := W) (b := wr.heap.size) (o := 0) (v := .int .i64 x.1) (by omega) (by rw [hW]; simp)
              have lx1 := later_some (w := W) (b := wr.heap.size) (o := 1) (v := .int .i64 x.2) (by omega) (by rw [hW]; simp)
              have HFW := hide ((unhide HF).below (unhide HB |>.trans (hWB.mono hsz)) (Nat.le_refl _))
              have HW := hide (And.intro hWB hWs)
              clear hW hWB hWs
              have hkn : (0 < k) = False := by have := unhide HK0; simp; omega
              have hkm : ((0 : Int) < (k : Int)) = False := by have := unhide HK0; simp; omega
              refine wp_region_later (by kernel_rfl) (by kernel_rfl) ?_
              repeat (go_big_quiet_step (first | (go_at_call 29; exact Calls.later_same (l3node_any _ _ Hn1 _))))
              refine wpQuiet_nil ?_
              intro w1 hb1
              obtain ⟨hWB, hWs⟩ := unhide HW
              have HB1 := hide (((unhide HB).trans (hWB.mono hsz)).trans (hb1.mono (by omega)))
              have HK1 := hide ((hb1.block _ (by omega)).trans ((hWB.block _ hz0).trans (unhide HK)))
              clear hb1 hWB hWs HW HB HK HFW
              clear hkn hkm
              have hEq : ok = false := by
                have h := unhide HR
                rw [gF_at (unhide HX1)] at h
                rw [← h]
                simp [unhide Hn1]
              subst hEq
              go_wp2
              go_ret
              exact ⟨rfl, unhide HB1⟩
        · have hEq : ok = true := by
            have h := unhide HR
            rw [drop_end (unhide HF).len.1 hk hlt] at h
            rw [← h]; rfl
          subst hEq
          clear hbel
          go_wp2
          go_ret
          exact ⟨rfl, unhide HB⟩
end Go.Proofs.Ytjlocbimkfocnaa
