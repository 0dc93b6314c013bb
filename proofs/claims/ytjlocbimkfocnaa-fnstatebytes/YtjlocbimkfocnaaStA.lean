/-
  What the laws do with a state: its size is taken off, it is turned into the program's own, two are compared. No statement is proved here.
-/
import Derived.Test.YtjlocbimkfocnaaApp2
import Derived.Test.YtjlocbimkfocnaaEntP
import Derived.Test.YtjlocbimkfocnaaPrt
namespace Go.Proofs.Ytjlocbimkfocnaa
open Go.RowKit

/-- Each text is one of this machine. -/
def Big (xs : List Itm) : Prop := ∀ (k : Nat) (x : Itm), xs[k]? = some x → x.2.2.2.2.2.size ≤ maxLen
theorem encI_len (x : Itm) : (encI x).length = 6 := rfl
abbrev OwI (base : Nat) (w : World) (v : Value) (xs : List Itm) : Prop := Ow encI 6 64 base w v xs
abbrev OwF (base : Nat) (w : World) (v : Value) (fs : List Flr) : Prop := Ow encF 2 67 base w v fs

set_option maxHeartbeats 1000000 in
theorem szitem_any (x : Itm) (n : Int) (h1 : 0 ≤ n) (h2 : n ≤ 1048576) (hs : x.2.2.2.2.2.size ≤ maxLen) (w : World) :
    Calls Try.prog 109 #[.agg #[.int .i64 x.1, .int .i64 x.2.1, .int .i64 x.2.2.1, .int .i64 x.2.2.2.1, .int .i64 x.2.2.2.2.1, .string x.2.2.2.2.2], .int .i64 n] w fun e w' => e = .returned (.int .i64 (if n < x.2.2.2.2.2.size then -1 else n - x.2.2.2.2.2.size)) ∧ Below w.heap.size w w' := by
  go_enter Try.func109, Try.ntmps109
  go_wp2_with fail
  refine (sz_any x.2.1 x.2.2.1 x.2.2.2.1 x.2.2.2.2.1 x.2.2.2.2.2 n h1 h2 hs _).mono ?_
  rintro e w1 ⟨rfl, b1, -⟩
  have HB := hide (((Below.refl w.heap.size w).alloc (Nat.le_refl _) _).trans (b1.mono (by simp)))
  clear b1
  by_cases hb : n < x.2.2.2.2.2.size
  · rw [if_pos hb]
    go_wp2
    go_ret
    exact ⟨rfl, unhide HB⟩
  · rw [if_neg hb]
    have hd : decide (n - (x.2.2.2.2.2.size : Int) < 0) = false := by simp; omega
    go_wp2
    go_ret
    exact ⟨rfl, unhide HB⟩

set_option maxHeartbeats 1000000 in
theorem szitems_any (a : Option Addr) (m cap : Nat) (xs : List Itm) (hbig : Big xs) (n : Int) (h1 : 0 ≤ n) (h2 : n ≤ 1048576) (w : World) (hm : m ≤ 9223372036854775807) (hx : Rw encI 6 w (.slice a m cap) xs) :
    Calls Try.prog 81 #[.slice a m cap, .int .i64 n] w fun e w' => (e = .returned (.int .i64 (-1)) ∨ ∃ r : Int, e = .returned (.int .i64 r) ∧ 0 ≤ r ∧ r ≤ n - m ∧ m ≤ 1048576 ∧ Sml xs) ∧ Below w.heap.size w w' := by
  have HX := hide hx
  have HG := hide hbig
  clear hx hbig
  by_cases hb : n < m
  · have hd : decide (n - (m : Int) < 0) = true := by simp; omega
    go_enter Try.func81, Try.ntmps81
    go_wp2
    go_ret
    exact ⟨.inl rfl, Below.refl _ _⟩
  have hd : decide (n - (m : Int) < 0) = false := by simp; omega
  have hmn : (m : Int) ≤ n := by omega
  clear hb
  go_enter Try.func81, Try.ntmps81
  go_wp2
  go_loopw [1, 5] (fun l i wr => ∃ (k : Nat) (r : Int), k ≤ m ∧ i = .int .i64 k ∧ l = .int .i64 r ∧ 0 ≤ r ∧ r ≤ n - m ∧ (∀ (j : Nat) (y : Itm), j < k → xs[j]? = some y → y.2.2.2.2.2.size ≤ 1048576) ∧ Below w.heap.size w wr) (fun _ i _ => m - (intOf i).toNat)
  case atStart => exact ⟨0, n - m, Nat.zero_le _, rfl, rfl, by omega, by omega, fun j y hj => absurd hj (Nat.not_lt_zero _), Below.refl _ _⟩
  case round =>
    obtain ⟨k, r, hk, rfl, rfl, hr1, hr2, hno, hbel⟩ := hrel
    have HN := hide hno
    have HB := hide hbel
    have hsz := hbel.size
    clear hno
    by_cases hlt : k < m
    · obtain ⟨x, b, off, hx, rfl, hb, hcap, hc⟩ := (unhide HX).at hlt
      obtain ⟨c0, c1, c2, c3, c4, c5⟩ := item_cells (w := wr) (b := b) (off := off) (k := k) (x := x) (fun j hj => (hbel.cell (p := ⟨b, off + k * 6 + j, none⟩) hb).trans (hc j hj))
      have hxs := unhide HG k x hx
      have HX1 := hide hx
      clear hc hx hbel
      go_wp2_with fail
      refine (szitem_any x r hr1 (by omega) hxs _).mono ?_
      rintro e w1 ⟨rfl, b1⟩
      have HB1 := hide ((unhide HB).trans (b1.mono hsz))
      clear b1 HB
      by_cases hbb : r < x.2.2.2.2.2.size
      · rw [if_pos hbb]
        go_wp2
        go_ret
        exact ⟨.inl rfl, unhide HB1⟩
      · rw [if_neg hbb]
        have hd2 : decide (r - (x.2.2.2.2.2.size : Int) < 0) = false := by simp; omega
        have hge : (x.2.2.2.2.2.size : Int) ≤ r := by omega
        clear hbb
        go_wp2
        go_roundw
        case rel => exact ⟨k + 1, _, by omega, by go_num, rfl, by omega, by omega, by
          intro j y hj hy
          by_cases e : j = k
          · subst e; rw [unhide HX1] at hy; cases hy; omega
          · exact unhide HN j y (by omega) hy, unhide HB1⟩
        case measure => simp [intOf]; omega
    · have hS : Sml xs := fun j y hy => unhide HN j y (by have := (unhide HX).len.1; have := (List.getElem?_eq_some_iff.1 hy).1; omega) hy
      have HS := hide hS
      clear hbel hS
      go_wp2
      go_ret
      exact ⟨.inr ⟨r, rfl, hr1, hr2, by omega, unhide HS⟩, unhide HB⟩

set_option maxHeartbeats 1000000 in
theorem szfloors_any (a : Option Addr) (m cap : Nat) (n : Int) (h1 : 0 ≤ n) (h2 : n ≤ 1048576) (w : World) (hm : m ≤ 9223372036854775807) :
    Calls Try.prog 82 #[.slice a m cap, .int .i64 n] w fun e w' => (e = .returned (.int .i64 (-1)) ∨ ∃ r : Int, e = .returned (.int .i64 r) ∧ 0 ≤ r ∧ r ≤ n - m ∧ m ≤ 1048576) ∧ Below w.heap.size w w' := by
  by_cases hb : n < m
  · have hd : decide (n - (m : Int) < 0) = true := by simp; omega
    go_enter Try.func82, Try.ntmps82
    go_wp2
    go_ret
    exact ⟨.inl rfl, Below.refl _ _⟩
  · have hd : decide (n - (m : Int) < 0) = false := by simp; omega
    have hmn : (m : Int) ≤ n := by omega
    clear hb
    go_enter Try.func82, Try.ntmps82
    go_wp2
    go_ret
    exact ⟨.inr ⟨_, rfl, by omega, by omega, by omega⟩, Below.refl _ _⟩

set_option maxHeartbeats 1000000 in
theorem szstate_any (ai : Option Addr) (ni ci : Nat) (xs : List Itm) (hbig : Big xs) (af : Option Addr) (nf cf : Nat) (n : Int) (h1 : 0 ≤ n) (h2 : n ≤ 1048576) (w : World) (hni : ni ≤ 9223372036854775807) (hnf : nf ≤ 9223372036854775807) (hx : Rw encI 6 w (.slice ai ni ci) xs) :
    Calls Try.prog 45 #[.agg #[.slice ai ni ci, .slice af nf cf], .int .i64 n] w fun e w' => (e = .returned (.int .i64 (-1)) ∨ ∃ r : Int, e = .returned (.int .i64 r) ∧ 0 ≤ r ∧ r ≤ n - ni - nf ∧ ni ≤ 1048576 ∧ nf ≤ 1048576 ∧ Sml xs) ∧ Below w.heap.size w w' := by
  have HX := hide hx
  clear hx
  go_enter Try.func45, Try.ntmps45
  go_wp2_with fail
  refine (szitems_any ai ni ci xs hbig n h1 h2 _ hni ((unhide HX).alloc _)).mono ?_
  rintro e w1 ⟨h, b1⟩
  obtain ⟨p0, p1, p2⟩ := blk_cells2 ((b1.block w.heap.size (by simp)).trans (heap_alloc_new w _))
  have HB := hide (((Below.refl w.heap.size w).alloc (Nat.le_refl _) _).trans (b1.mono (by simp)))
  have hz1 : w.heap.size < w1.heap.size := by have := b1.size; simp at this; omega
  clear b1
  rcases h with rfl | ⟨r, rfl, hr1, hr2, hm1, hS⟩
  · go_wp2
    go_ret
    exact ⟨.inl rfl, unhide HB⟩
  · have HS := hide hS
    clear hS
    have hd : decide (r < 0) = false := by simp; omega
    go_wp2_with fail
    refine (szfloors_any af nf cf r hr1 (by omega) _ hnf).mono ?_
    rintro e w2 ⟨h, b2⟩
    have HB2 := hide ((unhide HB).trans (b2.mono (by omega)))
    clear b2
    rcases h with rfl | ⟨r2, rfl, hr3, hr4, hm2⟩
    · go_wp2
      go_ret
      exact ⟨.inl rfl, unhide HB2⟩
    · have hd2 : decide (r2 < 0) = false := by simp; omega
      go_wp2
      go_ret
      exact ⟨.inr ⟨r2, rfl, hr3, by omega, hm1, hm2, unhide HS⟩, unhide HB2⟩
end Go.Proofs.Ytjlocbimkfocnaa
