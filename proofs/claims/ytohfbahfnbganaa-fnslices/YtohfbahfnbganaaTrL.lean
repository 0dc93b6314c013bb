/-
  The program's PutNum returns, in memory of its own, the bytes that 'putN' says, and turns nothing that was there. No statement is proved here.
  The specification's PutNum returns, in memory of its own, the bytes that 'putN' says, and turns nothing that was there. No statement is proved here.
  The program's check sum returns the list function 'crcOf' of the bytes that it is handed, and turns nothing. No statement is proved here.
  The specification's check sum returns the list function 'crcOf' of the bytes that it is handed, and turns nothing. No statement is proved here.
  A node's leaf, the program's and the specification's; whether a number stands in a list. No statement is proved here.
-/
import Derived.Test.YtohfbahfnbganaaPutB
import Derived.Test.YtohfbahfnbganaaBase
import Derived.Test.YtohfbahfnbganaaTrP
import Derived.Test.YtohfbahfnbganaaRwO
import Derived.Test.YtohfbahfnbganaaSStOk
import Derived.Test.YtohfbahfnbganaaIStOk
namespace Go.Proofs.Ytohfbahfnbganaa
open Go.RowKit

set_option maxHeartbeats 1000000 in
set_option maxRecDepth 100000 in
theorem iputnum_any (n : Int) (w : World) (h1 : -9223372036854775808 ≤ n) (h2 : n ≤ 9223372036854775807) :
    Calls Try.prog 60 #[.int .i64 n] w fun e w' => ∃ v, e = .returned v ∧ w'.ownsRow w.heap.size 5 1 v (putN n).length ((putN n).map (Value.int .u8)) ∧ Below w.heap.size w w' := by
  obtain ⟨i0, hi, hz0, hz1, hz2⟩ := info_parts Try.infoByte
  by_cases hb : 0 ≤ n ∧ n ≤ 2147483647
  · have hd1 : decide (n < 0) = false := by simp; omega
    have hd2 : decide (2147483647 < n) = false := by simp; omega
    have HP := hide (show putN n = putf 4 n.toNat by simp [putN, hb])
    obtain ⟨hn0, hn1⟩ := hb
    go_enter Try.func60, Try.ntmps60
    go_wp2
    go_loopw [0, 3] (fun x v wr => ∃ (j m : Nat) (ys : List Int), j ≤ 4 ∧ x = .int .i64 m ∧ ys.length = j ∧ ys ++ putf (4 - j) m = putf 4 n.toNat ∧ m < 128 ^ (5 - j) ∧ wr.ownsRow w.heap.size 5 1 v j (ys.map (Value.int .u8)) ∧ Below w.heap.size w wr) (fun x _ _ => (intOf x).toNat)
    case atStart => exact ⟨0, n.toNat, [], by omega, by go_num, rfl, by simp, by omega, by simpa using World.ownsRow_nil _ _ _ _, Below.refl _ _⟩
    case round =>
      obtain ⟨j, m, ys, hj, rfl, hyl, hys, hm, hown, hbel⟩ := hrel
      have hmm := pow_le j m hm
      have hsz := hbel.size
      have HY := hide hys
      have HM := hide hm
      have HL := hide hyl
      have HB := hide hbel
      have HO := hide hown
      clear hys hm hyl hbel hown
      by_cases hlt : 128 ≤ m
      · have hj4 := step_lt j m hj (unhide HM) hlt
        go_wp2_with (first
          | (at_builtin; refine wpList_append_own _ rfl _ _ 22 rfl w.heap.size 5 i0 (.int .u8 0) 1 1 Try.underlying22 hi hz0 hz1 hz2 rfl (by decide) _ _ _ rfl ((unhide HO).alloc _) ⟨wr.heap.size, 0, none⟩ 1 1 [.int .u8 ((m : Int) % 128 + 128)] rfl rfl ?c1a ?c2a ?c3a ?c4a ?c5a ?_))
        case c1a =>
          intro j u hj
          match j, hj with
          | 0, hj => simp at hj; subst hj; simp [Addr.add]
        case c2a => intro u hu; simp at hu; subst hu; rfl
        case c3a => unfold maxLen; omega
        case c4a => omega
        case c5a => simp; omega
        intro v' w1 hown' hgrow _
        have R := own_step (unhide HO) (unhide HB) hsz hown' hgrow
        have R1 := hide R.1
        have R2 := hide R.2
        clear R hown' hgrow HO HB
        go_wp2
        go_roundw
        case rel => exact ⟨j + 1, m / 128, ys ++ [(m : Int) % 128 + 128], by omega, by go_num, by simp [unhide HL], step_put j m ys _ hj4 hlt (unhide HY), step_pow j m hj4 (unhide HM), R1.out, R2.out⟩
        case measure => simp [intOf]; omega
      · go_wp2_with (first
          | (at_builtin; refine wpList_append_own _ rfl _ _ 22 rfl w.heap.size 5 i0 (.int .u8 0) 1 1 Try.underlying22 hi hz0 hz1 hz2 rfl (by decide) _ _ _ rfl ((unhide HO).alloc _) ⟨wr.heap.size, 0, none⟩ 1 1 [.int .u8 ((m : Int))] rfl rfl ?c1b ?c2b ?c3b ?c4b ?c5b ?_))
        case c1b =>
          intro j u hj
          match j, hj with
          | 0, hj => simp at hj; subst hj; simp [Addr.add]
        case c2b => intro u hu; simp at hu; subst hu; rfl
        case c3b => unfold maxLen; omega
        case c4b => omega
        case c5b => simp; omega
        intro v' w1 hown' hgrow _
        have R := own_step (unhide HO) (unhide HB) hsz hown' hgrow
        have R1 := hide R.1
        have R2 := hide R.2
        clear R hown' hgrow HO HB
        go_wp2
        go_ret
        have e : putN n = ys ++ [(m : Int)] := by
          rw [unhide HP, ← unhide HY, putf_small _ _ (by omega)]
        rw [e]
        exact ⟨_, rfl, by have := R1.out; simpa [unhide HL] using this, R2.out⟩
  · have e : putN n = [] := by simp [putN, hb]
    rw [e]
    by_cases hneg : n < 0
    · go_enter Try.func60, Try.ntmps60
      go_wp2
      go_ret
      exact ⟨_, rfl, World.ownsRow_nil _ _ _ _, Below.refl _ _⟩
    · have hbig : 2147483647 < n := by omega
      clear hb e
      go_enter Try.func60, Try.ntmps60
      go_wp2
      go_ret
      exact ⟨_, rfl, World.ownsRow_nil _ _ _ _, Below.refl _ _⟩

end Go.Proofs.Ytohfbahfnbganaa

namespace Go.Proofs.Ytohfbahfnbganaa
open Go.RowKit

theorem l1in_any (x lo hi : Int) (w : World) :
    Calls Try.prog 46 #[.int .i64 x, .int .i64 lo, .int .i64 hi] w fun e w' => e = .returned (.bool (decide (lo ≤ x ∧ x ≤ hi))) ∧ w = w' := by
  by_cases h : lo ≤ x
  · have hd : decide (lo ≤ x) = true := by simpa using h
    go_enter Try.func46, Try.ntmps46
    go_wp2
    go_ret
    exact ⟨by simp [h], rfl⟩
  · have hd : decide (lo ≤ x) = false := by simpa using h
    go_enter Try.func46, Try.ntmps46
    go_wp2
    go_ret
    exact ⟨by simp, rfl⟩

set_option maxHeartbeats 1000000 in
set_option maxRecDepth 100000 in
theorem sputnum_any (n : Int) (w : World) (h1 : -9223372036854775808 ≤ n) (h2 : n ≤ 9223372036854775807) :
    Calls Try.prog 62 #[.int .i64 n] w fun e w' => ∃ v, e = .returned v ∧ w'.ownsRow w.heap.size 5 1 v (putN n).length ((putN n).map (Value.int .u8)) ∧ Below w.heap.size w w' := by
  obtain ⟨i0, hi, hz0, hz1, hz2⟩ := info_parts Try.infoByte
  by_cases hb : 0 ≤ n ∧ n ≤ 2147483647
  · have hd3 : decide (0 ≤ n ∧ n ≤ 2147483647) = true := by simp; omega
    have HP := hide (show putN n = putf 4 n.toNat by simp [putN, hb])
    obtain ⟨hn0, hn1⟩ := hb
    go_enter Try.func62, Try.ntmps62
    go_wp2_with (first | (go_at_call 46; refine (l1in_any _ _ _ _).mono ?_; rintro e _ ⟨rfl, rfl⟩; rw [hd3]))
    go_loopw [0, 3] (fun x v wr => ∃ (j m : Nat) (ys : List Int), j ≤ 4 ∧ x = .int .i64 m ∧ ys.length = j ∧ ys ++ putf (4 - j) m = putf 4 n.toNat ∧ m < 128 ^ (5 - j) ∧ wr.ownsRow w.heap.size 5 1 v j (ys.map (Value.int .u8)) ∧ Below w.heap.size w wr) (fun x _ _ => (intOf x).toNat)
    case atStart => exact ⟨0, n.toNat, [], by omega, by go_num, rfl, by simp, by omega, by simpa using World.ownsRow_made _ #[] 0 (Nat.le_refl _) (by simp [maxLen]) rfl, (Below.refl _ _).alloc (Nat.le_refl _) _⟩
    case round =>
      obtain ⟨j, m, ys, hj, rfl, hyl, hys, hm, hown, hbel⟩ := hrel
      have hmm := pow_le j m hm
      have hsz := hbel.size
      have HY := hide hys
      have HM := hide hm
      have HL := hide hyl
      have HB := hide hbel
      have HO := hide hown
      clear hys hm hyl hbel hown
      by_cases hlt : 128 ≤ m
      · have hj4 := step_lt j m hj (unhide HM) hlt
        go_wp2_with (first
          | (at_builtin; refine wpList_append_own _ rfl _ _ 22 rfl w.heap.size 5 i0 (.int .u8 0) 1 1 Try.underlying22 hi hz0 hz1 hz2 rfl (by decide) _ _ _ rfl ((unhide HO).alloc _) ⟨wr.heap.size, 0, none⟩ 1 1 [.int .u8 ((m : Int) % 128 + 128)] rfl rfl ?c1a ?c2a ?c3a ?c4a ?c5a ?_))
        case c1a =>
          intro j u hj
          match j, hj with
          | 0, hj => simp at hj; subst hj; simp [Addr.add]
        case c2a => intro u hu; simp at hu; subst hu; rfl
        case c3a => unfold maxLen; omega
        case c4a => omega
        case c5a => simp; omega
        intro v' w1 hown' hgrow _
        have R := own_step (unhide HO) (unhide HB) hsz hown' hgrow
        have R1 := hide R.1
        have R2 := hide R.2
        clear R hown' hgrow HO HB
        go_wp2
        go_roundw
        case rel => exact ⟨j + 1, m / 128, ys ++ [(m : Int) % 128 + 128], by omega, by go_num, by simp [unhide HL], step_put j m ys _ hj4 hlt (unhide HY), step_pow j m hj4 (unhide HM), R1.out, R2.out⟩
        case measure => simp [intOf]; omega
      · go_wp2_with (first
          | (at_builtin; refine wpList_append_own _ rfl _ _ 22 rfl w.heap.size 5 i0 (.int .u8 0) 1 1 Try.underlying22 hi hz0 hz1 hz2 rfl (by decide) _ _ _ rfl ((unhide HO).alloc _) ⟨wr.heap.size, 0, none⟩ 1 1 [.int .u8 ((m : Int))] rfl rfl ?c1b ?c2b ?c3b ?c4b ?c5b ?_))
        case c1b =>
          intro j u hj
          match j, hj with
          | 0, hj => simp at hj; subst hj; simp [Addr.add]
        case c2b => intro u hu; simp at hu; subst hu; rfl
        case c3b => unfold maxLen; omega
        case c4b => omega
        case c5b => simp; omega
        intro v' w1 hown' hgrow _
        have R := own_step (unhide HO) (unhide HB) hsz hown' hgrow
        have R1 := hide R.1
        have R2 := hide R.2
        clear R hown' hgrow HO HB
        go_wp2
        go_ret
        have e : putN n = ys ++ [(m : Int)] := by
          rw [unhide HP, ← unhide HY, putf_small _ _ (by omega)]
        rw [e]
        exact ⟨_, rfl, by have := R1.out; simpa [unhide HL] using this, R2.out⟩
  · have e : putN n = [] := by simp [putN, hb]
    rw [e]
    by_cases hneg : n < 0
    · go_enter Try.func62, Try.ntmps62
      go_wp2
      go_ret
      exact ⟨_, rfl, World.ownsRow_made _ #[] 0 (Nat.le_refl _) (by simp [maxLen]) rfl, (Below.refl _ _).alloc (Nat.le_refl _) _⟩
    · have hbig : 2147483647 < n := by omega
      clear hb e
      have hd1 : decide (0 ≤ n) = true := by simp; omega
      have hd2 : decide (n ≤ 2147483647) = false := by simp; omega
      go_enter Try.func62, Try.ntmps62
      go_wp2
      go_ret
      exact ⟨_, rfl, World.ownsRow_made _ #[] 0 (Nat.le_refl _) (by simp [maxLen]) rfl, (Below.refl _ _).alloc (Nat.le_refl _) _⟩

end Go.Proofs.Ytohfbahfnbganaa

namespace Go.Proofs.Ytohfbahfnbganaa
open Go.RowKit

set_option maxHeartbeats 1000000 in
theorem icrc_any (v : Value) (xs : List Int) (w : World) (hlen : xs.length ≤ 281474976710656) (hv : Seg w v xs) :
    Calls Try.prog 59 #[v] w fun e w' => e = .returned (.int .i64 (crcOf xs)) ∧ w = w' := by
  obtain ⟨a, cap, rfl, hcap, h⟩ := hv
  rcases h with rfl | ⟨b, off, rfl, _, hc⟩
  · go_enter Try.func59, Try.ntmps59
    go_wp2
    go_loop [3, 9] (fun s i => i = .int .i64 0 ∧ s = .int .i64 4294967295) (fun _ i => 0)
    case atStart => exact ⟨rfl, rfl⟩
    case round =>
      obtain ⟨rfl, rfl⟩ := hrel
      go_wp2
      go_ret
      exact ⟨rfl, rfl⟩
  · have HC := hide hc
    clear hc
    go_enter Try.func59, Try.ntmps59
    go_wp2
    go_loop [3, 9] (fun s i => ∃ k : Nat, k ≤ xs.length ∧ i = .int .i64 k ∧ s = .int .i64 (crcRun (xs.take k))) (fun _ i => xs.length - (intOf i).toNat)
    case atStart => exact ⟨0, Nat.zero_le _, rfl, rfl⟩
    case round =>
      obtain ⟨k, hk, rfl, rfl⟩ := hrel
      by_cases hlt : k < xs.length
      · have hcx := unhide HC k hlt
        generalize hz : xs.getD k 0 = z at hcx
        have HS : Hid (crcRun (xs.take (k + 1)) = crcIt 8 (bits BinOp.xor IntKind.i64 (crcRun (xs.take k)) (wrap64 z))) := crcRun_snoc xs k z hlt hz
        clear hz
        go_wp2
        go_loop [3, 17] (fun s i => ∃ j : Nat, j ≤ 8 ∧ i = .int .i64 j ∧ s = .int .i64 (crcIt j (bits BinOp.xor IntKind.i64 (crcRun (xs.take k)) (wrap64 z)))) (fun _ i => 8 - (intOf i).toNat)
        case atStart => exact ⟨0, Nat.zero_le _, rfl, rfl⟩
        case round =>
          obtain ⟨j, hj, rfl, rfl⟩ := hrel
          by_cases hlt2 : j < 8
          · go_wp2
            · go_round
              case rel => exact ⟨j + 1, by omega, by go_num, int_eq (crcIt_odd j _ ‹_›)⟩
              case measure => simp [intOf]; omega
            · go_round
              case rel => exact ⟨j + 1, by omega, by go_num, int_eq (crcIt_even j _ ‹_›)⟩
              case measure => simp [intOf]; omega
          · have hj8 : j = 8 := by omega
            subst hj8
            go_wp2
            go_round
            case rel => exact ⟨k + 1, by omega, by go_num, int_eq HS.out.symm⟩
            case measure => simp [intOf]; omega
      · go_wp2
        go_ret
        exact ⟨ret_int (by rw [List.take_of_length_le (by omega)]; rfl), rfl⟩

end Go.Proofs.Ytohfbahfnbganaa

namespace Go.Proofs.Ytohfbahfnbganaa
open Go.RowKit

set_option maxHeartbeats 1000000 in
theorem scrc_any (v : Value) (xs : List Int) (w : World) (hlen : xs.length ≤ 281474976710656) (hv : Seg w v xs) :
    Calls Try.prog 61 #[v] w fun e w' => e = .returned (.int .i64 (crcOf xs)) ∧ w = w' := by
  obtain ⟨a, cap, rfl, hcap, h⟩ := hv
  rcases h with rfl | ⟨b, off, rfl, _, hc⟩
  · go_enter Try.func61, Try.ntmps61
    go_wp2
    go_loop [3, 4] (fun s i => i = .int .i64 0 ∧ s = .int .i64 4294967295) (fun _ i => 0)
    case atStart => exact ⟨rfl, rfl⟩
    case round =>
      obtain ⟨rfl, rfl⟩ := hrel
      go_wp2
      go_ret
      exact ⟨rfl, rfl⟩
  · have HC := hide hc
    clear hc
    go_enter Try.func61, Try.ntmps61
    go_wp2
    go_loop [3, 4] (fun s i => ∃ k : Nat, k ≤ xs.length ∧ i = .int .i64 k ∧ s = .int .i64 (crcRun (xs.take k))) (fun _ i => xs.length - (intOf i).toNat)
    case atStart => exact ⟨0, Nat.zero_le _, rfl, rfl⟩
    case round =>
      obtain ⟨k, hk, rfl, rfl⟩ := hrel
      by_cases hlt : k < xs.length
      · have hcx := unhide HC k hlt
        generalize hz : xs.getD k 0 = z at hcx
        have HS : Hid (crcRun (xs.take (k + 1)) = crcIt 8 (bits BinOp.xor IntKind.i64 (crcRun (xs.take k)) (wrap64 z))) := crcRun_snoc xs k z hlt hz
        clear hz
        go_wp2
        go_loop [3, 5] (fun s i => ∃ j : Nat, j ≤ 8 ∧ i = .int .i64 j ∧ s = .int .i64 (crcIt j (bits BinOp.xor IntKind.i64 (crcRun (xs.take k)) (wrap64 z)))) (fun _ i => 8 - (intOf i).toNat)
        case atStart => exact ⟨0, Nat.zero_le _, rfl, rfl⟩
        case round =>
          obtain ⟨j, hj, rfl, rfl⟩ := hrel
          by_cases hlt2 : j < 8
          · go_wp2
            · go_round
              case rel => exact ⟨j + 1, by omega, by go_num, int_eq (crcIt_odd j _ ‹_›)⟩
              case measure => simp [intOf]; omega
            · go_round
              case rel => exact ⟨j + 1, by omega, by go_num, int_eq (crcIt_even j _ ‹_›)⟩
              case measure => simp [intOf]; omega
          · have hj8 : j = 8 := by omega
            subst hj8
            go_wp2
            go_round
            case rel => exact ⟨k + 1, by omega, by go_num, int_eq HS.out.symm⟩
            case measure => simp [intOf]; omega
      · go_wp2
        go_ret
        exact ⟨ret_int (by rw [List.take_of_length_le (by omega)]; rfl), rfl⟩

end Go.Proofs.Ytohfbahfnbganaa

namespace Go.Proofs.Ytohfbahfnbganaa
open Go.RowKit

def encN (n : Int) : List Value := [.int .i64 n]
theorem encN_len (n : Int) : (encN n).length = 1 := rfl
abbrev RwN := Rw encN 1
theorem Rw.atN {w : World} {a : Option Addr} {n cap : Nat} {ns : List Int} (h : RwN w (.slice a n cap) ns) {i : Nat} (hi : i < n) :
    ∃ z b off, ns[i]? = some z ∧ a = some ⟨b, off, none⟩ ∧ b < w.heap.size ∧ n ≤ cap ∧ w.cell? ⟨b, off + i, none⟩ = some (.int .i64 z) := by
  obtain ⟨z, b, off, h1, h2, h3, h4, h5⟩ := h.at hi
  refine ⟨z, b, off, h1, h2, h3, h4, ?_⟩
  have := h5 0 (by omega)
  rw [Nat.mul_one, Nat.add_zero] at this
  rw [this]; rfl
theorem has_yes {ns : List Int} {k : Nat} {z x : Int} (h : ns[k]? = some z) (e : (z == x) = true) : hasN ns x = true := by
  rw [hasN_iff]
  have : z = x := by simpa using e
  subst this
  exact List.mem_of_getElem? h
theorem has_no {ns : List Int} {n : Nat} {x : Int} (hn : n = ns.length) (h : ∀ (j : Nat) (z : Int), j < n → ns[j]? = some z → (z == x) = false) : hasN ns x = false := by
  rw [hasN, List.any_eq_false]
  intro z hz
  obtain ⟨j, hj, e⟩ := List.mem_iff_getElem.1 hz
  have := h j z (by omega) (by rw [List.getElem?_eq_getElem hj, e])
  simpa using this

set_option maxHeartbeats 1000000 in
theorem sleaf_any (id l : Int) (hl : Hid (lf id = l)) (w : World) :
    Calls Try.prog 21 #[.int .i64 id] w fun e w' => e = .returned (.int .i64 l) ∧ Below w.heap.size w w' := by
  obtain ⟨k, HK⟩ : ∃ k, Hid (inB id 0 4 = k) := ⟨_, hide rfl⟩
  go_enter Try.func21, Try.ntmps21
  go_wp2_with fail
  refine (l3node_any id k HK _).mono ?_
  rintro e _ ⟨rfl, rfl⟩
  cases k
  · obtain rfl : l = -1 := by rw [← unhide hl, lf_out (unhide HK)]
    go_wp2
    go_ret
    exact ⟨rfl, Below.refl _ _⟩
  · have hlf := (lf_in (unhide HK)).1
    obtain ⟨i1, i2⟩ := inB_iff.1 (unhide HK)
    go_wp2_with fail
    refine (sputnum_any id _ (by omega) (by omega)).mono ?_
    rintro e w1 ⟨v1, rfl, o1, b1⟩
    have S1 := hide (seg_of_owns o1)
    have B1 := hide b1
    clear o1 b1
    go_wp2_with fail
    refine (scrc_any v1 (putN id) _ (by have := putN_length id; omega) (unhide S1)).mono ?_
    rintro e _ ⟨rfl, rfl⟩
    have c0 := crcOf_nonneg _ (putN_bytes id)
    have c1 := crcOf_range _ (putN_bytes id)
    have HL := hide ((hlf.symm.trans (unhide hl)))
    clear hlf hl S1
    generalize crcOf (putN id) = c at c0 c1 HL ⊢
    go_wp2
    go_ret
    exact ⟨ret_int (unhide HL), unhide B1⟩

set_option maxHeartbeats 1000000 in
theorem ileaf_any (id l : Int) (hl : Hid (lf id = l)) (w : World) :
    Calls Try.prog 20 #[.int .i64 id] w fun e w' => e = .returned (.int .i64 l) ∧ Below w.heap.size w w' := by
  obtain ⟨k, HK⟩ : ∃ k, Hid (inB id 0 4 = k) := ⟨_, hide rfl⟩
  go_enter Try.func20, Try.ntmps20
  go_wp2_with fail
  refine (inode_any id k HK _).mono ?_
  rintro e _ ⟨rfl, rfl⟩
  cases k
  · obtain rfl : l = -1 := by rw [← unhide hl, lf_out (unhide HK)]
    go_wp2
    go_ret
    exact ⟨rfl, Below.refl _ _⟩
  · have hlf := (lf_in (unhide HK)).1
    obtain ⟨i1, i2⟩ := inB_iff.1 (unhide HK)
    go_wp2_with fail
    refine (iputnum_any id _ (by omega) (by omega)).mono ?_
    rintro e w1 ⟨v1, rfl, o1, b1⟩
    have S1 := hide (seg_of_owns o1)
    have B1 := hide b1
    clear o1 b1
    go_wp2_with fail
    refine (icrc_any v1 (putN id) _ (by have := putN_length id; omega) (unhide S1)).mono ?_
    rintro e _ ⟨rfl, rfl⟩
    have c0 := crcOf_nonneg _ (putN_bytes id)
    have c1 := crcOf_range _ (putN_bytes id)
    have HL := hide ((hlf.symm.trans (unhide hl)))
    clear hlf hl S1
    generalize crcOf (putN id) = c at c0 c1 HL ⊢
    go_wp2
    go_ret
    exact ⟨ret_int (unhide HL), unhide B1⟩

set_option maxHeartbeats 1000000 in
theorem l1has_any (a : Option Addr) (n c : Nat) (ns : List Int) (x : Int) (r : Bool) (hr : Hid (hasN ns x = r)) (w : World) (hn : n ≤ 140737488351232) (h : RwN w (.slice a n c) ns) :
    Calls Try.prog 85 #[.slice a n c, .int .i64 x] w fun e w' => e = .returned (.bool r) ∧ w = w' := by
  have HR := hide h
  have HN := hide h.len.1
  clear h
  go_enter Try.func85, Try.ntmps85
  go_wp2
  go_loop [5] (fun i => ∃ k : Nat, k ≤ n ∧ i = .int .i64 k ∧ ∀ (j : Nat) (z : Int), j < k → ns[j]? = some z → (z == x) = false) (fun i => n - (intOf i).toNat)
  case atStart => exact ⟨0, Nat.zero_le _, rfl, fun j z h => by omega⟩
  case round =>
    obtain ⟨k, hk, rfl, hno⟩ := hrel
    have HO := hide hno
    clear hno
    by_cases hlt : k < n
    · obtain ⟨z, b, off, hz, rfl, hb, hc, cz⟩ := (unhide HR).atN hlt
      have HZ := hide hz
      clear hz
      rcases Bool.eq_false_or_eq_true (z == x) with he | he
      · obtain rfl : r = true := by rw [← unhide hr]; exact has_yes (unhide HZ) he
        go_wp2
        go_ret
        exact ⟨rfl, rfl⟩
      · go_wp2
        go_round
        case rel => exact ⟨k + 1, by omega, by go_num, step_no (unhide HZ) he (unhide HO)⟩
        case measure => simp [intOf]; omega
    · obtain rfl : r = false := by rw [← unhide hr]; exact has_no (unhide HN) (fun j z hj hz => unhide HO j z (by omega) hz)
      go_wp2
      go_ret
      exact ⟨rfl, rfl⟩

set_option maxHeartbeats 1000000 in
theorem iindex_any (a : Option Addr) (n c : Nat) (ns : List Int) (x : Int) (r : Bool) (hr : Hid (hasN ns x = r)) (w : World) (hn : n ≤ 140737488351232) (h : RwN w (.slice a n c) ns) :
    Calls Try.prog 105 #[.slice a n c, .int .i64 x] w fun e w' => ∃ q : Int, e = .returned (.int .i64 q) ∧ decide (0 ≤ q) = r ∧ w = w' := by
  have HR := hide h
  have HN := hide h.len.1
  clear h
  go_enter Try.func105, Try.ntmps105
  go_wp2
  go_loop [8] (fun i => ∃ k : Nat, k ≤ n ∧ i = .int .i64 k ∧ ∀ (j : Nat) (z : Int), j < k → ns[j]? = some z → (z == x) = false) (fun i => n - (intOf i).toNat)
  case atStart => exact ⟨0, Nat.zero_le _, rfl, fun j z h => by omega⟩
  case round =>
    obtain ⟨k, hk, rfl, hno⟩ := hrel
    have HO := hide hno
    clear hno
    by_cases hlt : k < n
    · obtain ⟨z, b, off, hz, rfl, hb, hc, cz⟩ := (unhide HR).atN hlt
      have HZ := hide hz
      clear hz
      rcases Bool.eq_false_or_eq_true (z == x) with he | he
      · obtain rfl : r = true := by rw [← unhide hr]; exact has_yes (unhide HZ) he
        have hxz : (x == z) = true := by rw [BEq.comm]; exact he
        go_wp2
        go_ret
        exact ⟨k, rfl, by simp, rfl⟩
      · have hxz : (x == z) = false := by rw [BEq.comm]; exact he
        go_wp2
        go_round
        case rel => exact ⟨k + 1, by omega, by go_num, step_no (unhide HZ) he (unhide HO)⟩
        case measure => simp [intOf]; omega
    · obtain rfl : r = false := by rw [← unhide hr]; exact has_no (unhide HN) (fun j z hj hz => unhide HO j z (by omega) hz)
      go_wp2
      go_ret
      exact ⟨-1, rfl, by decide, rfl⟩
theorem icontains_any (a : Option Addr) (n c : Nat) (ns : List Int) (x : Int) (r : Bool) (hr : Hid (hasN ns x = r)) (w : World) (hn : n ≤ 140737488351232) (h : RwN w (.slice a n c) ns) :
    Calls Try.prog 83 #[.slice a n c, .int .i64 x] w fun e w' => e = .returned (.bool r) ∧ w = w' := by
  go_enter Try.func83, Try.ntmps83
  go_wp2_with fail
  refine (iindex_any a n c ns x r hr _ hn h).mono ?_
  rintro e _ ⟨q, rfl, hq, rfl⟩
  go_wp2
  go_ret
  exact ⟨rfl, rfl⟩
end Go.Proofs.Ytohfbahfnbganaa
