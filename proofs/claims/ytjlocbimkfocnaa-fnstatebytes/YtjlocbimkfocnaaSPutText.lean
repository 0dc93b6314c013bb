/-
  The specification's PutNum returns, in memory of its own, the bytes that 'putN' says, and turns nothing that was there. No statement is proved here.
  The specification's PutText returns, in memory of its own, the bytes that 'putT' says, and turns nothing that was there. No statement is proved here.
-/
import Derived.Test.YtjlocbimkfocnaaCrcP
namespace Go.Proofs.Ytjlocbimkfocnaa
open Go.RowKit

theorem l1in_any (x lo hi : Int) (w : World) :
    Calls Try.prog 32 #[.int .i64 x, .int .i64 lo, .int .i64 hi] w fun e w' => e = .returned (.bool (decide (lo ≤ x ∧ x ≤ hi))) ∧ w = w' := by
  by_cases h : lo ≤ x
  · have hd : decide (lo ≤ x) = true := by simpa using h
    go_enter Try.func32, Try.ntmps32
    go_wp2
    go_ret
    exact ⟨by simp [h], rfl⟩
  · have hd : decide (lo ≤ x) = false := by simpa using h
    go_enter Try.func32, Try.ntmps32
    go_wp2
    go_ret
    exact ⟨by simp, rfl⟩
set_option maxHeartbeats 1000000 in
set_option maxRecDepth 100000 in
theorem sputnum_any (n : Int) (w : World) (h1 : -9223372036854775808 ≤ n) (h2 : n ≤ 9223372036854775807) :
    Calls Try.prog 77 #[.int .i64 n] w fun e w' => ∃ v, e = .returned v ∧ w'.ownsRow w.heap.size 5 1 v (putN n).length ((putN n).map (Value.int .u8)) ∧ Below w.heap.size w w' := by
  obtain ⟨i0, hi, hz0, hz1, hz2⟩ := info_parts Try.infoByte
  by_cases hb : 0 ≤ n ∧ n ≤ 2147483647
  · have hd3 : decide (0 ≤ n ∧ n ≤ 2147483647) = true := by simp; omega
    have HP := hide (show putN n = putf 4 n.toNat by simp [putN, hb])
    obtain ⟨hn0, hn1⟩ := hb
    go_enter Try.func77, Try.ntmps77
    go_wp2_with (first | (go_at_call 32; refine (l1in_any _ _ _ _).mono ?_; rintro e _ ⟨rfl, rfl⟩; rw [hd3]))
    go_loopw [0, 3] (fun x v wr => ∃ (j m : Nat) (ys : List Int), j ≤ 4 ∧ x = .int .i64 m ∧ ys.length = j ∧ ys ++ putf (4 - j) m = putf 4 n.toNat ∧ m < 128 ^ (5 - j) ∧ wr.ownsRow w.heap.size 5 1 v j (ys.map (Value.int .u8)) ∧ Below w.heap.size w wr) (fun x _ _ => (intOf x).toNat)
    case atStart => exact ⟨0, n.toNat, [], by omega, by go_num, rfl, by simp, by omega, by simpa using World.ownsRow_made _ #[] 0 (Nat.le_refl _) (by simp [maxLen]) rfl, (Below.refl _ _).alloc (Nat.le_refl _) _⟩
    case round =>
      obtain ⟨j, m, ys, hj, rfl, hyl, hys, hm, hown, hbel⟩ := hrel
      have hmm := pow_le j m hm
      have hsz := hbel.size
      have HY := hide hys
      have HM := hide hm
      have HL := hide hyl
      have HB := hide hbel
      have HO := hide hown
      clear hys hm hyl hbel hown
      by_cases hlt : 128 ≤ m
      · have hj4 := step_lt j m hj (unhide HM) hlt
        go_wp2_with (first
          | (at_builtin; refine wpList_append_own _ rfl _ _ 22 rfl w.heap.size 5 i0 (.int .u8 0) 1 1 Try.underlying22 hi hz0 hz1 hz2 rfl (by decide) _ _ _ rfl ((unhide HO).alloc _) ⟨wr.heap.size, 0, none⟩ 1 1 [.int .u8 ((m : Int) % 128 + 128)] rfl rfl ?c1a ?c2a ?c3a ?c4a ?c5a ?_))
        case c1a =>
          intro j u hj
          match j, hj with
          | 0, hj => simp at hj; subst hj; simp [Addr.add]
        case c2a => intro u hu; simp at hu; subst hu; rfl
        case c3a => unfold maxLen; omega
        case c4a => omega
        case c5a => simp; omega
        intro v' w1 hown' hgrow _
        have R := own_step (unhide HO) (unhide HB) hsz hown' hgrow
        have R1 := hide R.1
        have R2 := hide R.2
        clear R hown' hgrow HO HB
        go_wp2
        go_roundw
        case rel => exact ⟨j + 1, m / 128, ys ++ [(m : Int) % 128 + 128], by omega, by go_num, by simp [unhide HL], step_put j m ys _ hj4 hlt (unhide HY), step_pow j m hj4 (unhide HM), R1.out, R2.out⟩
        case measure => simp [intOf]; omega
      · go_wp2_with (first
          | (at_builtin; refine wpList_append_own _ rfl _ _ 22 rfl w.heap.size 5 i0 (.int .u8 0) 1 1 Try.underlying22 hi hz0 hz1 hz2 rfl (by decide) _ _ _ rfl ((unhide HO).alloc _) ⟨wr.heap.size, 0, none⟩ 1 1 [.int .u8 ((m : Int))] rfl rfl ?c1b ?c2b ?c3b ?c4b ?c5b ?_))
        case c1b =>
          intro j u hj
          match j, hj with
          | 0, hj => simp at hj; subst hj; simp [Addr.add]
        case c2b => intro u hu; simp at hu; subst hu; rfl
        case c3b => unfold maxLen; omega
        case c4b => omega
        case c5b => simp; omega
        intro v' w1 hown' hgrow _
        have R := own_step (unhide HO) (unhide HB) hsz hown' hgrow
        have R1 := hide R.1
        have R2 := hide R.2
        clear R hown' hgrow HO HB
        go_wp2
        go_ret
        have e : putN n = ys ++ [(m : Int)] := by
          rw [unhide HP, ← unhide HY, putf_small _ _ (by omega)]
        rw [e]
        exact ⟨_, rfl, by have := R1.out; simpa [unhide HL] using this, R2.out⟩
  · have e : putN n = [] := by simp [putN, hb]
    rw [e]
    by_cases hneg : n < 0
    · go_enter Try.func77, Try.ntmps77
      go_wp2
      go_ret
      exact ⟨_, rfl, World.ownsRow_made _ #[] 0 (Nat.le_refl _) (by simp [maxLen]) rfl, (Below.refl _ _).alloc (Nat.le_refl _) _⟩
    · have hbig : 2147483647 < n := by omega
      clear hb e
      have hd1 : decide (0 ≤ n) = true := by simp; omega
      have hd2 : decide (n ≤ 2147483647) = false := by simp; omega
      go_enter Try.func77, Try.ntmps77
      go_wp2
      go_ret
      exact ⟨_, rfl, World.ownsRow_made _ #[] 0 (Nat.le_refl _) (by simp [maxLen]) rfl, (Below.refl _ _).alloc (Nat.le_refl _) _⟩
end Go.Proofs.Ytjlocbimkfocnaa

namespace Go.Proofs.Ytjlocbimkfocnaa
open Go.RowKit

set_option maxHeartbeats 1000000 in
set_option maxRecDepth 100000 in
theorem sputtext_any (s : ByteArray) (w : World) (hs : s.size ≤ 1048576) :
    Calls Try.prog 78 #[.string s] w fun e w' => ∃ v, e = .returned v ∧ w'.ownsRow w.heap.size 5 1 v (putT (bl s)).length ((putT (bl s)).map (Value.int .u8)) ∧ Below w.heap.size w w' := by
  obtain ⟨i0, hi, hz0, hz1, hz2⟩ := info_parts Try.infoByte
  have hpl := putN_length s.size
  have hcv : ∀ wx, (convert 9 22 (.string s)).run Try.prog wx = .ok (.slice (some ⟨wx.heap.size, 0, none⟩) s.size (grownCap wx s.size 0 5)) (Lib.bytesWorld wx 5 s) := fun wx =>
    Lib.run_convert_string_bytes wx 9 22 5 s Try.underlying9 Try.underlying22 Try.underlying5
  go_enter Try.func78, Try.ntmps78
  go_wp2_with fail
  refine (sputnum_any _ _ (by omega) (by omega)).mono ?_
  rintro e w1 ⟨v1, rfl, o1, b1⟩
  have O1 := hide (owns_later o1 (below_bytesWorld w1 5 s) (Nat.le_refl _))
  have hs1 := b1.size
  have B1 := hide (b1.trans ((below_bytesWorld w1 5 s).mono hs1))
  have hs2 := Lib.bytesWorld_size w1 5 s
  have HZ := hide hs2
  clear o1 b1 hs2
  go_wp2_with (at_builtin; refine wpList_append_own _ rfl _ _ 22 rfl w.heap.size 5 i0 (.int .u8 0) 1 1 Try.underlying22 hi hz0 hz1 hz2 rfl (by decide) _ _ _ rfl (unhide O1) ⟨w1.heap.size, 0, none⟩ _ _ ((bl s).map (Value.int .u8)) rfl ?c0 ?c1 ?c2 ?c3 ?c4 ?c5 ?_)
  case c0 => rw [List.length_map, bl_length]; omega
  case c1 =>
    intro j u hj
    have hlt : j < s.size := by
      have := (List.getElem?_eq_some_iff.1 hj).1
      rwa [List.length_map, bl_length] at this
    have e : (⟨w1.heap.size, 0, none⟩ : Addr).add j = ⟨w1.heap.size, j, none⟩ := by
      unfold Addr.add
      by_cases h0 : j = 0
      · subst h0; rfl
      · rw [if_neg h0]; simp
    rw [e, Lib.bytesWorld_cell w1 5 s j hlt, ← hj]
    unfold bl
    have hlt' : j < s.data.toList.length := hlt
    rw [List.getElem?_map, List.getElem?_map, List.getD_eq_getElem?_getD, List.getElem?_eq_getElem hlt']
    rfl
  case c2 => exact ints_oneCell _ _
  case c3 => unfold maxLen; omega
  case c4 => omega
  case c5 => rw [unhide HZ]; omega
  intro v' w2 hown' hgrow _
  have R1 := hide (show w2.ownsRow w.heap.size 5 1 v' (putT (bl s)).length ((putT (bl s)).map (Value.int .u8)) by
    unfold putT
    rw [List.map_append, List.length_append, bl_length]
    exact hown')
  have R2 := hide ((unhide B1).grown hgrow (by rw [unhide HZ]; omega) (fun k hk => ((unhide O1).lt k hk).1))
  clear hown' hgrow O1 B1
  go_wp2
  go_ret
  exact ⟨_, rfl, R1.out, R2.out⟩
end Go.Proofs.Ytjlocbimkfocnaa
