/-
  The program's PutNum returns, in memory of its own, the bytes that 'putN' says, and turns nothing that was there. No statement is proved here.
  The program's PutText returns, in memory of its own, the bytes that 'putT' says, and turns nothing that was there. No statement is proved here.
-/
import Derived.Test.YtjlocbimkfocnaaCrcP
namespace Go.Proofs.Ytjlocbimkfocnaa
open Go.RowKit

set_option maxHeartbeats 1000000 in
set_option maxRecDepth 100000 in
theorem iputnum_any (n : Int) (w : World) (h1 : -9223372036854775808 ≤ n) (h2 : n ≤ 9223372036854775807) :
    Calls Try.prog 71 #[.int .i64 n] w fun e w' => ∃ v, e = .returned v ∧ w'.ownsRow w.heap.size 5 1 v (putN n).length ((putN n).map (Value.int .u8)) ∧ Below w.heap.size w w' := by
  obtain ⟨i0, hi, hz0, hz1, hz2⟩ := info_parts Try.infoByte
  by_cases hb : 0 ≤ n ∧ n ≤ 2147483647
  · have hd1 : decide (n < 0) = false := by simp; omega
    have hd2 : decide (2147483647 < n) = false := by simp; omega
    have HP := hide (show putN n = putf 4 n.toNat by simp [putN, hb])
    obtain ⟨hn0, hn1⟩ := hb
    go_enter Try.func71, Try.ntmps71
    go_wp2
    go_loopw [0, 3] (fun x v wr => ∃ (j m : Nat) (ys : List Int), j ≤ 4 ∧ x = .int .i64 m ∧ ys.length = j ∧ ys ++ putf (4 - j) m = putf 4 n.toNat ∧ m < 128 ^ (5 - j) ∧ wr.ownsRow w.heap.size 5 1 v j (ys.map (Value.int .u8)) ∧ Below w.heap.size w wr) (fun x _ _ => (intOf x).toNat)
    case atStart => exact ⟨0, n.toNat, [], by omega, by go_num, rfl, by simp, by omega, by simpa using World.ownsRow_nil _ _ _ _, Below.refl _ _⟩
    case round =>
      obtain ⟨j, m, ys, hj, rfl, hyl, hys, hm, hown, hbel⟩ := hrel
      have hmm := pow_le j m hm
      have hsz := hbel.size
      have HY := hide hys
      have HM := hide hm
      have HL := hide hyl
      have HB := hide hbel
      have HO := hide hown
      clear hys hm hyl hbel hown
      by_cases hlt : 128 ≤ m
      · have hj4 := step_lt j m hj (unhide HM) hlt
        go_wp2_with (first
          | (at_builtin; refine wpList_append_own _ rfl _ _ 22 rfl w.heap.size 5 i0 (.int .u8 0) 1 1 Try.underlying22 hi hz0 hz1 hz2 rfl (by decide) _ _ _ rfl ((unhide HO).alloc _) ⟨wr.heap.size, 0, none⟩ 1 1 [.int .u8 ((m : Int) % 128 + 128)] rfl rfl ?c1a ?c2a ?c3a ?c4a ?c5a ?_))
        case c1a =>
          intro j u hj
          match j, hj with
          | 0, hj => simp at hj; subst hj; simp [Addr.add]
        case c2a => intro u hu; simp at hu; subst hu; rfl
        case c3a => unfold maxLen; omega
        case c4a => omega
        case c5a => simp; omega
        intro v' w1 hown' hgrow _
        have R := own_step (unhide HO) (unhide HB) hsz hown' hgrow
        have R1 := hide R.1
        have R2 := hide R.2
        clear R hown' hgrow HO HB
        go_wp2
        go_roundw
        case rel => exact ⟨j + 1, m / 128, ys ++ [(m : Int) % 128 + 128], by omega, by go_num, by simp [unhide HL], step_put j m ys _ hj4 hlt (unhide HY), step_pow j m hj4 (unhide HM), R1.out, R2.out⟩
        case measure => simp [intOf]; omega
      · go_wp2_with (first
          | (at_builtin; refine wpList_append_own _ rfl _ _ 22 rfl w.heap.size 5 i0 (.int .u8 0) 1 1 Try.underlying22 hi hz0 hz1 hz2 rfl (by decide) _ _ _ rfl ((unhide HO).alloc _) ⟨wr.heap.size, 0, none⟩ 1 1 [.int .u8 ((m : Int))] rfl rfl ?c1b ?c2b ?c3b ?c4b ?c5b ?_))
        case c1b =>
          intro j u hj
          match j, hj with
          | 0, hj => simp at hj; subst hj; simp [Addr.add]
        case c2b => intro u hu; simp at hu; subst hu; rfl
        case c3b => unfold maxLen; omega
        case c4b => omega
        case c5b => simp; omega
        intro v' w1 hown' hgrow _
        have R := own_step (unhide HO) (unhide HB) hsz hown' hgrow
        have R1 := hide R.1
        have R2 := hide R.2
        clear R hown' hgrow HO HB
        go_wp2
        go_ret
        have e : putN n = ys ++ [(m : Int)] := by
          rw [unhide HP, ← unhide HY, putf_small _ _ (by omega)]
        rw [e]
        exact ⟨_, rfl, by have := R1.out; simpa [unhide HL] using this, R2.out⟩
  · have e : putN n = [] := by simp [putN, hb]
    rw [e]
    by_cases hneg : n < 0
    · go_enter Try.func71, Try.ntmps71
      go_wp2
      go_ret
      exact ⟨_, rfl, World.ownsRow_nil _ _ _ _, Below.refl _ _⟩
    · have hbig : 2147483647 < n := by omega
      clear hb e
      go_enter Try.func71, Try.ntmps71
      go_wp2
      go_ret
      exact ⟨_, rfl, World.ownsRow_nil _ _ _ _, Below.refl _ _⟩

end Go.Proofs.Ytjlocbimkfocnaa

namespace Go.Proofs.Ytjlocbimkfocnaa
open Go.RowKit

set_option maxHeartbeats 1000000 in
set_option maxRecDepth 100000 in
theorem iputtext_any (s : ByteArray) (w : World) (hs : s.size ≤ 1048576) :
    Calls Try.prog 26 #[.string s] w fun e w' => ∃ v, e = .returned v ∧ w'.ownsRow w.heap.size 5 1 v (putT (bl s)).length ((putT (bl s)).map (Value.int .u8)) ∧ Below w.heap.size w w' := by
  obtain ⟨i0, hi, hz0, hz1, hz2⟩ := info_parts Try.infoByte
  have hpl := putN_length s.size
  go_enter Try.func26, Try.ntmps26
  go_wp2_with fail
  refine (iputnum_any _ _ (by omega) (by omega)).mono ?_
  rintro e w1 ⟨v1, rfl, o1, b1⟩
  have O1 := hide o1
  have B1 := hide b1
  have hs1 := b1.size
  clear o1 b1
  go_wp2_with (at_builtin; refine Lib.wpList_append_own_string _ rfl _ _ 22 9 rfl w.heap.size 5 i0 Try.underlying22 Try.underlying9 hi hz0 hz1 hz2 _ _ _ rfl (unhide O1) s rfl ?c3 ?c4 ?c5 ?_)
  case c3 => unfold maxLen; omega
  case c4 => omega
  case c5 => omega
  intro v' w2 hown' hgrow _
  have R1 := hide (show w2.ownsRow w.heap.size 5 1 v' (putT (bl s)).length ((putT (bl s)).map (Value.int .u8)) by
    rw [strCells_bl] at hown'
    unfold putT
    rw [List.map_append, List.length_append, bl_length]
    exact hown')
  have R2 := hide ((unhide B1).grown hgrow hs1 (fun k hk => ((unhide O1).lt k hk).1))
  clear hown' hgrow O1 B1
  go_wp2
  go_ret
  exact ⟨_, rfl, R1.out, R2.out⟩

end Go.Proofs.Ytjlocbimkfocnaa
