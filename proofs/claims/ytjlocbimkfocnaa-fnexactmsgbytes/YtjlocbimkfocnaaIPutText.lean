/-
  The program's PutText returns, in memory of its own, the bytes that 'putT' says, and turns nothing that was there. No statement is proved here.
-/
import Derived.Test.YtjlocbimkfocnaaCrcP
import Derived.Test.YtjlocbimkfocnaaIPutNum
namespace Go.Proofs.Ytjlocbimkfocnaa
open Go.RowKit

set_option maxHeartbeats 1000000 in
set_option maxRecDepth 100000 in
theorem iputtext_any (s : ByteArray) (w : World) (hs : s.size ≤ 1048576) :
    Calls Try.prog 26 #[.string s] w fun e w' => ∃ v, e = .returned v ∧ w'.ownsRow w.heap.size 5 1 v (putT (bl s)).length ((putT (bl s)).map (Value.int .u8)) ∧ Below w.heap.size w w' := by
  obtain ⟨i0, hi, hz0, hz1, hz2⟩ := info_parts Try.infoByte
  have hpl := putN_length s.size
  go_enter Try.func26, Try.ntmps26
  go_wp2_with fail
  refine (iputnum_any _ _ (by omega) (by omega)).mono ?_
  rintro e w1 ⟨v1, rfl, o1, b1⟩
  have O1 := hide o1
  have B1 := hide b1
  have hs1 := b1.size
  clear o1 b1
  go_wp2_with (at_builtin; refine Lib.wpList_append_own_string _ rfl _ _ 22 9 rfl w.heap.size 5 i0 Try.underlying22 Try.underlying9 hi hz0 hz1 hz2 _ _ _ rfl (unhide O1) s rfl ?c3 ?c4 ?c5 ?_)
  case c3 => unfold maxLen; omega
  case c4 => omega
  case c5 => omega
  intro v' w2 hown' hgrow _
  have R1 := hide (show w2.ownsRow w.heap.size 5 1 v' (putT (bl s)).length ((putT (bl s)).map (Value.int .u8)) by
    rw [strCells_bl] at hown'
    unfold putT
    rw [List.map_append, List.length_append, bl_length]
    exact hown')
  have R2 := hide ((unhide B1).grown hgrow hs1 (fun k hk => ((unhide O1).lt k hk).1))
  clear hown' hgrow O1 B1
  go_wp2
  go_ret
  exact ⟨_, rfl, R1.out, R2.out⟩

end Go.Proofs.Ytjlocbimkfocnaa
