/-
  Single, the program's and the specification's. No statement is proved here.
-/
import Derived.Test.YtjlocbimkfocnaaSStOk
import Derived.Test.YtjlocbimkfocnaaIStOk
import Derived.Test.YtjlocbimkfocnaaStA
import Derived.Test.YtjlocbimkfocnaaApp2
namespace Go.Proofs.Ytjlocbimkfocnaa
open Go.RowKit

def sgl (ok : Bool) (id : Int) (e : Key) : List Itm := match ok with
  | true => [(id, e)]
  | false => []

/-- A slice literal of one item, in a block of its own. -/
theorem own_one {w : World} {g base : Nat} (id : Int) (e : Key) (hb : base ≤ g) (h : w.heap[g]? = some (.cells #[.int .i64 id, .int .i64 e.1, .int .i64 e.2.1, .int .i64 e.2.2.1, .int .i64 e.2.2.2.1, .string e.2.2.2.2] 64 (0, 0))) : OwI base w (.slice (some ⟨g, 0, none⟩) 1 1) [(id, e)] :=
  ⟨rfl, .inr ⟨g, 1, _, rfl, hb, h, Nat.le_refl _, by unfold maxLen; simp, rfl, rfl⟩⟩
theorem own_nil (w : World) (base : Nat) : OwI base w (.slice none 0 0) [] := World.ownsRow_nil w base _ _

set_option maxHeartbeats 2000000 in
theorem ssingle_any (id : Int) (e : Key) (ok : Bool) (h0 : Hid (okS [(id, e)] [] = ok)) (n : Nat) (hn : Hid ((sgl ok id e).length = n)) (w : World) :
    Calls Try.prog 103 #[.int .i64 id, .agg #[.int .i64 e.1, .int .i64 e.2.1, .int .i64 e.2.2.1, .int .i64 e.2.2.2.1, .string e.2.2.2.2]] w fun r w' => ∃ a c, r = .returned (.tuple #[.agg #[.slice a n c, .slice none 0 0], .bool ok]) ∧ OwI w.heap.size w' (.slice a n c) (sgl ok id e) ∧ Below w.heap.size w w' := by
  go_enter Try.func103, Try.ntmps103
  go_wp2_with fail
  obtain ⟨m1, m2, m3⟩ := new4 w (.cells #[.int .i64 e.1, .int .i64 e.2.1, .int .i64 e.2.2.1, .int .i64 e.2.2.2.1, .string e.2.2.2.2] 62) (.cells #[.slice none 0 0, .slice none 0 0] 27) (.cells #[.int .i64 id, .int .i64 e.1, .int .i64 e.2.1, .int .i64 e.2.2.1, .int .i64 e.2.2.2.1, .string e.2.2.2.2] 64) (.cells #[.slice (some ⟨w.heap.size + 1 + 1, 0, none⟩) 1 1, .slice none 0 0] 27)
  have hR := (own_one (base := 0) id e (Nat.zero_le _) m2).rw encI_len
  refine (sstateok_any (some ⟨w.heap.size + 1 + 1, 0, none⟩) 1 1 [(id, e)] none 0 0 [] ok h0 _ (by omega) (by omega) hR Rw.nil).mono ?_
  rintro r w1 ⟨rfl, b1⟩
  have hz1 : w.heap.size + 3 < w1.heap.size := by have := b1.size; simp at this; omega
  obtain ⟨p0, p1, p2⟩ := blk_cells2 ((b1.block _ (by simp)).trans m1)
  obtain ⟨q0, q1, q2⟩ := blk_cells2 ((b1.block _ (by simp)).trans m3)
  have M2 := hide ((b1.block _ (by simp)).trans m2)
  have HB := hide ((((((Below.refl w.heap.size w).alloc (Nat.le_refl _) _).alloc (by simp) _).alloc (by simp; omega) _).alloc (by simp; omega) _).trans (b1.mono (by simp; omega)))
  clear m1 m2 m3 b1 hR
  cases ok
  · obtain rfl := unhide hn
    go_wp2
    exact bodyPost_ret (v := .tuple #[.agg #[.slice none 0 0, .slice none 0 0], .bool false]) (by simp [results, Try.results103, go_sem, p0, p1]) rfl ⟨none, 0, rfl, own_nil _ _, ((unhide HB).setCell (p := ⟨w.heap.size + 1, 0, none⟩) (by simp) _).setCell (p := ⟨w.heap.size + 1, 1, none⟩) (by simp) _⟩
  · obtain rfl := unhide hn
    go_wp2
    exact bodyPost_ret (v := .tuple #[.agg #[.slice (some ⟨w.heap.size + 1 + 1, 0, none⟩) 1 1, .slice none 0 0], .bool true]) (by simp [results, Try.results103, go_sem, p0, p1]) rfl ⟨some ⟨w.heap.size + 1 + 1, 0, none⟩, 1, rfl, (own_one (base := w.heap.size) id e (by omega) (by rw [heap_setCell_other _ _ _ _ (by show w.heap.size + 1 + 1 ≠ w.heap.size + 1; omega), heap_setCell_other _ _ _ _ (by show w.heap.size + 1 + 1 ≠ w.heap.size + 1; omega)]; exact unhide M2)), ((unhide HB).setCell (p := ⟨w.heap.size + 1, 0, none⟩) (by simp) _).setCell (p := ⟨w.heap.size + 1, 1, none⟩) (by simp) _⟩

end Go.Proofs.Ytjlocbimkfocnaa
