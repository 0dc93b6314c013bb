/-
  Beneath, and how far one is over: the program's and the specification's. No statement is proved here.
-/
import Derived.Test.YtdpaocikmijioaaGreatDoorVwP
import Derived.Test.YtdpaocikmijioaaGreatDoorSt3
import Derived.Test.YtdpaocikmijioaaGreatDoorIStOk
namespace Go.Proofs.YtdpaocikmijioaaGreatDoor
open Go.RowKit

set_option maxHeartbeats 4000000 in
set_option maxRecDepth 100000 in
theorem igone_any (ai : Option Addr) (ni ci : Nat) (xs : List Itm) (af : Option Addr) (nf cf : Nat) (fs : List Flr) (id r : Int) (hr : Hid (gone xs fs id = r)) (w : World)
    (hni : ni ≤ 140737488351232) (hnf : nf ≤ 140737488351232) (hx : Rw encI 6 w (.slice ai ni ci) xs) (hf : Rw encF 2 w (.slice af nf cf) fs) :
    Calls Tryz.prog 9 #[.agg #[.slice ai ni ci, .slice af nf cf], .int .i64 id] w fun e w' => e = .returned (.int .i64 r) ∧ Below w.heap.size w w' := by
  have HX := hide hx
  have HF := hide hf
  obtain ⟨okA, hA⟩ : ∃ okA, okS xs fs = okA := ⟨_, rfl⟩
  have hE := unhide hr
  rw [gone, hA] at hE
  have HA := hide hA
  have HE := hide hE
  clear hx hf hA hE hr
  go_enter Tryz.func9, Tryz.ntmps9
  go_wp2_with fail
  refine (istateok_any ai ni ci xs af nf cf fs _ HA _ hni hnf ((unhide HX).alloc _) ((unhide HF).alloc _)).mono ?_
  rintro e w1 ⟨rfl, b1⟩
  have HB1 := hide (((Below.refl w.heap.size w).alloc (Nat.le_refl _) _).trans (b1.mono (by simp)))
  have MA := hide ((b1.block _ (by simp)).trans (newB1 w _))
  have hz1 : w.heap.size < w1.heap.size := (Array.getElem?_eq_some_iff.mp (unhide MA)).1
  obtain ⟨q0, q1, -⟩ := blk_cells2 (unhide MA)
  clear b1
  cases okA
  · obtain rfl : (0 : Int) = r := by simpa using unhide HE
    go_wp2
    go_ret
    exact ⟨rfl, unhide HB1⟩
  · have OA := hide ((okS_iff _ _).1 (unhide HA))
    have SM : Sml xs := fun k x hk => by
      have := okE_size ((unhide OA).ix x (List.mem_of_getElem? hk)).2.2.1
      omega
    obtain ⟨x, a, hxa⟩ : ∃ x a, entR xs id = (x, a) := ⟨_, _, rfl⟩
    have HXA := hide hxa
    have HV : Hid ((match (if a then some x else none : Option Key) with
      | none => flo fs id
      | some e => if e.2.1 = 0 then e.1 - 1 else e.1) = r) := hide (by rw [← entR_ent hxa]; exact unhide HE)
    clear hxa HE
    go_wp2_with fail
    refine (ientry_any _ ai ni ci xs SM id x a HXA _ hni ((unhide HX).later (unhide HB1))).mono ?_
    rintro e w2 ⟨rfl, b2⟩
    have HB2 := hide ((unhide HB1).trans (b2.mono (unhide HB1).size))
    have MA2 := hide ((b2.block _ hz1).trans (unhide MA))
    have hz2 : w.heap.size < w2.heap.size := Nat.lt_of_lt_of_le hz1 b2.size
    have s2 := (unhide HB2).size
    clear q0 q1 b2 MA
    obtain ⟨q0, q1, -⟩ := blk_cells2 (unhide MA2)
    cases a
    · have HV' := hide (show flo fs id = r from unhide HV)
      go_wp2_with fail
      refine (ifloor_v _ af nf cf fs id r HV' _ hnf (((unhide HF).later (unhide HB2)).alloc _)).mono ?_
      rintro e w3 ⟨rfl, b3⟩
      have HB3 := hide (((unhide HB2).alloc s2 _).trans (b3.mono (by simp; omega)))
      clear b3
      go_wp2
      go_ret
      exact ⟨rfl, unhide HB3⟩
    · replace HV := hide (show (if x.2.1 = 0 then x.1 - 1 else x.1) = r from unhide HV)
      have he := (unhide OA).ent_in (entR_ent (unhide HXA))
      have hi := okE_inc he.2.2.1
      have hk := okE_rank he.2.2.1
      clear he
      obtain ⟨i1, i2⟩ := hi
      rcases Bool.eq_false_or_eq_true (x.2.1 == 1) with hu | hu
      · have hu' : x.2.1 = 1 := by simpa using hu
        obtain rfl : x.1 = r := by rw [← unhide HV, if_neg (by omega)]
        clear hk hu' HV
        go_wp2
        go_ret
        exact ⟨ret_int (by go_num), (unhide HB2).alloc s2 _⟩
      · have hu' : x.2.1 ≠ 1 := by simpa using hu
        obtain rfl : x.1 - 1 = r := by rw [← unhide HV, if_pos (by omega)]
        clear hk hu' HV
        go_wp2
        go_ret
        exact ⟨ret_int (by go_num), (unhide HB2).alloc s2 _⟩
end Go.Proofs.YtdpaocikmijioaaGreatDoor
