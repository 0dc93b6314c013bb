/-
  StateText of the specification. No statement is proved here.
-/
import Derived.Test.YtighiahppjekeaaGreatDoorStTxP
import Derived.Test.YtighiahppjekeaaGreatDoorApp2
namespace Go.Proofs.YtighiahppjekeaaGreatDoor
open Go.RowKit

theorem sep_ways (s : ByteArray) : (s.toList.isEmpty = true ∧ sep s = s) ∨ (s.toList.isEmpty = false ∧ sep s = s ++ ⟨#[32]⟩) := by
  have e : ∀ s : ByteArray, s.toList = s.data.toList := Lib.toList_data
  by_cases h : s.size = 0
  · have hd : s.data.toList = [] := List.eq_nil_of_length_eq_zero h
    exact .inl ⟨by rw [e, hd]; rfl, by rw [sep, if_pos h]⟩
  · have hd : s.data.toList ≠ [] := fun q => h (by show s.data.size = 0; rw [← Array.length_toList, q]; rfl)
    exact .inr ⟨by rw [e]; simpa using hd, by rw [sep, if_neg h]⟩

theorem addI {P : Program} (t : ByteArray) (x : Itm) (ht : t.size ≤ 4398046511104) (hx : x.2.2.2.2.2.size ≤ 1048576) :
    (∀ W : World, (Op.stringOp .add t (strOfNums (digs x.1))).run P W = .ok (.string (t ++ strOfNums (digs x.1))) W) ∧ (∀ W : World, (Op.stringOp .add (t ++ strOfNums (digs x.1)) ⟨#[61]⟩).run P W = .ok (.string (t ++ strOfNums (digs x.1) ++ ⟨#[61]⟩)) W) ∧
      (∀ W : World, (Op.stringOp .add (t ++ strOfNums (digs x.1) ++ ⟨#[61]⟩) (textE x.2.1 x.2.2.1 x.2.2.2.1 x.2.2.2.2.1 x.2.2.2.2.2)).run P W = .ok (.string (t ++ strOfNums (digs x.1) ++ ⟨#[61]⟩ ++ textE x.2.1 x.2.2.1 x.2.2.2.1 x.2.2.2.2.1 x.2.2.2.2.2)) W) := by
  have e1 : (⟨#[61]⟩ : ByteArray).size = 1 := rfl
  have e2 := digs_size x.1
  have e3 := textE_size x.2.1 x.2.2.1 x.2.2.2.1 x.2.2.2.2.1 x.2.2.2.2.2
  refine ⟨?_, ?_, ?_⟩
  all_goals
    intro W
    exact run_string_add_sum W _ _ (by (try simp only [ByteArray.size_append]); omega)
theorem addF {P : Program} (t : ByteArray) (x : Flr) (ht : t.size ≤ 4398046511104) :
    (∀ W : World, (Op.stringOp .add t ⟨#[45]⟩).run P W = .ok (.string (t ++ ⟨#[45]⟩)) W) ∧ (∀ W : World, (Op.stringOp .add (t ++ ⟨#[45]⟩) (strOfNums (digs x.1))).run P W = .ok (.string (t ++ ⟨#[45]⟩ ++ strOfNums (digs x.1))) W) ∧
      (∀ W : World, (Op.stringOp .add (t ++ ⟨#[45]⟩ ++ strOfNums (digs x.1)) ⟨#[60]⟩).run P W = .ok (.string (t ++ ⟨#[45]⟩ ++ strOfNums (digs x.1) ++ ⟨#[60]⟩)) W) ∧
      (∀ W : World, (Op.stringOp .add (t ++ ⟨#[45]⟩ ++ strOfNums (digs x.1) ++ ⟨#[60]⟩) (strOfNums (digs x.2))).run P W = .ok (.string (t ++ ⟨#[45]⟩ ++ strOfNums (digs x.1) ++ ⟨#[60]⟩ ++ strOfNums (digs x.2))) W) := by
  have e1 : (⟨#[45]⟩ : ByteArray).size = 1 := rfl
  have e4 : (⟨#[60]⟩ : ByteArray).size = 1 := rfl
  have e2 := digs_size x.1
  have e3 := digs_size x.2
  refine ⟨?_, ?_, ?_, ?_⟩
  all_goals
    intro W
    exact run_string_add_sum W _ _ (by (try simp only [ByteArray.size_append]); omega)
theorem catI (t : ByteArray) (x : Itm) : t ++ strOfNums (digs x.1) ++ ⟨#[61]⟩ ++ textE x.2.1 x.2.2.1 x.2.2.2.1 x.2.2.2.2.1 x.2.2.2.2.2 = t ++ wI x := by
  unfold wI; rw [ByteArray.append_assoc, ByteArray.append_assoc, ByteArray.append_assoc]
theorem catF (t : ByteArray) (x : Flr) : t ++ ⟨#[45]⟩ ++ strOfNums (digs x.1) ++ ⟨#[60]⟩ ++ strOfNums (digs x.2) = t ++ wF x := by
  unfold wF; rw [ByteArray.append_assoc, ByteArray.append_assoc, ByteArray.append_assoc, ByteArray.append_assoc, ByteArray.append_assoc]

end Go.Proofs.YtighiahppjekeaaGreatDoor
