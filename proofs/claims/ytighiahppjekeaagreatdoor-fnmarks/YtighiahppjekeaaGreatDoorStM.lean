/-
  Rows that are marked part by part; what is written into one block, one behind the other. No program here, no statement is proved here.
  What the laws do with a state: its size is taken off, it is turned into the program's own, two are compared. No statement is proved here.
  The laws' 'toState': a state's own copy. No statement is proved here.
  What a call turns: blocks of which some word holds, and no other. No program here, no statement is proved here.
  The laws' 'markState' and 'heldState': what is marked is held. No statement is proved here.
-/
import Derived.Test.YtighiahppjekeaaGreatDoorApp2
import Derived.Test.YtighiahppjekeaaGreatDoorEntP
import Derived.WalkLawsBesides
import Derived.BigQuiet
import Derived.Deep.QuietTactic
import Derived.Deep.RegionWith
namespace Go.Proofs.YtighiahppjekeaaGreatDoor
open Go.RowKit

theorem encF_len (x : Flr) : (encF x).length = 2 := rfl
def mkF (k : Int) : Flr := (k, k + 1)
def mkFs (k : Int) (n : Nat) : List Flr := (List.range n).map fun i : Nat => mkF (k + 2 * (i : Int))
theorem mkFs_len (k : Int) (n : Nat) : (mkFs k n).length = n := by simp [mkFs]
theorem mkFs_at (k : Int) (n i : Nat) (h : i < n) : (mkFs k n)[i]? = some (mkF (k + 2 * (i : Int))) := by simp [mkFs, h]
/-- The first i marked, the rest as it was. -/
theorem part_set {α : Type} (ms xs : List α) (n i : Nat) (x : α) (hm : ms.length = n) (hx : xs.length = n) (hi : i < n) (h : ms[i]? = some x) : (ms.take i ++ xs.drop i).set i x = ms.take (i + 1) ++ xs.drop (i + 1) := by
  apply List.ext_getElem?
  intro j
  rw [List.getElem?_set]
  simp only [List.length_append, List.length_take, List.length_drop, List.getElem?_append, List.getElem?_take, List.getElem?_drop]
  have h1 : min i ms.length = i := by omega
  have h2 : min (i + 1) ms.length = i + 1 := by omega
  rw [h1, h2]
  by_cases e : i = j
  · subst e
    rw [if_pos rfl, if_pos (by omega), if_pos (by omega), if_pos (by omega), h]
  · rw [if_neg e]
    by_cases h3 : j < i
    · rw [if_pos h3, if_pos h3, if_pos (by omega), if_pos (by omega)]
    · rw [if_neg h3, if_neg (by omega)]
      congr 1; omega
theorem part_len {α : Type} (ms xs : List α) (n i : Nat) (hm : ms.length = n) (hx : xs.length = n) (hi : i ≤ n) : (ms.take i ++ xs.drop i).length = n := by simp; omega

theorem grown_trans2 {w w1 w2 : World} {row : Option Nat} (h1 : w.grownBy w1 row) (h2 : w1.grownBy w2 row) : w.grownBy w2 row :=
  ⟨h2.os.trans h1.os, h2.tape.trans h1.tape, h2.output.trans h1.output, Nat.le_trans h1.size h2.size, fun i hi hne => (h2.block i (Nat.lt_of_lt_of_le hi h1.size) hne).trans (h1.block i hi hne)⟩
theorem grown_refl (w : World) (row : Option Nat) : w.grownBy w row := ⟨rfl, rfl, rfl, Nat.le_refl _, fun _ _ _ => rfl⟩
theorem grown_below {w w' : World} (row : Option Nat) (h : Below w.heap.size w w') : w.grownBy w' row := ⟨h.os, h.tape, h.output, h.size, fun i hi _ => h.block i hi⟩

end Go.Proofs.YtighiahppjekeaaGreatDoor

namespace Go.Proofs.YtighiahppjekeaaGreatDoor
open Go.RowKit

/-- Each text is one of this machine. -/
def Big (xs : List Itm) : Prop := ∀ (k : Nat) (x : Itm), xs[k]? = some x → x.2.2.2.2.2.size ≤ maxLen
theorem encI_len (x : Itm) : (encI x).length = 6 := rfl
abbrev OwI (base : Nat) (w : World) (v : Value) (xs : List Itm) : Prop := Ow encI 6 62 base w v xs
abbrev OwF (base : Nat) (w : World) (v : Value) (fs : List Flr) : Prop := Ow encF 2 59 base w v fs

end Go.Proofs.YtighiahppjekeaaGreatDoor

namespace Go.Proofs.YtighiahppjekeaaGreatDoor
open Go.RowKit

theorem Tryz.infoItem : (Tryz.prog.info? 62).map (fun i => (i.zero, i.size, i.bytes)) = some (some (.agg #[.int .i64 0, .int .i64 0, .int .i64 0, .int .i64 0, .int .i64 0, .string ⟨#[]⟩]), 6, 56) := by kernel_rfl
theorem Tryz.infoFloor : (Tryz.prog.info? 59).map (fun i => (i.zero, i.size, i.bytes)) = some (some (.agg #[.int .i64 0, .int .i64 0]), 2, 16) := by kernel_rfl
def zeroI : Itm := (0, zeroK)
def zeroF : Flr := (0, 0)

end Go.Proofs.YtighiahppjekeaaGreatDoor

namespace Go.Proofs.YtighiahppjekeaaGreatDoor
open Go.RowKit

/-- Nothing of w has turned but in blocks of which S holds. -/
structure Trn (S : Nat → Prop) (w w' : World) : Prop where
  os : w'.os = w.os
  tape : w'.tape = w.tape
  output : w'.output = w.output
  size : w.heap.size ≤ w'.heap.size
  block : ∀ i, i < w.heap.size → ¬ S i → w'.heap[i]? = w.heap[i]?
theorem Trn.trans {S : Nat → Prop} {a b c : World} (h : Trn S a b) (k : Trn S b c) : Trn S a c :=
  ⟨k.os.trans h.os, k.tape.trans h.tape, k.output.trans h.output, Nat.le_trans h.size k.size, fun i hi hs => (k.block i (Nat.lt_of_lt_of_le hi h.size) hs).trans (h.block i hi hs)⟩
theorem Trn.mono {S T : Nat → Prop} {a b : World} (h : Trn S a b) (hs : ∀ i, S i → T i) : Trn T a b := ⟨h.os, h.tape, h.output, h.size, fun i hi hn => h.block i hi (fun q => hn (hs i q))⟩
theorem Trn.of_below {S : Nat → Prop} {w w' : World} (h : Below w.heap.size w w') : Trn S w w' := ⟨h.os, h.tape, h.output, h.size, fun i hi _ => h.block i hi⟩
theorem Trn.of_grown {row : Option Nat} {w w' : World} (h : w.grownBy w' row) : Trn (fun i => row = some i) w w' := ⟨h.os, h.tape, h.output, h.size, fun i hi hn => h.block i hi (fun e => hn e.symm)⟩
theorem Trn.below {S : Nat → Prop} {w0 w w' : World} {B : Nat} (hb : Below B w0 w) (h : Trn S w w') (hB : B ≤ w.heap.size) (hs : ∀ i, S i → B ≤ i) : Below B w0 w' :=
  ⟨h.os.trans hb.os, h.tape.trans hb.tape, h.output.trans hb.output, Nat.le_trans hb.size h.size, fun i hi => (h.block i (by omega) (fun q => by have := hs i q; omega)).trans (hb.block i hi)⟩
theorem Trn.own {S : Nat → Prop} {w w' : World} (h : Trn S w w') {α : Type} {enc : α → List Value} {k : Nat} {e : TypeId} {base : Nat} {v : Value} {xs : List α} (ho : Ow enc k e base w v xs) (hs : ∀ i, v.ownBlock = some i → ¬ S i) : Ow enc k e base w' v xs := by
  refine ⟨ho.1, ?_⟩
  rcases ho.2 with hn | ⟨g, cap, cur, rfl, hg, hh, r⟩
  · exact .inl hn
  · exact .inr ⟨g, cap, cur, rfl, hg, by rw [h.block g (Array.getElem?_eq_some_iff.1 hh).1 (hs g rfl)]; exact hh, r⟩

theorem Trn.kept {S : Nat → Prop} {w w' : World} (h : Trn S w w') {g : Nat} {o : Obj} (k : Hid (w.heap[g]? = some o ∧ g < w.heap.size)) (hs : ¬ S g) : w'.heap[g]? = some o ∧ g < w'.heap.size := ⟨(h.block _ (unhide k).2 hs).trans (unhide k).1, Nat.lt_of_lt_of_le (unhide k).2 h.size⟩
end Go.Proofs.YtighiahppjekeaaGreatDoor

namespace Go.Proofs.YtighiahppjekeaaGreatDoor
open Go.RowKit

/-- Five of the six cells are stored, a call makes memory, the sixth is stored. -/
theorem put6 {base : Nat} {e : TypeId} {w w1 : World} {g n cap : Nat} {ys : List Itm} {x : Itm} (h : Ow encI 6 e base w (.slice (some ⟨g, 0, none⟩) n cap) ys) (hn : n = ys.length) (i : Nat) (hi : i < n)
    (hb : Below (setW w g (i * 6) [.int .i64 x.1, .int .i64 x.2.1, .int .i64 x.2.2.1, .int .i64 x.2.2.2.1, .int .i64 x.2.2.2.2.1]).heap.size (setW w g (i * 6) [.int .i64 x.1, .int .i64 x.2.1, .int .i64 x.2.2.1, .int .i64 x.2.2.2.1, .int .i64 x.2.2.2.2.1]) w1) :
    (∃ y5, w1.cell? ⟨g, i * 6 + 5, none⟩ = some y5) ∧ (∀ o, w1.frozen? ⟨g, o, none⟩ = false) ∧ Ow encI 6 e base (w1.setCell ⟨g, i * 6 + 5, none⟩ (.string x.2.2.2.2.2)) (.slice (some ⟨g, 0, none⟩) n cap) (ys.set i x) ∧ w.grownBy (w1.setCell ⟨g, i * 6 + 5, none⟩ (.string x.2.2.2.2.2)) (some g) := by
  subst hn
  obtain ⟨h1, h2⟩ := setW_own [.int .i64 x.1, .int .i64 x.2.1, .int .i64 x.2.2.1, .int .i64 x.2.2.2.1, .int .i64 x.2.2.2.2.1] (show w.ownsRow base e 6 (.slice (some ⟨g, 0, none⟩) ys.length cap) ys.length (ys.flatMap encI) from h) (i * 6)
  have h3 := owns_later h1 hb (Nat.le_refl _)
  obtain ⟨h4, h5⟩ := h3.stored (i * 6 + 5) (.string x.2.2.2.2.2)
  obtain ⟨y0, y1, y2, y3, y4, y5, -, -, -, -, -, q5, qf⟩ := own_cells6 h3 hi
  refine ⟨⟨y5, q5⟩, qf, ?_, grown_trans2 h2 (grown_trans2 (grown_below _ hb) h5)⟩
  unfold Ow
  rw [List.length_set, ← setL_flat (by omega) encI_len ys i hi x]
  exact h4

end Go.Proofs.YtighiahppjekeaaGreatDoor
