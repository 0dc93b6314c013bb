/-
  What a call turns: blocks of which some word holds, and no other. No program here, no statement is proved here.
-/
import Derived.Test.YtjlocbimkfocnaaApp2
namespace Go.Proofs.Ytjlocbimkfocnaa
open Go.RowKit

/-- Nothing of w has turned but in blocks of which S holds. -/
structure Trn (S : Nat → Prop) (w w' : World) : Prop where
  os : w'.os = w.os
  tape : w'.tape = w.tape
  output : w'.output = w.output
  size : w.heap.size ≤ w'.heap.size
  block : ∀ i, i < w.heap.size → ¬ S i → w'.heap[i]? = w.heap[i]?
theorem Trn.trans {S : Nat → Prop} {a b c : World} (h : Trn S a b) (k : Trn S b c) : Trn S a c :=
  ⟨k.os.trans h.os, k.tape.trans h.tape, k.output.trans h.output, Nat.le_trans h.size k.size, fun i hi hs => (k.block i (Nat.lt_of_lt_of_le hi h.size) hs).trans (h.block i hi hs)⟩
theorem Trn.mono {S T : Nat → Prop} {a b : World} (h : Trn S a b) (hs : ∀ i, S i → T i) : Trn T a b := ⟨h.os, h.tape, h.output, h.size, fun i hi hn => h.block i hi (fun q => hn (hs i q))⟩
theorem Trn.of_below {S : Nat → Prop} {w w' : World} (h : Below w.heap.size w w') : Trn S w w' := ⟨h.os, h.tape, h.output, h.size, fun i hi _ => h.block i hi⟩
theorem Trn.of_grown {row : Option Nat} {w w' : World} (h : w.grownBy w' row) : Trn (fun i => row = some i) w w' := ⟨h.os, h.tape, h.output, h.size, fun i hi hn => h.block i hi (fun e => hn e.symm)⟩
theorem Trn.below {S : Nat → Prop} {w0 w w' : World} {B : Nat} (hb : Below B w0 w) (h : Trn S w w') (hB : B ≤ w.heap.size) (hs : ∀ i, S i → B ≤ i) : Below B w0 w' :=
  ⟨h.os.trans hb.os, h.tape.trans hb.tape, h.output.trans hb.output, Nat.le_trans hb.size h.size, fun i hi => (h.block i (by omega) (fun q => by have := hs i q; omega)).trans (hb.block i hi)⟩
theorem Trn.own {S : Nat → Prop} {w w' : World} (h : Trn S w w') {α : Type} {enc : α → List Value} {k : Nat} {e : TypeId} {base : Nat} {v : Value} {xs : List α} (ho : Ow enc k e base w v xs) (hs : ∀ i, v.ownBlock = some i → ¬ S i) : Ow enc k e base w' v xs := by
  refine ⟨ho.1, ?_⟩
  rcases ho.2 with hn | ⟨g, cap, cur, rfl, hg, hh, r⟩
  · exact .inl hn
  · exact .inr ⟨g, cap, cur, rfl, hg, by rw [h.block g (Array.getElem?_eq_some_iff.1 hh).1 (hs g rfl)]; exact hh, r⟩

theorem Trn.kept {S : Nat → Prop} {w w' : World} (h : Trn S w w') {g : Nat} {o : Obj} (k : Hid (w.heap[g]? = some o ∧ g < w.heap.size)) (hs : ¬ S g) : w'.heap[g]? = some o ∧ g < w'.heap.size := ⟨(h.block _ (unhide k).2 hs).trans (unhide k).1, Nat.lt_of_lt_of_le (unhide k).2 h.size⟩
end Go.Proofs.Ytjlocbimkfocnaa
