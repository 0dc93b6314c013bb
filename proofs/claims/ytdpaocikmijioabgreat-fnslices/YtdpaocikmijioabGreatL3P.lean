/-
  A state that is drawn: what lies in memory while it is made. No statement is proved here.
-/
import Derived.Test.YtdpaocikmijioabGreatSJoin2
import Derived.Test.YtdpaocikmijioabGreatStSg
import Derived.Test.YtdpaocikmijioabGreatStBx
import Derived.Test.YtdpaocikmijioabGreatEntDraw
import Derived.Test.YtdpaocikmijioabGreatVwP
namespace Go.Proofs.YtdpaocikmijioabGreat
open Go.RowKit

/-- Each text has at most nine bytes. -/
def Nine (xs : List Itm) : Prop := ∀ x ∈ xs, x.2.2.2.2.2.size ≤ 9
theorem nine_nil : Nine [] := fun _ h => by simp at h
theorem nine_one {id : Int} {e : Key} (h : e.2.2.2.2.size ≤ 9) : Nine [(id, e)] := fun x hx => by
  rw [List.mem_singleton] at hx
  subst hx
  exact h
theorem nine_sgl {ok : Bool} {id : Int} {e : Key} (h : e.2.2.2.2.size ≤ 9) : Nine (sgl ok id e) := by
  cases ok
  · exact nine_nil
  · exact nine_one h
theorem ent_mem {xs : List Itm} {id : Int} {e : Key} (h : ent xs id = some e) : ∃ i, (i, e) ∈ xs := by
  unfold ent at h
  cases hf : xs.find? (fun x => x.1 == id) with
  | none => rw [hf] at h; cases h
  | some y =>
    rw [hf] at h
    obtain ⟨i, e'⟩ := y
    simp at h
    subst h
    exact ⟨i, List.mem_of_find?_eq_some hf⟩
theorem nine_join {xs ys : List Itm} {fs gs : List Flr} (hx : Nine xs) (hy : Nine ys) : Nine (joinI xs fs ys gs) := by
  intro x hm
  have h := (mem_jI.1 hm).2.2.1
  rcases jE_ok h with h | h
  · obtain ⟨i, hi⟩ := ent_mem h; exact hx (i, x.2) hi
  · obtain ⟨i, hi⟩ := ent_mem h; exact hy (i, x.2) hi
theorem nine_sml {xs : List Itm} (h : Nine xs) : Sml xs := fun k x hk => by have := h x (List.mem_of_getElem? hk); omega

theorem grown_later {w X Y : World} {r : Option Nat} (h : w.grownBy X r) (b : Below X.heap.size X Y) : w.grownBy Y r :=
  ⟨b.os.trans h.os, b.tape.trans h.tape, b.output.trans h.output, Nat.le_trans h.size b.size, fun k hk hr => (b.block k (Nat.lt_of_lt_of_le hk h.size)).trans (h.block k hk hr)⟩
theorem grown_set2 (w : World) (b : Nat) (u1 u2 : Value) : w.grownBy ((w.setCell ⟨b, 0, none⟩ u1).setCell ⟨b, 1, none⟩ u2) (some b) := grown_trans (grown_set _ _ _ _) (grown_set _ _ _ _)
/-- A row of the call's own is not a variable of another type. -/
theorem Ow.other {α : Type} {enc : α → List Value} {k : Nat} {E T : TypeId} {base : Nat} {w w' : World} {v : Value} {xs : List α} {b : Nat} {cs : Array Value} {fz : Nat × Nat} (h : Ow enc k E base w v xs) (hb : w.heap[b]? = some (.cells cs T fz)) (hne : E ≠ T) (hg : w.grownBy w' (some b)) : Ow enc k E base w' v xs :=
  World.ownsRow.kept h hg (.inr (own_ne h hb hne))

/-- While a state is drawn: the cursor g, the result in block z, the state in block b. -/
structure R3 (m : Nat) (w X : World) (g : Nat) (v : Value) (xs : List Int) (z b : Nat) (v1 v2 : Value) (its : List Itm) (fls : List Flr) : Prop where
  c0 : Cur w g v xs
  gr : w.grownBy X (some g)
  cu : Cur X g v xs
  hz : w.heap.size ≤ z
  hb : w.heap.size ≤ b
  zb : z ≠ b
  k0 : X.heap[z]? = some (StB (.slice none 0 0) (.slice none 0 0))
  k1 : X.heap[b]? = some (StB v1 v2)
  oi : OwI w.heap.size X v1 its
  of : OwF w.heap.size X v2 fls
  li : its.length ≤ m
  lf : fls.length ≤ m
  ni : Nine its
variable {m : Nat} {w X Y : World} {g : Nat} {v : Value} {xs : List Int} {z b : Nat} {v1 v2 : Value} {its : List Itm} {fls : List Flr}
theorem R3.gl (h : R3 m w X g v xs z b v1 v2 its fls) : g < w.heap.size := cur_lt h.c0
theorem R3.zl (h : R3 m w X g v xs z b v1 v2 its fls) : z < X.heap.size := (Array.getElem?_eq_some_iff.1 h.k0).1
theorem R3.bl (h : R3 m w X g v xs z b v1 v2 its fls) : b < X.heap.size := (Array.getElem?_eq_some_iff.1 h.k1).1
theorem R3.call (h : R3 m w X g v xs z b v1 v2 its fls) (hc : Cur Y g v xs) (hg : X.grownBy Y (some g)) : R3 m w Y g v xs z b v1 v2 its fls := by
  have := h.gl
  have hz := h.hz
  have hb := h.hb
  obtain ⟨⟨i, q, hk, _⟩, _⟩ := h.cu
  exact ⟨h.c0, grown_trans h.gr hg, hc, hz, hb, h.zb, blk_grown hg h.k0 (by omega), blk_grown hg h.k1 (by omega), h.oi.other hk (by decide) hg, h.of.other hk (by decide) hg, h.li, h.lf, h.ni⟩
theorem R3.later (h : R3 m w X g v xs z b v1 v2 its fls) (bl : Below X.heap.size X Y) : R3 m w Y g v xs z b v1 v2 its fls :=
  ⟨h.c0, grown_later h.gr bl, h.cu.later bl (Nat.le_refl _), h.hz, h.hb, h.zb, (bl.block _ h.zl).trans h.k0, (bl.block _ h.bl).trans h.k1, h.oi.later bl, h.of.later bl, h.li, h.lf, h.ni⟩
theorem R3.drew (h : R3 m w X g v xs z b v1 v2 its fls) : R3 m w X.drew g v xs z b v1 v2 its fls := h.later (Below.refl _ _).drew
/-- A struct variable of this call is written: the cursor, and what is owned. -/
theorem R3.far (h : R3 m w X g v xs z b v1 v2 its fls) {q : Nat} (hw : w.heap.size ≤ q) (hg : X.grownBy Y (some q)) :
    Cur Y g v xs ∧ w.grownBy Y (some g) := by
  have := h.gl
  have G : w.grownBy Y (some g) := ⟨hg.os.trans h.gr.os, hg.tape.trans h.gr.tape, hg.output.trans h.gr.output, Nat.le_trans h.gr.size hg.size, fun k hk hr => (hg.block k (Nat.lt_of_lt_of_le hk h.gr.size) (by simp; omega)).trans (h.gr.block k hk hr)⟩
  exact ⟨cur_far h.c0 h.cu G (hg.block g (Nat.lt_of_lt_of_le h.gl h.gr.size) (by simp; omega)), G⟩
theorem R3.put (h : R3 m w X g v xs z b v1 v2 its fls) {u1 u2 : Value} {is' : List Itm} {fs' : List Flr} {B : Nat} (o1 : OwI B X u1 is') (o2 : OwF B X u2 fs') (hB : w.heap.size ≤ B) (li : is'.length ≤ m) (lf : fs'.length ≤ m) (ni : Nine is') :
    R3 m w ((X.setCell ⟨b, 0, none⟩ u1).setCell ⟨b, 1, none⟩ u2) g v xs z b u1 u2 is' fs' := by
  have hg := grown_set2 X b u1 u2
  obtain ⟨c, G⟩ := h.far h.hb hg
  exact ⟨h.c0, G, c, h.hz, h.hb, h.zb, blk_grown hg h.k0 h.zb, blk_set2 h.k1 _ _, Ow.base (o1.other h.k1 (by decide) hg) hB, Ow.base (o2.other h.k1 (by decide) hg) hB, li, lf, ni⟩
theorem own_oneF {w : World} {g base : Nat} (x : Flr) (hb : base ≤ g) (h : w.heap[g]? = some (.cells #[.int .i64 x.1, .int .i64 x.2] 84 (0, 0))) : OwF base w (.slice (some ⟨g, 0, none⟩) 1 1) [x] :=
  ⟨rfl, .inr ⟨g, 1, _, rfl, hb, h, Nat.le_refl _, by unfold maxLen; simp, rfl, rfl⟩⟩
/-- The two fields of the variable. -/
theorem kR (h : Hid (R3 m w X g v xs z b v1 v2 its fls)) : X.cell? ⟨b, 0, none⟩ = some v1 ∧ X.cell? ⟨b, 1, none⟩ = some v2 := by
  obtain ⟨p0, p1, _⟩ := blk_cells2 (unhide h).k1
  exact ⟨p0, p1⟩
theorem R3.allocH (h : Hid (R3 m w X g v xs z b v1 v2 its fls)) (o : Obj) : Hid (R3 m w (X.alloc o) g v xs z b v1 v2 its fls) := hide ((unhide h).later ((Below.refl _ _).alloc (Nat.le_refl _) o))
/-- What is told of a drawn state. -/
structure D3 (w X : World) (g : Nat) (v : Value) (xs : List Int) (v1 v2 : Value) (its : List Itm) (fls : List Flr) : Prop where
  cu : Cur X g v xs
  gr : w.grownBy X (some g)
  oi : OwI w.heap.size X v1 its
  of : OwF w.heap.size X v2 fls
  li : its.length ≤ 6
  lf : fls.length ≤ 6
  ni : Nine its
theorem R3.fin (h : R3 m w X g v xs z b v1 v2 its fls) (hm : m ≤ 6) : D3 w ((X.setCell ⟨z, 0, none⟩ v1).setCell ⟨z, 1, none⟩ v2) g v xs v1 v2 its fls := by
  have hg := grown_set2 X z v1 v2
  obtain ⟨c, G⟩ := h.far h.hz hg
  exact ⟨c, G, h.oi.other h.k0 (by decide) hg, h.of.other h.k0 (by decide) hg, by have := h.li; omega, by have := h.lf; omega, h.ni⟩
end Go.Proofs.YtdpaocikmijioabGreat
