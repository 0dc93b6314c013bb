/-
  A vector's text: its numbers, and one comma between them. No program here, no statement is proved here.
-/
import Derived.Test.YtdjoobcbnaelnaaDoorIntO
import Derived.Test.YtdjoobcbnaelnaaDoorDigP
import Derived.Lib.Join
namespace Go.Proofs.YtdjoobcbnaelnaaDoor
open Go.RowKit

def wN (x : Int) : ByteArray := strOfNums (digs x)
def wB (x : Int) : List UInt8 := (wN x).data.toList
def vtx (ns : List Int) : ByteArray := ⟨(Lib.join (ns.map wB) [44]).toArray⟩
theorem vtx_nil : vtx [] = ⟨#[]⟩ := rfl
theorem vtx_one (z : Int) : vtx [z] = wN z := by
  unfold vtx
  rw [List.map_cons, List.map_nil, Lib.join_one]
  rfl
theorem ba_ext8 {a b : ByteArray} (h : a.data.toList = b.data.toList) : a = b := by
  obtain ⟨⟨x⟩⟩ := a
  obtain ⟨⟨y⟩⟩ := b
  simp at h
  rw [h]
theorem assoc8 (A J c B : List UInt8) : A ++ (J ++ c ++ B) = A ++ J ++ c ++ B := by rw [← List.append_assoc, ← List.append_assoc]
theorem vtx_app {ns : List Int} (h : ns ≠ []) (z : Int) : vtx (ns ++ [z]) = vtx ns ++ ⟨#[44]⟩ ++ wN z := by
  cases ns with
  | nil => exact absurd rfl h
  | cons x r =>
    have e : Lib.joinTail [44] ((r ++ [z]).map wB) = Lib.joinTail [44] (r.map wB) ++ [44] ++ wB z := by simp [Lib.joinTail]
    have hd : ∀ a b : ByteArray, (a ++ b).data.toList = a.data.toList ++ b.data.toList := fun a b => by rw [ByteArray.data_append, Array.toList_append]
    apply ba_ext8
    rw [hd, hd, List.cons_append]
    unfold vtx
    rw [List.map_cons, List.map_cons, Lib.join_cons, Lib.join_cons, e]
    exact assoc8 (wB x) (Lib.joinTail [44] (r.map wB)) [44] (wB z)
theorem wN_size (x : Int) : (wN x).size ≤ 21 := by
  unfold wN
  rw [strOfNums_size]
  exact digs_length x
theorem vtx_size (ns : List Int) : (Lib.join (ns.map wB) [44]).length ≤ 22 * ns.length := by
  have hw : ∀ x, (wB x).length ≤ 21 := fun x => wN_size x
  have ht : ∀ r : List Int, (Lib.joinTail [44] (r.map wB)).length ≤ 22 * r.length := by
    intro r
    induction r with
    | nil => simp [Lib.joinTail]
    | cons y r ih =>
      have := hw y
      simp only [Lib.joinTail, List.map_cons, List.flatten_cons, List.length_append, List.length_cons, List.length_nil] at ih ⊢
      omega
  cases ns with
  | nil => simp [Lib.join_nil]
  | cons x r =>
    have h1 := hw x
    have h2 := ht r
    rw [List.map_cons, Lib.join_cons, List.length_append, List.length_cons]
    omega
theorem vtx_bytes (ns : List Int) : (vtx ns).size ≤ 22 * ns.length := by
  exact vtx_size ns
theorem take_next {ns : List Int} {k : Nat} {z : Int} (h : ns[k]? = some z) : ns.take (k + 1) = ns.take k ++ [z] := by
  rw [List.take_add_one, h]; rfl
theorem take_some {ns : List Int} {k : Nat} {z : Int} (h : ns[k]? = some z) (hk : 0 < k) : ns.take k ≠ [] := by
  intro e
  have hl := (List.getElem?_eq_some_iff.1 h).1
  have := congrArg List.length e
  rw [List.length_take, List.length_nil] at this
  omega
end Go.Proofs.YtdjoobcbnaelnaaDoor
