/-
  A state's text: words, and one blank between them. No program here, no statement is proved here.
-/
import Derived.Test.YtdpaocikmijioadDoorEntText
import Derived.Test.YtdpaocikmijioadDoorEntOf
import Derived.Test.YtdpaocikmijioadDoorStO
import Derived.Lib.Join
namespace Go.Proofs.YtdpaocikmijioadDoor
open Go.RowKit

def wI (x : Itm) : ByteArray := strOfNums (digs x.1) ++ ⟨#[61]⟩ ++ textE x.2.1 x.2.2.1 x.2.2.2.1 x.2.2.2.2.1 x.2.2.2.2.2
def wF (f : Flr) : ByteArray := ⟨#[45]⟩ ++ strOfNums (digs f.1) ++ ⟨#[60]⟩ ++ strOfNums (digs f.2)
/-- A blank, where something stands ahead. -/
def sep (s : ByteArray) : ByteArray := if s.size = 0 then s else s ++ ⟨#[32]⟩
def acc (s w : ByteArray) : ByteArray := sep s ++ w
def tx (ws : List ByteArray) : ByteArray := ws.foldl acc ⟨#[]⟩
theorem tx_nil : tx [] = ⟨#[]⟩ := rfl
theorem tx_app (ws : List ByteArray) (w : ByteArray) : tx (ws ++ [w]) = acc (tx ws) w := by simp [tx]
theorem take_map_succ {α : Type} {xs : List α} {k : Nat} {x : α} (f : α → ByteArray) (h : xs[k]? = some x) : (xs.take (k + 1)).map f = (xs.take k).map f ++ [f x] := by
  rw [List.take_add_one, h]; simp
theorem sep_size (s : ByteArray) : (sep s).size ≤ s.size + 1 := by
  unfold sep
  split
  · omega
  · rw [ByteArray.size_append]; exact Nat.le_refl _
theorem tx_size {B : Nat} : ∀ (ws : List ByteArray) (s : ByteArray), (∀ w ∈ ws, w.size ≤ B) → (ws.foldl acc s).size ≤ s.size + ws.length * (B + 1)
  | [], s, _ => by simp
  | w :: r, s, h => by
    have h1 := tx_size r (acc s w) (fun y hy => h y (by simp [hy]))
    have h2 := h w (by simp)
    have h3 := sep_size s
    have h4 : (acc s w).size = (sep s).size + w.size := by rw [acc, ByteArray.size_append]
    rw [List.foldl_cons, List.length_cons, Nat.add_mul, Nat.one_mul]
    omega
theorem textE_size (ai ar ab av : Int) (ad : ByteArray) : (textE ai ar ab av ad).size ≤ 66 + ad.size := by
  unfold textE
  have e1 : (⟨#[46]⟩ : ByteArray).size = 1 := rfl
  have e2 : (⟨#[58]⟩ : ByteArray).size = 1 := rfl
  have := digs_size ai; have := digs_size ab; have := digs_size av; have := rkT_size ar
  simp only [ByteArray.size_append]
  omega
theorem wI_size (x : Itm) (h : x.2.2.2.2.2.size ≤ 1048576) : (wI x).size ≤ 1048700 ∧ 0 < (wI x).size := by
  unfold wI
  have e1 : (⟨#[61]⟩ : ByteArray).size = 1 := rfl
  have := digs_size x.1; have := textE_size x.2.1 x.2.2.1 x.2.2.2.1 x.2.2.2.2.1 x.2.2.2.2.2
  simp only [ByteArray.size_append]
  omega
theorem wF_size (x : Flr) : (wF x).size ≤ 1048700 ∧ 0 < (wF x).size := by
  unfold wF
  have e1 : (⟨#[45]⟩ : ByteArray).size = 1 := rfl
  have e2 : (⟨#[60]⟩ : ByteArray).size = 1 := rfl
  have := digs_size x.1; have := digs_size x.2
  simp only [ByteArray.size_append]
  omega
theorem words_size {xs : List Itm} {fs : List Flr} (hs : Sml xs) : ∀ w ∈ xs.map wI ++ fs.map wF, w.size ≤ 1048700 ∧ 0 < w.size := by
  intro w hw
  rcases List.mem_append.1 hw with h | h
  · obtain ⟨x, hx, rfl⟩ := List.mem_map.1 h
    obtain ⟨k, hk, rfl⟩ := List.mem_iff_getElem.1 hx
    exact wI_size _ (hs k _ (List.getElem?_eq_getElem hk))
  · obtain ⟨x, hx, rfl⟩ := List.mem_map.1 h
    exact wF_size x
theorem txI_size {xs : List Itm} (hs : Sml xs) (k : Nat) (hk : k ≤ 1048576) : (tx ((xs.take k).map wI)).size ≤ 1099674157056 := by
  have h := tx_size (B := 1048700) ((xs.take k).map wI) ⟨#[]⟩ (fun w hw => by
    have hw2 : w ∈ xs.map wI ++ ([] : List Flr).map wF := by
      obtain ⟨x, hx, rfl⟩ := List.mem_map.1 hw
      simp only [List.map_nil, List.append_nil]
      exact List.mem_map.2 ⟨x, List.mem_of_mem_take hx, rfl⟩
    exact (words_size hs w hw2).1)
  have e0 : (⟨#[]⟩ : ByteArray).size = 0 := rfl
  have e1 : ((xs.take k).map wI).length ≤ 1048576 := by simp; omega
  have e2 : ((xs.take k).map wI).length * (1048700 + 1) ≤ 1048576 * (1048700 + 1) := Nat.mul_le_mul_right _ e1
  unfold tx
  omega
theorem txF_size {xs : List Itm} {fs : List Flr} (hs : Sml xs) (k : Nat) (hn : xs.length ≤ 1048576) (hk : k ≤ 1048576) : (tx (xs.map wI ++ (fs.take k).map wF)).size ≤ 2199348314112 := by
  have h := tx_size (B := 1048700) (xs.map wI ++ (fs.take k).map wF) ⟨#[]⟩ (fun w hw => by
    have hw2 : w ∈ xs.map wI ++ fs.map wF := by
      rcases List.mem_append.1 hw with h | h
      · exact List.mem_append.2 (.inl h)
      · obtain ⟨x, hx, rfl⟩ := List.mem_map.1 h
        exact List.mem_append.2 (.inr (List.mem_map.2 ⟨x, List.mem_of_mem_take hx, rfl⟩))
    exact (words_size hs w hw2).1)
  have e0 : (⟨#[]⟩ : ByteArray).size = 0 := rfl
  have e1 : (xs.map wI ++ (fs.take k).map wF).length ≤ 2097152 := by simp; omega
  have e2 : (xs.map wI ++ (fs.take k).map wF).length * (1048700 + 1) ≤ 2097152 * (1048700 + 1) := Nat.mul_le_mul_right _ e1
  unfold tx
  omega
theorem ba_ext {a b : ByteArray} (h : a.data.toList = b.data.toList) : a = b := by
  obtain ⟨⟨x⟩⟩ := a
  obtain ⟨⟨y⟩⟩ := b
  simp at h
  rw [h]
theorem fold_tail : ∀ (ws : List ByteArray) (s : ByteArray), 0 < s.size → (ws.foldl acc s).data.toList = s.data.toList ++ Lib.joinTail [32] (ws.map (·.data.toList))
  | [], s, _ => by simp [Lib.joinTail]
  | w :: r, s, h => by
    have e : acc s w = s ++ ⟨#[32]⟩ ++ w := by rw [acc, sep, if_neg (by omega)]
    rw [List.foldl_cons, fold_tail r (acc s w) (by rw [e, ByteArray.size_append, ByteArray.size_append]; omega), e]
    simp [Lib.joinTail, List.append_assoc]
/-- Word by word, or joined: one text. -/
theorem tx_join (ws : List ByteArray) (h : ∀ w ∈ ws, 0 < w.size) : tx ws = ⟨(Lib.join (ws.map (·.data.toList)) [32]).toArray⟩ := by
  apply ba_ext
  cases ws with
  | nil => rfl
  | cons w r =>
    have e : acc ⟨#[]⟩ w = w := by
      apply ba_ext
      rw [acc, sep, if_pos (show (⟨#[]⟩ : ByteArray).size = 0 from rfl)]
      simp
    rw [tx, List.foldl_cons, e, fold_tail r w (h w (by simp)), List.map_cons, Lib.join_cons]
theorem join_size (ws : List ByteArray) (h : ∀ w ∈ ws, 0 < w.size) : (Lib.join (ws.map (·.data.toList)) [32]).length = (tx ws).size := by
  rw [tx_join ws h]
  simp [ByteArray.size]
end Go.Proofs.YtdpaocikmijioadDoor
