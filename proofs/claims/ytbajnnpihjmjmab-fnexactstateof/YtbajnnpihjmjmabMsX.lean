/-
  Reading numbers, items and lists out of bytes with a cursor, as functions on lists; what was put is read so. No program here, no statement is proved here.
-/
import Derived.Test.YtbajnnpihjmjmabMsR
namespace Go.Proofs.Ytbajnnpihjmjmab
open Go.RowKit

/-- A number is read at the cursor (a place, and whether something did not fit). -/
def rdN (xs : List Int) (c : Int × Bool) : Int × (Int × Bool) := if c.2 = true then (0, (c.1, true)) else match getN xs c.1 with
  | some (n, q) => (n, (q, false))
  | none => (0, (c.1, true))
theorem rdN_at {xs pre post : List Int} {n : Int} (h : xs = pre ++ (putN n ++ post)) (hn : Rng n) : rdN xs ((pre.length : Int), false) = (n, (((pre ++ putN n).length : Int), false)) := by
  unfold rdN
  rw [if_neg (by simp), getN_at h hn]
def rdI (xs : List Int) : Nat → Int × Bool → List Int × (Int × Bool)
  | 0, c => ([], c)
  | i + 1, c => if (rdI xs i c).2.2 = true then rdI xs i c else ((rdI xs i c).1 ++ [(rdN xs (rdI xs i c).2).1], (rdN xs (rdI xs i c).2).2)
theorem rdI_at {xs pre post ns : List Int} (h : xs = pre ++ (nums ns ++ post)) (hn : ∀ z ∈ ns, Rng z) : ∀ i, i ≤ ns.length → rdI xs i ((pre.length : Int), false) = (ns.take i, (((pre ++ nums (ns.take i)).length : Int), false))
  | 0, _ => by simp [rdI, nums]
  | i + 1, hi => by
    have ih := rdI_at h hn i (by omega)
    obtain ⟨z, hz⟩ : ∃ z, ns[i]? = some z := ⟨_, List.getElem?_eq_getElem (by omega)⟩
    have e : xs = (pre ++ nums (ns.take i)) ++ (putN z ++ (nums (ns.drop (i + 1)) ++ post)) := by
      rw [h]
      conv => lhs; rw [← List.take_append_drop i ns, List.drop_eq_getElem_cons (by omega)]
      rw [(List.getElem?_eq_some_iff.1 hz).2]
      simp [nums]
    rw [rdI, ih]
    rw [if_neg (by simp), rdN_at e (hn z (List.mem_of_getElem? hz)), nums_take hz, List.append_assoc]
    rw [List.take_add_one, hz]
    rfl
/-- A list of numbers is read, so many times as many as its head says. -/
def rdL (xs : List Int) (t : Nat) (c : Int × Bool) : List Int × (Int × Bool) := if 100 < (rdN xs c).1 then ([], ((rdN xs c).2.1, true)) else rdI xs ((rdN xs c).1.toNat * t) (rdN xs c).2
theorem rdL_at {xs pre post ns : List Int} {m t : Nat} (h : xs = pre ++ (putN (m : Int) ++ (nums ns ++ post))) (hm : m ≤ 100) (hl : ns.length = m * t) (hn : ∀ z ∈ ns, Rng z) :
    rdL xs t ((pre.length : Int), false) = (ns, (((pre ++ putN (m : Int) ++ nums ns).length : Int), false)) := by
  unfold rdL
  rw [rdN_at h ⟨by omega, by omega⟩, if_neg (by simp only; omega)]
  have e : xs = (pre ++ putN (m : Int)) ++ (nums ns ++ post) := by rw [h]; simp
  simp only [Int.toNat_natCast]
  rw [← hl, rdI_at e hn _ (Nat.le_refl _), List.take_length]
/-- An item is read. -/
def rdT (xs : List Int) (c : Int × Bool) : Option (Itm × (Int × Bool)) :=
  if (rdN xs (rdN xs (rdN xs (rdN xs (rdN xs c).2).2).2).2).2.2 = true then none else match getT xs (rdN xs (rdN xs (rdN xs (rdN xs (rdN xs c).2).2).2).2).2.1 with
  | none => none
  | some (l, q) => some (((rdN xs c).1, ((rdN xs (rdN xs c).2).1, (rdN xs (rdN xs (rdN xs c).2).2).1, (rdN xs (rdN xs (rdN xs (rdN xs c).2).2).2).1, (rdN xs (rdN xs (rdN xs (rdN xs (rdN xs c).2).2).2).2).1, strOfNums l)), (q, false))
theorem rdT_at {xs pre post : List Int} {x : Itm} (h : xs = pre ++ (sbI x ++ post)) (hx : RngI x) : rdT xs ((pre.length : Int), false) = some (x, (((pre ++ sbI x).length : Int), false)) := by
  obtain ⟨x1, x2, x3, x4, x5, x6⟩ := x
  obtain ⟨a1, a2, a3, a4, a5, a6⟩ := hx
  simp only at a1 a2 a3 a4 a5 a6
  have e : sbI (x1, (x2, x3, x4, x5, x6)) = putN x1 ++ (putN x2 ++ (putN x3 ++ (putN x4 ++ (putN x5 ++ putT (bl x6))))) := by simp [sbI, nums]
  rw [e] at h ⊢
  have h1 : xs = pre ++ (putN x1 ++ (putN x2 ++ (putN x3 ++ (putN x4 ++ (putN x5 ++ (putT (bl x6) ++ post)))))) := by rw [h]; simp
  have h2 : xs = (pre ++ putN x1) ++ (putN x2 ++ (putN x3 ++ (putN x4 ++ (putN x5 ++ (putT (bl x6) ++ post))))) := by rw [h]; simp
  have h3 : xs = (pre ++ putN x1 ++ putN x2) ++ (putN x3 ++ (putN x4 ++ (putN x5 ++ (putT (bl x6) ++ post)))) := by rw [h]; simp
  have h4 : xs = (pre ++ putN x1 ++ putN x2 ++ putN x3) ++ (putN x4 ++ (putN x5 ++ (putT (bl x6) ++ post))) := by rw [h]; simp
  have h5 : xs = (pre ++ putN x1 ++ putN x2 ++ putN x3 ++ putN x4) ++ (putN x5 ++ (putT (bl x6) ++ post)) := by rw [h]; simp
  have h6 : xs = (pre ++ putN x1 ++ putN x2 ++ putN x3 ++ putN x4 ++ putN x5) ++ (putT (bl x6) ++ post) := by rw [h]; simp
  have g1 := rdN_at h1 a1
  have g2 := rdN_at h2 a2
  have g3 := rdN_at h3 a3
  have g4 := rdN_at h4 a4
  have g5 := rdN_at h5 a5
  have g6 := getT_mid h6 (by rw [bl_length]; exact a6)
  unfold rdT
  rw [g1]; simp only
  rw [g2]; simp only
  rw [g3]; simp only
  rw [g4]; simp only
  rw [g5]; simp only
  rw [if_neg (by simp), g6]
  simp only [str_bl]
  simp
def rdIs (xs : List Int) : Nat → Int × Bool → Option (List Itm × (Int × Bool))
  | 0, c => some ([], c)
  | k + 1, c => match rdIs xs k c with
    | none => none
    | some (l, d) => match rdT xs d with
      | none => none
      | some (x, e) => some (l ++ [x], e)
theorem rdIs_at {xs pre post : List Int} {its : List Itm} (h : xs = pre ++ (sbIs its ++ post)) (hx : ∀ x ∈ its, RngI x) : ∀ k, k ≤ its.length → rdIs xs k ((pre.length : Int), false) = some (its.take k, (((pre ++ sbIs (its.take k)).length : Int), false))
  | 0, _ => by simp [rdIs, sbIs]
  | k + 1, hk => by
    have ih := rdIs_at h hx k (by omega)
    obtain ⟨z, hz⟩ : ∃ z, its[k]? = some z := ⟨_, List.getElem?_eq_getElem (by omega)⟩
    have e : xs = (pre ++ sbIs (its.take k)) ++ (sbI z ++ (sbIs (its.drop (k + 1)) ++ post)) := by
      rw [h]
      conv => lhs; rw [← List.take_append_drop k its, List.drop_eq_getElem_cons (by omega)]
      rw [(List.getElem?_eq_some_iff.1 hz).2]
      simp [sbIs]
    rw [rdIs, ih]
    simp only
    rw [rdT_at e (hx z (List.mem_of_getElem? hz))]
    simp only
    rw [sbIs_take hz, List.append_assoc, List.take_add_one, hz]
    rfl
theorem rdIs_down {xs : List Int} {c : Int × Bool} : ∀ {k m : Nat}, k ≤ m → rdIs xs k c = none → rdIs xs m c = none
  | 0, 0, _, e => e
  | k + 1, 0, h, _ => by omega
  | k, m + 1, h, e => by
    by_cases q : k = m + 1
    · rw [← q]; exact e
    · rw [rdIs, rdIs_down (k := k) (m := m) (by omega) e]
/-- The numbers of a list of pairs, and pairs out of numbers. -/
def flF (fs : List Flr) : List Int := fs.flatMap fun f => [f.1, f.2]
def prF2 : List Int → List Flr
  | a :: b :: r => (a, b) :: prF2 r
  | _ => []
theorem prF2_fl : ∀ fs : List Flr, prF2 (flF fs) = fs
  | [] => rfl
  | f :: r => by rw [show flF (f :: r) = f.1 :: f.2 :: flF r from rfl, prF2, prF2_fl r]
theorem prF2_at : ∀ {ns : List Int} {j : Nat} {x y : Int}, ns[2 * j]? = some x → ns[2 * j + 1]? = some y → (prF2 ns)[j]? = some (x, y)
  | a :: b :: r, 0, x, y, h1, h2 => by
    simp at h1 h2
    rw [prF2, h1, h2]; rfl
  | a :: b :: r, j + 1, x, y, h1, h2 => by
    rw [show 2 * (j + 1) = 2 * j + 1 + 1 by omega, List.getElem?_cons_succ, List.getElem?_cons_succ] at h1
    rw [show 2 * (j + 1) + 1 = (2 * j + 1) + 1 + 1 by omega, List.getElem?_cons_succ, List.getElem?_cons_succ] at h2
    rw [prF2, List.getElem?_cons_succ]
    exact prF2_at h1 h2
  | [], j, x, y, h1, _ => by simp at h1
  | [a], j, x, y, _, h2 => by simp at h2
theorem prF2_len : ∀ ns : List Int, (prF2 ns).length = ns.length / 2
  | [] => rfl
  | [a] => by simp [prF2]
  | a :: b :: r => by rw [prF2, List.length_cons, prF2_len r, List.length_cons, List.length_cons]; omega
theorem flF_len : ∀ fs : List Flr, (flF fs).length = fs.length * 2
  | [] => rfl
  | f :: r => by rw [show flF (f :: r) = f.1 :: f.2 :: flF r from rfl, List.length_cons, List.length_cons, flF_len r, List.length_cons]; omega
theorem sbFs_fl : ∀ fs : List Flr, sbFs fs = nums (flF fs)
  | [] => rfl
  | f :: r => by
    rw [show flF (f :: r) = f.1 :: f.2 :: flF r from rfl, nums_cons, nums_cons, ← sbFs_fl r, show sbFs (f :: r) = sbF f ++ sbFs r from rfl, sbF, nums_cons, nums_one, List.append_assoc]
theorem flF_rng {fs : List Flr} (h : ∀ f ∈ fs, RngF f) : ∀ z ∈ flF fs, Rng z := fun z hz => by
  obtain ⟨f, hf, hz⟩ := List.mem_flatMap.1 hz
  simp at hz
  rcases hz with rfl | rfl
  · exact (h f hf).1
  · exact (h f hf).2
/-- Right state's bytes are read as they were put. -/
theorem sb_reads {xs : List Int} {its : List Itm} {fls : List Flr} (ho : OkS its fls) (h : sb its fls = xs) :
    rdN xs (0, false) = ((its.length : Int), (((putN (its.length : Int)).length : Int), false)) ∧
    (∀ k, k ≤ its.length → rdIs xs k (((putN (its.length : Int)).length : Int), false) = some (its.take k, (((putN (its.length : Int) ++ sbIs (its.take k)).length : Int), false))) ∧
    rdL xs 2 (((putN (its.length : Int) ++ sbIs its).length : Int), false) = (flF fls, ((xs.length : Int), false)) := by
  have hl := ho.len5
  have hr := ho.rng
  have e : xs = putN (its.length : Int) ++ (sbIs its ++ (putN (fls.length : Int) ++ nums (flF fls))) := by rw [← h, sb, sbFs_fl]; simp
  refine ⟨?_, ?_, ?_⟩
  · have := rdN_at (pre := []) (xs := xs) (n := (its.length : Int)) (by rw [e]; rfl) ⟨by omega, by omega⟩
    simpa using this
  · exact rdIs_at e hr.1
  · have e2 : xs = (putN (its.length : Int) ++ sbIs its) ++ (putN (fls.length : Int) ++ (nums (flF fls) ++ [])) := by rw [e]; simp
    have := rdL_at (t := 2) e2 (by omega) (flF_len fls) (flF_rng hr.2)
    rw [this]
    congr 3
    rw [e2]; simp
end Go.Proofs.Ytbajnnpihjmjmab
