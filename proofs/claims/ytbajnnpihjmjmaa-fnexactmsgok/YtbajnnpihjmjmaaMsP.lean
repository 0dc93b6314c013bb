/-
  A message, said plainly: which one is right, and its bytes. No program here, no statement is proved here.
-/
import Derived.Test.YtbajnnpihjmjmaaTrP
namespace Go.Proofs.Ytbajnnpihjmjmaa
open Go.RowKit

structure Mg where
  k : Int
  f : Int
  t : Int
  n : Int
  h : Int
  tl : List Int
  tr : Int
  ve : List Int
  le : List Int
  its : List Itm
  fls : List Flr
  ma : List Flr
/-- At most so many numbers, from 0 on to that one. -/
def nmOk (ns : List Int) (most : Nat) (hi : Int) : Bool := decide (ns.length ≤ most) && ns.all fun x => inB x 0 hi
def trOk (tl : List Int) (tr : Int) : Bool := if tl.length = 0 then tr == 0 else (tl.length == 4 && nmOk tl 4 1023 && inB tr 0 1023)
def ascF : Int → List Int → Bool
  | _, [] => true
  | last, x :: r => decide (last < x) && ascF x r
def asc (ns : List Int) : Bool := match ns with
  | [] => true
  | x :: r => ascF x r
def okM (m : Mg) : Bool := (inB m.k 0 5 && inB m.f 0 4 && inB m.t 0 4 && (m.f != m.t) && inB m.n 0 100000 && inB m.h 0 100000) && (trOk m.tl m.tr && nmOk m.ve 5 100000 && nmOk m.le 4 3 && okS m.its m.fls && gF (-1) m.ma) && asc m.le
/-- A list of numbers, and how many. -/
def lsB (ns : List Int) : List Int := putN ns.length ++ nums ns
def bodyM (m : Mg) : List Int := [82, 75] ++ nums [m.k, m.f, m.t, m.n, m.h] ++ lsB m.tl ++ putN m.tr ++ lsB m.ve ++ lsB m.le ++ (putN (sb m.its m.fls).length ++ sb m.its m.fls) ++ (putN m.ma.length ++ sbFs m.ma)
/-- The four bytes of a sum, the high one first. -/
def sumB (x : Int) : List Int := [x / 16777216, x / 65536 % 256, x / 256 % 256, x % 256]
def msB (m : Mg) : List Int := if okM m = true then bodyM m ++ sumB (crcOf (bodyM m)) else []

theorem lsB_bytes (ns : List Int) : ∀ z ∈ lsB ns, 0 ≤ z ∧ z ≤ 255 := by
  intro z hz
  rcases List.mem_append.1 hz with h | h
  · exact putN_bytes _ z h
  · exact nums_bytes ns z h
theorem sbFs_bytes (fs : List Flr) : ∀ z ∈ sbFs fs, 0 ≤ z ∧ z ≤ 255 := by
  intro z hz
  obtain ⟨f, _, h⟩ := List.mem_flatMap.1 hz
  exact nums_bytes _ z h
theorem bodyM_bytes (m : Mg) : ∀ z ∈ bodyM m, 0 ≤ z ∧ z ≤ 255 := by
  intro z hz
  unfold bodyM at hz
  simp only [List.mem_append] at hz
  rcases hz with ((((((h | h) | h) | h) | h) | h) | h | h) | h | h
  · simp at h; omega
  · exact nums_bytes _ z h
  · exact lsB_bytes _ z h
  · exact putN_bytes _ z h
  · exact lsB_bytes _ z h
  · exact lsB_bytes _ z h
  · exact putN_bytes _ z h
  · exact sb_bytes _ _ z h
  · exact putN_bytes _ z h
  · exact sbFs_bytes _ z h
theorem sumB_bytes {x : Int} (h0 : 0 ≤ x) (h1 : x ≤ 4294967295) : ∀ z ∈ sumB x, 0 ≤ z ∧ z ≤ 255 := by
  intro z hz
  simp only [sumB, List.mem_cons, List.not_mem_nil, or_false] at hz
  rcases hz with rfl | rfl | rfl | rfl <;> omega
theorem sumB_inj {x y : Int} (h0 : 0 ≤ x) (h1 : x ≤ 4294967295) (g0 : 0 ≤ y) (g1 : y ≤ 4294967295) (h : sumB x = sumB y) : x = y := by
  simp only [sumB, List.cons.injEq] at h
  omega
theorem msB_bytes (m : Mg) : ∀ z ∈ msB m, 0 ≤ z ∧ z ≤ 255 := by
  intro z hz
  unfold msB at hz
  split at hz
  · rcases List.mem_append.1 hz with h | h
    · exact bodyM_bytes m z h
    · exact sumB_bytes (crcOf_nonneg _ (bodyM_bytes m)) (crcOf_range _ (bodyM_bytes m)) z h
  · simp at hz
theorem nmOk_iff {ns : List Int} {most : Nat} {hi : Int} : nmOk ns most hi = true ↔ ns.length ≤ most ∧ ∀ x ∈ ns, 0 ≤ x ∧ x ≤ hi := by
  simp [nmOk, inB_iff]
theorem lsB_len (ns : List Int) : (lsB ns).length ≤ 5 + ns.length * 5 := by
  have h1 := putN_length ns.length
  have h2 := nums_len ns
  simp only [lsB, List.length_append]
  omega
theorem trOk_len {tl : List Int} {tr : Int} (h : trOk tl tr = true) : tl.length ≤ 4 := by
  unfold trOk at h
  split at h
  · omega
  · simp only [Bool.and_eq_true, beq_iff_eq] at h
    omega
theorem gF_len {fs : List Flr} (h : gF (-1) fs = true) : fs.length ≤ 5 := by
  have := (gF_iff (-1) fs).1 h
  exact (OkS.len5 (xs := []) (fs := fs) ⟨.nil, this.1, fun _ h => by simp at h, fun x hx => by have := this.2 x hx; omega⟩).2
theorem bodyM_len {m : Mg} (h : okM m = true) : (bodyM m).length ≤ 500 := by
  simp only [okM, Bool.and_eq_true, okS_iff, nmOk_iff] at h
  obtain ⟨⟨_, ⟨⟨⟨h1, h2⟩, h3⟩, h4⟩, h5⟩, _⟩ := h
  have a1 := nums_len [m.k, m.f, m.t, m.n, m.h]
  have a2 := lsB_len m.tl
  have a3 := putN_length m.tr
  have a4 := lsB_len m.ve
  have a5 := lsB_len m.le
  have a6 := putN_length (sb m.its m.fls).length
  have a7 := sb_len h4
  have a8 := putN_length m.ma.length
  have a9 := sbFs_len m.ma
  have b1 := trOk_len h1
  have b2 := gF_len h5
  have b3 := h2.1
  have b4 := h3.1
  simp only [bodyM, List.length_append, List.length_cons, List.length_nil] at a1 ⊢
  omega
end Go.Proofs.Ytbajnnpihjmjmaa
