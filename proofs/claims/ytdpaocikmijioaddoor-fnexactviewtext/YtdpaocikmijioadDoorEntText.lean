/-
  EntryText, the program's and the specification's: the same text. No statement is proved here.
-/
import Derived.Test.YtdpaocikmijioadDoorEntA
import Derived.Test.YtdpaocikmijioadDoorDigits
import Derived.Test.YtdpaocikmijioadDoorItoa
import Derived.Test.YtdpaocikmijioadDoorRegs
namespace Go.Proofs.YtdpaocikmijioadDoor
open Go.RowKit

def rkT (x : Int) : ByteArray := if x = 0 then ⟨#[117]⟩ else if x = 1 then ⟨#[103]⟩ else ⟨#[63]⟩
theorem rktext_is (x : Int) (w : World) : Calls Tryd.prog 39 #[.int .i64 x] w fun e w' => e = .returned (.string (rkT x)) ∧ w = w' := by
  by_cases h1 : x = 0
  · subst h1
    go_enter Tryd.func39, Tryd.ntmps39
    go_wp2
    go_ret
    exact ⟨rfl, rfl⟩
  · have hd1 : (x == 0) = false := by simpa using h1
    by_cases h2 : x = 1
    · subst h2
      go_enter Tryd.func39, Tryd.ntmps39
      go_wp2
      go_ret
      exact ⟨rfl, rfl⟩
    · have hd2 : (x == 1) = false := by simpa using h2
      have hk : Hid (rkT x = ⟨#[63]⟩) := by unfold rkT; rw [if_neg h1, if_neg h2]; exact rfl
      clear h1 h2
      go_enter Tryd.func39, Tryd.ntmps39
      go_wp2
      go_ret
      exact ⟨by rw [unhide hk]; rfl, rfl⟩
theorem rktext_b (x : Int) (w : World) : Calls Tryd.prog 39 #[.int .i64 x] w fun e w' => e = .returned (.string (rkT x)) ∧ Below w.heap.size w w' :=
  (rktext_is x w).mono fun e w' h => by obtain ⟨rfl, rfl⟩ := h; exact ⟨rfl, Below.refl _ _⟩
theorem keepST {ai ar ab av : Int} {ad : ByteArray} {w W w1 : World} (hb : Below W.heap.size W w1) (h : Below w.heap.size w W ∧ w.heap.size < W.heap.size ∧ W.cell? ⟨w.heap.size, 0, none⟩ = some (.int .i64 ai) ∧ W.cell? ⟨w.heap.size, 1, none⟩ = some (.int .i64 ar) ∧ W.cell? ⟨w.heap.size, 2, none⟩ = some (.int .i64 ab) ∧ W.cell? ⟨w.heap.size, 3, none⟩ = some (.int .i64 av) ∧ W.cell? ⟨w.heap.size, 4, none⟩ = some (.string ad)) : Below w.heap.size w w1 ∧ w.heap.size < w1.heap.size ∧ w1.cell? ⟨w.heap.size, 0, none⟩ = some (.int .i64 ai) ∧ w1.cell? ⟨w.heap.size, 1, none⟩ = some (.int .i64 ar) ∧ w1.cell? ⟨w.heap.size, 2, none⟩ = some (.int .i64 ab) ∧ w1.cell? ⟨w.heap.size, 3, none⟩ = some (.int .i64 av) ∧ w1.cell? ⟨w.heap.size, 4, none⟩ = some (.string ad) := by
  obtain ⟨b, z0, c0, c1, c2, c3, c4⟩ := h
  have hz := hb.size
  have hB := b.size
  exact ⟨b.trans (hb.mono hB), by omega, kc hb (by omega) c0, kc hb (by omega) c1, kc hb (by omega) c2, kc hb (by omega) c3, kc hb (by omega) c4⟩
theorem keepDT {ai ar ab av : Int} {ad : ByteArray} {w W : World} (h : Below w.heap.size w W ∧ w.heap.size < W.heap.size ∧ W.cell? ⟨w.heap.size, 0, none⟩ = some (.int .i64 ai) ∧ W.cell? ⟨w.heap.size, 1, none⟩ = some (.int .i64 ar) ∧ W.cell? ⟨w.heap.size, 2, none⟩ = some (.int .i64 ab) ∧ W.cell? ⟨w.heap.size, 3, none⟩ = some (.int .i64 av) ∧ W.cell? ⟨w.heap.size, 4, none⟩ = some (.string ad)) : Below w.heap.size w W.drew ∧ w.heap.size < W.drew.heap.size ∧ W.drew.cell? ⟨w.heap.size, 0, none⟩ = some (.int .i64 ai) ∧ W.drew.cell? ⟨w.heap.size, 1, none⟩ = some (.int .i64 ar) ∧ W.drew.cell? ⟨w.heap.size, 2, none⟩ = some (.int .i64 ab) ∧ W.drew.cell? ⟨w.heap.size, 3, none⟩ = some (.int .i64 av) ∧ W.drew.cell? ⟨w.heap.size, 4, none⟩ = some (.string ad) := ⟨h.1.drew, h.2⟩
theorem keepAT {ai ar ab av : Int} {ad : ByteArray} {w W : World} (o : Obj) (h : Below w.heap.size w W ∧ w.heap.size < W.heap.size ∧ W.cell? ⟨w.heap.size, 0, none⟩ = some (.int .i64 ai) ∧ W.cell? ⟨w.heap.size, 1, none⟩ = some (.int .i64 ar) ∧ W.cell? ⟨w.heap.size, 2, none⟩ = some (.int .i64 ab) ∧ W.cell? ⟨w.heap.size, 3, none⟩ = some (.int .i64 av) ∧ W.cell? ⟨w.heap.size, 4, none⟩ = some (.string ad)) : Below w.heap.size w (W.alloc o) ∧ w.heap.size < (W.alloc o).heap.size ∧ (W.alloc o).cell? ⟨w.heap.size, 0, none⟩ = some (.int .i64 ai) ∧ (W.alloc o).cell? ⟨w.heap.size, 1, none⟩ = some (.int .i64 ar) ∧ (W.alloc o).cell? ⟨w.heap.size, 2, none⟩ = some (.int .i64 ab) ∧ (W.alloc o).cell? ⟨w.heap.size, 3, none⟩ = some (.int .i64 av) ∧ (W.alloc o).cell? ⟨w.heap.size, 4, none⟩ = some (.string ad) := by
  obtain ⟨b, z0, c0, c1, c2, c3, c4⟩ := h
  exact ⟨b.alloc b.size o, by simp; omega, ka (by omega) c0, ka (by omega) c1, ka (by omega) c2, ka (by omega) c3, ka (by omega) c4⟩
theorem keepADT {ai ar ab av : Int} {ad : ByteArray} {w W : World} (o : Obj) (h : Below w.heap.size w W.drew ∧ w.heap.size < W.drew.heap.size ∧ W.drew.cell? ⟨w.heap.size, 0, none⟩ = some (.int .i64 ai) ∧ W.drew.cell? ⟨w.heap.size, 1, none⟩ = some (.int .i64 ar) ∧ W.drew.cell? ⟨w.heap.size, 2, none⟩ = some (.int .i64 ab) ∧ W.drew.cell? ⟨w.heap.size, 3, none⟩ = some (.int .i64 av) ∧ W.drew.cell? ⟨w.heap.size, 4, none⟩ = some (.string ad)) : Below w.heap.size w (W.alloc o).drew ∧ w.heap.size < (W.alloc o).drew.heap.size ∧ (W.alloc o).drew.cell? ⟨w.heap.size, 0, none⟩ = some (.int .i64 ai) ∧ (W.alloc o).drew.cell? ⟨w.heap.size, 1, none⟩ = some (.int .i64 ar) ∧ (W.alloc o).drew.cell? ⟨w.heap.size, 2, none⟩ = some (.int .i64 ab) ∧ (W.alloc o).drew.cell? ⟨w.heap.size, 3, none⟩ = some (.int .i64 av) ∧ (W.alloc o).drew.cell? ⟨w.heap.size, 4, none⟩ = some (.string ad) := keepDT (keepAT o ⟨⟨h.1.os, h.1.tape, h.1.output, h.1.size, h.1.block⟩, h.2⟩)
theorem keepBT {ai ar ab av : Int} {ad : ByteArray} {w W : World} (o1 o : Obj) (y0 : w.heap.size < W.heap.size) (_y : w.heap.size ≤ W.heap.size) (h : Below w.heap.size w (W.alloc o1) ∧ w.heap.size < (W.alloc o1).heap.size ∧ (W.alloc o1).cell? ⟨w.heap.size, 0, none⟩ = some (.int .i64 ai) ∧ (W.alloc o1).cell? ⟨w.heap.size, 1, none⟩ = some (.int .i64 ar) ∧ (W.alloc o1).cell? ⟨w.heap.size, 2, none⟩ = some (.int .i64 ab) ∧ (W.alloc o1).cell? ⟨w.heap.size, 3, none⟩ = some (.int .i64 av) ∧ (W.alloc o1).cell? ⟨w.heap.size, 4, none⟩ = some (.string ad)) : Below w.heap.size w (W.alloc o) ∧ w.heap.size < (W.alloc o).heap.size ∧ (W.alloc o).cell? ⟨w.heap.size, 0, none⟩ = some (.int .i64 ai) ∧ (W.alloc o).cell? ⟨w.heap.size, 1, none⟩ = some (.int .i64 ar) ∧ (W.alloc o).cell? ⟨w.heap.size, 2, none⟩ = some (.int .i64 ab) ∧ (W.alloc o).cell? ⟨w.heap.size, 3, none⟩ = some (.int .i64 av) ∧ (W.alloc o).cell? ⟨w.heap.size, 4, none⟩ = some (.string ad) := by
  obtain ⟨b, z0, c0, c1, c2, c3, c4⟩ := h
  exact ⟨⟨b.os, b.tape, b.output, by simp; omega, fun k hk => (Below.heap_alloc W o k (by omega)).trans ((Below.heap_alloc W o1 k (by omega)).symm.trans (b.block k hk))⟩, by simp; omega, ka (by omega) (kb (by omega) c0), ka (by omega) (kb (by omega) c1), ka (by omega) (kb (by omega) c2), ka (by omega) (kb (by omega) c3), ka (by omega) (kb (by omega) c4)⟩
theorem keepBDT {ai ar ab av : Int} {ad : ByteArray} {w W : World} (o1 o : Obj) (y0 : w.heap.size < W.heap.size) (_y : w.heap.size ≤ W.heap.size) (h : Below w.heap.size w (W.alloc o1).drew ∧ w.heap.size < (W.alloc o1).drew.heap.size ∧ (W.alloc o1).drew.cell? ⟨w.heap.size, 0, none⟩ = some (.int .i64 ai) ∧ (W.alloc o1).drew.cell? ⟨w.heap.size, 1, none⟩ = some (.int .i64 ar) ∧ (W.alloc o1).drew.cell? ⟨w.heap.size, 2, none⟩ = some (.int .i64 ab) ∧ (W.alloc o1).drew.cell? ⟨w.heap.size, 3, none⟩ = some (.int .i64 av) ∧ (W.alloc o1).drew.cell? ⟨w.heap.size, 4, none⟩ = some (.string ad)) : Below w.heap.size w (W.alloc o).drew ∧ w.heap.size < (W.alloc o).drew.heap.size ∧ (W.alloc o).drew.cell? ⟨w.heap.size, 0, none⟩ = some (.int .i64 ai) ∧ (W.alloc o).drew.cell? ⟨w.heap.size, 1, none⟩ = some (.int .i64 ar) ∧ (W.alloc o).drew.cell? ⟨w.heap.size, 2, none⟩ = some (.int .i64 ab) ∧ (W.alloc o).drew.cell? ⟨w.heap.size, 3, none⟩ = some (.int .i64 av) ∧ (W.alloc o).drew.cell? ⟨w.heap.size, 4, none⟩ = some (.string ad) := keepDT (keepBT (W := W) o1 o y0 _y ⟨⟨h.1.os, h.1.tape, h.1.output, h.1.size, h.1.block⟩, h.2⟩)

def textE (ai ar ab av : Int) (ad : ByteArray) : ByteArray := strOfNums (digs ai) ++ rkT ar ++ strOfNums (digs ab) ++ ⟨#[46]⟩ ++ strOfNums (digs av) ++ ⟨#[58]⟩ ++ ad
theorem start_box (ai ar ab av : Int) (ad : ByteArray) (w : World) (T : TypeId) : Below w.heap.size w (w.alloc (.cells #[.int .i64 ai, .int .i64 ar, .int .i64 ab, .int .i64 av, .string ad] T)) ∧ w.heap.size < (w.alloc (.cells #[.int .i64 ai, .int .i64 ar, .int .i64 ab, .int .i64 av, .string ad] T)).heap.size ∧ (w.alloc (.cells #[.int .i64 ai, .int .i64 ar, .int .i64 ab, .int .i64 av, .string ad] T)).cell? ⟨w.heap.size, 0, none⟩ = some (.int .i64 ai) ∧ (w.alloc (.cells #[.int .i64 ai, .int .i64 ar, .int .i64 ab, .int .i64 av, .string ad] T)).cell? ⟨w.heap.size, 1, none⟩ = some (.int .i64 ar) ∧ (w.alloc (.cells #[.int .i64 ai, .int .i64 ar, .int .i64 ab, .int .i64 av, .string ad] T)).cell? ⟨w.heap.size, 2, none⟩ = some (.int .i64 ab) ∧ (w.alloc (.cells #[.int .i64 ai, .int .i64 ar, .int .i64 ab, .int .i64 av, .string ad] T)).cell? ⟨w.heap.size, 3, none⟩ = some (.int .i64 av) ∧ (w.alloc (.cells #[.int .i64 ai, .int .i64 ar, .int .i64 ab, .int .i64 av, .string ad] T)).cell? ⟨w.heap.size, 4, none⟩ = some (.string ad) :=
  ⟨(Below.refl w.heap.size w).alloc (Nat.le_refl _) _, by simp, by simp [go_sem], by simp [go_sem], by simp [go_sem], by simp [go_sem], by simp [go_sem]⟩

theorem adds {P : Program} (s1 R s2 s3 ad : ByteArray) (h1 : s1.size ≤ 21) (hR : R.size ≤ 1) (h2 : s2.size ≤ 21) (h3 : s3.size ≤ 21) (hd : ad.size ≤ 1048576) :
    (∀ W : World, (Op.stringOp .add (s1) R).run P W = .ok (.string (s1 ++ R)) W) ∧ (∀ W : World, (Op.stringOp .add (s1 ++ R) s2).run P W = .ok (.string (s1 ++ R ++ s2)) W) ∧ (∀ W : World, (Op.stringOp .add (s1 ++ R ++ s2) ⟨#[46]⟩).run P W = .ok (.string (s1 ++ R ++ s2 ++ ⟨#[46]⟩)) W) ∧ (∀ W : World, (Op.stringOp .add (s1 ++ R ++ s2 ++ ⟨#[46]⟩) s3).run P W = .ok (.string (s1 ++ R ++ s2 ++ ⟨#[46]⟩ ++ s3)) W) ∧ (∀ W : World, (Op.stringOp .add (s1 ++ R ++ s2 ++ ⟨#[46]⟩ ++ s3) ⟨#[58]⟩).run P W = .ok (.string (s1 ++ R ++ s2 ++ ⟨#[46]⟩ ++ s3 ++ ⟨#[58]⟩)) W) ∧ (∀ W : World, (Op.stringOp .add (s1 ++ R ++ s2 ++ ⟨#[46]⟩ ++ s3 ++ ⟨#[58]⟩) ad).run P W = .ok (.string (s1 ++ R ++ s2 ++ ⟨#[46]⟩ ++ s3 ++ ⟨#[58]⟩ ++ ad)) W) := by
  have e1 : (⟨#[46]⟩ : ByteArray).size = 1 := rfl
  have e2 : (⟨#[58]⟩ : ByteArray).size = 1 := rfl
  refine ⟨?_, ?_, ?_, ?_, ?_, ?_⟩
  all_goals
    intro W
    exact run_string_add_sum W _ _ (by (try simp only [ByteArray.size_append]); omega)
theorem digs_size (n : Int) : (strOfNums (digs n)).size ≤ 21 := by rw [strOfNums_size]; exact digs_length n

set_option maxHeartbeats 8000000 in
theorem stext_any (ai ar ab av : Int) (ad : ByteArray) (hi1 : -9223372036854775808 ≤ ai) (hi2 : ai ≤ 9223372036854775807) (hb1 : -9223372036854775808 ≤ ab) (hb2 : ab ≤ 9223372036854775807) (hv1 : -9223372036854775808 ≤ av) (hv2 : av ≤ 9223372036854775807) (hd : ad.size ≤ 1048576) (w : World) :
    Calls Tryd.prog 21 #[.agg #[.int .i64 ai, .int .i64 ar, .int .i64 ab, .int .i64 av, .string ad]] w fun e w' => e = .returned (.string (textE ai ar ab av ad)) ∧ Below w.heap.size w w' := by
  have HS := hide (start_box ai ar ab av ad w 48)
  have hr : ((ar == 0) = true ∧ (ar == 1) = false ∧ rkT ar = ⟨#[117]⟩) ∨ ((ar == 0) = false ∧ (ar == 1) = true ∧ rkT ar = ⟨#[103]⟩) ∨ ((ar == 0) = false ∧ (ar == 1) = false ∧ rkT ar = ⟨#[63]⟩) := by
    by_cases h1 : ar = 0
    · subst h1; exact .inl ⟨rfl, rfl, rfl⟩
    · by_cases h2 : ar = 1
      · subst h2; exact .inr (.inl ⟨rfl, rfl, rfl⟩)
      · exact .inr (.inr ⟨by simpa using h1, by simpa using h2, by unfold rkT; rw [if_neg h1, if_neg h2]⟩)
  rcases hr with ⟨r0, r1, r2⟩ | ⟨r0, r1, r2⟩ | ⟨r0, r1, r2⟩
  · have HR := hide r2
    clear r2
    obtain ⟨a1, a2, a3, a4, a5, a6⟩ := adds (P := Tryd.prog) (strOfNums (digs ai)) ⟨#[117]⟩ (strOfNums (digs ab)) (strOfNums (digs av)) ad (digs_size ai) (by decide) (digs_size ab) (digs_size av) hd
    go_enter Tryd.func21, Tryd.ntmps21
    go_wp2_with fail
    go_region_held3 (fun w' => Below w.heap.size w w' ∧ w.heap.size < w'.heap.size ∧ w'.cell? ⟨w.heap.size, 0, none⟩ = some (.int .i64 ai) ∧ w'.cell? ⟨w.heap.size, 1, none⟩ = some (.int .i64 ar) ∧ w'.cell? ⟨w.heap.size, 2, none⟩ = some (.int .i64 ab) ∧ w'.cell? ⟨w.heap.size, 3, none⟩ = some (.int .i64 av) ∧ w'.cell? ⟨w.heap.size, 4, none⟩ = some (.string ad)) (first | with_reducible exact unhide (by assumption) | with_reducible exact keepDT (unhide HS) | with_reducible exact keepDT (by assumption) | with_reducible exact keepADT _ (by assumption) | (with_reducible refine keepBDT _ _ ?_ ?_ (by assumption) <;> omega) | with_reducible exact keepAT _ (by assumption) | (with_reducible refine keepBT _ _ ?_ ?_ (by assumption) <;> omega))
      (first
        | (go_at_call 20; with_reducible refine (sdigits_any ai _ hi1 hi2).mono ?_; rintro e w1 ⟨rfl, bx⟩; have hS1 := hide (keepST bx (by assumption)); obtain ⟨hw1, hz0, -⟩ := unhide hS1; have hwz := hw1.size; clear hw1; clear bx)
        | (go_at_call 20; with_reducible refine (sdigits_any ab _ hb1 hb2).mono ?_; rintro e w1 ⟨rfl, bx⟩; have hS1 := hide (keepST bx (by assumption)); obtain ⟨hw1, hz0, -⟩ := unhide hS1; have hwz := hw1.size; clear hw1; clear bx)
        | (go_at_call 20; with_reducible refine (sdigits_any av _ hv1 hv2).mono ?_; rintro e w1 ⟨rfl, bx⟩; have hS1 := hide (keepST bx (by assumption)); obtain ⟨hw1, hz0, -⟩ := unhide hS1; have hwz := hw1.size; clear hw1; clear bx))
    rename_i hS
    have hb := hide hS.1
    clear hS
    go_wp2
    go_ret
    exact ⟨by unfold textE; rw [unhide HR]; rfl, unhide hb⟩
  · have HR := hide r2
    clear r2
    obtain ⟨a1, a2, a3, a4, a5, a6⟩ := adds (P := Tryd.prog) (strOfNums (digs ai)) ⟨#[103]⟩ (strOfNums (digs ab)) (strOfNums (digs av)) ad (digs_size ai) (by decide) (digs_size ab) (digs_size av) hd
    go_enter Tryd.func21, Tryd.ntmps21
    go_wp2_with fail
    go_region_held3 (fun w' => Below w.heap.size w w' ∧ w.heap.size < w'.heap.size ∧ w'.cell? ⟨w.heap.size, 0, none⟩ = some (.int .i64 ai) ∧ w'.cell? ⟨w.heap.size, 1, none⟩ = some (.int .i64 ar) ∧ w'.cell? ⟨w.heap.size, 2, none⟩ = some (.int .i64 ab) ∧ w'.cell? ⟨w.heap.size, 3, none⟩ = some (.int .i64 av) ∧ w'.cell? ⟨w.heap.size, 4, none⟩ = some (.string ad)) (first | with_reducible exact unhide (by assumption) | with_reducible exact keepDT (unhide HS) | with_reducible exact keepDT (by assumption) | with_reducible exact keepADT _ (by assumption) | (with_reducible refine keepBDT _ _ ?_ ?_ (by assumption) <;> omega) | with_reducible exact keepAT _ (by assumption) | (with_reducible refine keepBT _ _ ?_ ?_ (by assumption) <;> omega))
      (first
        | (go_at_call 20; with_reducible refine (sdigits_any ai _ hi1 hi2).mono ?_; rintro e w1 ⟨rfl, bx⟩; have hS1 := hide (keepST bx (by assumption)); obtain ⟨hw1, hz0, -⟩ := unhide hS1; have hwz := hw1.size; clear hw1; clear bx)
        | (go_at_call 20; with_reducible refine (sdigits_any ab _ hb1 hb2).mono ?_; rintro e w1 ⟨rfl, bx⟩; have hS1 := hide (keepST bx (by assumption)); obtain ⟨hw1, hz0, -⟩ := unhide hS1; have hwz := hw1.size; clear hw1; clear bx)
        | (go_at_call 20; with_reducible refine (sdigits_any av _ hv1 hv2).mono ?_; rintro e w1 ⟨rfl, bx⟩; have hS1 := hide (keepST bx (by assumption)); obtain ⟨hw1, hz0, -⟩ := unhide hS1; have hwz := hw1.size; clear hw1; clear bx))
    rename_i hS
    have hb := hide hS.1
    clear hS
    go_wp2
    go_ret
    exact ⟨by unfold textE; rw [unhide HR]; rfl, unhide hb⟩
  · have HR := hide r2
    clear r2
    obtain ⟨a1, a2, a3, a4, a5, a6⟩ := adds (P := Tryd.prog) (strOfNums (digs ai)) ⟨#[63]⟩ (strOfNums (digs ab)) (strOfNums (digs av)) ad (digs_size ai) (by decide) (digs_size ab) (digs_size av) hd
    go_enter Tryd.func21, Tryd.ntmps21
    go_wp2_with fail
    go_region_held3 (fun w' => Below w.heap.size w w' ∧ w.heap.size < w'.heap.size ∧ w'.cell? ⟨w.heap.size, 0, none⟩ = some (.int .i64 ai) ∧ w'.cell? ⟨w.heap.size, 1, none⟩ = some (.int .i64 ar) ∧ w'.cell? ⟨w.heap.size, 2, none⟩ = some (.int .i64 ab) ∧ w'.cell? ⟨w.heap.size, 3, none⟩ = some (.int .i64 av) ∧ w'.cell? ⟨w.heap.size, 4, none⟩ = some (.string ad)) (first | with_reducible exact unhide (by assumption) | with_reducible exact keepDT (unhide HS) | with_reducible exact keepDT (by assumption) | with_reducible exact keepADT _ (by assumption) | (with_reducible refine keepBDT _ _ ?_ ?_ (by assumption) <;> omega) | with_reducible exact keepAT _ (by assumption) | (with_reducible refine keepBT _ _ ?_ ?_ (by assumption) <;> omega))
      (first
        | (go_at_call 20; with_reducible refine (sdigits_any ai _ hi1 hi2).mono ?_; rintro e w1 ⟨rfl, bx⟩; have hS1 := hide (keepST bx (by assumption)); obtain ⟨hw1, hz0, -⟩ := unhide hS1; have hwz := hw1.size; clear hw1; clear bx)
        | (go_at_call 20; with_reducible refine (sdigits_any ab _ hb1 hb2).mono ?_; rintro e w1 ⟨rfl, bx⟩; have hS1 := hide (keepST bx (by assumption)); obtain ⟨hw1, hz0, -⟩ := unhide hS1; have hwz := hw1.size; clear hw1; clear bx)
        | (go_at_call 20; with_reducible refine (sdigits_any av _ hv1 hv2).mono ?_; rintro e w1 ⟨rfl, bx⟩; have hS1 := hide (keepST bx (by assumption)); obtain ⟨hw1, hz0, -⟩ := unhide hS1; have hwz := hw1.size; clear hw1; clear bx))
    rename_i hS
    have hb := hide hS.1
    clear hS
    go_wp2
    go_ret
    exact ⟨by unfold textE; rw [unhide HR]; rfl, unhide hb⟩
theorem rkT_size (x : Int) : (rkT x).size ≤ 1 := by
  unfold rkT
  split
  · decide
  · split <;> decide
theorem keepOne {ai ar ab av : Int} {ad : ByteArray} {w W : World} (h : Below w.heap.size w W ∧ w.heap.size < W.heap.size ∧ W.cell? ⟨w.heap.size, 0, none⟩ = some (.int .i64 ai) ∧ W.cell? ⟨w.heap.size, 1, none⟩ = some (.int .i64 ar) ∧ W.cell? ⟨w.heap.size, 2, none⟩ = some (.int .i64 ab) ∧ W.cell? ⟨w.heap.size, 3, none⟩ = some (.int .i64 av) ∧ W.cell? ⟨w.heap.size, 4, none⟩ = some (.string ad)) : Below w.heap.size w W := h.1

set_option maxHeartbeats 8000000 in
theorem itext_any (ai ar ab av : Int) (ad : ByteArray) (hi1 : -9223372036854775808 ≤ ai) (hi2 : ai ≤ 9223372036854775807) (hb1 : -9223372036854775808 ≤ ab) (hb2 : ab ≤ 9223372036854775807) (hv1 : -9223372036854775808 ≤ av) (hv2 : av ≤ 9223372036854775807) (hd : ad.size ≤ 1048576) (w : World) (hT : Lib.TabIs Tryd.prog w "internal/strconv.uint64pow10" .u64 Lib.pow10Tab) :
    Calls Tryd.prog 26 #[.agg #[.int .i64 ai, .int .i64 ar, .int .i64 ab, .int .i64 av, .string ad]] w fun e w' => e = .returned (.string (textE ai ar ab av ad)) ∧ Below w.heap.size w w' := by
  have HS := hide (start_box ai ar ab av ad w 48)
  have HT := hide hT
  clear hT
  obtain ⟨a1, a2, a3, a4, a5, a6⟩ := adds (P := Tryd.prog) (strOfNums (digs ai)) (rkT ar) (strOfNums (digs ab)) (strOfNums (digs av)) ad (digs_size ai) (rkT_size ar) (digs_size ab) (digs_size av) hd
  go_enter Tryd.func26, Tryd.ntmps26
  go_wp2_with fail
  go_region_held3 (fun w' => Below w.heap.size w w' ∧ w.heap.size < w'.heap.size ∧ w'.cell? ⟨w.heap.size, 0, none⟩ = some (.int .i64 ai) ∧ w'.cell? ⟨w.heap.size, 1, none⟩ = some (.int .i64 ar) ∧ w'.cell? ⟨w.heap.size, 2, none⟩ = some (.int .i64 ab) ∧ w'.cell? ⟨w.heap.size, 3, none⟩ = some (.int .i64 av) ∧ w'.cell? ⟨w.heap.size, 4, none⟩ = some (.string ad)) (first | with_reducible exact unhide (by assumption) | with_reducible exact keepDT (unhide HS) | with_reducible exact keepDT (by assumption) | with_reducible exact keepADT _ (by assumption) | (with_reducible refine keepBDT _ _ ?_ ?_ (by assumption) <;> omega) | with_reducible exact keepAT _ (by assumption) | (with_reducible refine keepBT _ _ ?_ ?_ (by assumption) <;> omega))
    (first
      | (go_at_call 39; with_reducible refine (rktext_b ar _).mono ?_; rintro e w1 ⟨rfl, bx⟩; have hS1 := hide (keepST bx (by assumption)); obtain ⟨hw1, hz0, -⟩ := unhide hS1; have hwz := hw1.size; clear hw1; clear bx)
      | (go_at_call 25; have hb0 := keepOne (by assumption); with_reducible refine (idigits_any ai _ hi1 hi2 (tab_later (unhide HT) hb0 (tab_lt (unhide HT)))).mono ?_; clear hb0; rintro e w1 ⟨rfl, bx⟩; have hS1 := hide (keepST bx (by assumption)); obtain ⟨hw1, hz0, -⟩ := unhide hS1; have hwz := hw1.size; clear hw1; clear bx)
      | (go_at_call 25; have hb0 := keepOne (by assumption); with_reducible refine (idigits_any ab _ hb1 hb2 (tab_later (unhide HT) hb0 (tab_lt (unhide HT)))).mono ?_; clear hb0; rintro e w1 ⟨rfl, bx⟩; have hS1 := hide (keepST bx (by assumption)); obtain ⟨hw1, hz0, -⟩ := unhide hS1; have hwz := hw1.size; clear hw1; clear bx)
      | (go_at_call 25; have hb0 := keepOne (by assumption); with_reducible refine (idigits_any av _ hv1 hv2 (tab_later (unhide HT) hb0 (tab_lt (unhide HT)))).mono ?_; clear hb0; rintro e w1 ⟨rfl, bx⟩; have hS1 := hide (keepST bx (by assumption)); obtain ⟨hw1, hz0, -⟩ := unhide hS1; have hwz := hw1.size; clear hw1; clear bx))
  rename_i hS
  have hb := hide hS.1
  clear hS
  go_wp2
  go_ret
  exact ⟨rfl, unhide hb⟩
end Go.Proofs.YtdpaocikmijioadDoor
