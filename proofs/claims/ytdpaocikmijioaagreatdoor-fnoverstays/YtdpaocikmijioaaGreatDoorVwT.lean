/-
  EntryText, the program's and the specification's: the same text. No statement is proved here.
  A row that came in as an argument: what it reads as. No statement is proved here.
  A state that came in as an argument: its value written out, and what its rows read as. No statement is proved here.
  A state's text: words, and one blank between them. No program here, no statement is proved here.
  StateText of the specification. No statement is proved here.
  The program's StateText. No statement is proved here.
  StateText of both, the text a letter. No statement is proved here.
  ViewText of both. No statement is proved here.
-/
import Derived.Test.YtdpaocikmijioaaGreatDoorEntA
import Derived.Test.YtdpaocikmijioaaGreatDoorItoa
import Derived.Test.YtdpaocikmijioaaGreatDoorRegs
import Derived.Test.YtdpaocikmijioaaGreatDoorRw
import Derived.ProofKit
import Derived.ChangeArms
import Derived.Deep.Slices
import Derived.Test.YtdpaocikmijioaaGreatDoorStA
import Derived.Test.YtdpaocikmijioaaGreatDoorEntOf
import Derived.Lib.Join
import Derived.Test.YtdpaocikmijioaaGreatDoorRegs6
import Derived.Test.YtdpaocikmijioaaGreatDoorApp2
import Derived.Test.YtdpaocikmijioaaGreatDoorStT
import Derived.Test.YtdpaocikmijioaaGreatDoorVwV
import Derived.Test.YtdpaocikmijioaaGreatDoorVwW
namespace Go.Proofs.YtdpaocikmijioaaGreatDoor
open Go.RowKit

def rkT (x : Int) : ByteArray := if x = 0 then ⟨#[117]⟩ else if x = 1 then ⟨#[103]⟩ else ⟨#[63]⟩
theorem rktext_is (x : Int) (w : World) : Calls Tryz.prog 68 #[.int .i64 x] w fun e w' => e = .returned (.string (rkT x)) ∧ w = w' := by
  by_cases h1 : x = 0
  · subst h1
    go_enter Tryz.func68, Tryz.ntmps68
    go_wp2
    go_ret
    exact ⟨rfl, rfl⟩
  · have hd1 : (x == 0) = false := by simpa using h1
    by_cases h2 : x = 1
    · subst h2
      go_enter Tryz.func68, Tryz.ntmps68
      go_wp2
      go_ret
      exact ⟨rfl, rfl⟩
    · have hd2 : (x == 1) = false := by simpa using h2
      have hk : Hid (rkT x = ⟨#[63]⟩) := by unfold rkT; rw [if_neg h1, if_neg h2]; exact rfl
      clear h1 h2
      go_enter Tryz.func68, Tryz.ntmps68
      go_wp2
      go_ret
      exact ⟨by rw [unhide hk]; rfl, rfl⟩
theorem rktext_b (x : Int) (w : World) : Calls Tryz.prog 68 #[.int .i64 x] w fun e w' => e = .returned (.string (rkT x)) ∧ Below w.heap.size w w' :=
  (rktext_is x w).mono fun e w' h => by obtain ⟨rfl, rfl⟩ := h; exact ⟨rfl, Below.refl _ _⟩
theorem keepST {ai ar ab av : Int} {ad : ByteArray} {w W w1 : World} (hb : Below W.heap.size W w1) (h : Below w.heap.size w W ∧ w.heap.size < W.heap.size ∧ W.cell? ⟨w.heap.size, 0, none⟩ = some (.int .i64 ai) ∧ W.cell? ⟨w.heap.size, 1, none⟩ = some (.int .i64 ar) ∧ W.cell? ⟨w.heap.size, 2, none⟩ = some (.int .i64 ab) ∧ W.cell? ⟨w.heap.size, 3, none⟩ = some (.int .i64 av) ∧ W.cell? ⟨w.heap.size, 4, none⟩ = some (.string ad)) : Below w.heap.size w w1 ∧ w.heap.size < w1.heap.size ∧ w1.cell? ⟨w.heap.size, 0, none⟩ = some (.int .i64 ai) ∧ w1.cell? ⟨w.heap.size, 1, none⟩ = some (.int .i64 ar) ∧ w1.cell? ⟨w.heap.size, 2, none⟩ = some (.int .i64 ab) ∧ w1.cell? ⟨w.heap.size, 3, none⟩ = some (.int .i64 av) ∧ w1.cell? ⟨w.heap.size, 4, none⟩ = some (.string ad) := by
  obtain ⟨b, z0, c0, c1, c2, c3, c4⟩ := h
  have hz := hb.size
  have hB := b.size
  exact ⟨b.trans (hb.mono hB), by omega, kc hb (by omega) c0, kc hb (by omega) c1, kc hb (by omega) c2, kc hb (by omega) c3, kc hb (by omega) c4⟩
theorem keepDT {ai ar ab av : Int} {ad : ByteArray} {w W : World} (h : Below w.heap.size w W ∧ w.heap.size < W.heap.size ∧ W.cell? ⟨w.heap.size, 0, none⟩ = some (.int .i64 ai) ∧ W.cell? ⟨w.heap.size, 1, none⟩ = some (.int .i64 ar) ∧ W.cell? ⟨w.heap.size, 2, none⟩ = some (.int .i64 ab) ∧ W.cell? ⟨w.heap.size, 3, none⟩ = some (.int .i64 av) ∧ W.cell? ⟨w.heap.size, 4, none⟩ = some (.string ad)) : Below w.heap.size w W.drew ∧ w.heap.size < W.drew.heap.size ∧ W.drew.cell? ⟨w.heap.size, 0, none⟩ = some (.int .i64 ai) ∧ W.drew.cell? ⟨w.heap.size, 1, none⟩ = some (.int .i64 ar) ∧ W.drew.cell? ⟨w.heap.size, 2, none⟩ = some (.int .i64 ab) ∧ W.drew.cell? ⟨w.heap.size, 3, none⟩ = some (.int .i64 av) ∧ W.drew.cell? ⟨w.heap.size, 4, none⟩ = some (.string ad) := ⟨h.1.drew, h.2⟩
theorem keepAT {ai ar ab av : Int} {ad : ByteArray} {w W : World} (o : Obj) (h : Below w.heap.size w W ∧ w.heap.size < W.heap.size ∧ W.cell? ⟨w.heap.size, 0, none⟩ = some (.int .i64 ai) ∧ W.cell? ⟨w.heap.size, 1, none⟩ = some (.int .i64 ar) ∧ W.cell? ⟨w.heap.size, 2, none⟩ = some (.int .i64 ab) ∧ W.cell? ⟨w.heap.size, 3, none⟩ = some (.int .i64 av) ∧ W.cell? ⟨w.heap.size, 4, none⟩ = some (.string ad)) : Below w.heap.size w (W.alloc o) ∧ w.heap.size < (W.alloc o).heap.size ∧ (W.alloc o).cell? ⟨w.heap.size, 0, none⟩ = some (.int .i64 ai) ∧ (W.alloc o).cell? ⟨w.heap.size, 1, none⟩ = some (.int .i64 ar) ∧ (W.alloc o).cell? ⟨w.heap.size, 2, none⟩ = some (.int .i64 ab) ∧ (W.alloc o).cell? ⟨w.heap.size, 3, none⟩ = some (.int .i64 av) ∧ (W.alloc o).cell? ⟨w.heap.size, 4, none⟩ = some (.string ad) := by
  obtain ⟨b, z0, c0, c1, c2, c3, c4⟩ := h
  exact ⟨b.alloc b.size o, by simp; omega, ka (by omega) c0, ka (by omega) c1, ka (by omega) c2, ka (by omega) c3, ka (by omega) c4⟩
theorem keepADT {ai ar ab av : Int} {ad : ByteArray} {w W : World} (o : Obj) (h : Below w.heap.size w W.drew ∧ w.heap.size < W.drew.heap.size ∧ W.drew.cell? ⟨w.heap.size, 0, none⟩ = some (.int .i64 ai) ∧ W.drew.cell? ⟨w.heap.size, 1, none⟩ = some (.int .i64 ar) ∧ W.drew.cell? ⟨w.heap.size, 2, none⟩ = some (.int .i64 ab) ∧ W.drew.cell? ⟨w.heap.size, 3, none⟩ = some (.int .i64 av) ∧ W.drew.cell? ⟨w.heap.size, 4, none⟩ = some (.string ad)) : Below w.heap.size w (W.alloc o).drew ∧ w.heap.size < (W.alloc o).drew.heap.size ∧ (W.alloc o).drew.cell? ⟨w.heap.size, 0, none⟩ = some (.int .i64 ai) ∧ (W.alloc o).drew.cell? ⟨w.heap.size, 1, none⟩ = some (.int .i64 ar) ∧ (W.alloc o).drew.cell? ⟨w.heap.size, 2, none⟩ = some (.int .i64 ab) ∧ (W.alloc o).drew.cell? ⟨w.heap.size, 3, none⟩ = some (.int .i64 av) ∧ (W.alloc o).drew.cell? ⟨w.heap.size, 4, none⟩ = some (.string ad) := keepDT (keepAT o ⟨⟨h.1.os, h.1.tape, h.1.output, h.1.size, h.1.block⟩, h.2⟩)
theorem keepBT {ai ar ab av : Int} {ad : ByteArray} {w W : World} (o1 o : Obj) (y0 : w.heap.size < W.heap.size) (_y : w.heap.size ≤ W.heap.size) (h : Below w.heap.size w (W.alloc o1) ∧ w.heap.size < (W.alloc o1).heap.size ∧ (W.alloc o1).cell? ⟨w.heap.size, 0, none⟩ = some (.int .i64 ai) ∧ (W.alloc o1).cell? ⟨w.heap.size, 1, none⟩ = some (.int .i64 ar) ∧ (W.alloc o1).cell? ⟨w.heap.size, 2, none⟩ = some (.int .i64 ab) ∧ (W.alloc o1).cell? ⟨w.heap.size, 3, none⟩ = some (.int .i64 av) ∧ (W.alloc o1).cell? ⟨w.heap.size, 4, none⟩ = some (.string ad)) : Below w.heap.size w (W.alloc o) ∧ w.heap.size < (W.alloc o).heap.size ∧ (W.alloc o).cell? ⟨w.heap.size, 0, none⟩ = some (.int .i64 ai) ∧ (W.alloc o).cell? ⟨w.heap.size, 1, none⟩ = some (.int .i64 ar) ∧ (W.alloc o).cell? ⟨w.heap.size, 2, none⟩ = some (.int .i64 ab) ∧ (W.alloc o).cell? ⟨w.heap.size, 3, none⟩ = some (.int .i64 av) ∧ (W.alloc o).cell? ⟨w.heap.size, 4, none⟩ = some (.string ad) := by
  obtain ⟨b, z0, c0, c1, c2, c3, c4⟩ := h
  exact ⟨⟨b.os, b.tape, b.output, by simp; omega, fun k hk => (Below.heap_alloc W o k (by omega)).trans ((Below.heap_alloc W o1 k (by omega)).symm.trans (b.block k hk))⟩, by simp; omega, ka (by omega) (kb (by omega) c0), ka (by omega) (kb (by omega) c1), ka (by omega) (kb (by omega) c2), ka (by omega) (kb (by omega) c3), ka (by omega) (kb (by omega) c4)⟩
theorem keepBDT {ai ar ab av : Int} {ad : ByteArray} {w W : World} (o1 o : Obj) (y0 : w.heap.size < W.heap.size) (_y : w.heap.size ≤ W.heap.size) (h : Below w.heap.size w (W.alloc o1).drew ∧ w.heap.size < (W.alloc o1).drew.heap.size ∧ (W.alloc o1).drew.cell? ⟨w.heap.size, 0, none⟩ = some (.int .i64 ai) ∧ (W.alloc o1).drew.cell? ⟨w.heap.size, 1, none⟩ = some (.int .i64 ar) ∧ (W.alloc o1).drew.cell? ⟨w.heap.size, 2, none⟩ = some (.int .i64 ab) ∧ (W.alloc o1).drew.cell? ⟨w.heap.size, 3, none⟩ = some (.int .i64 av) ∧ (W.alloc o1).drew.cell? ⟨w.heap.size, 4, none⟩ = some (.string ad)) : Below w.heap.size w (W.alloc o).drew ∧ w.heap.size < (W.alloc o).drew.heap.size ∧ (W.alloc o).drew.cell? ⟨w.heap.size, 0, none⟩ = some (.int .i64 ai) ∧ (W.alloc o).drew.cell? ⟨w.heap.size, 1, none⟩ = some (.int .i64 ar) ∧ (W.alloc o).drew.cell? ⟨w.heap.size, 2, none⟩ = some (.int .i64 ab) ∧ (W.alloc o).drew.cell? ⟨w.heap.size, 3, none⟩ = some (.int .i64 av) ∧ (W.alloc o).drew.cell? ⟨w.heap.size, 4, none⟩ = some (.string ad) := keepDT (keepBT (W := W) o1 o y0 _y ⟨⟨h.1.os, h.1.tape, h.1.output, h.1.size, h.1.block⟩, h.2⟩)

def textE (ai ar ab av : Int) (ad : ByteArray) : ByteArray := strOfNums (digs ai) ++ rkT ar ++ strOfNums (digs ab) ++ ⟨#[46]⟩ ++ strOfNums (digs av) ++ ⟨#[58]⟩ ++ ad
theorem start_box (ai ar ab av : Int) (ad : ByteArray) (w : World) (T : TypeId) : Below w.heap.size w (w.alloc (.cells #[.int .i64 ai, .int .i64 ar, .int .i64 ab, .int .i64 av, .string ad] T)) ∧ w.heap.size < (w.alloc (.cells #[.int .i64 ai, .int .i64 ar, .int .i64 ab, .int .i64 av, .string ad] T)).heap.size ∧ (w.alloc (.cells #[.int .i64 ai, .int .i64 ar, .int .i64 ab, .int .i64 av, .string ad] T)).cell? ⟨w.heap.size, 0, none⟩ = some (.int .i64 ai) ∧ (w.alloc (.cells #[.int .i64 ai, .int .i64 ar, .int .i64 ab, .int .i64 av, .string ad] T)).cell? ⟨w.heap.size, 1, none⟩ = some (.int .i64 ar) ∧ (w.alloc (.cells #[.int .i64 ai, .int .i64 ar, .int .i64 ab, .int .i64 av, .string ad] T)).cell? ⟨w.heap.size, 2, none⟩ = some (.int .i64 ab) ∧ (w.alloc (.cells #[.int .i64 ai, .int .i64 ar, .int .i64 ab, .int .i64 av, .string ad] T)).cell? ⟨w.heap.size, 3, none⟩ = some (.int .i64 av) ∧ (w.alloc (.cells #[.int .i64 ai, .int .i64 ar, .int .i64 ab, .int .i64 av, .string ad] T)).cell? ⟨w.heap.size, 4, none⟩ = some (.string ad) :=
  ⟨(Below.refl w.heap.size w).alloc (Nat.le_refl _) _, by simp, by simp [go_sem], by simp [go_sem], by simp [go_sem], by simp [go_sem], by simp [go_sem]⟩

theorem adds {P : Program} (s1 R s2 s3 ad : ByteArray) (h1 : s1.size ≤ 21) (hR : R.size ≤ 1) (h2 : s2.size ≤ 21) (h3 : s3.size ≤ 21) (hd : ad.size ≤ 1048576) :
    (∀ W : World, (Op.stringOp .add (s1) R).run P W = .ok (.string (s1 ++ R)) W) ∧ (∀ W : World, (Op.stringOp .add (s1 ++ R) s2).run P W = .ok (.string (s1 ++ R ++ s2)) W) ∧ (∀ W : World, (Op.stringOp .add (s1 ++ R ++ s2) ⟨#[46]⟩).run P W = .ok (.string (s1 ++ R ++ s2 ++ ⟨#[46]⟩)) W) ∧ (∀ W : World, (Op.stringOp .add (s1 ++ R ++ s2 ++ ⟨#[46]⟩) s3).run P W = .ok (.string (s1 ++ R ++ s2 ++ ⟨#[46]⟩ ++ s3)) W) ∧ (∀ W : World, (Op.stringOp .add (s1 ++ R ++ s2 ++ ⟨#[46]⟩ ++ s3) ⟨#[58]⟩).run P W = .ok (.string (s1 ++ R ++ s2 ++ ⟨#[46]⟩ ++ s3 ++ ⟨#[58]⟩)) W) ∧ (∀ W : World, (Op.stringOp .add (s1 ++ R ++ s2 ++ ⟨#[46]⟩ ++ s3 ++ ⟨#[58]⟩) ad).run P W = .ok (.string (s1 ++ R ++ s2 ++ ⟨#[46]⟩ ++ s3 ++ ⟨#[58]⟩ ++ ad)) W) := by
  have e1 : (⟨#[46]⟩ : ByteArray).size = 1 := rfl
  have e2 : (⟨#[58]⟩ : ByteArray).size = 1 := rfl
  refine ⟨?_, ?_, ?_, ?_, ?_, ?_⟩
  all_goals
    intro W
    exact run_string_add_sum W _ _ (by (try simp only [ByteArray.size_append]); omega)
theorem digs_size (n : Int) : (strOfNums (digs n)).size ≤ 21 := by rw [strOfNums_size]; exact digs_length n

set_option maxHeartbeats 8000000 in
theorem stext_any (ai ar ab av : Int) (ad : ByteArray) (hi1 : -9223372036854775808 ≤ ai) (hi2 : ai ≤ 9223372036854775807) (hb1 : -9223372036854775808 ≤ ab) (hb2 : ab ≤ 9223372036854775807) (hv1 : -9223372036854775808 ≤ av) (hv2 : av ≤ 9223372036854775807) (hd : ad.size ≤ 1048576) (w : World) :
    Calls Tryz.prog 54 #[.agg #[.int .i64 ai, .int .i64 ar, .int .i64 ab, .int .i64 av, .string ad]] w fun e w' => e = .returned (.string (textE ai ar ab av ad)) ∧ Below w.heap.size w w' := by
  have HS := hide (start_box ai ar ab av ad w 33)
  have hr : ((ar == 0) = true ∧ (ar == 1) = false ∧ rkT ar = ⟨#[117]⟩) ∨ ((ar == 0) = false ∧ (ar == 1) = true ∧ rkT ar = ⟨#[103]⟩) ∨ ((ar == 0) = false ∧ (ar == 1) = false ∧ rkT ar = ⟨#[63]⟩) := by
    by_cases h1 : ar = 0
    · subst h1; exact .inl ⟨rfl, rfl, rfl⟩
    · by_cases h2 : ar = 1
      · subst h2; exact .inr (.inl ⟨rfl, rfl, rfl⟩)
      · exact .inr (.inr ⟨by simpa using h1, by simpa using h2, by unfold rkT; rw [if_neg h1, if_neg h2]⟩)
  rcases hr with ⟨r0, r1, r2⟩ | ⟨r0, r1, r2⟩ | ⟨r0, r1, r2⟩
  · have HR := hide r2
    clear r2
    obtain ⟨a1, a2, a3, a4, a5, a6⟩ := adds (P := Tryz.prog) (strOfNums (digs ai)) ⟨#[117]⟩ (strOfNums (digs ab)) (strOfNums (digs av)) ad (digs_size ai) (by decide) (digs_size ab) (digs_size av) hd
    go_enter Tryz.func54, Tryz.ntmps54
    go_wp2_with fail
    go_region_held3 (fun w' => Below w.heap.size w w' ∧ w.heap.size < w'.heap.size ∧ w'.cell? ⟨w.heap.size, 0, none⟩ = some (.int .i64 ai) ∧ w'.cell? ⟨w.heap.size, 1, none⟩ = some (.int .i64 ar) ∧ w'.cell? ⟨w.heap.size, 2, none⟩ = some (.int .i64 ab) ∧ w'.cell? ⟨w.heap.size, 3, none⟩ = some (.int .i64 av) ∧ w'.cell? ⟨w.heap.size, 4, none⟩ = some (.string ad)) (first | with_reducible exact unhide (by assumption) | with_reducible exact keepDT (unhide HS) | with_reducible exact keepDT (by assumption) | with_reducible exact keepADT _ (by assumption) | (with_reducible refine keepBDT _ _ ?_ ?_ (by assumption) <;> omega) | with_reducible exact keepAT _ (by assumption) | (with_reducible refine keepBT _ _ ?_ ?_ (by assumption) <;> omega))
      (first
        | (go_at_call 53; with_reducible refine (sdigits_any ai _ hi1 hi2).mono ?_; rintro e w1 ⟨rfl, bx⟩; have hS1 := hide (keepST bx (by assumption)); obtain ⟨hw1, hz0, -⟩ := unhide hS1; have hwz := hw1.size; clear hw1; clear bx)
        | (go_at_call 53; with_reducible refine (sdigits_any ab _ hb1 hb2).mono ?_; rintro e w1 ⟨rfl, bx⟩; have hS1 := hide (keepST bx (by assumption)); obtain ⟨hw1, hz0, -⟩ := unhide hS1; have hwz := hw1.size; clear hw1; clear bx)
        | (go_at_call 53; with_reducible refine (sdigits_any av _ hv1 hv2).mono ?_; rintro e w1 ⟨rfl, bx⟩; have hS1 := hide (keepST bx (by assumption)); obtain ⟨hw1, hz0, -⟩ := unhide hS1; have hwz := hw1.size; clear hw1; clear bx))
    rename_i hS
    have hb := hide hS.1
    clear hS
    go_wp2
    go_ret
    exact ⟨by unfold textE; rw [unhide HR]; rfl, unhide hb⟩
  · have HR := hide r2
    clear r2
    obtain ⟨a1, a2, a3, a4, a5, a6⟩ := adds (P := Tryz.prog) (strOfNums (digs ai)) ⟨#[103]⟩ (strOfNums (digs ab)) (strOfNums (digs av)) ad (digs_size ai) (by decide) (digs_size ab) (digs_size av) hd
    go_enter Tryz.func54, Tryz.ntmps54
    go_wp2_with fail
    go_region_held3 (fun w' => Below w.heap.size w w' ∧ w.heap.size < w'.heap.size ∧ w'.cell? ⟨w.heap.size, 0, none⟩ = some (.int .i64 ai) ∧ w'.cell? ⟨w.heap.size, 1, none⟩ = some (.int .i64 ar) ∧ w'.cell? ⟨w.heap.size, 2, none⟩ = some (.int .i64 ab) ∧ w'.cell? ⟨w.heap.size, 3, none⟩ = some (.int .i64 av) ∧ w'.cell? ⟨w.heap.size, 4, none⟩ = some (.string ad)) (first | with_reducible exact unhide (by assumption) | with_reducible exact keepDT (unhide HS) | with_reducible exact keepDT (by assumption) | with_reducible exact keepADT _ (by assumption) | (with_reducible refine keepBDT _ _ ?_ ?_ (by assumption) <;> omega) | with_reducible exact keepAT _ (by assumption) | (with_reducible refine keepBT _ _ ?_ ?_ (by assumption) <;> omega))
      (first
        | (go_at_call 53; with_reducible refine (sdigits_any ai _ hi1 hi2).mono ?_; rintro e w1 ⟨rfl, bx⟩; have hS1 := hide (keepST bx (by assumption)); obtain ⟨hw1, hz0, -⟩ := unhide hS1; have hwz := hw1.size; clear hw1; clear bx)
        | (go_at_call 53; with_reducible refine (sdigits_any ab _ hb1 hb2).mono ?_; rintro e w1 ⟨rfl, bx⟩; have hS1 := hide (keepST bx (by assumption)); obtain ⟨hw1, hz0, -⟩ := unhide hS1; have hwz := hw1.size; clear hw1; clear bx)
        | (go_at_call 53; with_reducible refine (sdigits_any av _ hv1 hv2).mono ?_; rintro e w1 ⟨rfl, bx⟩; have hS1 := hide (keepST bx (by assumption)); obtain ⟨hw1, hz0, -⟩ := unhide hS1; have hwz := hw1.size; clear hw1; clear bx))
    rename_i hS
    have hb := hide hS.1
    clear hS
    go_wp2
    go_ret
    exact ⟨by unfold textE; rw [unhide HR]; rfl, unhide hb⟩
  · have HR := hide r2
    clear r2
    obtain ⟨a1, a2, a3, a4, a5, a6⟩ := adds (P := Tryz.prog) (strOfNums (digs ai)) ⟨#[63]⟩ (strOfNums (digs ab)) (strOfNums (digs av)) ad (digs_size ai) (by decide) (digs_size ab) (digs_size av) hd
    go_enter Tryz.func54, Tryz.ntmps54
    go_wp2_with fail
    go_region_held3 (fun w' => Below w.heap.size w w' ∧ w.heap.size < w'.heap.size ∧ w'.cell? ⟨w.heap.size, 0, none⟩ = some (.int .i64 ai) ∧ w'.cell? ⟨w.heap.size, 1, none⟩ = some (.int .i64 ar) ∧ w'.cell? ⟨w.heap.size, 2, none⟩ = some (.int .i64 ab) ∧ w'.cell? ⟨w.heap.size, 3, none⟩ = some (.int .i64 av) ∧ w'.cell? ⟨w.heap.size, 4, none⟩ = some (.string ad)) (first | with_reducible exact unhide (by assumption) | with_reducible exact keepDT (unhide HS) | with_reducible exact keepDT (by assumption) | with_reducible exact keepADT _ (by assumption) | (with_reducible refine keepBDT _ _ ?_ ?_ (by assumption) <;> omega) | with_reducible exact keepAT _ (by assumption) | (with_reducible refine keepBT _ _ ?_ ?_ (by assumption) <;> omega))
      (first
        | (go_at_call 53; with_reducible refine (sdigits_any ai _ hi1 hi2).mono ?_; rintro e w1 ⟨rfl, bx⟩; have hS1 := hide (keepST bx (by assumption)); obtain ⟨hw1, hz0, -⟩ := unhide hS1; have hwz := hw1.size; clear hw1; clear bx)
        | (go_at_call 53; with_reducible refine (sdigits_any ab _ hb1 hb2).mono ?_; rintro e w1 ⟨rfl, bx⟩; have hS1 := hide (keepST bx (by assumption)); obtain ⟨hw1, hz0, -⟩ := unhide hS1; have hwz := hw1.size; clear hw1; clear bx)
        | (go_at_call 53; with_reducible refine (sdigits_any av _ hv1 hv2).mono ?_; rintro e w1 ⟨rfl, bx⟩; have hS1 := hide (keepST bx (by assumption)); obtain ⟨hw1, hz0, -⟩ := unhide hS1; have hwz := hw1.size; clear hw1; clear bx))
    rename_i hS
    have hb := hide hS.1
    clear hS
    go_wp2
    go_ret
    exact ⟨by unfold textE; rw [unhide HR]; rfl, unhide hb⟩
theorem rkT_size (x : Int) : (rkT x).size ≤ 1 := by
  unfold rkT
  split
  · decide
  · split <;> decide
theorem keepOne {ai ar ab av : Int} {ad : ByteArray} {w W : World} (h : Below w.heap.size w W ∧ w.heap.size < W.heap.size ∧ W.cell? ⟨w.heap.size, 0, none⟩ = some (.int .i64 ai) ∧ W.cell? ⟨w.heap.size, 1, none⟩ = some (.int .i64 ar) ∧ W.cell? ⟨w.heap.size, 2, none⟩ = some (.int .i64 ab) ∧ W.cell? ⟨w.heap.size, 3, none⟩ = some (.int .i64 av) ∧ W.cell? ⟨w.heap.size, 4, none⟩ = some (.string ad)) : Below w.heap.size w W := h.1

set_option maxHeartbeats 8000000 in
theorem itext_any (ai ar ab av : Int) (ad : ByteArray) (hi1 : -9223372036854775808 ≤ ai) (hi2 : ai ≤ 9223372036854775807) (hb1 : -9223372036854775808 ≤ ab) (hb2 : ab ≤ 9223372036854775807) (hv1 : -9223372036854775808 ≤ av) (hv2 : av ≤ 9223372036854775807) (hd : ad.size ≤ 1048576) (w : World) (hT : Lib.TabIs Tryz.prog w "internal/strconv.uint64pow10" .u64 Lib.pow10Tab) :
    Calls Tryz.prog 51 #[.agg #[.int .i64 ai, .int .i64 ar, .int .i64 ab, .int .i64 av, .string ad]] w fun e w' => e = .returned (.string (textE ai ar ab av ad)) ∧ Below w.heap.size w w' := by
  have HS := hide (start_box ai ar ab av ad w 33)
  have HT := hide hT
  clear hT
  obtain ⟨a1, a2, a3, a4, a5, a6⟩ := adds (P := Tryz.prog) (strOfNums (digs ai)) (rkT ar) (strOfNums (digs ab)) (strOfNums (digs av)) ad (digs_size ai) (rkT_size ar) (digs_size ab) (digs_size av) hd
  go_enter Tryz.func51, Tryz.ntmps51
  go_wp2_with fail
  go_region_held3 (fun w' => Below w.heap.size w w' ∧ w.heap.size < w'.heap.size ∧ w'.cell? ⟨w.heap.size, 0, none⟩ = some (.int .i64 ai) ∧ w'.cell? ⟨w.heap.size, 1, none⟩ = some (.int .i64 ar) ∧ w'.cell? ⟨w.heap.size, 2, none⟩ = some (.int .i64 ab) ∧ w'.cell? ⟨w.heap.size, 3, none⟩ = some (.int .i64 av) ∧ w'.cell? ⟨w.heap.size, 4, none⟩ = some (.string ad)) (first | with_reducible exact unhide (by assumption) | with_reducible exact keepDT (unhide HS) | with_reducible exact keepDT (by assumption) | with_reducible exact keepADT _ (by assumption) | (with_reducible refine keepBDT _ _ ?_ ?_ (by assumption) <;> omega) | with_reducible exact keepAT _ (by assumption) | (with_reducible refine keepBT _ _ ?_ ?_ (by assumption) <;> omega))
    (first
      | (go_at_call 68; with_reducible refine (rktext_b ar _).mono ?_; rintro e w1 ⟨rfl, bx⟩; have hS1 := hide (keepST bx (by assumption)); obtain ⟨hw1, hz0, -⟩ := unhide hS1; have hwz := hw1.size; clear hw1; clear bx)
      | (go_at_call 50; have hb0 := keepOne (by assumption); with_reducible refine (idigits_any ai _ hi1 hi2 (tab_later (unhide HT) hb0 (tab_lt (unhide HT)))).mono ?_; clear hb0; rintro e w1 ⟨rfl, bx⟩; have hS1 := hide (keepST bx (by assumption)); obtain ⟨hw1, hz0, -⟩ := unhide hS1; have hwz := hw1.size; clear hw1; clear bx)
      | (go_at_call 50; have hb0 := keepOne (by assumption); with_reducible refine (idigits_any ab _ hb1 hb2 (tab_later (unhide HT) hb0 (tab_lt (unhide HT)))).mono ?_; clear hb0; rintro e w1 ⟨rfl, bx⟩; have hS1 := hide (keepST bx (by assumption)); obtain ⟨hw1, hz0, -⟩ := unhide hS1; have hwz := hw1.size; clear hw1; clear bx)
      | (go_at_call 50; have hb0 := keepOne (by assumption); with_reducible refine (idigits_any av _ hv1 hv2 (tab_later (unhide HT) hb0 (tab_lt (unhide HT)))).mono ?_; clear hb0; rintro e w1 ⟨rfl, bx⟩; have hS1 := hide (keepST bx (by assumption)); obtain ⟨hw1, hz0, -⟩ := unhide hS1; have hwz := hw1.size; clear hw1; clear bx))
  rename_i hS
  have hb := hide hS.1
  clear hS
  go_wp2
  go_ret
  exact ⟨rfl, unhide hb⟩
end Go.Proofs.YtdpaocikmijioaaGreatDoor

namespace Go.Proofs.YtdpaocikmijioaaGreatDoor
open Go.ChangeShapes Go.WideShapes Go.ChangeAt Go.RowKit

def FitN (n : Int) : Prop := -9223372036854775808 ≤ n ∧ n ≤ 9223372036854775807
theorem list_of {α : Type} {p : Nat → α → Prop} : ∀ (n : Nat), (∀ i, i < n → ∃ y, p i y) → ∃ xs : List α, xs.length = n ∧ ∀ (i : Nat) (y : α), xs[i]? = some y → p i y
  | 0, _ => ⟨[], rfl, fun i y h => by simp at h⟩
  | n + 1, h => by
    obtain ⟨xs, hl, hx⟩ := list_of n (fun i hi => h i (by omega))
    obtain ⟨y, hy⟩ := h n (by omega)
    refine ⟨xs ++ [y], by simp [hl], fun i z hz => ?_⟩
    by_cases hi : i < n
    · rw [List.getElem?_append_left (by omega)] at hz; exact hx i z hz
    · have hlt := (List.getElem?_eq_some_iff.1 hz).1
      simp [hl] at hlt
      obtain rfl : i = n := by omega
      rw [List.getElem?_append_right (by omega)] at hz
      simp [hl] at hz
      subst hz; exact hy

theorem fit_of {n : Int} (h : (Lit.int .i64 n).wf = true) : FitN n := by
  simp [Lit.wf, IntKind.min, IntKind.max, IntKind.bits, IntKind.signed] at h
  unfold FitN
  omega

theorem addr_off (b off i : Nat) : (⟨b, off, none⟩ : Addr).add i = ⟨b, off + i, none⟩ := by
  unfold Addr.add
  split
  · rename_i e; rw [e]; rfl
  · rfl

section
variable {H : Type} {enc : TypeId × Value → H} {w : World} {base : Nat} {spare : Nat → Bool} {held : Bool}

/-- A slice whose elements are structs. -/
theorem rw_of_slice {α : Type} {ec : α → List Value} {k : Nat} {Q : α → Prop} {T E : TypeId} (hT : Tryz.prog.underlying T = some (.slice E)) (hE : Tryz.prog.cellsOf E = k) (h0 : 0 < k)
    (dec : ∀ (fuel : Nat) (cs : List Value) (x : DataW H × List MemPlace), DataW.trod enc Tryz.prog w base spare held fuel E cs = some x → ∃ y, cs = ec y ∧ Q y)
    {fuel : Nat} {c : Value} {x : DataW H × List MemPlace} (h : DataW.trod enc Tryz.prog w base spare held fuel T [c] = some x) :
    ∃ a n cap xs, c = .slice a n cap ∧ n ≤ maxLen ∧ Rw ec k w (.slice a n cap) xs ∧ ∀ (i : Nat) (y : α), xs[i]? = some y → Q y := by
  rcases Deep.open_slice hT h with ⟨h1, -⟩ | ⟨a, len, cap, m, n, D, Pl, h1, hb, hl, hm, hmm, -, hx⟩
  · simp only [List.cons.injEq, and_true] at h1
    exact ⟨none, 0, 0, [], h1, by unfold maxLen; omega, Rw.nil, fun i y hy => by simp at hy⟩
  · simp only [List.cons.injEq, and_true] at h1
    subst h1
    have hlm : len ≤ m := by rw [hmm]; split <;> omega
    obtain ⟨xs, hxl, hxs⟩ := list_of (p := fun i y => (w.cells? base (a.add (i * k)) k = some (ec y)) ∧ Q y) len (fun i hi => by
      obtain ⟨cs', e1, e2⟩ := hx i (by omega)
      obtain ⟨y, rfl, hq⟩ := dec _ _ _ e2
      rw [hE] at e1
      exact ⟨y, e1, hq⟩)
    refine ⟨some a, len, cap, xs, rfl, by omega, ?_, fun i y hy => (hxs i y hy).2⟩
    subst hxl
    refine ⟨some a, cap, rfl, hl, ?_⟩
    by_cases hz : xs = []
    · exact .inl hz
    · have hpos : 0 < xs.length := List.length_pos_iff.2 hz
      have hc0 := (hxs 0 xs[0] (by simp [hpos])).1
      obtain ⟨_, hlen0, hcell0⟩ := World.cells?_some hc0
      have hc00 := hcell0 0 h0
      rw [List.getElem?_eq_getElem (by omega)] at hc00
      obtain ⟨b, off, spot⟩ := a
      have hspot : spot = none := by
        have := World.cell?_spot hc00
        simpa [Addr.add] using this
      subst hspot
      refine .inr ⟨b, off, rfl, by simpa [Addr.add] using World.block_lt_of_cell? w _ hc00, fun i y hy j hj => ?_⟩
      obtain ⟨_, _, hcell⟩ := World.cells?_some (hxs i y hy).1
      have := hcell j hj
      rw [Deep.add_add, addr_off] at this
      rw [Nat.add_assoc]
      exact this
end
end Go.Proofs.YtdpaocikmijioaaGreatDoor

namespace Go.Proofs.YtdpaocikmijioaaGreatDoor
open Go.ChangeShapes Go.WideShapes Go.ChangeAt Go.RowKit

def FitK (e : Key) : Prop := FitN e.1 ∧ FitN e.2.1 ∧ FitN e.2.2.1 ∧ FitN e.2.2.2.1
/-- Each number is one of this machine. -/
def FitI (xs : List Itm) : Prop := ∀ (k : Nat) (x : Itm), xs[k]? = some x → FitN x.1 ∧ FitK x.2
def FitF (fs : List Flr) : Prop := ∀ (k : Nat) (x : Flr), fs[k]? = some x → FitN x.1 ∧ FitN x.2

section
variable {H : Type} {enc : TypeId × Value → H} {w : World} {base : Nat} {spare : Nat → Bool} {held : Bool}

end
end Go.Proofs.YtdpaocikmijioaaGreatDoor

namespace Go.Proofs.YtdpaocikmijioaaGreatDoor
open Go.RowKit

def wI (x : Itm) : ByteArray := strOfNums (digs x.1) ++ ⟨#[61]⟩ ++ textE x.2.1 x.2.2.1 x.2.2.2.1 x.2.2.2.2.1 x.2.2.2.2.2
def wF (f : Flr) : ByteArray := ⟨#[45]⟩ ++ strOfNums (digs f.1) ++ ⟨#[60]⟩ ++ strOfNums (digs f.2)
/-- A blank, where something stands ahead. -/
def sep (s : ByteArray) : ByteArray := if s.size = 0 then s else s ++ ⟨#[32]⟩
def acc (s w : ByteArray) : ByteArray := sep s ++ w
def tx (ws : List ByteArray) : ByteArray := ws.foldl acc ⟨#[]⟩
theorem tx_nil : tx [] = ⟨#[]⟩ := rfl
theorem tx_app (ws : List ByteArray) (w : ByteArray) : tx (ws ++ [w]) = acc (tx ws) w := by simp [tx]
theorem take_map_succ {α : Type} {xs : List α} {k : Nat} {x : α} (f : α → ByteArray) (h : xs[k]? = some x) : (xs.take (k + 1)).map f = (xs.take k).map f ++ [f x] := by
  rw [List.take_add_one, h]; simp
theorem sep_size (s : ByteArray) : (sep s).size ≤ s.size + 1 := by
  unfold sep
  split
  · omega
  · rw [ByteArray.size_append]; exact Nat.le_refl _
theorem tx_size {B : Nat} : ∀ (ws : List ByteArray) (s : ByteArray), (∀ w ∈ ws, w.size ≤ B) → (ws.foldl acc s).size ≤ s.size + ws.length * (B + 1)
  | [], s, _ => by simp
  | w :: r, s, h => by
    have h1 := tx_size r (acc s w) (fun y hy => h y (by simp [hy]))
    have h2 := h w (by simp)
    have h3 := sep_size s
    have h4 : (acc s w).size = (sep s).size + w.size := by rw [acc, ByteArray.size_append]
    rw [List.foldl_cons, List.length_cons, Nat.add_mul, Nat.one_mul]
    omega
theorem textE_size (ai ar ab av : Int) (ad : ByteArray) : (textE ai ar ab av ad).size ≤ 66 + ad.size := by
  unfold textE
  have e1 : (⟨#[46]⟩ : ByteArray).size = 1 := rfl
  have e2 : (⟨#[58]⟩ : ByteArray).size = 1 := rfl
  have := digs_size ai; have := digs_size ab; have := digs_size av; have := rkT_size ar
  simp only [ByteArray.size_append]
  omega
theorem wI_size (x : Itm) (h : x.2.2.2.2.2.size ≤ 1048576) : (wI x).size ≤ 1048700 ∧ 0 < (wI x).size := by
  unfold wI
  have e1 : (⟨#[61]⟩ : ByteArray).size = 1 := rfl
  have := digs_size x.1; have := textE_size x.2.1 x.2.2.1 x.2.2.2.1 x.2.2.2.2.1 x.2.2.2.2.2
  simp only [ByteArray.size_append]
  omega
theorem wF_size (x : Flr) : (wF x).size ≤ 1048700 ∧ 0 < (wF x).size := by
  unfold wF
  have e1 : (⟨#[45]⟩ : ByteArray).size = 1 := rfl
  have e2 : (⟨#[60]⟩ : ByteArray).size = 1 := rfl
  have := digs_size x.1; have := digs_size x.2
  simp only [ByteArray.size_append]
  omega
theorem words_size {xs : List Itm} {fs : List Flr} (hs : Sml xs) : ∀ w ∈ xs.map wI ++ fs.map wF, w.size ≤ 1048700 ∧ 0 < w.size := by
  intro w hw
  rcases List.mem_append.1 hw with h | h
  · obtain ⟨x, hx, rfl⟩ := List.mem_map.1 h
    obtain ⟨k, hk, rfl⟩ := List.mem_iff_getElem.1 hx
    exact wI_size _ (hs k _ (List.getElem?_eq_getElem hk))
  · obtain ⟨x, hx, rfl⟩ := List.mem_map.1 h
    exact wF_size x
theorem txI_size {xs : List Itm} (hs : Sml xs) (k : Nat) (hk : k ≤ 1048576) : (tx ((xs.take k).map wI)).size ≤ 1099674157056 := by
  have h := tx_size (B := 1048700) ((xs.take k).map wI) ⟨#[]⟩ (fun w hw => by
    have hw2 : w ∈ xs.map wI ++ ([] : List Flr).map wF := by
      obtain ⟨x, hx, rfl⟩ := List.mem_map.1 hw
      simp only [List.map_nil, List.append_nil]
      exact List.mem_map.2 ⟨x, List.mem_of_mem_take hx, rfl⟩
    exact (words_size hs w hw2).1)
  have e0 : (⟨#[]⟩ : ByteArray).size = 0 := rfl
  have e1 : ((xs.take k).map wI).length ≤ 1048576 := by simp; omega
  have e2 : ((xs.take k).map wI).length * (1048700 + 1) ≤ 1048576 * (1048700 + 1) := Nat.mul_le_mul_right _ e1
  unfold tx
  omega
theorem txF_size {xs : List Itm} {fs : List Flr} (hs : Sml xs) (k : Nat) (hn : xs.length ≤ 1048576) (hk : k ≤ 1048576) : (tx (xs.map wI ++ (fs.take k).map wF)).size ≤ 2199348314112 := by
  have h := tx_size (B := 1048700) (xs.map wI ++ (fs.take k).map wF) ⟨#[]⟩ (fun w hw => by
    have hw2 : w ∈ xs.map wI ++ fs.map wF := by
      rcases List.mem_append.1 hw with h | h
      · exact List.mem_append.2 (.inl h)
      · obtain ⟨x, hx, rfl⟩ := List.mem_map.1 h
        exact List.mem_append.2 (.inr (List.mem_map.2 ⟨x, List.mem_of_mem_take hx, rfl⟩))
    exact (words_size hs w hw2).1)
  have e0 : (⟨#[]⟩ : ByteArray).size = 0 := rfl
  have e1 : (xs.map wI ++ (fs.take k).map wF).length ≤ 2097152 := by simp; omega
  have e2 : (xs.map wI ++ (fs.take k).map wF).length * (1048700 + 1) ≤ 2097152 * (1048700 + 1) := Nat.mul_le_mul_right _ e1
  unfold tx
  omega
theorem ba_ext {a b : ByteArray} (h : a.data.toList = b.data.toList) : a = b := by
  obtain ⟨⟨x⟩⟩ := a
  obtain ⟨⟨y⟩⟩ := b
  simp at h
  rw [h]
theorem fold_tail : ∀ (ws : List ByteArray) (s : ByteArray), 0 < s.size → (ws.foldl acc s).data.toList = s.data.toList ++ Lib.joinTail [32] (ws.map (·.data.toList))
  | [], s, _ => by simp [Lib.joinTail]
  | w :: r, s, h => by
    have e : acc s w = s ++ ⟨#[32]⟩ ++ w := by rw [acc, sep, if_neg (by omega)]
    rw [List.foldl_cons, fold_tail r (acc s w) (by rw [e, ByteArray.size_append, ByteArray.size_append]; omega), e]
    simp [Lib.joinTail, List.append_assoc]
/-- Word by word, or joined: one text. -/
theorem tx_join (ws : List ByteArray) (h : ∀ w ∈ ws, 0 < w.size) : tx ws = ⟨(Lib.join (ws.map (·.data.toList)) [32]).toArray⟩ := by
  apply ba_ext
  cases ws with
  | nil => rfl
  | cons w r =>
    have e : acc ⟨#[]⟩ w = w := by
      apply ba_ext
      rw [acc, sep, if_pos (show (⟨#[]⟩ : ByteArray).size = 0 from rfl)]
      simp
    rw [tx, List.foldl_cons, e, fold_tail r w (h w (by simp)), List.map_cons, Lib.join_cons]
theorem join_size (ws : List ByteArray) (h : ∀ w ∈ ws, 0 < w.size) : (Lib.join (ws.map (·.data.toList)) [32]).length = (tx ws).size := by
  rw [tx_join ws h]
  simp [ByteArray.size]
end Go.Proofs.YtdpaocikmijioaaGreatDoor

namespace Go.Proofs.YtdpaocikmijioaaGreatDoor
open Go.RowKit

theorem stextK_any (e : Key) (h : FitK e) (hd : e.2.2.2.2.size ≤ 1048576) (w : World) : Calls Tryz.prog 54 #[.agg #[.int .i64 e.1, .int .i64 e.2.1, .int .i64 e.2.2.1, .int .i64 e.2.2.2.1, .string e.2.2.2.2]] w fun r w' => r = .returned (.string (textE e.1 e.2.1 e.2.2.1 e.2.2.2.1 e.2.2.2.2)) ∧ Below w.heap.size w w' :=
  stext_any _ _ _ _ _ h.1.1 h.1.2 h.2.2.1.1 h.2.2.1.2 h.2.2.2.1 h.2.2.2.2 hd w
theorem sep_ways (s : ByteArray) : (s.toList.isEmpty = true ∧ sep s = s) ∨ (s.toList.isEmpty = false ∧ sep s = s ++ ⟨#[32]⟩) := by
  have e : ∀ s : ByteArray, s.toList = s.data.toList := Lib.toList_data
  by_cases h : s.size = 0
  · have hd : s.data.toList = [] := List.eq_nil_of_length_eq_zero h
    exact .inl ⟨by rw [e, hd]; rfl, by rw [sep, if_pos h]⟩
  · have hd : s.data.toList ≠ [] := fun q => h (by show s.data.size = 0; rw [← Array.length_toList, q]; rfl)
    exact .inr ⟨by rw [e]; simpa using hd, by rw [sep, if_neg h]⟩

theorem addI {P : Program} (t : ByteArray) (x : Itm) (ht : t.size ≤ 4398046511104) (hx : x.2.2.2.2.2.size ≤ 1048576) :
    (∀ W : World, (Op.stringOp .add t (strOfNums (digs x.1))).run P W = .ok (.string (t ++ strOfNums (digs x.1))) W) ∧ (∀ W : World, (Op.stringOp .add (t ++ strOfNums (digs x.1)) ⟨#[61]⟩).run P W = .ok (.string (t ++ strOfNums (digs x.1) ++ ⟨#[61]⟩)) W) ∧
      (∀ W : World, (Op.stringOp .add (t ++ strOfNums (digs x.1) ++ ⟨#[61]⟩) (textE x.2.1 x.2.2.1 x.2.2.2.1 x.2.2.2.2.1 x.2.2.2.2.2)).run P W = .ok (.string (t ++ strOfNums (digs x.1) ++ ⟨#[61]⟩ ++ textE x.2.1 x.2.2.1 x.2.2.2.1 x.2.2.2.2.1 x.2.2.2.2.2)) W) := by
  have e1 : (⟨#[61]⟩ : ByteArray).size = 1 := rfl
  have e2 := digs_size x.1
  have e3 := textE_size x.2.1 x.2.2.1 x.2.2.2.1 x.2.2.2.2.1 x.2.2.2.2.2
  refine ⟨?_, ?_, ?_⟩
  all_goals
    intro W
    exact run_string_add_sum W _ _ (by (try simp only [ByteArray.size_append]); omega)
theorem addF {P : Program} (t : ByteArray) (x : Flr) (ht : t.size ≤ 4398046511104) :
    (∀ W : World, (Op.stringOp .add t ⟨#[45]⟩).run P W = .ok (.string (t ++ ⟨#[45]⟩)) W) ∧ (∀ W : World, (Op.stringOp .add (t ++ ⟨#[45]⟩) (strOfNums (digs x.1))).run P W = .ok (.string (t ++ ⟨#[45]⟩ ++ strOfNums (digs x.1))) W) ∧
      (∀ W : World, (Op.stringOp .add (t ++ ⟨#[45]⟩ ++ strOfNums (digs x.1)) ⟨#[60]⟩).run P W = .ok (.string (t ++ ⟨#[45]⟩ ++ strOfNums (digs x.1) ++ ⟨#[60]⟩)) W) ∧
      (∀ W : World, (Op.stringOp .add (t ++ ⟨#[45]⟩ ++ strOfNums (digs x.1) ++ ⟨#[60]⟩) (strOfNums (digs x.2))).run P W = .ok (.string (t ++ ⟨#[45]⟩ ++ strOfNums (digs x.1) ++ ⟨#[60]⟩ ++ strOfNums (digs x.2))) W) := by
  have e1 : (⟨#[45]⟩ : ByteArray).size = 1 := rfl
  have e4 : (⟨#[60]⟩ : ByteArray).size = 1 := rfl
  have e2 := digs_size x.1
  have e3 := digs_size x.2
  refine ⟨?_, ?_, ?_, ?_⟩
  all_goals
    intro W
    exact run_string_add_sum W _ _ (by (try simp only [ByteArray.size_append]); omega)
theorem catI (t : ByteArray) (x : Itm) : t ++ strOfNums (digs x.1) ++ ⟨#[61]⟩ ++ textE x.2.1 x.2.2.1 x.2.2.2.1 x.2.2.2.2.1 x.2.2.2.2.2 = t ++ wI x := by
  unfold wI; rw [ByteArray.append_assoc, ByteArray.append_assoc, ByteArray.append_assoc]
theorem catF (t : ByteArray) (x : Flr) : t ++ ⟨#[45]⟩ ++ strOfNums (digs x.1) ++ ⟨#[60]⟩ ++ strOfNums (digs x.2) = t ++ wF x := by
  unfold wF; rw [ByteArray.append_assoc, ByteArray.append_assoc, ByteArray.append_assoc, ByteArray.append_assoc, ByteArray.append_assoc]

set_option maxHeartbeats 8000000 in
set_option maxRecDepth 100000 in
theorem stx_any (ai : Option Addr) (ni ci : Nat) (xs : List Itm) (af : Option Addr) (nf cf : Nat) (fs : List Flr) (hfi : FitI xs) (hff : FitF fs) (hs : Sml xs) (w : World) (hni : ni ≤ 1048576) (hnf : nf ≤ 1048576) (hx : Rw encI 6 w (.slice ai ni ci) xs) (hf : Rw encF 2 w (.slice af nf cf) fs) :
    Calls Tryz.prog 26 #[.agg #[.slice ai ni ci, .slice af nf cf]] w fun e w' => e = .returned (.string (tx (xs.map wI ++ fs.map wF))) ∧ Below w.heap.size w w' := by
  have HX := hide hx
  have HF := hide hf
  have HFI := hide hfi
  have HFF := hide hff
  have HS := hide hs
  clear hx hf hfi hff hs
  go_enter Tryz.func26, Tryz.ntmps26
  go_wp2
  go_loopw [3, 4] (fun s i wr => ∃ k : Nat, k ≤ ni ∧ i = .int .i64 k ∧ s = .string (tx ((xs.take k).map wI)) ∧ Below w.heap.size w wr ∧ wr.heap[w.heap.size]? = some (.cells #[.slice ai ni ci, .slice af nf cf] 27 (0, 0))) (fun _ i _ => ni - (intOf i).toNat)
  case atStart => exact ⟨0, Nat.zero_le _, rfl, by simp [tx_nil], (Below.refl _ _).alloc (Nat.le_refl _) _, heap_alloc_new w _⟩
  case round =>
    obtain ⟨k, hk, rfl, rfl, hbel, hblk⟩ := hrel
    have HB := hide hbel
    have HK := hide hblk
    have hsz := hbel.size
    have hz0 : w.heap.size < wr.heap.size := (Array.getElem?_eq_some_iff.mp hblk).1
    obtain ⟨p0, p1, p2⟩ := blk_cells2 hblk
    clear hblk
    by_cases hlt : k < ni
    · obtain ⟨x, b, off, hx, rfl, hb, hcap, hc⟩ := (unhide HX).at hlt
      obtain ⟨c0, c1, c2, c3, c4, c5⟩ := item_cells (w := wr) (b := b) (off := off) (k := k) (x := x) (fun j hj => (hbel.cell (p := ⟨b, off + k * 6 + j, none⟩) hb).trans (hc j hj))
      obtain ⟨hxn, hxk⟩ := unhide HFI k x hx
      have hxs := unhide HS k x hx
      have hxk1 := hide hxk
      have HT := hide (tx_app ((xs.take k).map wI) (wI x))
      rw [← take_map_succ wI hx] at HT
      have hss := txI_size (unhide HS) k (by omega)
      generalize tx ((xs.take k).map wI) = s at HT hss ⊢
      have hz1 : b < wr.heap.size := Nat.lt_of_lt_of_le hb hsz
      have l0 := later_some (w := wr) (b := w.heap.size) (o := 0) hz0 p0
      have l1 := later_some (w := wr) (b := w.heap.size) (o := 1) hz0 p1
      have m0 := later_some (w := wr) (b := b) (o := off + k * 6) hz1 c0
      have m1 := later_some (w := wr) (b := b) (o := off + k * 6 + 1) hz1 c1
      have m2 := later_some (w := wr) (b := b) (o := off + k * 6 + 2) hz1 c2
      have m3 := later_some (w := wr) (b := b) (o := off + k * 6 + 3) hz1 c3
      have m4 := later_some (w := wr) (b := b) (o := off + k * 6 + 4) hz1 c4
      have m5 := later_some (w := wr) (b := b) (o := off + k * 6 + 5) hz1 c5
      have hn1 := hxn.1
      have hn2 := hxn.2
      clear hc hx hbel hxk hxn
--@round
      rcases sep_ways s with ⟨hq, he⟩ | ⟨hq, he⟩
      · have HE := hide he
        clear he
        have ht : s.size ≤ 4398046511104 := by omega
        go_upto_region 7 with fail
        obtain ⟨a1, a2, a3⟩ := addI (P := Tryz.prog) s x ht hxs
        refine wp_region_later (by kernel_rfl) (by kernel_rfl) ?_
        repeat (go_big_quiet_step (first
          | (go_at_call 53; exact Calls.later_of (sdigits_any x.1 _ hn1 hn2))
          | (go_at_call 54; exact Calls.later_of (stextK_any x.2 (unhide hxk1) hxs _))))
        refine wpQuiet_nil ?_
        intro w1 hb1
        have HB1 := hide ((unhide HB).trans (hb1.mono hsz))
        have HK1 := hide ((hb1.block _ hz0).trans (unhide HK))
        clear hb1 HB HK
        go_wp2
        go_roundw
        case rel => exact ⟨k + 1, by omega, by go_num, by rw [unhide HT, acc, unhide HE]; exact congrArg Value.string (catI _ _), unhide HB1, unhide HK1⟩
        case measure => simp [intOf]; omega
      · have HE := hide he
        clear he
        have ht : (s ++ ⟨#[32]⟩).size ≤ 4398046511104 := by rw [ByteArray.size_append]; have : (⟨#[32]⟩ : ByteArray).size = 1 := rfl; omega
        have ab : ∀ W : World, (Op.stringOp .add s ⟨#[32]⟩).run Tryz.prog W = .ok (.string (s ++ ⟨#[32]⟩)) W := fun W => run_string_add_sum W _ _ (by have : (⟨#[32]⟩ : ByteArray).size = 1 := rfl; omega)
        go_upto_region 7 with fail
        clear ab
        generalize s ++ ⟨#[32]⟩ = t at HE ht ⊢
        obtain ⟨a1, a2, a3⟩ := addI (P := Tryz.prog) t x ht hxs
        refine wp_region_later (by kernel_rfl) (by kernel_rfl) ?_
        repeat (go_big_quiet_step (first
          | (go_at_call 53; exact Calls.later_of (sdigits_any x.1 _ hn1 hn2))
          | (go_at_call 54; exact Calls.later_of (stextK_any x.2 (unhide hxk1) hxs _))))
        refine wpQuiet_nil ?_
        intro w1 hb1
        have HB1 := hide ((unhide HB).trans (hb1.mono hsz))
        have HK1 := hide ((hb1.block _ hz0).trans (unhide HK))
        clear hb1 HB HK
        go_wp2
        go_roundw
        case rel => exact ⟨k + 1, by omega, by go_num, by rw [unhide HT, acc, unhide HE]; exact congrArg Value.string (catI _ _), unhide HB1, unhide HK1⟩
        case measure => simp [intOf]; omega
    · have HE : Hid (tx ((xs.take k).map wI) = tx (xs.map wI)) := by
        have e : xs.take k = xs := List.take_of_length_le (by have := (unhide HX).len.1; omega)
        rw [e]; exact rfl
      clear hbel
      go_wp2
      go_loopw [3, 5] (fun s i wr => ∃ k : Nat, k ≤ nf ∧ i = .int .i64 k ∧ s = .string (tx (xs.map wI ++ (fs.take k).map wF)) ∧ Below w.heap.size w wr ∧ wr.heap[w.heap.size]? = some (.cells #[.slice ai ni ci, .slice af nf cf] 27 (0, 0))) (fun _ i _ => nf - (intOf i).toNat)
      case atStart => exact ⟨0, Nat.zero_le _, rfl, by rw [unhide HE]; simp, unhide HB, unhide HK⟩
      case round =>
        clear p0 p1 p2 HB HK HE hsz hz0
        obtain ⟨k, hk, rfl, rfl, hbel, hblk⟩ := hrel
        have HB := hide hbel
        have HK := hide hblk
        have hsz := hbel.size
        have hz0 : w.heap.size < wr.heap.size := (Array.getElem?_eq_some_iff.mp hblk).1
        obtain ⟨p0, p1, p2⟩ := blk_cells2 hblk
        clear hblk
        by_cases hlt : k < nf
        · obtain ⟨x, b, off, hx, rfl, hb, hcap, hc⟩ := (unhide HF).at hlt
          have c0 : wr.cell? ⟨b, off + k * 2, none⟩ = some (.int .i64 x.1) := (hbel.cell (p := ⟨b, off + k * 2 + 0, none⟩) hb).trans (hc 0 (by omega))
          have c1 : wr.cell? ⟨b, off + k * 2 + 1, none⟩ = some (.int .i64 x.2) := (hbel.cell (p := ⟨b, off + k * 2 + 1, none⟩) hb).trans (hc 1 (by omega))
          obtain ⟨⟨hn1, hn2⟩, hn3, hn4⟩ := unhide HFF k x hx
          have HT := hide (tx_app (xs.map wI ++ (fs.take k).map wF) (wF x))
          rw [List.append_assoc, ← take_map_succ wF hx] at HT
          have hss := txF_size (fs := fs) (unhide HS) k (by have := (unhide HX).len.1; omega) (by omega)
          generalize tx (xs.map wI ++ (fs.take k).map wF) = s at HT hss ⊢
          have hz1 : b < wr.heap.size := Nat.lt_of_lt_of_le hb hsz
          have l0 := later_some (w := wr) (b := w.heap.size) (o := 0) hz0 p0
          have l1 := later_some (w := wr) (b := w.heap.size) (o := 1) hz0 p1
          have m0 := later_some (w := wr) (b := b) (o := off + k * 2) hz1 c0
          have m1 := later_some (w := wr) (b := b) (o := off + k * 2 + 1) hz1 c1
          clear hc hx hbel
          rcases sep_ways s with ⟨hq, he⟩ | ⟨hq, he⟩
          · have HE := hide he
            clear he
            have ht : s.size ≤ 4398046511104 := by omega
            go_upto_region 13 with fail
            obtain ⟨a1, a2, a3, a4⟩ := addF (P := Tryz.prog) s x ht
            refine wp_region_later (by kernel_rfl) (by kernel_rfl) ?_
            repeat (go_big_quiet_step (first
              | (go_at_call_of 53 (Value.int IntKind.i64 x.1); exact Calls.later_of (sdigits_any x.1 _ hn1 hn2))
              | (go_at_call_of 53 (Value.int IntKind.i64 x.2); exact Calls.later_of (sdigits_any x.2 _ hn3 hn4))))
            refine wpQuiet_nil ?_
            intro w1 hb1
            have HB1 := hide ((unhide HB).trans (hb1.mono hsz))
            have HK1 := hide ((hb1.block _ hz0).trans (unhide HK))
            clear hb1 HB HK
            go_wp2
            go_roundw
            case rel => exact ⟨k + 1, by omega, by go_num, by rw [unhide HT, acc, unhide HE]; exact congrArg Value.string (catF _ _), unhide HB1, unhide HK1⟩
            case measure => simp [intOf]; omega
          · have HE := hide he
            clear he
            have ht : (s ++ ⟨#[32]⟩).size ≤ 4398046511104 := by rw [ByteArray.size_append]; have : (⟨#[32]⟩ : ByteArray).size = 1 := rfl; omega
            have ab : ∀ W : World, (Op.stringOp .add s ⟨#[32]⟩).run Tryz.prog W = .ok (.string (s ++ ⟨#[32]⟩)) W := fun W => run_string_add_sum W _ _ (by have : (⟨#[32]⟩ : ByteArray).size = 1 := rfl; omega)
            go_upto_region 13 with fail
            clear ab
            generalize s ++ ⟨#[32]⟩ = t at HE ht ⊢
            obtain ⟨a1, a2, a3, a4⟩ := addF (P := Tryz.prog) t x ht
            refine wp_region_later (by kernel_rfl) (by kernel_rfl) ?_
            repeat (go_big_quiet_step (first
              | (go_at_call_of 53 (Value.int IntKind.i64 x.1); exact Calls.later_of (sdigits_any x.1 _ hn1 hn2))
              | (go_at_call_of 53 (Value.int IntKind.i64 x.2); exact Calls.later_of (sdigits_any x.2 _ hn3 hn4))))
            refine wpQuiet_nil ?_
            intro w1 hb1
            have HB1 := hide ((unhide HB).trans (hb1.mono hsz))
            have HK1 := hide ((hb1.block _ hz0).trans (unhide HK))
            clear hb1 HB HK
            go_wp2
            go_roundw
            case rel => exact ⟨k + 1, by omega, by go_num, by rw [unhide HT, acc, unhide HE]; exact congrArg Value.string (catF _ _), unhide HB1, unhide HK1⟩
            case measure => simp [intOf]; omega
        · have HE : Hid (tx (xs.map wI ++ (fs.take k).map wF) = tx (xs.map wI ++ fs.map wF)) := by
            have e : fs.take k = fs := List.take_of_length_le (by have := (unhide HF).len.1; omega)
            rw [e]; exact rfl
          clear hbel
          go_wp2
          go_ret
          exact ⟨congrArg (fun t => Ending.returned (Value.string t)) (unhide HE), unhide HB⟩
end Go.Proofs.YtdpaocikmijioaaGreatDoor

namespace Go.Proofs.YtdpaocikmijioaaGreatDoor
open Go.RowKit

def encZ (s : ByteArray) : List Value := [.string s]
theorem encZ_len (s : ByteArray) : (encZ s).length = 1 := rfl
theorem oneZ (s : ByteArray) : ∀ u ∈ encZ s, u.oneCell' = true := by
  intro u hu
  simp [encZ] at hu
  subst hu; rfl
abbrev OwZ (base : Nat) (w : World) (v : Value) (ws : List ByteArray) : Prop := Ow encZ 1 9 base w v ws
theorem Tryz.infoTxt : (Tryz.prog.info? 9).map (fun i => (i.zero, i.size, i.bytes)) = some (some (.string ⟨#[]⟩), 1, 16) := by kernel_rfl
theorem grown_low {B : Nat} {w0 W W' : World} {row : Option Nat} (hb : Below B w0 W) (h : W.grownBy W' row) (hB : B ≤ W.heap.size) (hs : ∀ i, row = some i → B ≤ i) : Below B w0 W' :=
  ⟨h.os.trans hb.os, h.tape.trans hb.tape, h.output.trans hb.output, Nat.le_trans hb.size h.size, fun i hi => (h.block i (Nat.lt_of_lt_of_le hi hB) (fun q => by have := hs i q.symm; omega)).trans (hb.block i hi)⟩
theorem kSI {w V : World} {g : Nat} {T : TypeId} {c0 c1 c2 c3 c4 c5 : Value} (b : Hid (Below w.heap.size w V)) (k : Hid (V.heap[g]? = some (.cells #[c0, c1, c2, c3, c4, c5] T (0, 0)) ∧ g < V.heap.size)) :
    Below w.heap.size w V ∧ V.cell? ⟨g, 0, none⟩ = some c0 ∧ V.cell? ⟨g, 1, none⟩ = some c1 ∧ V.cell? ⟨g, 2, none⟩ = some c2 ∧ V.cell? ⟨g, 3, none⟩ = some c3 ∧ V.cell? ⟨g, 4, none⟩ = some c4 ∧ V.cell? ⟨g, 5, none⟩ = some c5 := by
  obtain ⟨h0, h1, h2, h3, h4, h5, -⟩ := blk_cells6 (unhide k).1
  exact ⟨unhide b, h0, h1, h2, h3, h4, h5⟩
theorem kSF {w V : World} {g : Nat} {T : TypeId} {c0 c1 : Value} (b : Hid (Below w.heap.size w V)) (k : Hid (V.heap[g]? = some (.cells #[c0, c1] T (0, 0)) ∧ g < V.heap.size)) :
    Below w.heap.size w V ∧ V.cell? ⟨g, 0, none⟩ = some c0 ∧ V.cell? ⟨g, 1, none⟩ = some c1 := by
  obtain ⟨h0, h1, -⟩ := blk_cells2 (unhide k).1
  exact ⟨unhide b, h0, h1⟩
theorem kalB {w V : World} {o : Obj} (b : Hid (Below w.heap.size w V)) : Hid (Below w.heap.size w (V.alloc o)) := hide ((unhide b).alloc (unhide b).size _)
theorem kalK {V : World} {g : Nat} {o O : Obj} (k : Hid (V.heap[g]? = some O ∧ g < V.heap.size)) : Hid ((V.alloc o).heap[g]? = some O ∧ g < (V.alloc o).heap.size) := hide ⟨(Below.heap_alloc V o g (unhide k).2).trans (unhide k).1, by have := (unhide k).2; simp; omega⟩
theorem below_same {V W w1 : World} (h : Below V.heap.size V w1) (e : V.heap = W.heap ∧ V.os = W.os ∧ V.tape = W.tape ∧ V.output = W.output) : Below W.heap.size W w1 := by
  obtain ⟨e1, e2, e3, e4⟩ := e
  exact ⟨h.os.trans e2, h.tape.trans e3, h.output.trans e4, e1 ▸ h.size, fun k hk => (h.block k (e1 ▸ hk)).trans (by rw [e1])⟩
theorem itextK_any (e : Key) (h : FitK e) (hd : e.2.2.2.2.size ≤ 1048576) (w : World) (hT : Lib.TabIs Tryz.prog w "internal/strconv.uint64pow10" .u64 Lib.pow10Tab) : Calls Tryz.prog 51 #[.agg #[.int .i64 e.1, .int .i64 e.2.1, .int .i64 e.2.2.1, .int .i64 e.2.2.2.1, .string e.2.2.2.2]] w fun r w' => r = .returned (.string (textE e.1 e.2.1 e.2.2.1 e.2.2.2.1 e.2.2.2.2)) ∧ Below w.heap.size w w' :=
  itext_any _ _ _ _ _ h.1.1 h.1.2 h.2.2.1.1 h.2.2.1.2 h.2.2.2.1 h.2.2.2.2 hd w hT
theorem catsI {P : Program} (x : Itm) (hx : x.2.2.2.2.2.size ≤ 1048576) :
    (∀ W : World, (Op.stringOp .add (strOfNums (digs x.1)) ⟨#[61]⟩).run P W = .ok (.string (strOfNums (digs x.1) ++ ⟨#[61]⟩)) W) ∧ (∀ W : World, (Op.stringOp .add (strOfNums (digs x.1) ++ ⟨#[61]⟩) (textE x.2.1 x.2.2.1 x.2.2.2.1 x.2.2.2.2.1 x.2.2.2.2.2)).run P W = .ok (.string (strOfNums (digs x.1) ++ ⟨#[61]⟩ ++ textE x.2.1 x.2.2.1 x.2.2.2.1 x.2.2.2.2.1 x.2.2.2.2.2)) W) := by
  have e1 : (⟨#[61]⟩ : ByteArray).size = 1 := rfl
  have e2 := digs_size x.1
  have e3 := textE_size x.2.1 x.2.2.1 x.2.2.2.1 x.2.2.2.2.1 x.2.2.2.2.2
  refine ⟨?_, ?_⟩
  all_goals
    intro W
    exact run_string_add_sum W _ _ (by (try simp only [ByteArray.size_append]); omega)
theorem catsF {P : Program} (x : Flr) :
    (∀ W : World, (Op.stringOp .add ⟨#[45]⟩ (strOfNums (digs x.1))).run P W = .ok (.string (⟨#[45]⟩ ++ strOfNums (digs x.1))) W) ∧ (∀ W : World, (Op.stringOp .add (⟨#[45]⟩ ++ strOfNums (digs x.1)) ⟨#[60]⟩).run P W = .ok (.string (⟨#[45]⟩ ++ strOfNums (digs x.1) ++ ⟨#[60]⟩)) W) ∧
      (∀ W : World, (Op.stringOp .add (⟨#[45]⟩ ++ strOfNums (digs x.1) ++ ⟨#[60]⟩) (strOfNums (digs x.2))).run P W = .ok (.string (⟨#[45]⟩ ++ strOfNums (digs x.1) ++ ⟨#[60]⟩ ++ strOfNums (digs x.2))) W) := by
  have e1 : (⟨#[45]⟩ : ByteArray).size = 1 := rfl
  have e4 : (⟨#[60]⟩ : ByteArray).size = 1 := rfl
  have e2 := digs_size x.1
  have e3 := digs_size x.2
  refine ⟨?_, ?_, ?_⟩
  all_goals
    intro W
    exact run_string_add_sum W _ _ (by (try simp only [ByteArray.size_append]); omega)

theorem joinnone_any (a : Option Addr) (c : Nat) (w : World) : Calls Tryz.prog 52 #[.slice a 0 c, .string ⟨#[32]⟩] w fun e w' => e = .returned (.string ⟨#[]⟩) ∧ w = w' :=
  (Any.strings_Join_none Tryz.lays156 Tryz.Builder_Extra_156 a c ⟨#[32]⟩ w).mono fun _ _ ⟨h1, h2⟩ => ⟨h1, h2.symm⟩
theorem joinsome_any (g c : Nat) (ws : List ByteArray) (w : World) (hc : ∀ (j : Nat) (y : ByteArray), ws[j]? = some y → w.cell? ⟨g, 0 + j, none⟩ = some (.string y)) (hg : g < w.heap.size) (hN : ws.length ≤ 140737488355328) (hcap : ws.length ≤ c) (hlen : (Lib.join (ws.map (·.data.toList)) [32]).length ≤ 140737488355328) :
    Calls Tryz.prog 52 #[.slice (some ⟨g, 0, none⟩) ws.length c, .string ⟨#[32]⟩] w fun e w' => e = .returned (.string ⟨(Lib.join (ws.map (·.data.toList)) [32]).toArray⟩) ∧ Below w.heap.size w w' :=
  Tryz.strings_Join g 0 c ws ⟨#[32]⟩ w hc hg hN hcap hlen

set_option maxHeartbeats 8000000 in
set_option maxRecDepth 100000 in
theorem itx_any (ai : Option Addr) (ni ci : Nat) (xs : List Itm) (af : Option Addr) (nf cf : Nat) (fs : List Flr) (hfi : FitI xs) (hff : FitF fs) (hs : Sml xs) (w : World) (hT : Lib.TabIs Tryz.prog w "internal/strconv.uint64pow10" .u64 Lib.pow10Tab) (hni : ni ≤ 1048576) (hnf : nf ≤ 1048576) (hx : Rw encI 6 w (.slice ai ni ci) xs) (hf : Rw encF 2 w (.slice af nf cf) fs) :
    Calls Tryz.prog 25 #[.agg #[.slice ai ni ci, .slice af nf cf]] w fun e w' => e = .returned (.string (tx (xs.map wI ++ fs.map wF))) ∧ Below w.heap.size w w' := by
  obtain ⟨i1, gi, gz0, gz1, gz2⟩ := info_parts Tryz.infoTxt
  have HX := hide hx
  have HF := hide hf
  have HFI := hide hfi
  have HFF := hide hff
  have HS := hide hs
  have HT := hide hT
  clear hx hf hfi hff hs hT
  go_enter Tryz.func25, Tryz.ntmps25
  go_wp2
  go_loopw [3, 11] (fun v i wr => ∃ (k : Nat) (a2 : Option Addr) (n2 c2 : Nat), k ≤ ni ∧ i = .int .i64 k ∧ v = .slice a2 n2 c2 ∧ OwZ w.heap.size wr (.slice a2 n2 c2) ((xs.take k).map wI) ∧ Below w.heap.size w wr ∧ wr.heap[w.heap.size]? = some (.cells #[.slice ai ni ci, .slice af nf cf] 27 (0, 0))) (fun _ i _ => ni - (intOf i).toNat)
  case atStart => exact ⟨0, none, 0, 0, Nat.zero_le _, rfl, rfl, World.ownsRow_nil _ _ _ _, (Below.refl _ _).alloc (Nat.le_refl _) _, heap_alloc_new w _⟩
  case round =>
    obtain ⟨k, a2, n2, c2, hk, rfl, rfl, hown, hbel, hblk⟩ := hrel
    have HO := hide hown
    have HB := hide hbel
    have HK := hide hblk
    have hsz := hbel.size
    have hz0 : w.heap.size < wr.heap.size := (Array.getElem?_eq_some_iff.mp hblk).1
    have hn2 : Hid (n2 = ((xs.take k).map wI).length) := hide (hown.rw encZ_len).len.1
    have hn2l : n2 ≤ 1048576 := by have := unhide hn2; simp at this; omega
    obtain ⟨p0, p1, p2⟩ := blk_cells2 hblk
    clear hblk hown
    by_cases hlt : k < ni
    · obtain ⟨x, b, off, hx, rfl, hb, hcap, hc⟩ := (unhide HX).at hlt
      obtain ⟨c0, c1, c2', c3, c4, c5⟩ := item_cells (w := wr) (b := b) (off := off) (k := k) (x := x) (fun j hj => (hbel.cell (p := ⟨b, off + k * 6 + j, none⟩) hb).trans (hc j hj))
      obtain ⟨hxn, hxk⟩ := unhide HFI k x hx
      have hxs := unhide HS k x hx
      have hxk1 := hide hxk
      have HTK := hide (take_map_succ wI hx)
      have hn1 := hxn.1
      have hn3 := hxn.2
      obtain ⟨q1, q2⟩ := catsI (P := Tryz.prog) x hxs
      have hne := own_ne (unhide HO) (unhide HK) (by decide)
      clear hc hx hbel hxk hxn
      go_upto_region 5 with fail
      obtain ⟨V, hV⟩ : ∃ V, V = wr.alloc (.cells #[.int .i64 x.1, .int .i64 x.2.1, .int .i64 x.2.2.1, .int .i64 x.2.2.2.1, .int .i64 x.2.2.2.2.1, .string x.2.2.2.2.2] 39) := ⟨_, rfl⟩
      rw [← hV]
      have bV : Below wr.heap.size wr V := by rw [hV]; exact (Below.refl _ _).alloc (Nat.le_refl _) _
      have KX : Hid (V.heap[wr.heap.size]? = some (.cells #[.int .i64 x.1, .int .i64 x.2.1, .int .i64 x.2.2.1, .int .i64 x.2.2.2.1, .int .i64 x.2.2.2.2.1, .string x.2.2.2.2.2] 39 (0, 0)) ∧ wr.heap.size < V.heap.size) := by rw [hV]; exact hide ⟨heap_alloc_new _ _, by simp⟩
      have BX := hide ((unhide HB).trans (bV.mono hsz))
      have OX := hide ((unhide HO).later bV)
      have SX := hide (And.intro ((bV.block _ hz0).trans (unhide HK)) (Nat.lt_of_lt_of_le hz0 bV.size))
      have LX := hide (World.ownsRow.lt (unhide HO))
      have hzV := bV.size
      have KXD : Hid (V.drew.heap[wr.heap.size]? = some (.cells #[.int .i64 x.1, .int .i64 x.2.1, .int .i64 x.2.2.1, .int .i64 x.2.2.2.1, .int .i64 x.2.2.2.2.1, .string x.2.2.2.2.2] 39 (0, 0)) ∧ wr.heap.size < V.drew.heap.size) := KX
      have BXD : Hid (Below w.heap.size w V.drew) := hide (unhide BX).drew
      clear hV bV p0 p1 p2 c0 c1 c2' c3 c4 c5 HB HK HO
      go_region_held3 (fun W => Below w.heap.size w W ∧ W.cell? ⟨wr.heap.size, 0, none⟩ = some (.int .i64 x.1) ∧ W.cell? ⟨wr.heap.size, 1, none⟩ = some (.int .i64 x.2.1) ∧ W.cell? ⟨wr.heap.size, 2, none⟩ = some (.int .i64 x.2.2.1) ∧ W.cell? ⟨wr.heap.size, 3, none⟩ = some (.int .i64 x.2.2.2.1) ∧ W.cell? ⟨wr.heap.size, 4, none⟩ = some (.int .i64 x.2.2.2.2.1) ∧ W.cell? ⟨wr.heap.size, 5, none⟩ = some (.string x.2.2.2.2.2))
        (first | (with_reducible exact kSI BX KX) | (with_reducible exact kSI BXD KXD) | (with_reducible exact kSI BX1 KX1) | (with_reducible exact kSI BX2 KX2) | (with_reducible exact kSI (kalB BX2) (kalK KX2)) | (with_reducible exact kSI BX3 KX3))
        (first
          | (go_at_call 50; refine (idigits_any x.1 _ hn1 hn3 (tab_later (unhide HT) (unhide BXD) (tab_lt (unhide HT)))).mono ?_; rintro e w1 ⟨rfl, b1⟩; have b1' : Below V.heap.size V w1 := below_same b1 ⟨rfl, rfl, rfl, rfl⟩; have KX1 := hide (keptblk b1' KX); have SX1 := hide (keptblk b1' SX); have BX1 := hide ((unhide BX).trans (b1'.mono (unhide BX).size)); have OX1 := hide ((unhide OX).later b1'); have z1 := b1'.size; clear b1 b1')
          | (go_at_call 51; refine (itextK_any x.2 (unhide hxk1) hxs _ (tab_later (unhide HT) (unhide BX1) (tab_lt (unhide HT)))).mono ?_; rintro e w2 ⟨rfl, b2⟩; have KX2 := hide (keptblk b2 KX1); have SX2 := hide (keptblk b2 SX1); have BX2 := hide ((unhide BX1).trans (b2.mono (unhide BX1).size)); have OX2 := hide ((unhide OX1).later b2); have z2 := b2.size; clear b2)
          | (refine step_app1 encZ_len (by omega) oneZ 9 74 i1 _ 16 Tryz.underlying74 gi gz0 gz1 gz2 rfl (by omega) w2 (wI x) rfl _ _ rfl w.heap.size _ ((xs.take k).map wI) n2 hn2 rfl (unhide OX2) rfl (by omega) (by omega) ?_; intro a3 c3 w3 hO hG; have OX3 := hide hO; have BX3 := hide (grown_low (unhide BX2) hG (unhide BX2).size (fun i q => (unhide LX i q).1)); have KX3 := hide (And.intro ((hG.block _ (unhide KX2).2 (fun q => by have := unhide LX _ q.symm; omega)).trans (unhide KX2).1) (Nat.lt_of_lt_of_le (unhide KX2).2 hG.size)); have SX3 := hide ((hG.block _ (unhide SX2).2 (fun q => hne q.symm)).trans (unhide SX2).1); clear hO hG))
--@rest
      clear OX OX1 OX2 BX BXD BX1 BX2 KX KXD KX1 KX2 KX3 SX SX1 SX2 q1 q2
      go_wp2
      go_roundw
      case rel => exact ⟨k + 1, a3, n2 + 1, c3, by omega, by go_num, rfl, by rw [unhide HTK]; exact unhide OX3, unhide BX3, unhide SX3⟩
      case measure => simp [intOf]; omega
    · have HE : Hid (OwZ w.heap.size wr (.slice a2 n2 c2) (xs.map wI ++ (fs.take 0).map wF)) := by
        have e : xs.take k = xs := List.take_of_length_le (by have := (unhide HX).len.1; omega)
        have h := unhide HO
        rw [e] at h
        exact hide (by simpa using h)
      clear hbel HO hn2 hn2l
      go_wp2
      go_loopw [3, 30] (fun v i wr => ∃ (k : Nat) (a2 : Option Addr) (n2 c2 : Nat), k ≤ nf ∧ i = .int .i64 k ∧ v = .slice a2 n2 c2 ∧ OwZ w.heap.size wr (.slice a2 n2 c2) (xs.map wI ++ (fs.take k).map wF) ∧ Below w.heap.size w wr) (fun _ i _ => nf - (intOf i).toNat)
      case atStart => exact ⟨0, a2, n2, c2, Nat.zero_le _, rfl, rfl, unhide HE, unhide HB⟩
      case round =>
        clear p0 p1 p2 HB HK HE hsz hz0 hlt hk
        obtain ⟨k, a2, n2, c2, hk, rfl, rfl, hown, hbel⟩ := hrel
        have HO := hide hown
        have HB := hide hbel
        have hsz := hbel.size
        have hn2 : Hid (n2 = (xs.map wI ++ (fs.take k).map wF).length) := hide (hown.rw encZ_len).len.1
        have hn2l : n2 ≤ 2097152 := by have h1 := unhide hn2; have h2 := (unhide HX).len.1; rw [List.length_append, List.length_map, List.length_map, List.length_take] at h1; omega
        clear hown
        by_cases hlt : k < nf
        · obtain ⟨x, b, off, hx, rfl, hb, hcap, hc⟩ := (unhide HF).at hlt
          have c0 : wr.cell? ⟨b, off + k * 2, none⟩ = some (.int .i64 x.1) := (hbel.cell (p := ⟨b, off + k * 2 + 0, none⟩) hb).trans (hc 0 (by omega))
          have c1 : wr.cell? ⟨b, off + k * 2 + 1, none⟩ = some (.int .i64 x.2) := (hbel.cell (p := ⟨b, off + k * 2 + 1, none⟩) hb).trans (hc 1 (by omega))
          obtain ⟨⟨hn1, hn3⟩, hn4, hn5⟩ := unhide HFF k x hx
          have HTK := hide (take_map_succ wF hx)
          obtain ⟨q1, q2, q3⟩ := catsF (P := Tryz.prog) x
          clear hc hx hbel
          go_upto_region 10 with fail
          obtain ⟨V, hV⟩ : ∃ V, V = wr.alloc (.cells #[.int .i64 x.1, .int .i64 x.2] 61) := ⟨_, rfl⟩
          rw [← hV]
          have bV : Below wr.heap.size wr V := by rw [hV]; exact (Below.refl _ _).alloc (Nat.le_refl _) _
          have KX : Hid (V.heap[wr.heap.size]? = some (.cells #[.int .i64 x.1, .int .i64 x.2] 61 (0, 0)) ∧ wr.heap.size < V.heap.size) := by rw [hV]; exact hide ⟨heap_alloc_new _ _, by simp⟩
          have BX := hide ((unhide HB).trans (bV.mono hsz))
          have OX := hide ((unhide HO).later bV)
          have LX := hide (World.ownsRow.lt (unhide HO))
          have hzV := bV.size
          have KXD : Hid (V.drew.heap[wr.heap.size]? = some (.cells #[.int .i64 x.1, .int .i64 x.2] 61 (0, 0)) ∧ wr.heap.size < V.drew.heap.size) := KX
          have BXD : Hid (Below w.heap.size w V.drew) := hide (unhide BX).drew
          clear hV bV c0 c1 HB HO
          go_region_held3 (fun W => Below w.heap.size w W ∧ W.cell? ⟨wr.heap.size, 0, none⟩ = some (.int .i64 x.1) ∧ W.cell? ⟨wr.heap.size, 1, none⟩ = some (.int .i64 x.2))
            (first | (with_reducible exact kSF BX KX) | (with_reducible exact kSF BXD KXD) | (with_reducible exact kSF BX1 KX1) | (with_reducible exact kSF BX2 KX2) | (with_reducible exact kSF (kalB BX2) (kalK KX2)) | (with_reducible exact kSF BX3 KX3))
            (first
              | (go_at_call_of 50 (Value.int IntKind.i64 x.1); refine (idigits_any x.1 _ hn1 hn3 (tab_later (unhide HT) (unhide BXD) (tab_lt (unhide HT)))).mono ?_; rintro e w1 ⟨rfl, b1⟩; have b1' : Below V.heap.size V w1 := below_same b1 ⟨rfl, rfl, rfl, rfl⟩; have KX1 := hide (keptblk b1' KX); have BX1 := hide ((unhide BX).trans (b1'.mono (unhide BX).size)); have OX1 := hide ((unhide OX).later b1'); have z1 := b1'.size; clear b1 b1')
              | (go_at_call_of 50 (Value.int IntKind.i64 x.2); refine (idigits_any x.2 _ hn4 hn5 (tab_later (unhide HT) (unhide BX1) (tab_lt (unhide HT)))).mono ?_; rintro e w2 ⟨rfl, b2⟩; have KX2 := hide (keptblk b2 KX1); have BX2 := hide ((unhide BX1).trans (b2.mono (unhide BX1).size)); have OX2 := hide ((unhide OX1).later b2); have z2 := b2.size; clear b2)
              | (refine step_app1 encZ_len (by omega) oneZ 9 74 i1 _ 16 Tryz.underlying74 gi gz0 gz1 gz2 rfl (by omega) w2 (wF x) rfl _ _ rfl w.heap.size _ (xs.map wI ++ (fs.take k).map wF) n2 hn2 rfl (unhide OX2) rfl (by omega) (by omega) ?_; intro a3 c3 w3 hO hG; have OX3 := hide hO; have BX3 := hide (grown_low (unhide BX2) hG (unhide BX2).size (fun i q => (unhide LX i q).1)); have KX3 := hide (And.intro ((hG.block _ (unhide KX2).2 (fun q => by have := unhide LX _ q.symm; omega)).trans (unhide KX2).1) (Nat.lt_of_lt_of_le (unhide KX2).2 hG.size)); clear hO hG))
          clear OX OX1 OX2 BX BXD BX1 BX2 KX KXD KX1 KX2 KX3 q1 q2 q3
          go_wp2
          go_roundw
          case rel => exact ⟨k + 1, a3, n2 + 1, c3, by omega, by go_num, rfl, by rw [unhide HTK, ← List.append_assoc]; exact unhide OX3, unhide BX3⟩
          case measure => simp [intOf]; omega
        · have e : fs.take k = fs := List.take_of_length_le (by have := (unhide HF).len.1; omega)
          have HE : Hid (OwZ w.heap.size wr (.slice a2 n2 c2) (xs.map wI ++ fs.map wF)) := by
            have h := unhide HO
            rw [e] at h
            exact hide h
          have hsz2 := words_size (fs := fs) (unhide HS)
          have HTX := hide (tx_join (xs.map wI ++ fs.map wF) (fun y hy => (hsz2 y hy).2))
          have hlen : (Lib.join ((xs.map wI ++ fs.map wF).map (·.data.toList)) [32]).length ≤ 140737488355328 := by
            rw [join_size _ (fun y hy => (hsz2 y hy).2)]
            have := txF_size (fs := fs) (unhide HS) fs.length (by have := (unhide HX).len.1; omega) (by have := (unhide HF).len.1; omega)
            rw [List.take_length] at this
            omega
          have HLEN := hide hlen
          obtain ⟨ws, hws⟩ : ∃ ws, xs.map wI ++ fs.map wF = ws := ⟨_, rfl⟩
          have HTW : Hid (tx (xs.map wI ++ fs.map wF) = tx ws) := hide (by rw [hws])
          rw [hws] at HE HLEN HTX
          have hwl : ws.length ≤ 140737488355328 := by rw [← hws, List.length_append, List.length_map, List.length_map]; have := (unhide HX).len.1; have := (unhide HF).len.1; omega
          clear hbel HO hn2 e hsz2 hlen hws
          rcases (unhide HE).2 with ⟨hv, h0⟩ | ⟨g, cap, cur, hv, hg0, hg, hcap, _⟩
          · simp only [Value.slice.injEq] at hv
            obtain ⟨rfl, rfl, rfl⟩ := hv
            obtain rfl : ws = [] := List.eq_nil_of_length_eq_zero h0
            clear h0 HE HTX HLEN
            go_wp2_with fail
            refine (joinnone_any _ _ _).mono ?_
            rintro e w1 ⟨rfl, rfl⟩
            go_wp2
            go_ret
            exact ⟨congrArg (fun t => Ending.returned (Value.string t)) (unhide HTW).symm, unhide HB⟩
          · simp only [Value.slice.injEq] at hv
            obtain ⟨rfl, rfl, rfl⟩ := hv
            have hgs : g < wr.heap.size := (Array.getElem?_eq_some_iff.1 hg).1
            have HCL : Hid (∀ (j : Nat) (y : ByteArray), ws[j]? = some y → wr.cell? ⟨g, 0 + j, none⟩ = some (.string y)) := hide (fun j y hy => by
              have hj : j < ws.length := (List.getElem?_eq_some_iff.1 hy).1
              have h := World.ownsRow.cellAt (unhide HE) j (by omega)
              have h2 := flat_at encZ_len ws j y 0 hy (by omega)
              rw [Nat.mul_one, Nat.add_zero] at h2
              rw [Nat.zero_add, h, h2]
              rfl)
            have HTE := hide ((unhide HTW).trans (unhide HTX))
            clear hg HTW HTX
            go_wp2_with fail
            refine (joinsome_any g c2 ws _ (unhide HCL) hgs hwl hcap (unhide HLEN)).mono ?_
            rintro e w1 ⟨rfl, b1⟩
            have HB1 := hide ((unhide HB).trans (b1.mono hsz))
            clear b1 HCL HE HLEN
            generalize (Lib.join (ws.map (·.data.toList)) [32]).toArray = r at HTE ⊢
            go_wp2
            go_ret
            exact ⟨congrArg (fun t => Ending.returned (Value.string t)) (unhide HTE).symm, unhide HB1⟩
end Go.Proofs.YtdpaocikmijioaaGreatDoor

namespace Go.Proofs.YtdpaocikmijioaaGreatDoor
open Go.RowKit

theorem stx_v (ai : Option Addr) (ni ci : Nat) (xs : List Itm) (af : Option Addr) (nf cf : Nat) (fs : List Flr) (t : ByteArray) (ht : Hid (tx (xs.map wI ++ fs.map wF) = t)) (hfi : FitI xs) (hff : FitF fs) (hs : Sml xs) (w : World) (hni : ni ≤ 1048576) (hnf : nf ≤ 1048576) (hx : Rw encI 6 w (.slice ai ni ci) xs) (hf : Rw encF 2 w (.slice af nf cf) fs) :
    Calls Tryz.prog 26 #[.agg #[.slice ai ni ci, .slice af nf cf]] w fun e w' => e = .returned (.string t) ∧ Below w.heap.size w w' := by
  rw [← unhide ht]; exact stx_any ai ni ci xs af nf cf fs hfi hff hs w hni hnf hx hf
theorem itx_v (ai : Option Addr) (ni ci : Nat) (xs : List Itm) (af : Option Addr) (nf cf : Nat) (fs : List Flr) (t : ByteArray) (ht : Hid (tx (xs.map wI ++ fs.map wF) = t)) (hfi : FitI xs) (hff : FitF fs) (hs : Sml xs) (w : World) (hT : Lib.TabIs Tryz.prog w "internal/strconv.uint64pow10" .u64 Lib.pow10Tab) (hni : ni ≤ 1048576) (hnf : nf ≤ 1048576) (hx : Rw encI 6 w (.slice ai ni ci) xs) (hf : Rw encF 2 w (.slice af nf cf) fs) :
    Calls Tryz.prog 25 #[.agg #[.slice ai ni ci, .slice af nf cf]] w fun e w' => e = .returned (.string t) ∧ Below w.heap.size w w' := by
  rw [← unhide ht]; exact itx_any ai ni ci xs af nf cf fs hfi hff hs w hT hni hnf hx hf
end Go.Proofs.YtdpaocikmijioaaGreatDoor

namespace Go.Proofs.YtdpaocikmijioaaGreatDoor
open Go.RowKit

theorem vw_mem {xs : List Itm} {fs : List Flr} {x : Itm} (h : x ∈ vw xs fs) : okE x.2.1 x.2.2.1 x.2.2.2.1 x.2.2.2.2.1 x.2.2.2.2.2 = true ∧ 0 ≤ x.1 ∧ x.1 ≤ 4 ∧ x.2.2.1 = 0 := by
  unfold vw at h
  split at h
  · rename_i hk
    obtain ⟨h1, h2⟩ := List.mem_filter.1 h
    have := ((okS_iff _ _).1 hk).ix x h1
    exact ⟨this.2.2.1, this.1, this.2.1, by simpa using h2⟩
  · simp at h
theorem vw_fit (xs : List Itm) (fs : List Flr) : FitI (vw xs fs) ∧ Sml (vw xs fs) := by
  refine ⟨fun k x hx => ?_, fun k x hx => ?_⟩
  · obtain ⟨h, h1, h2, _⟩ := vw_mem (List.mem_of_getElem? hx)
    simp only [okE, Bool.and_eq_true, inB_iff] at h
    obtain ⟨⟨⟨⟨a1, a2⟩, a3⟩, a4⟩, _⟩ := h
    exact ⟨⟨by omega, by omega⟩, ⟨by omega, by omega⟩, ⟨by omega, by omega⟩, ⟨by omega, by omega⟩, ⟨by omega, by omega⟩⟩
  · obtain ⟨h, _⟩ := vw_mem (List.mem_of_getElem? hx)
    have := okE_size h
    omega
theorem fit_nil : FitF [] := fun _ _ h => by simp at h

set_option maxHeartbeats 2000000 in
theorem svt_v (ai : Option Addr) (ni ci : Nat) (xs : List Itm) (af : Option Addr) (nf cf : Nat) (fs : List Flr) (t : ByteArray) (ht : Hid (tx ((vw xs fs).map wI ++ ([] : List Flr).map wF) = t)) (w : World)
    (hni : ni ≤ 140737488351232) (hnf : nf ≤ 140737488351232) (hx : Rw encI 6 w (.slice ai ni ci) xs) (hf : Rw encF 2 w (.slice af nf cf) fs) :
    Calls Tryz.prog 12 #[.agg #[.slice ai ni ci, .slice af nf cf]] w fun e w' => e = .returned (.string t) ∧ Below w.heap.size w w' := by
  have HX := hide (hx.alloc (.cells #[.slice ai ni ci, .slice af nf cf] 27))
  have HF := hide (hf.alloc (.cells #[.slice ai ni ci, .slice af nf cf] 27))
  clear hx hf
  go_enter Tryz.func12, Tryz.ntmps12
  go_wp2_with fail
  refine (sview_any ai ni ci xs af nf cf fs _ hni hnf (unhide HX) (unhide HF)).mono ?_
  rintro e w1 ⟨a1, n1, c1, rfl, o1, b1⟩
  have n5 : n1 ≤ 5 := by have := (o1.rw encI_len).len.1; have := vw_len xs fs; omega
  have R1 := hide (o1.rw encI_len)
  have HB1 := hide (((Below.refl w.heap.size w).alloc (Nat.le_refl _) _).trans (b1.mono (by simp)))
  clear o1 b1 HX HF
  go_wp2_with fail
  refine (stx_v a1 n1 c1 (vw xs fs) none 0 0 [] t ht (vw_fit xs fs).1 fit_nil (vw_fit xs fs).2 _ (by omega) (by omega) (unhide R1) Rw.nil).mono ?_
  rintro e w2 ⟨rfl, b2⟩
  have HB2 := hide ((unhide HB1).trans (b2.mono (unhide HB1).size))
  clear b2
  go_wp2
  go_ret
  exact ⟨rfl, unhide HB2⟩
set_option maxHeartbeats 2000000 in
theorem ivt_v (ai : Option Addr) (ni ci : Nat) (xs : List Itm) (af : Option Addr) (nf cf : Nat) (fs : List Flr) (t : ByteArray) (ht : Hid (tx ((vw xs fs).map wI ++ ([] : List Flr).map wF) = t)) (w : World) (hT : Lib.TabIs Tryz.prog w "internal/strconv.uint64pow10" .u64 Lib.pow10Tab)
    (hni : ni ≤ 140737488351232) (hnf : nf ≤ 140737488351232) (hx : Rw encI 6 w (.slice ai ni ci) xs) (hf : Rw encF 2 w (.slice af nf cf) fs) :
    Calls Tryz.prog 11 #[.agg #[.slice ai ni ci, .slice af nf cf]] w fun e w' => e = .returned (.string t) ∧ Below w.heap.size w w' := by
  obtain ⟨n1, hn1⟩ : ∃ z, Hid ((vw xs fs).length = z) := ⟨_, hide rfl⟩
  have n5 : n1 ≤ 5 := by have := vw_len xs fs; rw [unhide hn1] at this; exact this
  have HX := hide (hx.alloc (.cells #[.slice ai ni ci, .slice af nf cf] 27))
  have HF := hide (hf.alloc (.cells #[.slice ai ni ci, .slice af nf cf] 27))
  have HT := hide hT
  clear hx hf hT
  go_enter Tryz.func11, Tryz.ntmps11
  go_wp2_with fail
  refine (iview_any ai ni ci xs af nf cf fs n1 hn1 _ hni hnf (unhide HX) (unhide HF)).mono ?_
  rintro e w1 ⟨a1, c1, rfl, o1, b1⟩
  have R1 := hide (o1.rw encI_len)
  have HB1 := hide (((Below.refl w.heap.size w).alloc (Nat.le_refl _) _).trans (b1.mono (by simp)))
  clear o1 b1 HX HF
  go_wp2_with fail
  refine (itx_v a1 n1 c1 (vw xs fs) none 0 0 [] t ht (vw_fit xs fs).1 fit_nil (vw_fit xs fs).2 _ (tab_later (unhide HT) (unhide HB1) (tab_lt (unhide HT))) (by omega) (by omega) (unhide R1) Rw.nil).mono ?_
  rintro e w2 ⟨rfl, b2⟩
  have HB2 := hide ((unhide HB1).trans (b2.mono (unhide HB1).size))
  clear b2
  go_wp2
  go_ret
  exact ⟨rfl, unhide HB2⟩
end Go.Proofs.YtdpaocikmijioaaGreatDoor
