/-
  The laws' 'toState': a state's own copy. No statement is proved here.
  Decimal digits as a function on lists ('dgs', 'digs'), and two laws of the walk for texts that are put together of bytes. No statement is proved here.
  Texts as lists of bytes ('bl'), and back ('strOfNums'). No statement is proved here.
  The laws' 'markText': a text of its own for each number. No statement is proved here.
  The laws' 'markState' and 'heldState': what is marked is held. No statement is proved here.
-/
import Derived.Test.YtighiahppjekeaaStA
import Derived.Test.YtighiahppjekeaaRegs6
import Derived.WalkLawsBesides
import Derived.Test.YtighiahppjekeaaBase
import Derived.Laws.BytesArg
import Derived.Laws.Concat
import Derived.BigQuiet
import Derived.Deep.QuietTactic
import Derived.Deep.RegionWith
import Derived.Test.YtighiahppjekeaaTrn
import Derived.Test.YtighiahppjekeaaPrt
namespace Go.Proofs.Ytighiahppjekeaa
open Go.RowKit

theorem Try.infoItem : (Try.prog.info? 110).map (fun i => (i.zero, i.size, i.bytes)) = some (some (.agg #[.int .i64 0, .int .i64 0, .int .i64 0, .int .i64 0, .int .i64 0, .string ⟨#[]⟩]), 6, 56) := by kernel_rfl
theorem Try.infoFloor : (Try.prog.info? 112).map (fun i => (i.zero, i.size, i.bytes)) = some (some (.agg #[.int .i64 0, .int .i64 0]), 2, 16) := by kernel_rfl
def zeroI : Itm := (0, zeroK)
def zeroF : Flr := (0, 0)

set_option maxHeartbeats 1000000 in
theorem toitem_any (x : Itm) (w : World) :
    Calls Try.prog 94 #[.agg #[.int .i64 x.1, .int .i64 x.2.1, .int .i64 x.2.2.1, .int .i64 x.2.2.2.1, .int .i64 x.2.2.2.2.1, .string x.2.2.2.2.2]] w fun e w' => e = .returned (.agg #[.int .i64 x.1, .int .i64 x.2.1, .int .i64 x.2.2.1, .int .i64 x.2.2.2.1, .int .i64 x.2.2.2.2.1, .string x.2.2.2.2.2]) ∧ Below w.heap.size w w' := by
  go_enter Try.func94, Try.ntmps94
  go_wp2_with fail
  refine (toentry_any x.2.1 x.2.2.1 x.2.2.2.1 x.2.2.2.2.1 x.2.2.2.2.2 _).mono ?_
  rintro e w1 ⟨rfl, b1⟩
  obtain ⟨p0, p1, p2, p3, p4, p5, p6⟩ := blk_cells6 ((b1.block _ (by simp)).trans (midB3 w _ _ _))
  obtain ⟨q0, q1, q2, q3, q4, q5, q6⟩ := blk_cells6 ((b1.block _ (by simp)).trans (newB3 w _ _ _))
  have HB := hide (((((Below.refl w.heap.size w).alloc (Nat.le_refl _) _).alloc (by simp) _).alloc (by simp; omega) _).trans (b1.mono (by simp; omega)))
  clear b1
  go_wp2
  exact bodyPost_ret (v := .agg #[.int .i64 x.1, .int .i64 x.2.1, .int .i64 x.2.2.1, .int .i64 x.2.2.2.1, .int .i64 x.2.2.2.2.1, .string x.2.2.2.2.2]) (by simp [results, Try.results94, go_sem, p0, p1, p2, p3, p4, p5]) rfl ⟨rfl, setW_below (g := w.heap.size + 1) (by omega) [_, _, _, _, _, _] (setW_below (g := w.heap.size + 1 + 1) (by omega) [_, _, _, _, _] (unhide HB) 1) 0⟩

set_option maxHeartbeats 1000000 in
theorem tofloor_any (x : Flr) (w : World) :
    Calls Try.prog 95 #[.agg #[.int .i64 x.1, .int .i64 x.2]] w fun e w' => e = .returned (.agg #[.int .i64 x.1, .int .i64 x.2]) ∧ Below w.heap.size w w' := by
  go_enter Try.func95, Try.ntmps95
  go_wp2
  exact bodyPost_ret (v := .agg #[.int .i64 x.1, .int .i64 x.2]) (by simp [results, Try.results95, go_sem]) rfl ⟨rfl, (((Below.refl _ _).alloc (Nat.le_refl _) _).alloc (by simp) _).alloc (by simp <;> omega) _⟩

set_option maxHeartbeats 2000000 in
theorem toitems_any (a : Option Addr) (n cap : Nat) (xs : List Itm) (w : World) (hn : n ≤ 1048576) (hx : Rw encI 6 w (.slice a n cap) xs) :
    Calls Try.prog 65 #[.slice a n cap] w fun e w' => ∃ a' c', e = .returned (.slice a' n c') ∧ Ow encI 6 110 w.heap.size w' (.slice a' n c') xs ∧ Below w.heap.size w w' := by
  obtain ⟨i0, hi, hz0, hz1, hz2⟩ := info_parts Try.infoItem
  have hb2 : i0.bytes * n ≤ 281474976710656 := by rw [hz2]; omega
  have hml : n ≤ maxLen := by unfold maxLen; omega
  have HZ2 := hide hz2
  have HX := hide hx
  clear hz2 hx
  go_enter Try.func65, Try.ntmps65
  go_wp2_with (first | (at_make; refine wpList_make_full _ rfl _ _ 35 rfl w.heap.size 110 i0 (.agg #[.int .i64 0, .int .i64 0, .int .i64 0, .int .i64 0, .int .i64 0, .string ⟨#[]⟩]) 6 Try.underlying35 hi hz0 hz1 .i64 .i64 _ _ n rfl rfl rfl rfl hb2 hml (Nat.le_refl _) ?_))
  intro w1 hown hgrow
  have hbel : Below w.heap.size w w1 := (Below.refl _ _).grown hgrow (Nat.le_refl _) (fun k hk => by cases hk)
  have hlen := (unhide HX).len.1
  have hown0 : Ow encI 6 110 w.heap.size w1 (.slice (some ⟨w.heap.size, 0, none⟩) n n) (xs.take 0 ++ List.replicate (xs.length - 0) zeroI) := by
    rw [made_flat (enc := encI) (by omega) encI_len #[.int .i64 0, .int .i64 0, .int .i64 0, .int .i64 0, .int .i64 0, .string ⟨#[]⟩] zeroI rfl n] at hown
    unfold Ow
    rw [fill_len _ _ _ (by omega)]
    simpa [hlen] using hown
  have HL := hide hlen
  clear hown hgrow hlen
  go_wp2
  go_loopw [4] (fun i wr => ∃ k : Nat, k ≤ n ∧ i = .int .i64 k ∧ Ow encI 6 110 w.heap.size wr (.slice (some ⟨w.heap.size, 0, none⟩) n n) (xs.take k ++ List.replicate (xs.length - k) zeroI) ∧ Below w.heap.size w wr) (fun i _ => n - (intOf i).toNat)
  case atStart => exact ⟨0, Nat.zero_le _, rfl, hown0, hbel⟩
  case round =>
    obtain ⟨k, hk, rfl, hown, hb⟩ := hrel
    clear hown0 hbel
    by_cases hlt : k < n
    · obtain ⟨x, b, off, hx, rfl, hbw, hcap, hc⟩ := (unhide HX).at hlt
      obtain ⟨c0, c1, c2, c3, c4, c5⟩ := item_cells (w := wr) (b := b) (off := off) (k := k) (x := x) (fun j hj => (hb.cell (p := ⟨b, off + k * 6 + j, none⟩) hbw).trans (hc j hj))
      have HO := hide hown
      have HB := hide hb
      have hsz := hb.size
      have HX1 := hide hx
      clear hc hx hown hb
      go_wp2_with fail
      refine (toitem_any x _).mono ?_
      rintro e w2 ⟨rfl, b2⟩
      have hown2 := (unhide HO).later b2
      have hb3 := (unhide HB).trans (b2.mono hsz)
      have hfl : (xs.take k ++ List.replicate (xs.length - k) zeroI).length = n := by rw [fill_len _ _ _ (by have := unhide HL; omega)]; exact (unhide HL).symm
      obtain ⟨y0, y1, y2, y3, y4, y5, z0, z1, z2, z3, z4, z5, zf⟩ := own_cells6 (show w2.ownsRow w.heap.size 110 6 (.slice (some ⟨w.heap.size, 0, none⟩) n n) n _ from by have h := hown2; unfold Ow at h; rw [hfl] at h; exact h) hlt
      have R1 := hown2.put (by omega) encI_len hfl.symm k hlt x
      rw [fill_set xs zeroI k x (unhide HX1)] at R1
      have HR1 := hide R1
      have HR2 := hide (setW_below (g := w.heap.size) (Nat.le_refl _) (encI x) hb3 (k * 6))
      clear hown2 hb3 b2 R1 HO HB HX1 hfl
      go_wp2
      go_roundw
      case rel => exact ⟨k + 1, by omega, by go_num, unhide HR1, unhide HR2⟩
      case measure => simp [intOf]; omega
    · have HO : Hid (Ow encI 6 110 w.heap.size wr (.slice (some ⟨w.heap.size, 0, none⟩) n n) xs) := by
        have h := hown
        rw [List.take_of_length_le (by have := unhide HL; omega), show xs.length - k = 0 by have := unhide HL; omega] at h
        simpa using hide h
      have HB := hide hb
      clear hown hb
      go_wp2
      go_ret
      exact ⟨_, _, rfl, unhide HO, unhide HB⟩

set_option maxHeartbeats 2000000 in
theorem tofloors_any (a : Option Addr) (n cap : Nat) (xs : List Flr) (w : World) (hn : n ≤ 1048576) (hx : Rw encF 2 w (.slice a n cap) xs) :
    Calls Try.prog 66 #[.slice a n cap] w fun e w' => ∃ a' c', e = .returned (.slice a' n c') ∧ Ow encF 2 112 w.heap.size w' (.slice a' n c') xs ∧ Below w.heap.size w w' := by
  obtain ⟨i0, hi, hz0, hz1, hz2⟩ := info_parts Try.infoFloor
  have hb2 : i0.bytes * n ≤ 281474976710656 := by rw [hz2]; omega
  have hml : n ≤ maxLen := by unfold maxLen; omega
  have HZ2 := hide hz2
  have HX := hide hx
  clear hz2 hx
  go_enter Try.func66, Try.ntmps66
  go_wp2_with (first | (at_make; refine wpList_make_full _ rfl _ _ 36 rfl w.heap.size 112 i0 (.agg #[.int .i64 0, .int .i64 0]) 2 Try.underlying36 hi hz0 hz1 .i64 .i64 _ _ n rfl rfl rfl rfl hb2 hml (Nat.le_refl _) ?_))
  intro w1 hown hgrow
  have hbel : Below w.heap.size w w1 := (Below.refl _ _).grown hgrow (Nat.le_refl _) (fun k hk => by cases hk)
  have hlen := (unhide HX).len.1
  have hown0 : Ow encF 2 112 w.heap.size w1 (.slice (some ⟨w.heap.size, 0, none⟩) n n) (xs.take 0 ++ List.replicate (xs.length - 0) zeroF) := by
    rw [made_flat (enc := encF) (by omega) encF_len #[.int .i64 0, .int .i64 0] zeroF rfl n] at hown
    unfold Ow
    rw [fill_len _ _ _ (by omega)]
    simpa [hlen] using hown
  have HL := hide hlen
  clear hown hgrow hlen
  go_wp2
  go_loopw [4] (fun i wr => ∃ k : Nat, k ≤ n ∧ i = .int .i64 k ∧ Ow encF 2 112 w.heap.size wr (.slice (some ⟨w.heap.size, 0, none⟩) n n) (xs.take k ++ List.replicate (xs.length - k) zeroF) ∧ Below w.heap.size w wr) (fun i _ => n - (intOf i).toNat)
  case atStart => exact ⟨0, Nat.zero_le _, rfl, hown0, hbel⟩
  case round =>
    obtain ⟨k, hk, rfl, hown, hb⟩ := hrel
    clear hown0 hbel
    by_cases hlt : k < n
    · obtain ⟨x, b, off, hx, rfl, hbw, hcap, hc⟩ := (unhide HX).at hlt
      have c0 : wr.cell? ⟨b, off + k * 2, none⟩ = some (.int .i64 x.1) := (hb.cell (p := ⟨b, off + k * 2, none⟩) hbw).trans (hc 0 (by omega))
      have c1 : wr.cell? ⟨b, off + k * 2 + 1, none⟩ = some (.int .i64 x.2) := (hb.cell (p := ⟨b, off + k * 2 + 1, none⟩) hbw).trans (hc 1 (by omega))
      have HO := hide hown
      have HB := hide hb
      have hsz := hb.size
      have HX1 := hide hx
      clear hc hx hown hb
      go_wp2_with fail
      refine (tofloor_any x _).mono ?_
      rintro e w2 ⟨rfl, b2⟩
      have hown2 := (unhide HO).later b2
      have hb3 := (unhide HB).trans (b2.mono hsz)
      have hfl : (xs.take k ++ List.replicate (xs.length - k) zeroF).length = n := by rw [fill_len _ _ _ (by have := unhide HL; omega)]; exact (unhide HL).symm
      obtain ⟨y0, y1, z0, z1, zf⟩ := own_cells2 (show w2.ownsRow w.heap.size 112 2 (.slice (some ⟨w.heap.size, 0, none⟩) n n) n _ from by have h := hown2; unfold Ow at h; rw [hfl] at h; exact h) hlt
      have R1 := hown2.put (by omega) encF_len hfl.symm k hlt x
      rw [fill_set xs zeroF k x (unhide HX1)] at R1
      have HR1 := hide R1
      have HR2 := hide (setW_below (g := w.heap.size) (Nat.le_refl _) (encF x) hb3 (k * 2))
      clear hown2 hb3 b2 R1 HO HB HX1 hfl
      go_wp2
      go_roundw
      case rel => exact ⟨k + 1, by omega, by go_num, unhide HR1, unhide HR2⟩
      case measure => simp [intOf]; omega
    · have HO : Hid (Ow encF 2 112 w.heap.size wr (.slice (some ⟨w.heap.size, 0, none⟩) n n) xs) := by
        have h := hown
        rw [List.take_of_length_le (by have := unhide HL; omega), show xs.length - k = 0 by have := unhide HL; omega] at h
        simpa using hide h
      have HB := hide hb
      clear hown hb
      go_wp2
      go_ret
      exact ⟨_, _, rfl, unhide HO, unhide HB⟩

set_option maxHeartbeats 2000000 in
theorem tostate_any (ai : Option Addr) (ni ci : Nat) (xs : List Itm) (af : Option Addr) (nf cf : Nat) (fs : List Flr) (w : World) (hni : ni ≤ 1048576) (hnf : nf ≤ 1048576) (hx : Rw encI 6 w (.slice ai ni ci) xs) (hf : Rw encF 2 w (.slice af nf cf) fs) :
    Calls Try.prog 29 #[.agg #[.slice ai ni ci, .slice af nf cf]] w fun e w' => ∃ a1 c1 a2 c2, e = .returned (.agg #[.slice a1 ni c1, .slice a2 nf c2]) ∧ OwI w.heap.size w' (.slice a1 ni c1) xs ∧ OwF w.heap.size w' (.slice a2 nf c2) fs ∧ Below w.heap.size w w' := by
  have HX := hide hx
  have HF := hide hf
  clear hx hf
  go_enter Try.func29, Try.ntmps29
  go_wp2_with fail
  refine (toitems_any ai ni ci xs _ hni (((((unhide HX).alloc _).alloc _).alloc _))).mono ?_
  rintro e w1 ⟨a1, c1, rfl, hown1, b1⟩
  have hz1 : w.heap.size + 1 + 1 < w1.heap.size := by have := b1.size; simp at this; omega
  obtain ⟨o0, o1, o2⟩ := blk_cells2 ((b1.block _ (by simp; omega)).trans (lowB3 w _ _ _))
  have M1 := hide ((b1.block _ (by simp)).trans (midB3 w _ _ _))
  have M2 := hide ((b1.block _ (by simp)).trans (newB3 w _ _ _))
  obtain ⟨q0, q1, q2⟩ := blk_cells2 (unhide M2)
  have HB := hide (((((Below.refl w.heap.size w).alloc (Nat.le_refl _) _).alloc (by simp) _).alloc (by simp; omega) _).trans (b1.mono (by simp; omega)))
  have HO1 := hide (Ow.base (base' := w.heap.size + 1 + 1 + 1) hown1 (by simp))
  clear hown1 b1
  go_wp2_with fail
  obtain ⟨X, hX⟩ : ∃ X, X = w1.setCell ⟨w.heap.size + 1 + 1, 0, none⟩ (.slice a1 ni c1) := ⟨_, rfl⟩
  rw [← hX]
  have HBX : Hid (Below w.heap.size w X) := by rw [hX]; exact (unhide HB).setCell (p := ⟨w.heap.size + 1 + 1, 0, none⟩) (by simp; omega) _
  have HOX : Hid (OwI (w.heap.size + 1 + 1 + 1) X (.slice a1 ni c1) xs) := by rw [hX]; exact (unhide HO1).set ⟨w.heap.size + 1 + 1, 0, none⟩ (by simp) _
  have X1 : Hid (X.heap[w.heap.size + 1]? = some (.cells #[.slice none 0 0, .slice none 0 0] 38 (0, 0))) := by rw [hX, heap_setCell_other _ _ _ _ (by show w.heap.size + 1 ≠ w.heap.size + 1 + 1; omega)]; exact unhide M1
  have X2 : Hid (X.heap[w.heap.size + 1 + 1]? = some (.cells #[.slice a1 ni c1, .slice none 0 0] 38 (0, 0))) := by rw [hX]; exact heap_setCell_same _ _ _ _ _ _ (unhide M2)
  have hzX : w.heap.size + 1 + 1 < X.heap.size := by rw [hX]; simpa using hz1
  clear hX M1 M2 HB HO1 q0 q1 q2 o0 o1 o2
  refine (tofloors_any af nf cf fs X hnf ((unhide HF).later (unhide HBX))).mono ?_
  rintro e w2 ⟨a2, c2, rfl, hown2, b2⟩
  obtain ⟨p0, p1, p2⟩ := blk_cells2 ((b2.block _ (by omega)).trans (unhide X1))
  obtain ⟨q0, q1, q2⟩ := blk_cells2 ((b2.block _ (by omega)).trans (unhide X2))
  have HB2 := hide ((unhide HBX).trans (b2.mono (by omega)))
  have HI2 := hide ((unhide HOX).later b2)
  have HF2 := hide (Ow.base (base' := w.heap.size + 1 + 1 + 1) hown2 (by omega))
  clear hown2 b2 HBX HOX X1 X2
  go_wp2
  exact bodyPost_ret (v := .agg #[.slice a1 ni c1, .slice a2 nf c2]) (by simp [results, Try.results29, go_sem, p0, p1]) rfl ⟨a1, c1, a2, c2, rfl, Ow.base ((((unhide HI2).set ⟨w.heap.size + 1 + 1, 1, none⟩ (by simp) _).set ⟨w.heap.size + 1, 0, none⟩ (by simp) _).set ⟨w.heap.size + 1, 1, none⟩ (by simp) _) (by omega), Ow.base ((((unhide HF2).set ⟨w.heap.size + 1 + 1, 1, none⟩ (by simp) _).set ⟨w.heap.size + 1, 0, none⟩ (by simp) _).set ⟨w.heap.size + 1, 1, none⟩ (by simp) _) (by omega), (((unhide HB2).setCell (p := ⟨w.heap.size + 1 + 1, 1, none⟩) (by simp; omega) _).setCell (p := ⟨w.heap.size + 1, 0, none⟩) (by simp) _).setCell (p := ⟨w.heap.size + 1, 1, none⟩) (by simp) _⟩
end Go.Proofs.Ytighiahppjekeaa

namespace Go.Proofs.Ytighiahppjekeaa
open Go.RowKit

def dgs : Nat → Nat → List Int → List Int
  | 0, _, acc => acc
  | f + 1, n, acc => if n = 0 then acc else dgs f (n / 10) ((48 + (n : Int) % 10) :: acc)
def digs (n : Int) : List Int := if n = 0 then [48] else if n < 0 then 45 :: dgs 20 n.natAbs [] else dgs 20 n.natAbs []

theorem dgs_zero (f : Nat) (acc : List Int) : dgs f 0 acc = acc := by cases f <;> simp [dgs]
theorem dgs_step (f n : Nat) (acc : List Int) (h : n ≠ 0) : dgs (f + 1) n acc = dgs f (n / 10) ((48 + (n : Int) % 10) :: acc) := by simp [dgs, h]
theorem dgs_length (f n : Nat) (acc : List Int) : (dgs f n acc).length ≤ f + acc.length := by
  induction f generalizing n acc with
  | zero => simp [dgs]
  | succ f ih =>
    by_cases h : n = 0
    · subst h; rw [dgs_zero]; omega
    · rw [dgs_step f n acc h]
      have := ih (n / 10) ((48 + (n : Int) % 10) :: acc)
      simp at this; omega
theorem digs_length (n : Int) : (digs n).length ≤ 21 := by
  unfold digs
  have := dgs_length 20 n.natAbs []
  simp at this
  split
  · simp
  · split
    · simp; omega
    · omega
theorem str_append (xs ys : List Int) : strOfNums xs ++ strOfNums ys = strOfNums (xs ++ ys) := by
  unfold strOfNums
  rw [ByteArray.mk_append_mk]; simp
theorem add_run {P : Program} (xs ys : List Int) (hx : xs.length ≤ 1000000) (hy : ys.length ≤ 1000000) (w : World) : (Op.stringOp .add (strOfNums xs) (strOfNums ys)).run P w = .ok (.string (strOfNums (xs ++ ys))) w := by
  rw [run_string_add_sum w _ _ (by rw [strOfNums_size, strOfNums_size]; omega), str_append]
theorem pow_step (f n : Nat) (h : n < 10 ^ (f + 1)) : n / 10 < 10 ^ f := by
  rw [Nat.pow_succ] at h
  exact Nat.div_lt_of_lt_mul (by rw [Nat.mul_comm]; exact h)
theorem conv_one (wr : World) (x : Int) : (convert 22 9 (.slice (some ⟨wr.heap.size, 0, none⟩) 1 1)).run Try.prog (wr.alloc (.cells #[.int .u8 x] 5)) = .ok (.string (strOfNums [x])) (wr.alloc (.cells #[.int .u8 x] 5)) :=
  run_convert_bytes_arg (P := Try.prog) _ 22 5 Try.underlying22 Try.underlying5 wr.heap.size 0 1 1 [x] rfl (fun i hi => by
    have h0 : i = 0 := by omega
    subst h0
    simp) 9 Try.underlying9

end Go.Proofs.Ytighiahppjekeaa

namespace Go.Proofs.Ytighiahppjekeaa
open Go.RowKit

def bl (s : ByteArray) : List Int := s.data.toList.map fun c => (c.toNat : Int)
theorem bl_length (s : ByteArray) : (bl s).length = s.size := by
  unfold bl
  rw [List.length_map]
  rfl
theorem bl_drop (s : ByteArray) (k z : Nat) (h : k < s.size) (hz : s[k].toNat = z) : (bl s).drop k = (z : Int) :: (bl s).drop (k + 1) := by
  subst hz
  unfold bl
  rw [← List.map_drop, ← List.map_drop, List.drop_eq_getElem_cons (show k < s.data.toList.length from h)]
  rfl

theorem isEmpty_of {s : ByteArray} (h : s.size = 0) : s.toList.isEmpty = true := by
  rw [ByteArray.toList_eq, List.isEmpty_iff]
  exact List.eq_nil_of_length_eq_zero h
theorem isEmpty_not {s : ByteArray} (h : ¬ s.size = 0) : s.toList.isEmpty = false := by
  rw [ByteArray.toList_eq]
  cases he : s.data.toList with
  | nil => exact absurd (show s.data.toList.length = 0 by rw [he]; rfl) h
  | cons c r => rfl
theorem byte_lt (s : ByteArray) (k z : Nat) (h : k < s.size) (hz : s[k].toNat = z) : z < 256 := by rw [← hz]; exact UInt8.toNat_lt _
theorem byte_back (c : Int) (h : 0 ≤ c ∧ c ≤ 255) : ((UInt8.ofNat c.toNat).toNat : Int) = c := by
  rw [UInt8.toNat_ofNat']
  omega
theorem bl_str (ds : List Int) (h : ∀ c ∈ ds, 0 ≤ c ∧ c ≤ 255) : bl (strOfNums ds) = ds := by
  unfold bl
  rw [strOfNums_data, List.map_map]
  conv => rhs; rw [← List.map_id ds]
  exact List.map_congr_left fun c hc => byte_back c (h c hc)
theorem str_bl (s : ByteArray) : strOfNums (bl s) = s := by
  apply ByteArray.ext
  apply Array.toList_inj.1
  rw [strOfNums_data]
  unfold bl
  rw [List.map_map]
  conv => rhs; rw [← List.map_id s.data.toList]
  apply List.map_congr_left
  intro c _
  simp
theorem str_eq (ds : List Int) (s : ByteArray) (h : ∀ c ∈ ds, 0 ≤ c ∧ c ≤ 255) : ((strOfNums ds).toList == s.toList) = decide (ds = bl s) := by
  rw [ByteArray.toList_eq, ByteArray.toList_eq]
  by_cases he : ds = bl s
  · rw [he, str_bl]; simp
  · have hne : ¬ (strOfNums ds).data.toList = s.data.toList := by
      intro h2
      apply he
      have : strOfNums ds = s := ByteArray.ext (Array.toList_inj.1 h2)
      rw [← this, bl_str ds h]
    simp only [he, decide_false, beq_eq_false_iff_ne, ne_eq]
    exact hne
theorem dgs_bytes (f n : Nat) (acc : List Int) (h : ∀ c ∈ acc, 0 ≤ c ∧ c ≤ 255) : ∀ c ∈ dgs f n acc, 0 ≤ c ∧ c ≤ 255 := by
  induction f generalizing n acc with
  | zero => simpa [dgs] using h
  | succ f ih =>
    by_cases h0 : n = 0
    · subst h0; rw [dgs_zero]; exact h
    · rw [dgs_step _ _ _ h0]
      apply ih
      intro c hc
      rcases List.mem_cons.1 hc with rfl | hc
      · omega
      · exact h c hc
theorem digs_bytes (n : Int) : ∀ c ∈ digs n, 0 ≤ c ∧ c ≤ 255 := by
  unfold digs
  split
  · intro c hc; simp at hc; omega
  · split
    · intro c hc
      rcases List.mem_cons.1 hc with rfl | hc
      · omega
      · exact dgs_bytes _ _ [] (by simp) c hc
    · exact dgs_bytes _ _ [] (by simp)

end Go.Proofs.Ytighiahppjekeaa

namespace Go.Proofs.Ytighiahppjekeaa
open Go.RowKit

def mtext (k : Nat) : List Int := if k = 0 then [109, 48] else 109 :: dgs 20 k []
set_option maxHeartbeats 2000000 in
set_option maxRecDepth 100000 in
theorem marktext_any (k : Nat) (w : World) (h2 : (k : Int) ≤ 1000000000000) :
    Calls Try.prog 98 #[.int .i64 k] w fun e w' => e = .returned (.string (strOfNums (mtext k))) ∧ Below w.heap.size w w' := by
  by_cases h0 : k = 0
  · subst h0
    have hd0 : decide ((0 : Int) ≤ 0) = true := rfl
    go_enter Try.func98, Try.ntmps98
    go_wp2
    go_ret
    exact ⟨rfl, Below.refl _ _⟩
  · have hd1 : decide ((k : Int) ≤ 0) = false := by simp; omega
    have HD := hide (show mtext k = 109 :: dgs 20 k [] by simp [mtext, h0])
    have hadd0 := fun (ds : List Int) (h : ds.length ≤ 20) wx => add_run (P := Try.prog) [109] ds (by simp) (by omega) wx
    have HA := hide hadd0
    clear hadd0
    go_enter Try.func98, Try.ntmps98
    go_wp2
    go_loopw [0, 3] (fun x v wr => ∃ (m f : Nat) (ds : List Int), x = .int .i64 m ∧ v = .string (strOfNums ds) ∧ ds.length + f ≤ 20 ∧ m < 10 ^ f ∧ (m : Int) ≤ 1000000000000 ∧ 109 :: dgs f m ds = mtext k ∧ Below w.heap.size w wr) (fun x _ _ => (intOf x).natAbs)
    case atStart => exact ⟨k, 20, [], rfl, rfl, by simp, by omega, h2, (unhide HD).symm, Below.refl _ _⟩
    case round =>
      obtain ⟨m, f, ds, rfl, rfl, hs, hm1, hm2, hdg, hb⟩ := hrel
      have HG := hide hdg
      have HM := hide hm1
      have HB := hide hb
      have hsz := hb.size
      clear hdg hm1 hb HD
      by_cases hm : m = 0
      · subst hm
        have e := unhide HG
        rw [dgs_zero] at e
        have E := hide e
        clear e HG
        have hadd := fun wx => unhide HA ds (by omega) wx
        have e45 : (⟨#[109]⟩ : ByteArray) = strOfNums [109] := rfl
        go_wp2
        go_ret
        exact ⟨by rw [← unhide E]; rfl, unhide HB⟩
      · have hmn : decide (0 < (m : Int)) = true := by simp; omega
        have hf : ∃ f', f = f' + 1 := by
          cases f with
          | zero => have := unhide HM; simp at this; exact absurd this hm
          | succ f' => exact ⟨f', rfl⟩
        obtain ⟨f', rfl⟩ := hf
        have hcv := fun x => conv_one wr x
        have hadd := fun x wx => add_run (P := Try.prog) [x] ds (by simp) (by omega) wx
        have HN := hide (show 109 :: dgs f' (m / 10) ((48 + (m : Int) % 10) :: ds) = mtext k by rw [← dgs_step f' m ds hm]; exact unhide HG)
        have HP := hide (pow_step f' m (unhide HM))
        clear HG HM HA
        go_wp2
        go_roundw
        case rel => exact ⟨m / 10, f', (48 + (m : Int) % 10) :: ds, by go_num, rfl, by simp; omega, unhide HP, by omega, unhide HN, (unhide HB).alloc hsz _⟩
        case measure => simp [intOf]; omega

end Go.Proofs.Ytighiahppjekeaa

namespace Go.Proofs.Ytighiahppjekeaa
open Go.RowKit

def mtx (k : Int) : ByteArray := strOfNums (mtext k.toNat)
theorem marktext_v (k : Int) (h1 : 0 ≤ k) (h2 : k ≤ 1000000000000) (w : World) : Calls Try.prog 98 #[.int .i64 k] w fun e w' => e = .returned (.string (mtx k)) ∧ Below w.heap.size w w' := by
  obtain ⟨m, rfl⟩ := Int.eq_ofNat_of_zero_le h1
  exact marktext_any m w h2
def mkI (k : Int) : Itm := (k, (k + 1, k + 1 + 1, k + 1 + 1 + 1, k + 1 + 1 + 1 + 1, mtx (k + 1 + 1 + 1 + 1 + 1)))
def mkIs (k : Int) (n : Nat) : List Itm := (List.range n).map fun i : Nat => mkI (k + 6 * (i : Int))
theorem mkIs_len (k : Int) (n : Nat) : (mkIs k n).length = n := by simp [mkIs]
theorem mkIs_at (k : Int) (n i : Nat) (h : i < n) : (mkIs k n)[i]? = some (mkI (k + 6 * (i : Int))) := by simp [mkIs, h]
/-- Five of the six cells are stored, a call makes memory, the sixth is stored. -/
theorem put6 {base : Nat} {e : TypeId} {w w1 : World} {g n cap : Nat} {ys : List Itm} {x : Itm} (h : Ow encI 6 e base w (.slice (some ⟨g, 0, none⟩) n cap) ys) (hn : n = ys.length) (i : Nat) (hi : i < n)
    (hb : Below (setW w g (i * 6) [.int .i64 x.1, .int .i64 x.2.1, .int .i64 x.2.2.1, .int .i64 x.2.2.2.1, .int .i64 x.2.2.2.2.1]).heap.size (setW w g (i * 6) [.int .i64 x.1, .int .i64 x.2.1, .int .i64 x.2.2.1, .int .i64 x.2.2.2.1, .int .i64 x.2.2.2.2.1]) w1) :
    (∃ y5, w1.cell? ⟨g, i * 6 + 5, none⟩ = some y5) ∧ (∀ o, w1.frozen? ⟨g, o, none⟩ = false) ∧ Ow encI 6 e base (w1.setCell ⟨g, i * 6 + 5, none⟩ (.string x.2.2.2.2.2)) (.slice (some ⟨g, 0, none⟩) n cap) (ys.set i x) ∧ w.grownBy (w1.setCell ⟨g, i * 6 + 5, none⟩ (.string x.2.2.2.2.2)) (some g) := by
  subst hn
  obtain ⟨h1, h2⟩ := setW_own [.int .i64 x.1, .int .i64 x.2.1, .int .i64 x.2.2.1, .int .i64 x.2.2.2.1, .int .i64 x.2.2.2.2.1] (show w.ownsRow base e 6 (.slice (some ⟨g, 0, none⟩) ys.length cap) ys.length (ys.flatMap encI) from h) (i * 6)
  have h3 := owns_later h1 hb (Nat.le_refl _)
  obtain ⟨h4, h5⟩ := h3.stored (i * 6 + 5) (.string x.2.2.2.2.2)
  obtain ⟨y0, y1, y2, y3, y4, y5, -, -, -, -, -, q5, qf⟩ := own_cells6 h3 hi
  refine ⟨⟨y5, q5⟩, qf, ?_, grown_trans2 h2 (grown_trans2 (grown_below _ hb) h5)⟩
  unfold Ow
  rw [List.length_set, ← setL_flat (by omega) encI_len ys i hi x]
  exact h4

set_option maxHeartbeats 4000000 in
set_option maxRecDepth 100000 in
theorem markI_any (base : Nat) (a : Option Addr) (n cap : Nat) (xs : List Itm) (k : Int) (h1 : 0 ≤ k) (h2 : k ≤ 100000000) (w : World) (hn : n ≤ 2000000) (hx : OwI base w (.slice a n cap) xs) :
    Calls Try.prog 69 #[.slice a n cap, .int .i64 k] w fun e w' => e = .returned (.int .i64 (k + 6 * n)) ∧ OwI base w' (.slice a n cap) (mkIs k n) ∧ w.grownBy w' (Value.slice a n cap).ownBlock := by
  have hlen := (hx.rw encI_len).len.1
  rcases hx.2 with ⟨hv, h0⟩ | ⟨g, cap', cur, hv, hb, hg, hnc, hcm, hcs, htake⟩
  · simp only [Value.slice.injEq] at hv
    obtain ⟨rfl, rfl, rfl⟩ := hv
    obtain rfl : xs = [] := List.eq_nil_of_length_eq_zero h0
    have HX := hide hx
    clear hx hlen h0
    go_enter Try.func69, Try.ntmps69
    go_wp2
    go_loop [1, 5] (fun q i => i = .int .i64 0 ∧ q = .int .i64 k) (fun _ i => 0)
    case atStart => exact ⟨rfl, rfl⟩
    case round =>
      obtain ⟨rfl, rfl⟩ := hrel
      go_wp2
      go_ret
      exact ⟨ret_int (by simp), unhide HX, grown_refl _ _⟩
  · simp only [Value.slice.injEq] at hv
    obtain ⟨rfl, -, rfl⟩ := hv
    clear hb hg hnc hcm hcs htake
    have HX := hide hx
    have HL := hide hlen
    clear hx hlen
    go_enter Try.func69, Try.ntmps69
    go_wp2
    go_loopw [1, 5] (fun q i wr => ∃ j : Nat, j ≤ n ∧ i = .int .i64 j ∧ q = .int .i64 (k + 6 * j) ∧ OwI base wr (.slice (some ⟨g, 0, none⟩) n cap) ((mkIs k n).take j ++ xs.drop j) ∧ w.grownBy wr (some g)) (fun _ i _ => n - (intOf i).toNat)
    case atStart => exact ⟨0, Nat.zero_le _, rfl, by simp, by simpa using unhide HX, grown_refl _ _⟩
    case round =>
      obtain ⟨j, hj, rfl, rfl, hown, hgr⟩ := hrel
      by_cases hlt : j < n
      · have hfl := part_len (mkIs k n) xs n j (mkIs_len k n) (unhide HL).symm (by omega)
        obtain ⟨y0, y1, y2, y3, y4, y5, z0, z1, z2, z3, z4, z5, zf⟩ := own_cells6 (show wr.ownsRow base 110 6 (.slice (some ⟨g, 0, none⟩) n cap) n _ from by have h := hown; unfold OwI Ow at h; rw [hfl] at h; exact h) hlt
        have HO := hide hown
        have HG := hide hgr
        have HFL := hide hfl
        have hj0 : (0 : Int) ≤ (j : Int) := by omega
        clear hown hgr hfl
        go_wp2_with fail
        refine (marktext_v (k + 6 * (j : Int) + 1 + 1 + 1 + 1 + 1) (by omega) (by omega) _).mono ?_
        rintro e w1 ⟨rfl, b1⟩
        obtain ⟨⟨y5', q5⟩, qf, R1, R2⟩ := put6 (x := mkI (k + 6 * (j : Int))) (unhide HO) (unhide HFL).symm j hlt b1
        rw [part_set (mkIs k n) xs n j _ (mkIs_len k n) (unhide HL).symm hlt (mkIs_at k n j hlt)] at R1
        have HR1 := hide R1
        have HR2 := hide (grown_trans2 (unhide HG) R2)
        clear R1 R2 b1 z0 z1 z2 z3 z4 z5 zf HO HG HFL
        go_wp2
        go_roundw
        case rel => exact ⟨j + 1, by omega, by go_num, by go_num, unhide HR1, unhide HR2⟩
        case measure => simp [intOf]; omega
      · have HE : Hid (OwI base wr (.slice (some ⟨g, 0, none⟩) n cap) (mkIs k n)) := by
          have e : j = n := by omega
          subst e
          have h := hown
          rw [List.take_of_length_le (by rw [mkIs_len]; omega), List.drop_of_length_le (by have := unhide HL; omega), List.append_nil] at h
          exact hide h
        have HG := hide hgr
        have e : j = n := by omega
        clear hown hgr
        subst e
        go_wp2
        go_ret
        exact ⟨rfl, unhide HE, unhide HG⟩

set_option maxHeartbeats 4000000 in
set_option maxRecDepth 100000 in
theorem markF_any (base : Nat) (a : Option Addr) (n cap : Nat) (xs : List Flr) (k : Int) (h1 : 0 ≤ k) (h2 : k ≤ 100000000) (w : World) (hn : n ≤ 2000000) (hx : OwF base w (.slice a n cap) xs) :
    Calls Try.prog 70 #[.slice a n cap, .int .i64 k] w fun e w' => e = .returned (.int .i64 (k + 2 * n)) ∧ OwF base w' (.slice a n cap) (mkFs k n) ∧ w.grownBy w' (Value.slice a n cap).ownBlock := by
  have hlen := (hx.rw encF_len).len.1
  rcases hx.2 with ⟨hv, h0⟩ | ⟨g, cap', cur, hv, hb, hg, hnc, hcm, hcs, htake⟩
  · simp only [Value.slice.injEq] at hv
    obtain ⟨rfl, rfl, rfl⟩ := hv
    obtain rfl : xs = [] := List.eq_nil_of_length_eq_zero h0
    have HX := hide hx
    clear hx hlen h0
    go_enter Try.func70, Try.ntmps70
    go_wp2
    go_loop [1, 5] (fun q i => i = .int .i64 0 ∧ q = .int .i64 k) (fun _ i => 0)
    case atStart => exact ⟨rfl, rfl⟩
    case round =>
      obtain ⟨rfl, rfl⟩ := hrel
      go_wp2
      go_ret
      exact ⟨ret_int (by simp), unhide HX, grown_refl _ _⟩
  · simp only [Value.slice.injEq] at hv
    obtain ⟨rfl, -, rfl⟩ := hv
    clear hb hg hnc hcm hcs htake
    have HX := hide hx
    have HL := hide hlen
    clear hx hlen
    go_enter Try.func70, Try.ntmps70
    go_wp2
    go_loopw [1, 5] (fun q i wr => ∃ j : Nat, j ≤ n ∧ i = .int .i64 j ∧ q = .int .i64 (k + 2 * j) ∧ OwF base wr (.slice (some ⟨g, 0, none⟩) n cap) ((mkFs k n).take j ++ xs.drop j) ∧ w.grownBy wr (some g)) (fun _ i _ => n - (intOf i).toNat)
    case atStart => exact ⟨0, Nat.zero_le _, rfl, by simp, by simpa using unhide HX, grown_refl _ _⟩
    case round =>
      obtain ⟨j, hj, rfl, rfl, hown, hgr⟩ := hrel
      by_cases hlt : j < n
      · have hfl := part_len (mkFs k n) xs n j (mkFs_len k n) (unhide HL).symm (by omega)
        obtain ⟨y0, y1, z0, z1, zf⟩ := own_cells2 (show wr.ownsRow base 112 2 (.slice (some ⟨g, 0, none⟩) n cap) n _ from by have h := hown; unfold OwF Ow at h; rw [hfl] at h; exact h) hlt
        have HO := hide hown
        have HG := hide hgr
        have HFL := hide hfl
        have hj0 : (0 : Int) ≤ (j : Int) := by omega
        clear hown hgr hfl
        have R1 := (unhide HO).put (by omega) encF_len (unhide HFL).symm j hlt (mkF (k + 2 * (j : Int)))
        rw [part_set (mkFs k n) xs n j _ (mkFs_len k n) (unhide HL).symm hlt (mkFs_at k n j hlt)] at R1
        have R2 := (setW_own (encF (mkF (k + 2 * (j : Int)))) (show wr.ownsRow base 112 2 (.slice (some ⟨g, 0, none⟩) n cap) n _ from by have h := unhide HO; unfold OwF Ow at h; rw [unhide HFL] at h; exact h) (j * 2)).2
        have HR1 := hide R1
        have HR2 := hide (grown_trans2 (unhide HG) R2)
        clear R1 R2 HO HG HFL
        go_wp2
        go_roundw
        case rel => exact ⟨j + 1, by omega, by go_num, by go_num, unhide HR1, unhide HR2⟩
        case measure => simp [intOf]; omega
      · have HE : Hid (OwF base wr (.slice (some ⟨g, 0, none⟩) n cap) (mkFs k n)) := by
          have e : j = n := by omega
          subst e
          have h := hown
          rw [List.take_of_length_le (by rw [mkFs_len]; omega), List.drop_of_length_le (by have := unhide HL; omega), List.append_nil] at h
          exact hide h
        have HG := hide hgr
        have e : j = n := by omega
        clear hown hgr
        subst e
        go_wp2
        go_ret
        exact ⟨rfl, unhide HE, unhide HG⟩

set_option maxHeartbeats 1000000 in
theorem markS_any (base : Nat) (ai : Option Addr) (ni ci : Nat) (xs : List Itm) (af : Option Addr) (nf cf : Nat) (fs : List Flr) (k : Int) (h1 : 0 ≤ k) (h2 : k ≤ 50000000) (w : World) (hni : ni ≤ 2000000) (hnf : nf ≤ 2000000) (hx : OwI base w (.slice ai ni ci) xs) (hf : OwF base w (.slice af nf cf) fs) :
    Calls Try.prog 31 #[.agg #[.slice ai ni ci, .slice af nf cf], .int .i64 k] w fun e w' => e = .returned (.int .i64 (k + 6 * ni + 2 * nf)) ∧ OwI base w' (.slice ai ni ci) (mkIs k ni) ∧ OwF base w' (.slice af nf cf) (mkFs (k + 6 * ni) nf) ∧
      Trn (fun i => (Value.slice ai ni ci).ownBlock = some i ∨ (Value.slice af nf cf).ownBlock = some i) w w' := by
  have HX := hide hx
  have HF := hide hf
  clear hx hf
  go_enter Try.func31, Try.ntmps31
  go_wp2_with fail
  refine (markI_any base ai ni ci xs k h1 (by omega) _ hni ((unhide HX).later ((Below.refl _ _).alloc (Nat.le_refl _) _))).mono ?_
  rintro e w1 ⟨rfl, o1, g1⟩
  have hne : (Value.slice ai ni ci).ownBlock ≠ some w.heap.size := fun e => by have := (World.ownsRow.lt (unhide HX) _ e).2; omega
  have hK : w1.heap[w.heap.size]? = some (.cells #[.slice ai ni ci, .slice af nf cf] 38 (0, 0)) := (g1.block _ (by simp) (fun e => hne e.symm)).trans (heap_alloc_new w _)
  have hap := owns_apart (unhide HF) (unhide HX) (by decide)
  have HF1 := hide ((Trn.of_grown g1).own ((unhide HF).later ((Below.refl _ _).alloc (Nat.le_refl _) _)) (fun i hi e => by rcases hap with h | h; rw [h] at hi; cases hi; exact h (hi.trans e.symm)))
  have HT1 := hide ((Trn.of_below ((Below.refl w.heap.size w).alloc (Nat.le_refl _) _)).trans ((Trn.of_grown g1).mono (T := fun i => (Value.slice ai ni ci).ownBlock = some i ∨ (Value.slice af nf cf).ownBlock = some i) (fun i h => .inl h)))
  have HO1 := hide o1
  obtain ⟨p0, p1, -⟩ := blk_cells2 hK
  have hap2 := hap
  have HAP := hide hap2
  clear o1 g1 hne hK hap hap2
  go_wp2_with fail
  refine (markF_any base af nf cf fs (k + 6 * ni) (by omega) (by omega) _ hnf (unhide HF1)).mono ?_
  rintro e w2 ⟨rfl, o2, g2⟩
  have HO2 := hide o2
  have HI2 := hide ((Trn.of_grown g2).own (unhide HO1) (fun i hi e => by rcases unhide HAP with h | h; rw [h] at e; cases e; exact h (e.trans hi.symm)))
  have HT2 := hide ((unhide HT1).trans ((Trn.of_grown g2).mono (fun i h => .inr h)))
  clear o2 g2 HO1 HT1 HF1 HAP
  go_wp2
  go_ret
  exact ⟨rfl, unhide HI2, unhide HO2, unhide HT2⟩
end Go.Proofs.Ytighiahppjekeaa
