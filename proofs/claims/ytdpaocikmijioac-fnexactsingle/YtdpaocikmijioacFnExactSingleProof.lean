/-
  The law FnExactSingle answers true at every number and entry. No condition.
-/
import Derived.Test.YtdpaocikmijioacRows
import Derived.Test.YtdpaocikmijioacStE
import Derived.Test.YtdpaocikmijioacStH
import Derived.Test.YtdpaocikmijioacStSg
import Derived.Test.YtdpaocikmijioacSt3
import Derived.Test.YtdpaocikmijioacEntO
import Derived.WalkKit
import Derived.ProofKit
import Derived.OpenShut
import Derived.ShutString
import Derived.ChangeOld
import Derived.Below
import Derived.Carry
namespace Go.Proofs.Ytdpaocikmijioac.fnExactSingle
open Go.ChangeShapes Go.WideShapes Go.ChangeAt Go.RowKit
open Go.ChangeMaps (open_string shut_string)

theorem own : ownKnob Try.prog.godebug = none := by kernel_rfl
theorem laidOut : laidOutB Try.prog = true := by kernel_rfl

set_option maxHeartbeats 8000000 in
set_option maxRecDepth 100000 in
theorem walk (id : Int) (_ : (Lit.int .i64 id).wf = true) (ai ar ab av : Int) (ad : ByteArray) (sa : ad.size ≤ maxLen) (_ : -9223372036854775808 ≤ ai ∧ ai ≤ 9223372036854775807) (_ : -9223372036854775808 ≤ ar ∧ ar ≤ 9223372036854775807) (_ : -9223372036854775808 ≤ ab ∧ ab ≤ 9223372036854775807) (_ : -9223372036854775808 ≤ av ∧ av ≤ 9223372036854775807) (w : World) :
    Calls Try.prog 6 #[.int .i64 id, .agg #[.int .i64 ai, .int .i64 ar, .int .i64 ab, .int .i64 av, .string ad]] w fun e w' => e = .returned (.bool true) ∧ Below w.heap.size w w' := by
  obtain ⟨ok, hok⟩ : ∃ ok, okS [(id, ((ai, ar, ab, av, ad) : Key))] [] = ok := ⟨_, rfl⟩
  have HOK := hide hok
  have hl : (sgl ok id (ai, ar, ab, av, ad)).length ≤ 1 := by cases ok <;> simp [sgl]
  obtain ⟨n, hn⟩ : ∃ n, (sgl ok id (ai, ar, ab, av, ad)).length = n := ⟨_, rfl⟩
  rw [hn] at hl
  have HN := hide hn
  clear hn
  clear hok
  go_enter Try.func6, Try.ntmps6
  go_wp2_with fail
  refine (sz_any ai ar ab av ad 1048576 (by omega) (by omega) sa _).mono ?_
  rintro e w1 ⟨rfl, b1, -⟩
  have cw1 := ((Below.refl w.heap.size w).alloc (Nat.le_refl _) _).trans (b1.mono (by simp <;> omega))
  have zw1 := cw1.size
  have K_a : Hid (w1.heap[w.heap.size]? = some (.cells #[.int .i64 ai, .int .i64 ar, .int .i64 ab, .int .i64 av, .string ad] 52 (0, 0)) ∧ w.heap.size < w1.heap.size) := hide ⟨(b1.block _ (by simp <;> omega)).trans (newB1 w _), by have := b1.size; simp at this; omega⟩
  have y_a := (unhide K_a).2
  have BL := hide cw1
  clear b1 cw1
  obtain ⟨a_0, a_1, a_2, a_3, a_4, -⟩ := blk_cells5 (unhide K_a).1
  have n_a := (unhide K_a).2
  by_cases hbig0 : 1048576 < (ad.size : Int)
  · rw [if_pos hbig0]
    go_wp2
    go_ret
    exact ⟨rfl, unhide BL⟩
  rw [if_neg hbig0]
  have hd : decide (1048576 - (ad.size : Int) < 0) = false := by simp; omega
  have hsz8 : ad.size ≤ 281474976710656 := by omega
  go_wp2_with fail
  refine (toentry_any ai ar ab av ad _).mono ?_
  rintro e w2 ⟨rfl, b2⟩
  clear a_0 a_1 a_2 a_3 a_4 n_a
  have cw2 := b2
  have zw2 := cw2.size
  have K_a := hide (keptblk cw2 K_a)
  have BL := hide ((unhide BL).trans (cw2.mono (unhide BL).size))
  clear b2 cw2
  obtain ⟨a_0, a_1, a_2, a_3, a_4, -⟩ := blk_cells5 (unhide K_a).1
  have n_a := (unhide K_a).2
  go_wp2_with fail
  refine (ssingle_any id (ai, ar, ab, av, ad) ok HOK n HN _).mono ?_
  rintro e w3 ⟨a1, c1, rfl, o1, b3⟩
  clear a_0 a_1 a_2 a_3 a_4 n_a
  have cw3 := b3
  have zw3 := cw3.size
  have K_a := hide (keptblk cw3 K_a)
  have BL := hide ((unhide BL).trans (cw3.mono (unhide BL).size))
  have R_oW := hide (o1)
  have L_oW := hide (World.ownsRow.lt (unhide R_oW))
  clear b3 cw3
  obtain ⟨a_0, a_1, a_2, a_3, a_4, -⟩ := blk_cells5 (unhide K_a).1
  have n_a := (unhide K_a).2
  clear o1
  go_wp2_with fail
  refine (toentry_any ai ar ab av ad _).mono ?_
  rintro e w4 ⟨rfl, b4⟩
  clear a_0 a_1 a_2 a_3 a_4 n_a
  have cw4 := ((Below.refl w3.heap.size w3).alloc (Nat.le_refl _) _).trans (b4.mono (by simp <;> omega))
  have zw4 := cw4.size
  have K_a := hide (keptblk cw4 K_a)
  have K_s : Hid (w4.heap[w3.heap.size]? = some (.cells #[.slice a1 n c1, .slice none 0 0] 30 (0, 0)) ∧ w3.heap.size < w4.heap.size) := hide ⟨(b4.block _ (by simp <;> omega)).trans (newB1 w3 _), by have := b4.size; simp at this; omega⟩
  have y_s := (unhide K_s).2
  have R_oW := hide ((unhide R_oW).later cw4)
  have BL := hide ((unhide BL).trans (cw4.mono (unhide BL).size))
  clear b4 cw4
  obtain ⟨a_0, a_1, a_2, a_3, a_4, -⟩ := blk_cells5 (unhide K_a).1
  have n_a := (unhide K_a).2
  obtain ⟨s_0, s_1, -⟩ := blk_cells2 (unhide K_s).1
  have n_s := (unhide K_s).2
  go_wp2_with fail
  refine (isingle_any id (ai, ar, ab, av, ad) hsz8 ok HOK n HN _).mono ?_
  rintro e w5 ⟨a2, c2, rfl, o1, b5⟩
  clear a_0 a_1 a_2 a_3 a_4 n_a s_0 s_1 n_s
  have cw5 := b5
  have zw5 := cw5.size
  have K_a := hide (keptblk cw5 K_a)
  have K_s := hide (keptblk cw5 K_s)
  have R_oW := hide ((unhide R_oW).later cw5)
  have BL := hide ((unhide BL).trans (cw5.mono (unhide BL).size))
  have R_oG := hide (o1)
  have L_oG := hide (World.ownsRow.lt (unhide R_oG))
  clear b5 cw5
  obtain ⟨a_0, a_1, a_2, a_3, a_4, -⟩ := blk_cells5 (unhide K_a).1
  have n_a := (unhide K_a).2
  obtain ⟨s_0, s_1, -⟩ := blk_cells2 (unhide K_s).1
  have n_s := (unhide K_s).2
  clear o1
  have hne : (ok != ok) = false := by cases ok <;> rfl
  go_wp2_with fail
  refine (eqstate_same _ _ _ _ _ (sgl ok id (ai, ar, ab, av, ad)) _ _ _ _ _ [] _ (by omega) (by omega) (((unhide R_oG).rw encI_len).alloc _) (((unhide R_oW).rw encI_len).alloc _) Rw.nil Rw.nil).mono ?_
  rintro e w6 ⟨rfl, b6⟩
  clear a_0 a_1 a_2 a_3 a_4 n_a s_0 s_1 n_s
  have cw6 := ((Below.refl w5.heap.size w5).alloc (Nat.le_refl _) _).trans (b6.mono (by simp <;> omega))
  have zw6 := cw6.size
  have K_a := hide (keptblk cw6 K_a)
  have K_s := hide (keptblk cw6 K_s)
  have K_g : Hid (w6.heap[w5.heap.size]? = some (.cells #[.slice a2 n c2, .slice none 0 0] 30 (0, 0)) ∧ w5.heap.size < w6.heap.size) := hide ⟨(b6.block _ (by simp <;> omega)).trans (newB1 w5 _), by have := b6.size; simp at this; omega⟩
  have y_g := (unhide K_g).2
  have R_oW := hide ((unhide R_oW).later cw6)
  have R_oG := hide ((unhide R_oG).later cw6)
  have BL := hide ((unhide BL).trans (cw6.mono (unhide BL).size))
  clear b6 cw6
  obtain ⟨a_0, a_1, a_2, a_3, a_4, -⟩ := blk_cells5 (unhide K_a).1
  have n_a := (unhide K_a).2
  obtain ⟨s_0, s_1, -⟩ := blk_cells2 (unhide K_s).1
  have n_s := (unhide K_s).2
  obtain ⟨g_0, g_1, -⟩ := blk_cells2 (unhide K_g).1
  have n_g := (unhide K_g).2
  have R_oZ : Hid (OwF w4.heap.size w6 (.slice none 0 0) []) := hide (World.ownsRow_nil _ _ _ _)
  have L_oZ := hide (World.ownsRow.lt (unhide R_oZ))
  go_wp2_with fail
  refine (markS_any w4.heap.size a2 n c2 (sgl ok id (ai, ar, ab, av, ad)) none 0 0 [] 1 (by omega) (by omega) _ (by omega) (by omega) (unhide R_oG) (unhide R_oZ)).mono ?_
  rintro e w7 ⟨rfl, o1, o2, t1⟩
  clear a_0 a_1 a_2 a_3 a_4 n_a g_0 g_1 n_g s_0 s_1 n_s
  have zw7 := t1.size
  have K_a := hide (t1.kept K_a (fun q => by rcases q with q | q; (first | (have := unhide L_oG _ q; omega) | (exact absurd q (by simp [Value.ownBlock]))); (first | (have := unhide L_oZ _ q; omega) | (exact absurd q (by simp [Value.ownBlock])))))
  have K_s := hide (t1.kept K_s (fun q => by rcases q with q | q; (first | (have := unhide L_oG _ q; omega) | (exact absurd q (by simp [Value.ownBlock]))); (first | (have := unhide L_oZ _ q; omega) | (exact absurd q (by simp [Value.ownBlock])))))
  have K_g := hide (t1.kept K_g (fun q => by rcases q with q | q; (first | (have := unhide L_oG _ q; omega) | (exact absurd q (by simp [Value.ownBlock]))); (first | (have := unhide L_oZ _ q; omega) | (exact absurd q (by simp [Value.ownBlock])))))
  have R_oW := hide (t1.own (unhide R_oW) (fun i hi => fun q => by have := unhide L_oW _ hi; rcases q with q | q; (first | (have := unhide L_oG _ q; omega) | (exact absurd q (by simp [Value.ownBlock]))); (first | (have := unhide L_oZ _ q; omega) | (exact absurd q (by simp [Value.ownBlock])))))
  have BL := hide (Trn.below (unhide BL) t1 (unhide BL).size (fun i q => by rcases q with q | q; (first | (have := unhide L_oG _ q; omega) | (exact absurd q (by simp [Value.ownBlock]))); (first | (have := unhide L_oZ _ q; omega) | (exact absurd q (by simp [Value.ownBlock])))))
  have R_oG := hide o1; have R_oZ := hide o2
  clear o1 o2 t1
  obtain ⟨a_0, a_1, a_2, a_3, a_4, -⟩ := blk_cells5 (unhide K_a).1
  have n_a := (unhide K_a).2
  obtain ⟨s_0, s_1, -⟩ := blk_cells2 (unhide K_s).1
  have n_s := (unhide K_s).2
  obtain ⟨g_0, g_1, -⟩ := blk_cells2 (unhide K_g).1
  have n_g := (unhide K_g).2
  go_wp2_with fail
  refine (heldS_any a2 n c2 none 0 0 1 (by omega) (by omega) _ (by omega) (by omega) ((unhide R_oG).rw encI_len) ((unhide R_oZ).rw encF_len)).mono ?_
  rintro e w8 ⟨rfl, b8⟩
  clear a_0 a_1 a_2 a_3 a_4 n_a g_0 g_1 n_g s_0 s_1 n_s
  have cw8 := b8
  have zw8 := cw8.size
  have K_a := hide (keptblk cw8 K_a)
  have K_s := hide (keptblk cw8 K_s)
  have K_g := hide (keptblk cw8 K_g)
  have R_oW := hide ((unhide R_oW).later cw8)
  have R_oG := hide ((unhide R_oG).later cw8)
  have R_oZ := hide ((unhide R_oZ).later cw8)
  have BL := hide ((unhide BL).trans (cw8.mono (unhide BL).size))
  clear b8 cw8
  obtain ⟨a_0, a_1, a_2, a_3, a_4, -⟩ := blk_cells5 (unhide K_a).1
  have n_a := (unhide K_a).2
  obtain ⟨s_0, s_1, -⟩ := blk_cells2 (unhide K_s).1
  have n_s := (unhide K_s).2
  obtain ⟨g_0, g_1, -⟩ := blk_cells2 (unhide K_g).1
  have n_g := (unhide K_g).2
  have hq1 : decide ((1 : Int) + 6 * (n : Int) + 2 * ((0 : Nat) : Int) < 0) = false := by simp; omega
  have hq2 : ((1 : Int) + 6 * (n : Int) + 2 * ((0 : Nat) : Int) != 1 + 6 * (n : Int) + 2 * ((0 : Nat) : Int)) = false := by simp
  go_wp2_with fail
  refine (toentry_any ai ar ab av ad _).mono ?_
  rintro e w9 ⟨rfl, b9⟩
  clear a_0 a_1 a_2 a_3 a_4 n_a g_0 g_1 n_g s_0 s_1 n_s
  have cw9 := b9
  have zw9 := cw9.size
  have K_a := hide (keptblk cw9 K_a)
  have K_s := hide (keptblk cw9 K_s)
  have K_g := hide (keptblk cw9 K_g)
  have R_oW := hide ((unhide R_oW).later cw9)
  have R_oG := hide ((unhide R_oG).later cw9)
  have R_oZ := hide ((unhide R_oZ).later cw9)
  have BL := hide ((unhide BL).trans (cw9.mono (unhide BL).size))
  clear b9 cw9
  obtain ⟨a_0, a_1, a_2, a_3, a_4, -⟩ := blk_cells5 (unhide K_a).1
  have n_a := (unhide K_a).2
  obtain ⟨s_0, s_1, -⟩ := blk_cells2 (unhide K_s).1
  have n_s := (unhide K_s).2
  obtain ⟨g_0, g_1, -⟩ := blk_cells2 (unhide K_g).1
  have n_g := (unhide K_g).2
  go_wp2_with fail
  refine (isingle_any id (ai, ar, ab, av, ad) hsz8 ok HOK n HN _).mono ?_
  rintro e w10 ⟨a3, c3, rfl, o1, b10⟩
  clear a_0 a_1 a_2 a_3 a_4 n_a g_0 g_1 n_g s_0 s_1 n_s
  have cw10 := b10
  have zw10 := cw10.size
  have K_a := hide (keptblk cw10 K_a)
  have K_s := hide (keptblk cw10 K_s)
  have K_g := hide (keptblk cw10 K_g)
  have R_oW := hide ((unhide R_oW).later cw10)
  have R_oG := hide ((unhide R_oG).later cw10)
  have R_oZ := hide ((unhide R_oZ).later cw10)
  have BL := hide ((unhide BL).trans (cw10.mono (unhide BL).size))
  have R_oH := hide (o1)
  have L_oH := hide (World.ownsRow.lt (unhide R_oH))
  clear b10 cw10
  obtain ⟨a_0, a_1, a_2, a_3, a_4, -⟩ := blk_cells5 (unhide K_a).1
  have n_a := (unhide K_a).2
  obtain ⟨s_0, s_1, -⟩ := blk_cells2 (unhide K_s).1
  have n_s := (unhide K_s).2
  obtain ⟨g_0, g_1, -⟩ := blk_cells2 (unhide K_g).1
  have n_g := (unhide K_g).2
  clear o1
  go_wp2_with fail
  refine (eqstate_same _ _ _ _ _ (sgl ok id (ai, ar, ab, av, ad)) _ _ _ _ _ [] _ (by omega) (by omega) (((unhide R_oH).rw encI_len).alloc _) (((unhide R_oW).rw encI_len).alloc _) Rw.nil Rw.nil).mono ?_
  rintro e w11 ⟨rfl, b11⟩
  clear a_0 a_1 a_2 a_3 a_4 n_a g_0 g_1 n_g s_0 s_1 n_s
  have cw11 := ((Below.refl w10.heap.size w10).alloc (Nat.le_refl _) _).trans (b11.mono (by simp <;> omega))
  have zw11 := cw11.size
  have K_a := hide (keptblk cw11 K_a)
  have K_s := hide (keptblk cw11 K_s)
  have K_g := hide (keptblk cw11 K_g)
  have K_h : Hid (w11.heap[w10.heap.size]? = some (.cells #[.slice a3 n c3, .slice none 0 0] 30 (0, 0)) ∧ w10.heap.size < w11.heap.size) := hide ⟨(b11.block _ (by simp <;> omega)).trans (newB1 w10 _), by have := b11.size; simp at this; omega⟩
  have y_h := (unhide K_h).2
  have R_oW := hide ((unhide R_oW).later cw11)
  have R_oG := hide ((unhide R_oG).later cw11)
  have R_oZ := hide ((unhide R_oZ).later cw11)
  have R_oH := hide ((unhide R_oH).later cw11)
  have BL := hide ((unhide BL).trans (cw11.mono (unhide BL).size))
  clear b11 cw11
  obtain ⟨a_0, a_1, a_2, a_3, a_4, -⟩ := blk_cells5 (unhide K_a).1
  have n_a := (unhide K_a).2
  obtain ⟨s_0, s_1, -⟩ := blk_cells2 (unhide K_s).1
  have n_s := (unhide K_s).2
  obtain ⟨g_0, g_1, -⟩ := blk_cells2 (unhide K_g).1
  have n_g := (unhide K_g).2
  obtain ⟨h_0, h_1, -⟩ := blk_cells2 (unhide K_h).1
  have n_h := (unhide K_h).2
  go_wp2_with fail
  refine (heldS_any a2 n c2 none 0 0 1 (by omega) (by omega) _ (by omega) (by omega) ((unhide R_oG).rw encI_len) ((unhide R_oZ).rw encF_len)).mono ?_
  rintro e w12 ⟨rfl, b12⟩
  clear a_0 a_1 a_2 a_3 a_4 n_a g_0 g_1 n_g h_0 h_1 n_h s_0 s_1 n_s
  have cw12 := b12
  have zw12 := cw12.size
  have K_a := hide (keptblk cw12 K_a)
  have K_s := hide (keptblk cw12 K_s)
  have K_g := hide (keptblk cw12 K_g)
  have K_h := hide (keptblk cw12 K_h)
  have R_oW := hide ((unhide R_oW).later cw12)
  have R_oG := hide ((unhide R_oG).later cw12)
  have R_oZ := hide ((unhide R_oZ).later cw12)
  have R_oH := hide ((unhide R_oH).later cw12)
  have BL := hide ((unhide BL).trans (cw12.mono (unhide BL).size))
  clear b12 cw12
  obtain ⟨a_0, a_1, a_2, a_3, a_4, -⟩ := blk_cells5 (unhide K_a).1
  have n_a := (unhide K_a).2
  obtain ⟨s_0, s_1, -⟩ := blk_cells2 (unhide K_s).1
  have n_s := (unhide K_s).2
  obtain ⟨g_0, g_1, -⟩ := blk_cells2 (unhide K_g).1
  have n_g := (unhide K_g).2
  obtain ⟨h_0, h_1, -⟩ := blk_cells2 (unhide K_h).1
  have n_h := (unhide K_h).2
  go_wp2
  go_ret
  exact ⟨rfl, unhide BL⟩

set_option maxHeartbeats 4000000 in
set_option maxRecDepth 100000 in
theorem lifted (os : Os) (started : os.Started) (H : Type) (enc : TypeId × Value → H) :
    ReturnsInHanded {} Try.checked os 6 .any (Rows.fnExactSingleSpec.pre6 enc Try.prog Try.f6 Rows.fnExactSingleRow.domain false) (Rows.fnExactSingleSpec.post enc Try.prog Try.f6 false true false false) := by
  refine returnsInHanded_of_change (C := Try.checked) own started (by kernel_rfl) Try.func6
    (ChangeSpec.witness6 (enc := enc) (C := Try.checked) false ⟨#[], #[.int .i64 0, .agg #[.int .i64 0, .int .i64 0, .int .i64 0, .int .i64 0, .string ByteArray.empty]], []⟩ 8 (by kernel_rfl) (by kernel_rfl) (by kernel_rfl) (by kernel_rfl)) ?_
  intro W base args ds gs before hval0 hW hcnd _
  have hval : ∀ (j : Nat) t v, Try.f6.params[j]? = some t → args[j]? = some v → Value.okWide Try.prog W .any base t v := hval0
  have hW' := hW
  obtain ⟨p, q, hA0, hV, rfl, hfz, hnd⟩ := hW
  have hA : DataW.TrodAll enc Try.prog W 0 (fun _ => true) true Try.f6.params.toList args.toList ds p := hA0
  rw [Try.params6] at hA hval
  obtain ⟨v0, vs0, d0, ds0, p0, q0, hargs0, rfl, rfl, h0, r0⟩ := trodAll_cons hA
  obtain ⟨v1, vs1, d1, ds1, p1, q1, hargs1, rfl, rfl, h1, r1⟩ := trodAll_cons r0
  obtain ⟨rfl, rfl, rfl⟩ := trodAll_nil r1
  obtain rfl : args = #[v0, v1] := by cases args; simp_all
  obtain ⟨rfl, rfl⟩ := trodVars_none hV
  have k0 := h0
  have lt0 : ∀ x ∈ p0, x.block < W.heap.size := by obtain ⟨m, hm⟩ := k0; exact DataW.trod_lt m _ _ _ hm
  have k1 := h1
  have lt1 : ∀ x ∈ p1, x.block < W.heap.size := by obtain ⟨m, hm⟩ := k1; exact DataW.trod_lt m _ _ _ hm
  obtain ⟨id, rfl, -, -, wid⟩ := open_int Try.underlying3 (hval 0 3 v0 rfl rfl) h0
  obtain ⟨ai, ar, ab, av, ad, rfl, sa, qai, qar, qab, qav⟩ := open_ent (hval 1 52 v1 rfl rfl) h1
  clear hA0 hval0
  refine (walk id wid ai ar ab av ad sa qai qar qab qav W).mono fun e W' ⟨he, bel⟩ => ?_
  subst he
  exact ⟨_, rfl, _, _, _, [], _, [], hW', trodAll_mk1 (shut_bool Try.underlying4 _), (trodAll_cons_mk (Below.trod laidOut (by kernel_rfl) (of_decide_eq_true (by kernel_rfl)) k0 bel lt0) (trodAll_cons_mk (Below.trod laidOut (by kernel_rfl) (of_decide_eq_true (by kernel_rfl)) k1 bel lt1) trodAll_mk0)), rfl, bel.frame _, fun h => by cases h⟩

theorem over : Rows.fnExactSingleRow.holds Try.pinned (OpenSpec.ofChange Rows.fnExactSingleSpec) :=
  OpenClaim.holds_of_wide 6 Try.f6 rfl rfl rfl rfl rfl rfl rfl ⟨rfl, rfl, rfl, rfl, rfl⟩ rfl rfl rfl rfl rfl (by kernel_rfl) Try.func6 (by kernel_rfl)
    (of_decide_eq_true (by kernel_rfl)) (by unfold Func.isWrapper; first | (rw [if_pos (by decide +kernel)]; kernel_rfl) | (rw [if_neg (by decide +kernel)]; exact ⟨rfl, rfl⟩))
    (fun os started H enc _ => lifted os started H enc)

theorem proved : Rows.FnExactSingleSaid := over
#print axioms proved
end Go.Proofs.Ytdpaocikmijioac.fnExactSingle
namespace Go.Proofs.Ytdpaocikmijioac
theorem fnExactSingle_holds : Rows.FnExactSingleSaid := fnExactSingle.proved
end Go.Proofs.Ytdpaocikmijioac
