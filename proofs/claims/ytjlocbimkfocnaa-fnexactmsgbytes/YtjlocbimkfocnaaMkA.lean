/-
  What the laws do with a list of marks: its size is taken off, it is turned into the program's own, two are compared, it is marked and held; such a list as an argument. No statement is proved here.
-/
import Derived.Test.YtjlocbimkfocnaaPrt
import Derived.Test.YtjlocbimkfocnaaRwI
import Derived.BigQuiet
import Derived.Deep.QuietTactic
import Derived.Deep.RegionWith
namespace Go.Proofs.Ytjlocbimkfocnaa
open Go.ChangeShapes Go.WideShapes Go.ChangeAt Go.RowKit

abbrev OwM (base : Nat) (w : World) (v : Value) (fs : List Flr) : Prop := Ow encF 2 127 base w v fs
theorem Try.infoMark : (Try.prog.info? 127).map (fun i => (i.zero, i.size, i.bytes)) = some (some (.agg #[.int .i64 0, .int .i64 0]), 2, 16) := by kernel_rfl
def zeroM : Flr := (0, 0)

set_option maxHeartbeats 1000000 in
theorem szmarks_any (a : Option Addr) (m cap : Nat) (n : Int) (h1 : 0 ≤ n) (h2 : n ≤ 1048576) (w : World) (hm : m ≤ 9223372036854775807) :
    Calls Try.prog 46 #[.slice a m cap, .int .i64 n] w fun e w' => (e = .returned (.int .i64 (-1)) ∨ ∃ r : Int, e = .returned (.int .i64 r) ∧ 0 ≤ r ∧ r ≤ n - m ∧ m ≤ 1048576) ∧ Below w.heap.size w w' := by
  by_cases hb : n < m
  · have hd : decide (n - (m : Int) < 0) = true := by simp; omega
    go_enter Try.func46, Try.ntmps46
    go_wp2
    go_ret
    exact ⟨.inl rfl, Below.refl _ _⟩
  · have hd : decide (n - (m : Int) < 0) = false := by simp; omega
    have hmn : (m : Int) ≤ n := by omega
    clear hb
    go_enter Try.func46, Try.ntmps46
    go_wp2
    go_ret
    exact ⟨.inr ⟨_, rfl, by omega, by omega, by omega⟩, Below.refl _ _⟩
set_option maxHeartbeats 1000000 in
theorem tomark_any (x : Flr) (w : World) :
    Calls Try.prog 90 #[.agg #[.int .i64 x.1, .int .i64 x.2]] w fun e w' => e = .returned (.agg #[.int .i64 x.1, .int .i64 x.2]) ∧ Below w.heap.size w w' := by
  go_enter Try.func90, Try.ntmps90
  go_wp2
  exact bodyPost_ret (v := .agg #[.int .i64 x.1, .int .i64 x.2]) (by simp [results, Try.results90, go_sem]) rfl ⟨rfl, (((Below.refl _ _).alloc (Nat.le_refl _) _).alloc (by simp) _).alloc (by simp <;> omega) _⟩

set_option maxHeartbeats 2000000 in
theorem tomarks_any (a : Option Addr) (n cap : Nat) (xs : List Flr) (w : World) (hn : n ≤ 1048576) (hx : Rw encF 2 w (.slice a n cap) xs) :
    Calls Try.prog 53 #[.slice a n cap] w fun e w' => ∃ a' c', e = .returned (.slice a' n c') ∧ Ow encF 2 127 w.heap.size w' (.slice a' n c') xs ∧ Below w.heap.size w w' := by
  obtain ⟨i0, hi, hz0, hz1, hz2⟩ := info_parts Try.infoMark
  have hb2 : i0.bytes * n ≤ 281474976710656 := by rw [hz2]; omega
  have hml : n ≤ maxLen := by unfold maxLen; omega
  have HZ2 := hide hz2
  have HX := hide hx
  clear hz2 hx
  go_enter Try.func53, Try.ntmps53
  go_wp2_with (first | (at_make; refine wpList_make_full _ rfl _ _ 48 rfl w.heap.size 127 i0 (.agg #[.int .i64 0, .int .i64 0]) 2 Try.underlying48 hi hz0 hz1 .i64 .i64 _ _ n rfl rfl rfl rfl hb2 hml (Nat.le_refl _) ?_))
  intro w1 hown hgrow
  have hbel : Below w.heap.size w w1 := (Below.refl _ _).grown hgrow (Nat.le_refl _) (fun k hk => by cases hk)
  have hlen := (unhide HX).len.1
  have hown0 : Ow encF 2 127 w.heap.size w1 (.slice (some ⟨w.heap.size, 0, none⟩) n n) (xs.take 0 ++ List.replicate (xs.length - 0) zeroM) := by
    rw [made_flat (enc := encF) (by omega) encF_len #[.int .i64 0, .int .i64 0] zeroM rfl n] at hown
    unfold Ow
    rw [fill_len _ _ _ (by omega)]
    simpa [hlen] using hown
  have HL := hide hlen
  clear hown hgrow hlen
  go_wp2
  go_loopw [4] (fun i wr => ∃ k : Nat, k ≤ n ∧ i = .int .i64 k ∧ Ow encF 2 127 w.heap.size wr (.slice (some ⟨w.heap.size, 0, none⟩) n n) (xs.take k ++ List.replicate (xs.length - k) zeroM) ∧ Below w.heap.size w wr) (fun i _ => n - (intOf i).toNat)
  case atStart => exact ⟨0, Nat.zero_le _, rfl, hown0, hbel⟩
  case round =>
    obtain ⟨k, hk, rfl, hown, hb⟩ := hrel
    clear hown0 hbel
    by_cases hlt : k < n
    · obtain ⟨x, b, off, hx, rfl, hbw, hcap, hc⟩ := (unhide HX).at hlt
      have c0 : wr.cell? ⟨b, off + k * 2, none⟩ = some (.int .i64 x.1) := (hb.cell (p := ⟨b, off + k * 2, none⟩) hbw).trans (hc 0 (by omega))
      have c1 : wr.cell? ⟨b, off + k * 2 + 1, none⟩ = some (.int .i64 x.2) := (hb.cell (p := ⟨b, off + k * 2 + 1, none⟩) hbw).trans (hc 1 (by omega))
      have HO := hide hown
      have HB := hide hb
      have hsz := hb.size
      have HX1 := hide hx
      clear hc hx hown hb
      go_wp2_with fail
      refine (tomark_any x _).mono ?_
      rintro e w2 ⟨rfl, b2⟩
      have hown2 := (unhide HO).later b2
      have hb3 := (unhide HB).trans (b2.mono hsz)
      have hfl : (xs.take k ++ List.replicate (xs.length - k) zeroM).length = n := by rw [fill_len _ _ _ (by have := unhide HL; omega)]; exact (unhide HL).symm
      obtain ⟨y0, y1, z0, z1, zf⟩ := own_cells2 (show w2.ownsRow w.heap.size 127 2 (.slice (some ⟨w.heap.size, 0, none⟩) n n) n _ from by have h := hown2; unfold Ow at h; rw [hfl] at h; exact h) hlt
      have R1 := hown2.put (by omega) encF_len hfl.symm k hlt x
      rw [fill_set xs zeroM k x (unhide HX1)] at R1
      have HR1 := hide R1
      have HR2 := hide (setW_below (g := w.heap.size) (Nat.le_refl _) (encF x) hb3 (k * 2))
      clear hown2 hb3 b2 R1 HO HB HX1 hfl
      go_wp2
      go_roundw
      case rel => exact ⟨k + 1, by omega, by go_num, unhide HR1, unhide HR2⟩
      case measure => simp [intOf]; omega
    · have HO : Hid (Ow encF 2 127 w.heap.size wr (.slice (some ⟨w.heap.size, 0, none⟩) n n) xs) := by
        have h := hown
        rw [List.take_of_length_le (by have := unhide HL; omega), show xs.length - k = 0 by have := unhide HL; omega] at h
        simpa using hide h
      have HB := hide hb
      clear hown hb
      go_wp2
      go_ret
      exact ⟨_, _, rfl, unhide HO, unhide HB⟩
set_option maxHeartbeats 1000000 in
theorem eqmark_same (x : Flr) (w : World) :
    Calls Try.prog 100 #[.agg #[.int .i64 x.1, .int .i64 x.2], .agg #[.int .i64 x.1, .int .i64 x.2]] w fun e w' => e = .returned (.bool true) ∧ Below w.heap.size w w' := by
  have d0 : (x.1 != x.1) = false := by simp
  have d1 : (x.2 != x.2) = false := by simp
  go_enter Try.func100, Try.ntmps100
  go_wp2
  go_ret
  exact ⟨rfl, ((Below.refl w.heap.size w).alloc (Nat.le_refl _) _).alloc (by simp) _⟩

set_option maxHeartbeats 2000000 in
theorem eqmarks_same (a : Option Addr) (n cap : Nat) (a2 : Option Addr) (cap2 : Nat) (xs : List Flr) (w : World) (hn : n ≤ 140737488351232) (hx : Rw encF 2 w (.slice a n cap) xs) (hy : Rw encF 2 w (.slice a2 n cap2) xs) :
    Calls Try.prog 63 #[.slice a n cap, .slice a2 n cap2] w fun e w' => e = .returned (.bool true) ∧ Below w.heap.size w w' := by
  have d0 : ((n : Int) != (n : Int)) = false := by simp
  have HX := hide hx
  have HY := hide hy
  clear hx hy
  go_enter Try.func63, Try.ntmps63
  go_wp2
  go_loopw [5] (fun i wr => ∃ k : Nat, k ≤ n ∧ i = .int .i64 k ∧ Below w.heap.size w wr) (fun i _ => n - (intOf i).toNat)
  case atStart => exact ⟨0, Nat.zero_le _, rfl, Below.refl _ _⟩
  case round =>
    obtain ⟨k, hk, rfl, hbel⟩ := hrel
    have HB := hide hbel
    have hsz := hbel.size
    by_cases hlt : k < n
    · obtain ⟨x, b, off, hx, rfl, hb, hcap, hc⟩ := (unhide HX).at hlt
      obtain ⟨y, b2, off2, hy, rfl, hb2, hcap2, hc2⟩ := (unhide HY).at hlt
      obtain rfl : x = y := by rw [hx] at hy; exact Option.some.inj hy
      have l0 := later_some (w := wr) (b := b) (o := off + k * 2) (v := .int .i64 x.1) (by omega) ((hbel.cell (p := ⟨b, off + k * 2, none⟩) hb).trans (hc 0 (by omega)))
      have l1 := later_some (w := wr) (b := b) (o := off + k * 2 + 1) (v := .int .i64 x.2) (by omega) ((hbel.cell (p := ⟨b, off + k * 2 + 1, none⟩) hb).trans (hc 1 (by omega)))
      have m0 := later_some (w := wr) (b := b2) (o := off2 + k * 2) (v := .int .i64 x.1) (by omega) ((hbel.cell (p := ⟨b2, off2 + k * 2, none⟩) hb2).trans (hc2 0 (by omega)))
      have m1 := later_some (w := wr) (b := b2) (o := off2 + k * 2 + 1) (v := .int .i64 x.2) (by omega) ((hbel.cell (p := ⟨b2, off2 + k * 2 + 1, none⟩) hb2).trans (hc2 1 (by omega)))
      clear hc hc2 hx hy hbel
      go_wp2_with fail
      refine wp_region_later (by kernel_rfl) (by kernel_rfl) ?_
      repeat (go_big_quiet_step (first | (go_at_call 100; exact Calls.later_of (eqmark_same x _))))
      refine wpQuiet_nil ?_
      intro w1 hb1
      have HB1 := hide ((unhide HB).trans (hb1.mono hsz))
      clear hb1 HB
      go_wp2
      go_roundw
      case rel => exact ⟨k + 1, by omega, by go_num, unhide HB1⟩
      case measure => simp [intOf]; omega
    · clear hbel
      go_wp2
      go_ret
      exact ⟨rfl, unhide HB⟩
set_option maxHeartbeats 4000000 in
set_option maxRecDepth 100000 in
theorem markM_any (base : Nat) (a : Option Addr) (n cap : Nat) (xs : List Flr) (k : Int) (h1 : 0 ≤ k) (h2 : k ≤ 100000000) (w : World) (hn : n ≤ 2000000) (hx : OwM base w (.slice a n cap) xs) :
    Calls Try.prog 67 #[.slice a n cap, .int .i64 k] w fun e w' => e = .returned (.int .i64 (k + 2 * n)) ∧ OwM base w' (.slice a n cap) (mkFs k n) ∧ w.grownBy w' (Value.slice a n cap).ownBlock := by
  have hlen := (hx.rw encF_len).len.1
  rcases hx.2 with ⟨hv, h0⟩ | ⟨g, cap', cur, hv, hb, hg, hnc, hcm, hcs, htake⟩
  · simp only [Value.slice.injEq] at hv
    obtain ⟨rfl, rfl, rfl⟩ := hv
    obtain rfl : xs = [] := List.eq_nil_of_length_eq_zero h0
    have HX := hide hx
    clear hx hlen h0
    go_enter Try.func67, Try.ntmps67
    go_wp2
    go_loop [1, 5] (fun q i => i = .int .i64 0 ∧ q = .int .i64 k) (fun _ i => 0)
    case atStart => exact ⟨rfl, rfl⟩
    case round =>
      obtain ⟨rfl, rfl⟩ := hrel
      go_wp2
      go_ret
      exact ⟨ret_int (by simp), unhide HX, grown_refl _ _⟩
  · simp only [Value.slice.injEq] at hv
    obtain ⟨rfl, -, rfl⟩ := hv
    clear hb hg hnc hcm hcs htake
    have HX := hide hx
    have HL := hide hlen
    clear hx hlen
    go_enter Try.func67, Try.ntmps67
    go_wp2
    go_loopw [1, 5] (fun q i wr => ∃ j : Nat, j ≤ n ∧ i = .int .i64 j ∧ q = .int .i64 (k + 2 * j) ∧ OwM base wr (.slice (some ⟨g, 0, none⟩) n cap) ((mkFs k n).take j ++ xs.drop j) ∧ w.grownBy wr (some g)) (fun _ i _ => n - (intOf i).toNat)
    case atStart => exact ⟨0, Nat.zero_le _, rfl, by simp, by simpa using unhide HX, grown_refl _ _⟩
    case round =>
      obtain ⟨j, hj, rfl, rfl, hown, hgr⟩ := hrel
      by_cases hlt : j < n
      · have hfl := part_len (mkFs k n) xs n j (mkFs_len k n) (unhide HL).symm (by omega)
        obtain ⟨y0, y1, z0, z1, zf⟩ := own_cells2 (show wr.ownsRow base 127 2 (.slice (some ⟨g, 0, none⟩) n cap) n _ from by have h := hown; unfold OwM Ow at h; rw [hfl] at h; exact h) hlt
        have HO := hide hown
        have HG := hide hgr
        have HFL := hide hfl
        have hj0 : (0 : Int) ≤ (j : Int) := by omega
        clear hown hgr hfl
        have R1 := (unhide HO).put (by omega) encF_len (unhide HFL).symm j hlt (mkF (k + 2 * (j : Int)))
        rw [part_set (mkFs k n) xs n j _ (mkFs_len k n) (unhide HL).symm hlt (mkFs_at k n j hlt)] at R1
        have R2 := (setW_own (encF (mkF (k + 2 * (j : Int)))) (show wr.ownsRow base 127 2 (.slice (some ⟨g, 0, none⟩) n cap) n _ from by have h := unhide HO; unfold OwM Ow at h; rw [unhide HFL] at h; exact h) (j * 2)).2
        have HR1 := hide R1
        have HR2 := hide (grown_trans2 (unhide HG) R2)
        clear R1 R2 HO HG HFL
        go_wp2
        go_roundw
        case rel => exact ⟨j + 1, by omega, by go_num, by go_num, unhide HR1, unhide HR2⟩
        case measure => simp [intOf]; omega
      · have HE : Hid (OwM base wr (.slice (some ⟨g, 0, none⟩) n cap) (mkFs k n)) := by
          have e : j = n := by omega
          subst e
          have h := hown
          rw [List.take_of_length_le (by rw [mkFs_len]; omega), List.drop_of_length_le (by have := unhide HL; omega), List.append_nil] at h
          exact hide h
        have HG := hide hgr
        have e : j = n := by omega
        clear hown hgr
        subst e
        go_wp2
        go_ret
        exact ⟨rfl, unhide HE, unhide HG⟩
def FitM (fs : List Flr) : Prop := ∀ (k : Nat) (x : Flr), fs[k]? = some x → FitN x.1 ∧ FitN x.2
section
variable {H : Type} {enc : TypeId × Value → H} {w : World} {base : Nat} {spare : Nat → Bool} {held : Bool}
set_option maxRecDepth 100000 in
theorem mrk_of_cells {fuel : Nat} {cs : List Value} {x : DataW H × List MemPlace} (h : DataW.trod enc Try.prog w base spare held fuel 132 cs = some x) :
    ∃ y : Flr, cs = encF y ∧ FitN y.1 ∧ FitN y.2 := by
  obtain ⟨xs, n, _, hx, hl, hlen, hfs⟩ := DataW.trod_struct Try.underlying132 h
  have hl2 : cs.length = 2 := hl.trans (by kernel_rfl)
  have ci : Try.prog.cellsOf 3 = 1 := by kernel_rfl
  match cs, hl2 with
  | [c0, c1], _ =>
    have h0 : DataW.trod enc Try.prog w base spare held n 3 [c0] = xs[0]? := by
      have := hfs 0 _ rfl
      simpa [ci] using this
    have h1 : DataW.trod enc Try.prog w base spare held n 3 [c1] = xs[1]? := by
      have := hfs 1 _ rfl
      simpa [ci] using this
    match xs, hlen with
    | [y0, y1], _ =>
      simp only [List.getElem?_cons_zero, List.getElem?_cons_succ] at h0 h1
      obtain ⟨n0, e0, -, f0⟩ := DataW.trod_int Try.underlying3 h0
      obtain ⟨n1, e1, -, f1⟩ := DataW.trod_int Try.underlying3 h1
      simp only [List.cons.injEq, and_true] at e0 e1
      exact ⟨(n0, n1), by rw [e0, e1]; rfl, fit_of f0, fit_of f1⟩
set_option maxRecDepth 100000 in
theorem open_marks {r : Reach} {b0 : Nat} {v : Value} {d : DataW H} {p : List MemPlace}
    (hv : Value.okWide Try.prog w r b0 42 v) (h : DataW.Trod enc Try.prog w base spare held 42 v d p) :
    ∃ a n c fs, v = .slice a n c ∧ n ≤ 9223372036854775807 ∧ Rw encF 2 w (.slice a n c) fs ∧ FitM fs := by
  obtain ⟨a0, l0, c0, rfl⟩ := Go.WideShapes.okWide_slice Try.underlying42 hv
  obtain ⟨fuel, hf⟩ := h
  obtain ⟨a, n, c, ns, e, l1, r1, q1⟩ := rw_of_slice (ec := encF) (k := 2) (Q := fun y => FitN y.1 ∧ FitN y.2) Try.underlying42 (by kernel_rfl) (by omega) (fun _ _ _ h => mrk_of_cells h) (c := .slice a0 l0 c0) (by simpa [Value.cells] using hf)
  unfold maxLen at l1
  exact ⟨a, n, c, ns, e, l1, r1, q1⟩
end
end Go.Proofs.Ytjlocbimkfocnaa
