/-
  View of the program: who is up, collected. No statement is proved here.
  Decimal digits as a function on lists ('dgs', 'digs'), and two laws of the walk for texts that are put together of bytes. No statement is proved here.
  The specification's Digits returns the text that the list function 'digs' says (a sign ahead, then the decimal digits), and turns nothing that was there. No statement is proved here.
  The program's Digits (the library's Itoa) returns the text that the list function 'digs' says, where the library's table of powers reads as it is laid. No statement is proved here.
  EntryText, the program's and the specification's: the same text. No statement is proved here.
  A row that came in as an argument: what it reads as. No statement is proved here.
  A state that came in as an argument: its value written out, and what its rows read as. No statement is proved here.
  A state's text: words, and one blank between them. No program here, no statement is proved here.
-/
import Derived.Test.YtdpaocikmijioaaGreatDoorVwI
import Derived.Test.YtdpaocikmijioaaGreatDoorBase
import Derived.Laws.BytesArg
import Derived.Laws.Concat
import Derived.Test.YtdpaocikmijioaaGreatDoorShelf
import Derived.Lib.ItoaNum
import Derived.WalkSmall
import Derived.Test.YtdpaocikmijioaaGreatDoorEntA
import Derived.Test.YtdpaocikmijioaaGreatDoorRegs
import Derived.Test.YtdpaocikmijioaaGreatDoorRw
import Derived.ProofKit
import Derived.ChangeArms
import Derived.Deep.Slices
import Derived.Test.YtdpaocikmijioaaGreatDoorStA
import Derived.Test.YtdpaocikmijioaaGreatDoorEntOf
import Derived.Lib.Join
namespace Go.Proofs.YtdpaocikmijioaaGreatDoor
open Go.RowKit Go.Shelf

attribute [local go_sem] Oper.semAt_some

theorem wpListIn_app1 {F : Fence} {m : Nat} {P : Program} {α : Type} {enc : α → List Value} {k : Nat} (hk : ∀ x, (enc x).length = k) (h0 : 0 < k) (h1 : ∀ x, ∀ u ∈ enc x, u.oneCell' = true) {ops : Array Oper} {rest : List Oper} {o : Oper} {a : Act} {Q : Exit → Act → World → Prop}
    (E T : TypeId) (i : TypeInfo) (z : Value) (bytes : Nat) (ht : P.underlying T = some (.slice E)) (hi : P.info? E = some i) (hz : i.zero = some z) (hsize : i.size = k) (hby : i.bytes = bytes) (hzs : z.cells.size = k) (hb : bytes ≤ 1000)
    (w : World) (x : α) (hgd : o.guard = none) (s xo : Operand) (ho : o.op = .call { callee := .builtin .append, args := #[s, xo], argTypes := #[T, T] })
    (base : Nat) (v : Value) (xs : List α) (n : Nat) (hn : Hid (n = xs.length)) (hs : a.eval s = v) (hown : Ow enc k E base w v xs) (hx : a.eval xo = .slice (some ⟨w.heap.size, 0, none⟩) 1 1) (hlen : n ≤ 2000000) (hbase : base ≤ w.heap.size)
    (h : ∀ a' c' w', Ow enc k E base w' (.slice a' (n + 1) c') (xs ++ [x]) → w.grownBy w' v.ownBlock → wpListIn F m P ops Q rest (a.put o.dst (.slice a' (n + 1) c')) w') :
    wpListIn F m P ops Q (o :: rest) a (w.alloc (.cells (enc x).toArray E)) := by
  obtain rfl := unhide hn
  refine wpListIn_append_own _ hgd s xo T ho base E i z k bytes ht hi hz hsize hby hzs h0 v xs.length (xs.flatMap enc) hs (World.ownsRow.alloc hown _) ⟨w.heap.size, 0, none⟩ 1 1 (enc x) hx (by rw [hk]; omega) ?_ (h1 x) (by unfold maxLen; omega) ?_ (by simp; omega) ?_
  · intro j u hj
    have e : (⟨w.heap.size, 0, none⟩ : Addr).add j = ⟨w.heap.size, j, none⟩ := by unfold Addr.add; split <;> simp_all
    rw [e]
    have : (w.alloc (.cells (enc x).toArray E)).heap[w.heap.size]? = some (.cells (enc x).toArray E (0, 0)) := heap_alloc_new w _
    simp only [World.cell?, this]
    simpa using hj
  · have : (xs.length + 1) * bytes ≤ 2000001 * 1000 := Nat.mul_le_mul (by omega) hb
    omega
  · intro v' w' h2 h3 _
    have hO : Ow enc k E base w' v' (xs ++ [x]) := by
      unfold Ow
      rw [List.length_append, List.flatMap_append]
      simpa using h2
    obtain ⟨a', c', rfl⟩ := hO.form
    rw [List.length_append] at hO ⊢
    exact h a' c' w' hO (by
      have g0 := World.grownBy_alloc w (.cells (enc x).toArray E) v.ownBlock
      exact ⟨h3.os.trans g0.os, h3.tape.trans g0.tape, h3.output.trans g0.output, Nat.le_trans g0.size h3.size, fun i hi hne => (h3.block i (Nat.lt_of_lt_of_le hi g0.size) hne).trans (g0.block i hi hne)⟩)

/-- While items are collected: the variable that holds them. -/
structure CO (w W : World) (pre : List Itm) (a : Option Addr) (m c : Nat) : Prop where
  bel : Below w.heap.size w W
  box : W.heap[w.heap.size]? = some (.cells #[.slice a m c] 24 (0, 0))
  own : OwI w.heap.size W (.slice a m c) pre
theorem CO.lt {w W : World} {pre : List Itm} {a : Option Addr} {m c : Nat} (h : CO w W pre a m c) : w.heap.size < W.heap.size := (Array.getElem?_eq_some_iff.1 h.box).1
theorem CO.kept {w X Y : World} {pre : List Itm} {a : Option Addr} {m c : Nat} {row : Option Nat} (h : CO w X pre a m c) (hg : X.grownBy Y row) (hr : ∀ r, row = some r → w.heap.size < r ∧ ∃ o : Obj, X.heap[r]? = some o ∧ o.isCells = false) : CO w Y pre a m c := by
  refine ⟨h.bel.grown hg h.bel.size (fun r e => by have := (hr r e).1; omega), (hg.block _ h.lt (fun e => by have := (hr _ e.symm).1; omega)).trans h.box, World.ownsRow.kept h.own hg ?_⟩
  rcases h.own.2 with ⟨q, _⟩ | ⟨g, cap, cur, q, _, hgb, _⟩
  · rw [q]; exact .inl rfl
  · rw [q]
    refine .inr fun e' => ?_
    obtain ⟨_, o, ho, hc⟩ := hr g (by simpa [Value.ownBlock] using e'.symm)
    rw [hgb] at ho; cases ho; cases hc
theorem CO.alloc {w W : World} {pre : List Itm} {a : Option Addr} {m c : Nat} (h : CO w W pre a m c) (o : Obj) : CO w (W.alloc o) pre a m c := h.kept (World.grownBy_alloc W o none) (fun r e => by cases e)
theorem CO.app {w X Y : World} {pre pre' : List Itm} {a : Option Addr} {m c : Nat} (h : CO w X pre a m c) {a' : Option Addr} {m' c' : Nat} (ho : OwI w.heap.size Y (.slice a' m' c') pre') (hg : X.grownBy Y (Value.slice a m c).ownBlock) :
    CO w (Y.setCell ⟨w.heap.size, 0, none⟩ (.slice a' m' c')) pre' a' m' c' := by
  have hne := own_ne h.own h.box (by decide)
  have hb : Y.heap[w.heap.size]? = some (.cells #[.slice a m c] 24 (0, 0)) := (hg.block _ h.lt (fun q => hne q.symm)).trans h.box
  have hbl : Below w.heap.size w Y := h.bel.grown hg h.bel.size (fun r e => (World.ownsRow.lt h.own r e).1)
  refine ⟨hbl.setCell (p := ⟨w.heap.size, 0, none⟩) (Nat.le_refl _) _, heap_setCell_same _ w.heap.size 0 #[.slice a m c] _ _ hb, World.ownsRow.kept ho (grownBy_setCell' Y _ _) (.inr (own_ne ho hb (by decide)))⟩

set_option maxRecDepth 100000 in
set_option maxHeartbeats 4000000 in
/-- What a function that is ranged over tells, collected: whatever function tells it, so it tells no more than five. -/
theorem iappend_any (wS w0 : World) (gf : Nat) (lb : Array Value) (eg : ∀ args w, (callFunc gf args).run Tryz.prog w = .ok (.enter gf args) w) (ys : List Itm) (n1 : Nat) (hn1 : Hid (ys.length = n1)) (hseq : SeqStopsK Fence.wide 9 Tryz.prog gf lb (fun x : Itm => #[.agg #[.int .i64 x.1, .int .i64 x.2.1, .int .i64 x.2.2.1, .int .i64 x.2.2.2.1, .int .i64 x.2.2.2.2.1, .string x.2.2.2.2.2]]) (Below wS.heap.size) (fun zs => zs = ys) (fun pre => pre <+: ys) 5 w0)
    (w : World) (hS : wS.heap.size ≤ w.heap.size) (hb0 : Below w0.heap.size w0 w) :
    Calls Tryz.prog 49 #[.slice none 0 0, .func (.func gf) #[] lb] w fun e w' => ∃ a c, e = .returned (.slice a n1 c) ∧ OwI w.heap.size w' (.slice a n1 c) ys ∧ Below w.heap.size w w' := by
  obtain ⟨i0, hi, hz0, hz1, hz2⟩ := info_parts Tryz.infoItem
  refine (callsIn_wide (n := 10)).1 ?_
  refine callsIn_of_wp_marks Tryz.func49 rfl trivial ?_ rfl
  simp only [Tryz.ntmps49, List.size_toArray, List.length_cons, List.length_nil, Nat.reduceAdd, Nat.reduceSub, Array.replicate_succ, Array.replicate_zero, List.push_toArray, List.append_toArray, List.nil_append, List.cons_append]
  gi_wp2
  obtain ⟨V, hV⟩ : ∃ V, V = w.alloc (.cells #[.slice none 0 0] 24) := ⟨_, rfl⟩
  have CV : CO w V [] none 0 0 := by rw [hV]; exact ⟨(Below.refl _ _).alloc (Nat.le_refl _) _, heap_alloc_new w _, World.ownsRow_nil _ _ _ _⟩
  have sV : V.heap.size = w.heap.size + 1 := by rw [hV]; simp
  have bV : Below w0.heap.size w0 V := by rw [hV]; exact hb0.alloc hb0.size _
  rw [← hV]
  clear hV
  refine wpIn_rangeFunc_ownH rfl (by omega) (gf := gf) (lb := lb) rfl trivial eg hseq belowK_t (belowK_b (by omega)) bV (fun _ => rfl)
    (fun pre W => ∃ a m c, CO w W pre a m c)
    (fun _ _ _ => False)
    (fun s X Y row h hg hr => by obtain ⟨a, m, c, h⟩ := h; exact ⟨a, m, c, h.kept hg (fun r e => ⟨by have := (hr r e).1; omega, (hr r e).2⟩)⟩)
    (fun _ _ _ _ _ h _ _ => h)
    ⟨_, _, _, CV⟩
    (fun x a' W => ∃ Bx, w.heap.size < Bx ∧ W.heap[Bx]? = some (.cells #[.int .i64 x.1, .int .i64 x.2.1, .int .i64 x.2.2.1, .int .i64 x.2.2.2.1, .int .i64 x.2.2.2.2.1, .string x.2.2.2.2.2] 39 (0, 0)) ∧ a' = { tmps := #[.slice none 0 0, .func (.func gf) #[] lb, .pointer (some ⟨w.heap.size, 0, none⟩), undef, .slice none 0 0, .pointer (some ⟨Bx, 0, none⟩), .func (.func gf) #[] lb, .agg #[.int .i64 x.1, .int .i64 x.2.1, .int .i64 x.2.2.1, .int .i64 x.2.2.2.1, .int .i64 x.2.2.2.2.1, .string x.2.2.2.2.2], undef, undef, undef, undef, undef], defers := [] })
    (fun x a' _ X Y row h hg hr => by
      obtain ⟨Bx, h1, h2, h3⟩ := h
      refine ⟨Bx, h1, (hg.block Bx (Array.getElem?_eq_some_iff.1 h2).1 (fun e => ?_)).trans h2, h3⟩
      obtain ⟨_, o, ho, hc⟩ := hr Bx e.symm
      rw [h2] at ho; cases ho; cases hc)
    ?assign ?body ?done ?stop
  case assign =>
    rintro l pre x W K ⟨a, m, c, hi'⟩ hK
    have hl := hi'.lt
    have hls := hi'.bel.size
    gi_wp2
    exact hK _ _ ((KeepsOthers.alloc _ _).from _) ((Below.refl _ W).alloc (by omega) _) ⟨a, m, c, hi'.alloc _⟩ ⟨W.heap.size, by omega, heap_alloc_new _ _, rfl⟩
  case body =>
    rintro l pre x a' W _ _ ⟨a, m, c, hco⟩ ⟨Bx, hBx, bX, rfl⟩ hlt
    have HC := hide hco
    obtain ⟨x0, x1, x2, x3, x4, x5, -⟩ := blk_cells6 bX
    have c0 : W.cell? ⟨w.heap.size, 0, none⟩ = some (.slice a m c) := by simp [World.cell?, hco.box]
    have hlw := hco.lt
    have hls := hco.bel.size
    have hm : Hid (m = pre.length) := hide (hco.own.rw encI_len).len.1
    have hm5 : m ≤ 5 := by have := unhide hm; omega
    have hBl : Bx < W.heap.size := (Array.getElem?_eq_some_iff.1 bX).1
    clear hco bX
    gi_wp2_with (first | (gi_at_builtin; refine wpListIn_app1 encI_len (by omega) oneI 39 24 i0 _ 56 Tryz.underlying24 hi hz0 hz1 hz2 rfl (by omega) W x rfl _ _ rfl w.heap.size _ pre m hm rfl (unhide HC).own rfl (by omega) hls ?_; intro a2 c2 w4 hO hG0; have hG : W.grownBy w4 (Value.slice a m c).ownBlock := hG0; have hb4 : w4.heap[w.heap.size]? = some (.cells #[.slice a m c] 24 (0, 0)) := (hG.block _ hlw (fun q => own_ne (unhide HC).own (unhide HC).box (by decide) q.symm)).trans (unhide HC).box; have d0 : w4.cell? ⟨w.heap.size, 0, none⟩ = some (.slice a m c) := (by simp [World.cell?, hb4]); have df : w4.frozen? ⟨w.heap.size, 0, none⟩ = false := (by simp [World.frozen?, hb4]); have HO := hide hO; have HG := hide hG; clear hO hG hG0 hb4 c0))
    have kk : KeepsOthers W w4 := KeepsOthers.of_grownBy (unhide HG) (fun j o e hj => by
      rcases (unhide HC).own.2 with ⟨q, _⟩ | ⟨g, cap, cur, q, _, hgb, _⟩
      · rw [q] at e; simp [Value.ownBlock] at e
      · rw [q] at e
        obtain rfl : g = j := by simpa [Value.ownBlock] using e
        rw [hgb] at hj; cases hj; rfl)
    have kb : Below wS.heap.size W w4 := (Below.refl _ W).grown (unhide HG) (by omega) (fun r e => by have := (World.ownsRow.lt (unhide HC).own r e).1; omega)
    exact ⟨(kk.trans (KeepsOthers.setCell _ _ _)).from _, kb.setCell (p := ⟨w.heap.size, 0, none⟩) hS _, ⟨_, _, _, (unhide HC).app (unhide HO) (unhide HG)⟩⟩
  case done =>
    rintro D zs W hD rfl ⟨a, m, c, hco⟩ hK
    obtain rfl : m = n1 := ((hco.own.rw encI_len).len.1).trans (unhide hn1)
    have c0 : W.cell? ⟨w.heap.size, 0, none⟩ = some (.slice a m c) := by simp [World.cell?, hco.box]
    gi_wp2
    refine ⟨by simp, .inl ⟨_, _, rfl, run_takeDeferred hK, ?_⟩⟩
    have hL := hco.kept (grownBy_putObj' W D (.deferred none)) (fun r e => by cases e; exact ⟨by omega, _, hK, rfl⟩)
    exact ⟨_, results_tmp rfl _ _ _, a, c, rfl, hL.own, hL.bel⟩
  case stop =>
    rintro D c pre W _ _ h _
    exact h.elim

set_option maxHeartbeats 1000000 in
theorem icollect_any (wS w0 : World) (gf : Nat) (lb : Array Value) (eg : ∀ args w, (callFunc gf args).run Tryz.prog w = .ok (.enter gf args) w) (ys : List Itm) (n1 : Nat) (hn1 : Hid (ys.length = n1)) (hseq : SeqStopsK Fence.wide 9 Tryz.prog gf lb (fun x : Itm => #[.agg #[.int .i64 x.1, .int .i64 x.2.1, .int .i64 x.2.2.1, .int .i64 x.2.2.2.1, .int .i64 x.2.2.2.2.1, .string x.2.2.2.2.2]]) (Below wS.heap.size) (fun zs => zs = ys) (fun pre => pre <+: ys) 5 w0)
    (w : World) (hS : wS.heap.size ≤ w.heap.size) (hb0 : Below w0.heap.size w0 w) :
    Calls Tryz.prog 24 #[.func (.func gf) #[] lb] w fun e w' => ∃ a c, e = .returned (.slice a n1 c) ∧ OwI w.heap.size w' (.slice a n1 c) ys ∧ Below w.heap.size w w' := by
  go_enter Tryz.func24, Tryz.ntmps24
  go_wp2_with fail
  refine (iappend_any wS w0 gf lb eg ys n1 hn1 hseq w hS hb0).mono ?_
  rintro e w1 ⟨a, c, rfl, o1, b1⟩
  have O1 := hide o1
  have B1 := hide b1
  clear o1 b1
  go_wp2
  go_ret
  exact ⟨a, c, rfl, unhide O1, unhide B1⟩

set_option maxHeartbeats 1000000 in
theorem iview_any (ai : Option Addr) (ni ci : Nat) (xs : List Itm) (af : Option Addr) (nf cf : Nat) (fs : List Flr) (n1 : Nat) (hn1 : Hid ((vw xs fs).length = n1)) (w : World)
    (hni : ni ≤ 140737488351232) (hnf : nf ≤ 140737488351232) (hx : Rw encI 6 w (.slice ai ni ci) xs) (hf : Rw encF 2 w (.slice af nf cf) fs) :
    Calls Tryz.prog 10 #[.agg #[.slice ai ni ci, .slice af nf cf]] w fun e w' => ∃ a1 c1, e = .returned (.slice a1 n1 c1) ∧ OwI w.heap.size w' (.slice a1 n1 c1) (vw xs fs) ∧ Below w.heap.size w w' := by
  have HX := hide hx
  have HF := hide hf
  clear hx hf
  go_enter Tryz.func10, Tryz.ntmps10
  go_wp2_with fail
  refine (iup_any _ _ _).mono ?_
  rintro e _ ⟨rfl, rfl⟩
  go_wp2_with fail
  obtain ⟨V, hV⟩ : ∃ V, V = (w.alloc (.cells #[.slice ai ni ci, .slice af nf cf] 27)).alloc (.cells #[.slice ai ni ci, .slice af nf cf] 27) := ⟨_, rfl⟩
  have bV : Below w.heap.size w V := by rw [hV]; exact ((Below.refl _ _).alloc (Nat.le_refl _) _).alloc (by simp) _
  have kV : V.heap[w.heap.size + 1]? = some (.cells #[.slice ai ni ci, .slice af nf cf] 27 (0, 0)) := by rw [hV]; exact newB2 w _ _
  rw [← hV]
  clear hV
  refine (icollect_any w V 46 _ (enters_of Tryz.func46 (by kernel_rfl) rfl) (vw xs fs) n1 hn1 (iup_stops 9 _ ai ni ci xs af nf cf fs w V bV kV hni hnf (unhide HX) (unhide HF)) V bV.size (Below.refl _ _)).mono ?_
  rintro e w1 ⟨a, c, rfl, o1, b1⟩
  have O1 := hide (o1.base bV.size)
  have B1 := hide (bV.trans (b1.mono bV.size))
  clear o1 b1 bV kV
  go_wp2
  go_ret
  exact ⟨a, c, rfl, unhide O1, unhide B1⟩
end Go.Proofs.YtdpaocikmijioaaGreatDoor

namespace Go.Proofs.YtdpaocikmijioaaGreatDoor
open Go.RowKit

def dgs : Nat → Nat → List Int → List Int
  | 0, _, acc => acc
  | f + 1, n, acc => if n = 0 then acc else dgs f (n / 10) ((48 + (n : Int) % 10) :: acc)
def digs (n : Int) : List Int := if n = 0 then [48] else if n < 0 then 45 :: dgs 20 n.natAbs [] else dgs 20 n.natAbs []

theorem dgs_zero (f : Nat) (acc : List Int) : dgs f 0 acc = acc := by cases f <;> simp [dgs]
theorem dgs_step (f n : Nat) (acc : List Int) (h : n ≠ 0) : dgs (f + 1) n acc = dgs f (n / 10) ((48 + (n : Int) % 10) :: acc) := by simp [dgs, h]
theorem dgs_length (f n : Nat) (acc : List Int) : (dgs f n acc).length ≤ f + acc.length := by
  induction f generalizing n acc with
  | zero => simp [dgs]
  | succ f ih =>
    by_cases h : n = 0
    · subst h; rw [dgs_zero]; omega
    · rw [dgs_step f n acc h]
      have := ih (n / 10) ((48 + (n : Int) % 10) :: acc)
      simp at this; omega
theorem digs_length (n : Int) : (digs n).length ≤ 21 := by
  unfold digs
  have := dgs_length 20 n.natAbs []
  simp at this
  split
  · simp
  · split
    · simp; omega
    · omega
theorem str_append (xs ys : List Int) : strOfNums xs ++ strOfNums ys = strOfNums (xs ++ ys) := by
  unfold strOfNums
  rw [ByteArray.mk_append_mk]; simp
theorem add_run {P : Program} (xs ys : List Int) (hx : xs.length ≤ 1000000) (hy : ys.length ≤ 1000000) (w : World) : (Op.stringOp .add (strOfNums xs) (strOfNums ys)).run P w = .ok (.string (strOfNums (xs ++ ys))) w := by
  rw [run_string_add_sum w _ _ (by rw [strOfNums_size, strOfNums_size]; omega), str_append]
theorem pow_step (f n : Nat) (h : n < 10 ^ (f + 1)) : n / 10 < 10 ^ f := by
  rw [Nat.pow_succ] at h
  exact Nat.div_lt_of_lt_mul (by rw [Nat.mul_comm]; exact h)
theorem conv_one (wr : World) (x : Int) : (convert 22 9 (.slice (some ⟨wr.heap.size, 0, none⟩) 1 1)).run Tryz.prog (wr.alloc (.cells #[.int .u8 x] 5)) = .ok (.string (strOfNums [x])) (wr.alloc (.cells #[.int .u8 x] 5)) :=
  run_convert_bytes_arg (P := Tryz.prog) _ 22 5 Tryz.underlying22 Tryz.underlying5 wr.heap.size 0 1 1 [x] rfl (fun i hi => by
    have h0 : i = 0 := by omega
    subst h0
    simp) 9 Tryz.underlying9

end Go.Proofs.YtdpaocikmijioaaGreatDoor

namespace Go.Proofs.YtdpaocikmijioaaGreatDoor
open Go.RowKit

set_option maxHeartbeats 2000000 in
set_option maxRecDepth 100000 in
theorem sdigits_pos (n : Nat) (w : World) (h2 : (n : Int) ≤ 9223372036854775807) (h0 : n ≠ 0) :
    Calls Tryz.prog 53 #[.int .i64 n] w fun e w' => e = .returned (.string (strOfNums (digs n))) ∧ Below w.heap.size w w' := by
  have hd0 : ((n : Int) == 0) = false := by simpa using h0
  have hd1 : decide ((n : Int) < 0) = false := by simp
  have HD := hide (show digs n = dgs 20 n [] by simp [digs, h0])
  go_enter Tryz.func53, Tryz.ntmps53
  go_wp2
  go_loopw [0, 4] (fun x v wr => ∃ (m f : Nat) (ds : List Int), x = .int .i64 m ∧ v = .string (strOfNums ds) ∧ ds.length + f ≤ 20 ∧ m < 10 ^ f ∧ (m : Int) ≤ 9223372036854775807 ∧ dgs f m ds = digs n ∧ Below w.heap.size w wr) (fun x _ _ => (intOf x).natAbs)
  case atStart => exact ⟨n, 20, [], rfl, rfl, by simp, by omega, h2, (unhide HD).symm, Below.refl _ _⟩
  case round =>
    obtain ⟨m, f, ds, rfl, rfl, hs, hm1, hm2, hdg, hb⟩ := hrel
    have HG := hide hdg
    have HM := hide hm1
    have HB := hide hb
    have hsz := hb.size
    clear hdg hm1 hb HD
    by_cases hm : m = 0
    · subst hm
      have e := unhide HG
      rw [dgs_zero] at e
      subst e
      go_wp2
      go_ret
      exact ⟨rfl, unhide HB⟩
    · have hmn : ((m : Int) != 0) = true := by simpa using hm
      have hf : ∃ f', f = f' + 1 := by
        cases f with
        | zero => have := unhide HM; simp at this; exact absurd this hm
        | succ f' => exact ⟨f', rfl⟩
      obtain ⟨f', rfl⟩ := hf
      have hcv := fun x => conv_one wr x
      have hadd := fun x wx => add_run (P := Tryz.prog) [x] ds (by simp) (by omega) wx
      have hd3 : decide ((m : Int) % 10 < 0) = false := by simp; omega
      have HN := hide ((dgs_step f' m ds hm).symm.trans (unhide HG))
      have HP := hide (pow_step f' m (unhide HM))
      clear HG HM
      go_wp2
      go_roundw
      case rel => exact ⟨m / 10, f', (48 + (m : Int) % 10) :: ds, by go_num, rfl, by simp; omega, unhide HP, by omega, unhide HN, (unhide HB).alloc hsz _⟩
      case measure => simp [intOf]; omega
set_option maxHeartbeats 2000000 in
set_option maxRecDepth 100000 in
theorem sdigits_neg (n : Nat) (w : World) (h2 : (n : Int) ≤ 9223372036854775808) (h0 : n ≠ 0) :
    Calls Tryz.prog 53 #[.int .i64 (-(n : Int))] w fun e w' => e = .returned (.string (strOfNums (digs (-(n : Int))))) ∧ Below w.heap.size w w' := by
  have hd0 : (-(n : Int) == 0) = false := by simpa using h0
  have hd1 : decide (-(n : Int) < 0) = true := by simp; omega
  have hd1' : decide (0 < n) = true := by simp; omega
  have HD := hide (show digs (-(n : Int)) = 45 :: dgs 20 n [] by unfold digs; rw [if_neg (by omega), if_pos (by omega)]; simp)
  have hadd0 := fun (ds : List Int) (h : ds.length ≤ 20) wx => add_run (P := Tryz.prog) [45] ds (by simp) (by omega) wx
  have HA := hide hadd0
  clear hadd0
  go_enter Tryz.func53, Tryz.ntmps53
  go_wp2
  go_loopw [0, 4] (fun x v wr => ∃ (m f : Nat) (ds : List Int), x = .int .i64 (-(m : Int)) ∧ v = .string (strOfNums ds) ∧ ds.length + f ≤ 20 ∧ m < 10 ^ f ∧ (m : Int) ≤ 9223372036854775808 ∧ 45 :: dgs f m ds = digs (-(n : Int)) ∧ Below w.heap.size w wr) (fun x _ _ => (intOf x).natAbs)
  case atStart => exact ⟨n, 20, [], rfl, rfl, by simp, by omega, h2, (unhide HD).symm, Below.refl _ _⟩
  case round =>
    obtain ⟨m, f, ds, rfl, rfl, hs, hm1, hm2, hdg, hb⟩ := hrel
    have HG := hide hdg
    have HM := hide hm1
    have HB := hide hb
    have hsz := hb.size
    clear hdg hm1 hb HD
    by_cases hm : m = 0
    · subst hm
      have e := unhide HG
      rw [dgs_zero] at e
      have E := hide e
      clear e HG
      have hadd := fun wx => unhide HA ds (by omega) wx
      have e45 : (⟨#[45]⟩ : ByteArray) = strOfNums [45] := rfl
      go_wp2
      go_ret
      exact ⟨by rw [← unhide E]; rfl, unhide HB⟩
    · have hmn : (-(m : Int) != 0) = true := by simp; omega
      have hmod : (-(m : Int)).tmod 10 = -((m : Int) % 10) := by rw [Int.neg_tmod, Int.tmod_eq_emod_of_nonneg (by omega)]
      have hdiv : (-(m : Int)).tdiv 10 = -((m : Int) / 10) := by rw [Int.neg_tdiv, Int.tdiv_eq_ediv_of_nonneg (by omega)]
      have hf : ∃ f', f = f' + 1 := by
        cases f with
        | zero => have := unhide HM; simp at this; exact absurd this hm
        | succ f' => exact ⟨f', rfl⟩
      obtain ⟨f', rfl⟩ := hf
      have hcv := fun x => conv_one wr x
      have hadd := fun x wx => add_run (P := Tryz.prog) [x] ds (by simp) (by omega) wx
      have HN := hide (show 45 :: dgs f' (m / 10) ((48 + (m : Int) % 10) :: ds) = digs (-(n : Int)) by rw [← dgs_step f' m ds hm]; exact unhide HG)
      have HP := hide (pow_step f' m (unhide HM))
      clear HG HM HA
      by_cases hz : (m : Int) % 10 = 0
      · have hd3 : decide (-((m : Int) % 10) < 0) = false := by simp; omega
        have HN' := hide (show 45 :: dgs f' (m / 10) (48 :: ds) = digs (-(n : Int)) by have := unhide HN; rw [hz] at this; exact this)
        go_wp2
        go_roundw
        case rel => exact ⟨m / 10, f', 48 :: ds, by go_num, rfl, by simp; omega, unhide HP, by omega, unhide HN', (unhide HB).alloc hsz _⟩
        case measure => simp [intOf]; omega
      · have hd3 : decide (-((m : Int) % 10) < 0) = true := by simp; omega
        go_wp2
        go_roundw
        case rel => exact ⟨m / 10, f', (48 + (m : Int) % 10) :: ds, by go_num, rfl, by simp; omega, unhide HP, by omega, unhide HN, (unhide HB).alloc hsz _⟩
        case measure => simp [intOf]; omega
set_option maxHeartbeats 2000000 in
theorem sdigits_any (n : Int) (w : World) (h1 : -9223372036854775808 ≤ n) (h2 : n ≤ 9223372036854775807) :
    Calls Tryz.prog 53 #[.int .i64 n] w fun e w' => e = .returned (.string (strOfNums (digs n))) ∧ Below w.heap.size w w' := by
  by_cases h0 : n = 0
  · subst h0
    have hd0 : ((0 : Int) == 0) = true := rfl
    go_enter Tryz.func53, Tryz.ntmps53
    go_wp2
    go_ret
    exact ⟨rfl, Below.refl _ _⟩
  · by_cases hn : n < 0
    · have := sdigits_neg n.natAbs w (by omega) (by omega)
      have e : -(n.natAbs : Int) = n := by omega
      rw [e] at this
      exact this
    · have := sdigits_pos n.natAbs w (by omega) (by omega)
      have e : (n.natAbs : Int) = n := by omega
      rw [e] at this
      exact this
end Go.Proofs.YtdpaocikmijioaaGreatDoor

namespace Go.Proofs.YtdpaocikmijioaaGreatDoor
open Go.RowKit

theorem dgs_dec (f u : Nat) (acc : List Int) (h0 : u ≠ 0) (hu : u < 10 ^ f) : (dgs f u acc).map (fun n => UInt8.ofNat n.toNat) = Lib.decDigits u ++ acc.map (fun n => UInt8.ofNat n.toNat) := by
  induction f generalizing u acc with
  | zero => simp at hu; exact absurd hu h0
  | succ f ih =>
    rw [dgs_step _ _ _ h0, Lib.decDigits]
    have e1 : (48 + (u : Int) % 10).toNat = 48 + u % 10 := by omega
    by_cases h : u < 10
    · rw [dif_pos h, show u / 10 = 0 by omega, dgs_zero, List.map_cons, e1, show u % 10 = u by omega]
      rfl
    · rw [dif_neg h, ih _ _ (by omega) (pow_step f u hu), List.map_cons, e1]
      simp
theorem digs_itoa (n : Int) (h1 : -9223372036854775808 ≤ n) (h2 : n ≤ 9223372036854775807) : strOfNums (digs n) = ⟨(Lib.itoa n).toArray⟩ := by
  unfold strOfNums digs Lib.itoa
  by_cases h0 : n = 0
  · subst h0
    rw [if_pos rfl, if_neg (by omega), Lib.decDigits, dif_pos (by decide)]
    rfl
  · rw [if_neg h0]
    by_cases hn : n < 0
    · rw [if_pos hn, if_pos hn, List.map_cons, dgs_dec 20 n.natAbs [] (by omega) (by omega)]
      simp
    · rw [if_neg hn, if_neg hn, dgs_dec 20 n.natAbs [] (by omega) (by omega), show n.natAbs = n.toNat by omega]
      simp
theorem below_grow (w : World) (k : Nat) (os : Array Obj) : Below w.heap.size w (Sort.grow (w.drewN k) os) :=
  ⟨rfl, rfl, rfl, by show w.heap.size ≤ (w.heap ++ os).size; simp, fun j hj => by
    show (w.heap ++ os)[j]? = w.heap[j]?
    rw [Array.getElem?_append_left hj]⟩
theorem gPow : Tryz.prog.globalNamed "internal/strconv.uint64pow10" = some 1 := by kernel_rfl
/-- The table reads on as it read. -/
theorem tab_later {w w' : World} (h : Lib.TabIs Tryz.prog w "internal/strconv.uint64pow10" .u64 Lib.pow10Tab) {B : Nat} (hb : Below B w w') (hB : 1 < B) : Lib.TabIs Tryz.prog w' "internal/strconv.uint64pow10" .u64 Lib.pow10Tab :=
  var?_below hb gPow hB h
theorem tab_lt {w : World} (h : Lib.TabIs Tryz.prog w "internal/strconv.uint64pow10" .u64 Lib.pow10Tab) : 1 < w.heap.size :=
  World.block_lt_of_cell? w _ (h.cell gPow 0 (by decide))

set_option maxHeartbeats 1000000 in
theorem idigits_any (n : Int) (w : World) (h1 : -9223372036854775808 ≤ n) (h2 : n ≤ 9223372036854775807) (hT : Lib.TabIs Tryz.prog w "internal/strconv.uint64pow10" .u64 Lib.pow10Tab) :
    Calls Tryz.prog 50 #[.int .i64 n] w fun e w' => e = .returned (.string (strOfNums (digs n))) ∧ Below w.heap.size w w' := by
  have HC := hide (Tryz.strconv_Itoa n h1 h2 w hT)
  have HE := hide (digs_itoa n h1 h2)
  clear hT
  go_enter Tryz.func50, Tryz.ntmps50
  go_wp2_with fail
  refine (unhide HC).mono ?_
  rintro e w' ⟨rfl, k, os, rfl⟩
  rw [← unhide HE]
  go_wp2
  go_ret
  exact ⟨rfl, below_grow w k os⟩
end Go.Proofs.YtdpaocikmijioaaGreatDoor

namespace Go.Proofs.YtdpaocikmijioaaGreatDoor
open Go.RowKit

def rkT (x : Int) : ByteArray := if x = 0 then ⟨#[117]⟩ else if x = 1 then ⟨#[103]⟩ else ⟨#[63]⟩
theorem rktext_is (x : Int) (w : World) : Calls Tryz.prog 68 #[.int .i64 x] w fun e w' => e = .returned (.string (rkT x)) ∧ w = w' := by
  by_cases h1 : x = 0
  · subst h1
    go_enter Tryz.func68, Tryz.ntmps68
    go_wp2
    go_ret
    exact ⟨rfl, rfl⟩
  · have hd1 : (x == 0) = false := by simpa using h1
    by_cases h2 : x = 1
    · subst h2
      go_enter Tryz.func68, Tryz.ntmps68
      go_wp2
      go_ret
      exact ⟨rfl, rfl⟩
    · have hd2 : (x == 1) = false := by simpa using h2
      have hk : Hid (rkT x = ⟨#[63]⟩) := by unfold rkT; rw [if_neg h1, if_neg h2]; exact rfl
      clear h1 h2
      go_enter Tryz.func68, Tryz.ntmps68
      go_wp2
      go_ret
      exact ⟨by rw [unhide hk]; rfl, rfl⟩
theorem rktext_b (x : Int) (w : World) : Calls Tryz.prog 68 #[.int .i64 x] w fun e w' => e = .returned (.string (rkT x)) ∧ Below w.heap.size w w' :=
  (rktext_is x w).mono fun e w' h => by obtain ⟨rfl, rfl⟩ := h; exact ⟨rfl, Below.refl _ _⟩
theorem keepST {ai ar ab av : Int} {ad : ByteArray} {w W w1 : World} (hb : Below W.heap.size W w1) (h : Below w.heap.size w W ∧ w.heap.size < W.heap.size ∧ W.cell? ⟨w.heap.size, 0, none⟩ = some (.int .i64 ai) ∧ W.cell? ⟨w.heap.size, 1, none⟩ = some (.int .i64 ar) ∧ W.cell? ⟨w.heap.size, 2, none⟩ = some (.int .i64 ab) ∧ W.cell? ⟨w.heap.size, 3, none⟩ = some (.int .i64 av) ∧ W.cell? ⟨w.heap.size, 4, none⟩ = some (.string ad)) : Below w.heap.size w w1 ∧ w.heap.size < w1.heap.size ∧ w1.cell? ⟨w.heap.size, 0, none⟩ = some (.int .i64 ai) ∧ w1.cell? ⟨w.heap.size, 1, none⟩ = some (.int .i64 ar) ∧ w1.cell? ⟨w.heap.size, 2, none⟩ = some (.int .i64 ab) ∧ w1.cell? ⟨w.heap.size, 3, none⟩ = some (.int .i64 av) ∧ w1.cell? ⟨w.heap.size, 4, none⟩ = some (.string ad) := by
  obtain ⟨b, z0, c0, c1, c2, c3, c4⟩ := h
  have hz := hb.size
  have hB := b.size
  exact ⟨b.trans (hb.mono hB), by omega, kc hb (by omega) c0, kc hb (by omega) c1, kc hb (by omega) c2, kc hb (by omega) c3, kc hb (by omega) c4⟩
theorem keepDT {ai ar ab av : Int} {ad : ByteArray} {w W : World} (h : Below w.heap.size w W ∧ w.heap.size < W.heap.size ∧ W.cell? ⟨w.heap.size, 0, none⟩ = some (.int .i64 ai) ∧ W.cell? ⟨w.heap.size, 1, none⟩ = some (.int .i64 ar) ∧ W.cell? ⟨w.heap.size, 2, none⟩ = some (.int .i64 ab) ∧ W.cell? ⟨w.heap.size, 3, none⟩ = some (.int .i64 av) ∧ W.cell? ⟨w.heap.size, 4, none⟩ = some (.string ad)) : Below w.heap.size w W.drew ∧ w.heap.size < W.drew.heap.size ∧ W.drew.cell? ⟨w.heap.size, 0, none⟩ = some (.int .i64 ai) ∧ W.drew.cell? ⟨w.heap.size, 1, none⟩ = some (.int .i64 ar) ∧ W.drew.cell? ⟨w.heap.size, 2, none⟩ = some (.int .i64 ab) ∧ W.drew.cell? ⟨w.heap.size, 3, none⟩ = some (.int .i64 av) ∧ W.drew.cell? ⟨w.heap.size, 4, none⟩ = some (.string ad) := ⟨h.1.drew, h.2⟩
theorem keepAT {ai ar ab av : Int} {ad : ByteArray} {w W : World} (o : Obj) (h : Below w.heap.size w W ∧ w.heap.size < W.heap.size ∧ W.cell? ⟨w.heap.size, 0, none⟩ = some (.int .i64 ai) ∧ W.cell? ⟨w.heap.size, 1, none⟩ = some (.int .i64 ar) ∧ W.cell? ⟨w.heap.size, 2, none⟩ = some (.int .i64 ab) ∧ W.cell? ⟨w.heap.size, 3, none⟩ = some (.int .i64 av) ∧ W.cell? ⟨w.heap.size, 4, none⟩ = some (.string ad)) : Below w.heap.size w (W.alloc o) ∧ w.heap.size < (W.alloc o).heap.size ∧ (W.alloc o).cell? ⟨w.heap.size, 0, none⟩ = some (.int .i64 ai) ∧ (W.alloc o).cell? ⟨w.heap.size, 1, none⟩ = some (.int .i64 ar) ∧ (W.alloc o).cell? ⟨w.heap.size, 2, none⟩ = some (.int .i64 ab) ∧ (W.alloc o).cell? ⟨w.heap.size, 3, none⟩ = some (.int .i64 av) ∧ (W.alloc o).cell? ⟨w.heap.size, 4, none⟩ = some (.string ad) := by
  obtain ⟨b, z0, c0, c1, c2, c3, c4⟩ := h
  exact ⟨b.alloc b.size o, by simp; omega, ka (by omega) c0, ka (by omega) c1, ka (by omega) c2, ka (by omega) c3, ka (by omega) c4⟩
theorem keepADT {ai ar ab av : Int} {ad : ByteArray} {w W : World} (o : Obj) (h : Below w.heap.size w W.drew ∧ w.heap.size < W.drew.heap.size ∧ W.drew.cell? ⟨w.heap.size, 0, none⟩ = some (.int .i64 ai) ∧ W.drew.cell? ⟨w.heap.size, 1, none⟩ = some (.int .i64 ar) ∧ W.drew.cell? ⟨w.heap.size, 2, none⟩ = some (.int .i64 ab) ∧ W.drew.cell? ⟨w.heap.size, 3, none⟩ = some (.int .i64 av) ∧ W.drew.cell? ⟨w.heap.size, 4, none⟩ = some (.string ad)) : Below w.heap.size w (W.alloc o).drew ∧ w.heap.size < (W.alloc o).drew.heap.size ∧ (W.alloc o).drew.cell? ⟨w.heap.size, 0, none⟩ = some (.int .i64 ai) ∧ (W.alloc o).drew.cell? ⟨w.heap.size, 1, none⟩ = some (.int .i64 ar) ∧ (W.alloc o).drew.cell? ⟨w.heap.size, 2, none⟩ = some (.int .i64 ab) ∧ (W.alloc o).drew.cell? ⟨w.heap.size, 3, none⟩ = some (.int .i64 av) ∧ (W.alloc o).drew.cell? ⟨w.heap.size, 4, none⟩ = some (.string ad) := keepDT (keepAT o ⟨⟨h.1.os, h.1.tape, h.1.output, h.1.size, h.1.block⟩, h.2⟩)
theorem keepBT {ai ar ab av : Int} {ad : ByteArray} {w W : World} (o1 o : Obj) (y0 : w.heap.size < W.heap.size) (_y : w.heap.size ≤ W.heap.size) (h : Below w.heap.size w (W.alloc o1) ∧ w.heap.size < (W.alloc o1).heap.size ∧ (W.alloc o1).cell? ⟨w.heap.size, 0, none⟩ = some (.int .i64 ai) ∧ (W.alloc o1).cell? ⟨w.heap.size, 1, none⟩ = some (.int .i64 ar) ∧ (W.alloc o1).cell? ⟨w.heap.size, 2, none⟩ = some (.int .i64 ab) ∧ (W.alloc o1).cell? ⟨w.heap.size, 3, none⟩ = some (.int .i64 av) ∧ (W.alloc o1).cell? ⟨w.heap.size, 4, none⟩ = some (.string ad)) : Below w.heap.size w (W.alloc o) ∧ w.heap.size < (W.alloc o).heap.size ∧ (W.alloc o).cell? ⟨w.heap.size, 0, none⟩ = some (.int .i64 ai) ∧ (W.alloc o).cell? ⟨w.heap.size, 1, none⟩ = some (.int .i64 ar) ∧ (W.alloc o).cell? ⟨w.heap.size, 2, none⟩ = some (.int .i64 ab) ∧ (W.alloc o).cell? ⟨w.heap.size, 3, none⟩ = some (.int .i64 av) ∧ (W.alloc o).cell? ⟨w.heap.size, 4, none⟩ = some (.string ad) := by
  obtain ⟨b, z0, c0, c1, c2, c3, c4⟩ := h
  exact ⟨⟨b.os, b.tape, b.output, by simp; omega, fun k hk => (Below.heap_alloc W o k (by omega)).trans ((Below.heap_alloc W o1 k (by omega)).symm.trans (b.block k hk))⟩, by simp; omega, ka (by omega) (kb (by omega) c0), ka (by omega) (kb (by omega) c1), ka (by omega) (kb (by omega) c2), ka (by omega) (kb (by omega) c3), ka (by omega) (kb (by omega) c4)⟩
theorem keepBDT {ai ar ab av : Int} {ad : ByteArray} {w W : World} (o1 o : Obj) (y0 : w.heap.size < W.heap.size) (_y : w.heap.size ≤ W.heap.size) (h : Below w.heap.size w (W.alloc o1).drew ∧ w.heap.size < (W.alloc o1).drew.heap.size ∧ (W.alloc o1).drew.cell? ⟨w.heap.size, 0, none⟩ = some (.int .i64 ai) ∧ (W.alloc o1).drew.cell? ⟨w.heap.size, 1, none⟩ = some (.int .i64 ar) ∧ (W.alloc o1).drew.cell? ⟨w.heap.size, 2, none⟩ = some (.int .i64 ab) ∧ (W.alloc o1).drew.cell? ⟨w.heap.size, 3, none⟩ = some (.int .i64 av) ∧ (W.alloc o1).drew.cell? ⟨w.heap.size, 4, none⟩ = some (.string ad)) : Below w.heap.size w (W.alloc o).drew ∧ w.heap.size < (W.alloc o).drew.heap.size ∧ (W.alloc o).drew.cell? ⟨w.heap.size, 0, none⟩ = some (.int .i64 ai) ∧ (W.alloc o).drew.cell? ⟨w.heap.size, 1, none⟩ = some (.int .i64 ar) ∧ (W.alloc o).drew.cell? ⟨w.heap.size, 2, none⟩ = some (.int .i64 ab) ∧ (W.alloc o).drew.cell? ⟨w.heap.size, 3, none⟩ = some (.int .i64 av) ∧ (W.alloc o).drew.cell? ⟨w.heap.size, 4, none⟩ = some (.string ad) := keepDT (keepBT (W := W) o1 o y0 _y ⟨⟨h.1.os, h.1.tape, h.1.output, h.1.size, h.1.block⟩, h.2⟩)

def textE (ai ar ab av : Int) (ad : ByteArray) : ByteArray := strOfNums (digs ai) ++ rkT ar ++ strOfNums (digs ab) ++ ⟨#[46]⟩ ++ strOfNums (digs av) ++ ⟨#[58]⟩ ++ ad
theorem start_box (ai ar ab av : Int) (ad : ByteArray) (w : World) (T : TypeId) : Below w.heap.size w (w.alloc (.cells #[.int .i64 ai, .int .i64 ar, .int .i64 ab, .int .i64 av, .string ad] T)) ∧ w.heap.size < (w.alloc (.cells #[.int .i64 ai, .int .i64 ar, .int .i64 ab, .int .i64 av, .string ad] T)).heap.size ∧ (w.alloc (.cells #[.int .i64 ai, .int .i64 ar, .int .i64 ab, .int .i64 av, .string ad] T)).cell? ⟨w.heap.size, 0, none⟩ = some (.int .i64 ai) ∧ (w.alloc (.cells #[.int .i64 ai, .int .i64 ar, .int .i64 ab, .int .i64 av, .string ad] T)).cell? ⟨w.heap.size, 1, none⟩ = some (.int .i64 ar) ∧ (w.alloc (.cells #[.int .i64 ai, .int .i64 ar, .int .i64 ab, .int .i64 av, .string ad] T)).cell? ⟨w.heap.size, 2, none⟩ = some (.int .i64 ab) ∧ (w.alloc (.cells #[.int .i64 ai, .int .i64 ar, .int .i64 ab, .int .i64 av, .string ad] T)).cell? ⟨w.heap.size, 3, none⟩ = some (.int .i64 av) ∧ (w.alloc (.cells #[.int .i64 ai, .int .i64 ar, .int .i64 ab, .int .i64 av, .string ad] T)).cell? ⟨w.heap.size, 4, none⟩ = some (.string ad) :=
  ⟨(Below.refl w.heap.size w).alloc (Nat.le_refl _) _, by simp, by simp [go_sem], by simp [go_sem], by simp [go_sem], by simp [go_sem], by simp [go_sem]⟩

theorem adds {P : Program} (s1 R s2 s3 ad : ByteArray) (h1 : s1.size ≤ 21) (hR : R.size ≤ 1) (h2 : s2.size ≤ 21) (h3 : s3.size ≤ 21) (hd : ad.size ≤ 1048576) :
    (∀ W : World, (Op.stringOp .add (s1) R).run P W = .ok (.string (s1 ++ R)) W) ∧ (∀ W : World, (Op.stringOp .add (s1 ++ R) s2).run P W = .ok (.string (s1 ++ R ++ s2)) W) ∧ (∀ W : World, (Op.stringOp .add (s1 ++ R ++ s2) ⟨#[46]⟩).run P W = .ok (.string (s1 ++ R ++ s2 ++ ⟨#[46]⟩)) W) ∧ (∀ W : World, (Op.stringOp .add (s1 ++ R ++ s2 ++ ⟨#[46]⟩) s3).run P W = .ok (.string (s1 ++ R ++ s2 ++ ⟨#[46]⟩ ++ s3)) W) ∧ (∀ W : World, (Op.stringOp .add (s1 ++ R ++ s2 ++ ⟨#[46]⟩ ++ s3) ⟨#[58]⟩).run P W = .ok (.string (s1 ++ R ++ s2 ++ ⟨#[46]⟩ ++ s3 ++ ⟨#[58]⟩)) W) ∧ (∀ W : World, (Op.stringOp .add (s1 ++ R ++ s2 ++ ⟨#[46]⟩ ++ s3 ++ ⟨#[58]⟩) ad).run P W = .ok (.string (s1 ++ R ++ s2 ++ ⟨#[46]⟩ ++ s3 ++ ⟨#[58]⟩ ++ ad)) W) := by
  have e1 : (⟨#[46]⟩ : ByteArray).size = 1 := rfl
  have e2 : (⟨#[58]⟩ : ByteArray).size = 1 := rfl
  refine ⟨?_, ?_, ?_, ?_, ?_, ?_⟩
  all_goals
    intro W
    exact run_string_add_sum W _ _ (by (try simp only [ByteArray.size_append]); omega)
theorem digs_size (n : Int) : (strOfNums (digs n)).size ≤ 21 := by rw [strOfNums_size]; exact digs_length n

set_option maxHeartbeats 8000000 in
theorem stext_any (ai ar ab av : Int) (ad : ByteArray) (hi1 : -9223372036854775808 ≤ ai) (hi2 : ai ≤ 9223372036854775807) (hb1 : -9223372036854775808 ≤ ab) (hb2 : ab ≤ 9223372036854775807) (hv1 : -9223372036854775808 ≤ av) (hv2 : av ≤ 9223372036854775807) (hd : ad.size ≤ 1048576) (w : World) :
    Calls Tryz.prog 54 #[.agg #[.int .i64 ai, .int .i64 ar, .int .i64 ab, .int .i64 av, .string ad]] w fun e w' => e = .returned (.string (textE ai ar ab av ad)) ∧ Below w.heap.size w w' := by
  have HS := hide (start_box ai ar ab av ad w 33)
  have hr : ((ar == 0) = true ∧ (ar == 1) = false ∧ rkT ar = ⟨#[117]⟩) ∨ ((ar == 0) = false ∧ (ar == 1) = true ∧ rkT ar = ⟨#[103]⟩) ∨ ((ar == 0) = false ∧ (ar == 1) = false ∧ rkT ar = ⟨#[63]⟩) := by
    by_cases h1 : ar = 0
    · subst h1; exact .inl ⟨rfl, rfl, rfl⟩
    · by_cases h2 : ar = 1
      · subst h2; exact .inr (.inl ⟨rfl, rfl, rfl⟩)
      · exact .inr (.inr ⟨by simpa using h1, by simpa using h2, by unfold rkT; rw [if_neg h1, if_neg h2]⟩)
  rcases hr with ⟨r0, r1, r2⟩ | ⟨r0, r1, r2⟩ | ⟨r0, r1, r2⟩
  · have HR := hide r2
    clear r2
    obtain ⟨a1, a2, a3, a4, a5, a6⟩ := adds (P := Tryz.prog) (strOfNums (digs ai)) ⟨#[117]⟩ (strOfNums (digs ab)) (strOfNums (digs av)) ad (digs_size ai) (by decide) (digs_size ab) (digs_size av) hd
    go_enter Tryz.func54, Tryz.ntmps54
    go_wp2_with fail
    go_region_held3 (fun w' => Below w.heap.size w w' ∧ w.heap.size < w'.heap.size ∧ w'.cell? ⟨w.heap.size, 0, none⟩ = some (.int .i64 ai) ∧ w'.cell? ⟨w.heap.size, 1, none⟩ = some (.int .i64 ar) ∧ w'.cell? ⟨w.heap.size, 2, none⟩ = some (.int .i64 ab) ∧ w'.cell? ⟨w.heap.size, 3, none⟩ = some (.int .i64 av) ∧ w'.cell? ⟨w.heap.size, 4, none⟩ = some (.string ad)) (first | with_reducible exact unhide (by assumption) | with_reducible exact keepDT (unhide HS) | with_reducible exact keepDT (by assumption) | with_reducible exact keepADT _ (by assumption) | (with_reducible refine keepBDT _ _ ?_ ?_ (by assumption) <;> omega) | with_reducible exact keepAT _ (by assumption) | (with_reducible refine keepBT _ _ ?_ ?_ (by assumption) <;> omega))
      (first
        | (go_at_call 53; with_reducible refine (sdigits_any ai _ hi1 hi2).mono ?_; rintro e w1 ⟨rfl, bx⟩; have hS1 := hide (keepST bx (by assumption)); obtain ⟨hw1, hz0, -⟩ := unhide hS1; have hwz := hw1.size; clear hw1; clear bx)
        | (go_at_call 53; with_reducible refine (sdigits_any ab _ hb1 hb2).mono ?_; rintro e w1 ⟨rfl, bx⟩; have hS1 := hide (keepST bx (by assumption)); obtain ⟨hw1, hz0, -⟩ := unhide hS1; have hwz := hw1.size; clear hw1; clear bx)
        | (go_at_call 53; with_reducible refine (sdigits_any av _ hv1 hv2).mono ?_; rintro e w1 ⟨rfl, bx⟩; have hS1 := hide (keepST bx (by assumption)); obtain ⟨hw1, hz0, -⟩ := unhide hS1; have hwz := hw1.size; clear hw1; clear bx))
    rename_i hS
    have hb := hide hS.1
    clear hS
    go_wp2
    go_ret
    exact ⟨by unfold textE; rw [unhide HR]; rfl, unhide hb⟩
  · have HR := hide r2
    clear r2
    obtain ⟨a1, a2, a3, a4, a5, a6⟩ := adds (P := Tryz.prog) (strOfNums (digs ai)) ⟨#[103]⟩ (strOfNums (digs ab)) (strOfNums (digs av)) ad (digs_size ai) (by decide) (digs_size ab) (digs_size av) hd
    go_enter Tryz.func54, Tryz.ntmps54
    go_wp2_with fail
    go_region_held3 (fun w' => Below w.heap.size w w' ∧ w.heap.size < w'.heap.size ∧ w'.cell? ⟨w.heap.size, 0, none⟩ = some (.int .i64 ai) ∧ w'.cell? ⟨w.heap.size, 1, none⟩ = some (.int .i64 ar) ∧ w'.cell? ⟨w.heap.size, 2, none⟩ = some (.int .i64 ab) ∧ w'.cell? ⟨w.heap.size, 3, none⟩ = some (.int .i64 av) ∧ w'.cell? ⟨w.heap.size, 4, none⟩ = some (.string ad)) (first | with_reducible exact unhide (by assumption) | with_reducible exact keepDT (unhide HS) | with_reducible exact keepDT (by assumption) | with_reducible exact keepADT _ (by assumption) | (with_reducible refine keepBDT _ _ ?_ ?_ (by assumption) <;> omega) | with_reducible exact keepAT _ (by assumption) | (with_reducible refine keepBT _ _ ?_ ?_ (by assumption) <;> omega))
      (first
        | (go_at_call 53; with_reducible refine (sdigits_any ai _ hi1 hi2).mono ?_; rintro e w1 ⟨rfl, bx⟩; have hS1 := hide (keepST bx (by assumption)); obtain ⟨hw1, hz0, -⟩ := unhide hS1; have hwz := hw1.size; clear hw1; clear bx)
        | (go_at_call 53; with_reducible refine (sdigits_any ab _ hb1 hb2).mono ?_; rintro e w1 ⟨rfl, bx⟩; have hS1 := hide (keepST bx (by assumption)); obtain ⟨hw1, hz0, -⟩ := unhide hS1; have hwz := hw1.size; clear hw1; clear bx)
        | (go_at_call 53; with_reducible refine (sdigits_any av _ hv1 hv2).mono ?_; rintro e w1 ⟨rfl, bx⟩; have hS1 := hide (keepST bx (by assumption)); obtain ⟨hw1, hz0, -⟩ := unhide hS1; have hwz := hw1.size; clear hw1; clear bx))
    rename_i hS
    have hb := hide hS.1
    clear hS
    go_wp2
    go_ret
    exact ⟨by unfold textE; rw [unhide HR]; rfl, unhide hb⟩
  · have HR := hide r2
    clear r2
    obtain ⟨a1, a2, a3, a4, a5, a6⟩ := adds (P := Tryz.prog) (strOfNums (digs ai)) ⟨#[63]⟩ (strOfNums (digs ab)) (strOfNums (digs av)) ad (digs_size ai) (by decide) (digs_size ab) (digs_size av) hd
    go_enter Tryz.func54, Tryz.ntmps54
    go_wp2_with fail
    go_region_held3 (fun w' => Below w.heap.size w w' ∧ w.heap.size < w'.heap.size ∧ w'.cell? ⟨w.heap.size, 0, none⟩ = some (.int .i64 ai) ∧ w'.cell? ⟨w.heap.size, 1, none⟩ = some (.int .i64 ar) ∧ w'.cell? ⟨w.heap.size, 2, none⟩ = some (.int .i64 ab) ∧ w'.cell? ⟨w.heap.size, 3, none⟩ = some (.int .i64 av) ∧ w'.cell? ⟨w.heap.size, 4, none⟩ = some (.string ad)) (first | with_reducible exact unhide (by assumption) | with_reducible exact keepDT (unhide HS) | with_reducible exact keepDT (by assumption) | with_reducible exact keepADT _ (by assumption) | (with_reducible refine keepBDT _ _ ?_ ?_ (by assumption) <;> omega) | with_reducible exact keepAT _ (by assumption) | (with_reducible refine keepBT _ _ ?_ ?_ (by assumption) <;> omega))
      (first
        | (go_at_call 53; with_reducible refine (sdigits_any ai _ hi1 hi2).mono ?_; rintro e w1 ⟨rfl, bx⟩; have hS1 := hide (keepST bx (by assumption)); obtain ⟨hw1, hz0, -⟩ := unhide hS1; have hwz := hw1.size; clear hw1; clear bx)
        | (go_at_call 53; with_reducible refine (sdigits_any ab _ hb1 hb2).mono ?_; rintro e w1 ⟨rfl, bx⟩; have hS1 := hide (keepST bx (by assumption)); obtain ⟨hw1, hz0, -⟩ := unhide hS1; have hwz := hw1.size; clear hw1; clear bx)
        | (go_at_call 53; with_reducible refine (sdigits_any av _ hv1 hv2).mono ?_; rintro e w1 ⟨rfl, bx⟩; have hS1 := hide (keepST bx (by assumption)); obtain ⟨hw1, hz0, -⟩ := unhide hS1; have hwz := hw1.size; clear hw1; clear bx))
    rename_i hS
    have hb := hide hS.1
    clear hS
    go_wp2
    go_ret
    exact ⟨by unfold textE; rw [unhide HR]; rfl, unhide hb⟩
theorem rkT_size (x : Int) : (rkT x).size ≤ 1 := by
  unfold rkT
  split
  · decide
  · split <;> decide
theorem keepOne {ai ar ab av : Int} {ad : ByteArray} {w W : World} (h : Below w.heap.size w W ∧ w.heap.size < W.heap.size ∧ W.cell? ⟨w.heap.size, 0, none⟩ = some (.int .i64 ai) ∧ W.cell? ⟨w.heap.size, 1, none⟩ = some (.int .i64 ar) ∧ W.cell? ⟨w.heap.size, 2, none⟩ = some (.int .i64 ab) ∧ W.cell? ⟨w.heap.size, 3, none⟩ = some (.int .i64 av) ∧ W.cell? ⟨w.heap.size, 4, none⟩ = some (.string ad)) : Below w.heap.size w W := h.1

set_option maxHeartbeats 8000000 in
theorem itext_any (ai ar ab av : Int) (ad : ByteArray) (hi1 : -9223372036854775808 ≤ ai) (hi2 : ai ≤ 9223372036854775807) (hb1 : -9223372036854775808 ≤ ab) (hb2 : ab ≤ 9223372036854775807) (hv1 : -9223372036854775808 ≤ av) (hv2 : av ≤ 9223372036854775807) (hd : ad.size ≤ 1048576) (w : World) (hT : Lib.TabIs Tryz.prog w "internal/strconv.uint64pow10" .u64 Lib.pow10Tab) :
    Calls Tryz.prog 51 #[.agg #[.int .i64 ai, .int .i64 ar, .int .i64 ab, .int .i64 av, .string ad]] w fun e w' => e = .returned (.string (textE ai ar ab av ad)) ∧ Below w.heap.size w w' := by
  have HS := hide (start_box ai ar ab av ad w 33)
  have HT := hide hT
  clear hT
  obtain ⟨a1, a2, a3, a4, a5, a6⟩ := adds (P := Tryz.prog) (strOfNums (digs ai)) (rkT ar) (strOfNums (digs ab)) (strOfNums (digs av)) ad (digs_size ai) (rkT_size ar) (digs_size ab) (digs_size av) hd
  go_enter Tryz.func51, Tryz.ntmps51
  go_wp2_with fail
  go_region_held3 (fun w' => Below w.heap.size w w' ∧ w.heap.size < w'.heap.size ∧ w'.cell? ⟨w.heap.size, 0, none⟩ = some (.int .i64 ai) ∧ w'.cell? ⟨w.heap.size, 1, none⟩ = some (.int .i64 ar) ∧ w'.cell? ⟨w.heap.size, 2, none⟩ = some (.int .i64 ab) ∧ w'.cell? ⟨w.heap.size, 3, none⟩ = some (.int .i64 av) ∧ w'.cell? ⟨w.heap.size, 4, none⟩ = some (.string ad)) (first | with_reducible exact unhide (by assumption) | with_reducible exact keepDT (unhide HS) | with_reducible exact keepDT (by assumption) | with_reducible exact keepADT _ (by assumption) | (with_reducible refine keepBDT _ _ ?_ ?_ (by assumption) <;> omega) | with_reducible exact keepAT _ (by assumption) | (with_reducible refine keepBT _ _ ?_ ?_ (by assumption) <;> omega))
    (first
      | (go_at_call 68; with_reducible refine (rktext_b ar _).mono ?_; rintro e w1 ⟨rfl, bx⟩; have hS1 := hide (keepST bx (by assumption)); obtain ⟨hw1, hz0, -⟩ := unhide hS1; have hwz := hw1.size; clear hw1; clear bx)
      | (go_at_call 50; have hb0 := keepOne (by assumption); with_reducible refine (idigits_any ai _ hi1 hi2 (tab_later (unhide HT) hb0 (tab_lt (unhide HT)))).mono ?_; clear hb0; rintro e w1 ⟨rfl, bx⟩; have hS1 := hide (keepST bx (by assumption)); obtain ⟨hw1, hz0, -⟩ := unhide hS1; have hwz := hw1.size; clear hw1; clear bx)
      | (go_at_call 50; have hb0 := keepOne (by assumption); with_reducible refine (idigits_any ab _ hb1 hb2 (tab_later (unhide HT) hb0 (tab_lt (unhide HT)))).mono ?_; clear hb0; rintro e w1 ⟨rfl, bx⟩; have hS1 := hide (keepST bx (by assumption)); obtain ⟨hw1, hz0, -⟩ := unhide hS1; have hwz := hw1.size; clear hw1; clear bx)
      | (go_at_call 50; have hb0 := keepOne (by assumption); with_reducible refine (idigits_any av _ hv1 hv2 (tab_later (unhide HT) hb0 (tab_lt (unhide HT)))).mono ?_; clear hb0; rintro e w1 ⟨rfl, bx⟩; have hS1 := hide (keepST bx (by assumption)); obtain ⟨hw1, hz0, -⟩ := unhide hS1; have hwz := hw1.size; clear hw1; clear bx))
  rename_i hS
  have hb := hide hS.1
  clear hS
  go_wp2
  go_ret
  exact ⟨rfl, unhide hb⟩
end Go.Proofs.YtdpaocikmijioaaGreatDoor

namespace Go.Proofs.YtdpaocikmijioaaGreatDoor
open Go.ChangeShapes Go.WideShapes Go.ChangeAt Go.RowKit

def FitN (n : Int) : Prop := -9223372036854775808 ≤ n ∧ n ≤ 9223372036854775807
theorem list_of {α : Type} {p : Nat → α → Prop} : ∀ (n : Nat), (∀ i, i < n → ∃ y, p i y) → ∃ xs : List α, xs.length = n ∧ ∀ (i : Nat) (y : α), xs[i]? = some y → p i y
  | 0, _ => ⟨[], rfl, fun i y h => by simp at h⟩
  | n + 1, h => by
    obtain ⟨xs, hl, hx⟩ := list_of n (fun i hi => h i (by omega))
    obtain ⟨y, hy⟩ := h n (by omega)
    refine ⟨xs ++ [y], by simp [hl], fun i z hz => ?_⟩
    by_cases hi : i < n
    · rw [List.getElem?_append_left (by omega)] at hz; exact hx i z hz
    · have hlt := (List.getElem?_eq_some_iff.1 hz).1
      simp [hl] at hlt
      obtain rfl : i = n := by omega
      rw [List.getElem?_append_right (by omega)] at hz
      simp [hl] at hz
      subst hz; exact hy

theorem fit_of {n : Int} (h : (Lit.int .i64 n).wf = true) : FitN n := by
  simp [Lit.wf, IntKind.min, IntKind.max, IntKind.bits, IntKind.signed] at h
  unfold FitN
  omega

theorem addr_off (b off i : Nat) : (⟨b, off, none⟩ : Addr).add i = ⟨b, off + i, none⟩ := by
  unfold Addr.add
  split
  · rename_i e; rw [e]; rfl
  · rfl

section
variable {H : Type} {enc : TypeId × Value → H} {w : World} {base : Nat} {spare : Nat → Bool} {held : Bool}

/-- A slice whose elements are structs. -/
theorem rw_of_slice {α : Type} {ec : α → List Value} {k : Nat} {Q : α → Prop} {T E : TypeId} (hT : Tryz.prog.underlying T = some (.slice E)) (hE : Tryz.prog.cellsOf E = k) (h0 : 0 < k)
    (dec : ∀ (fuel : Nat) (cs : List Value) (x : DataW H × List MemPlace), DataW.trod enc Tryz.prog w base spare held fuel E cs = some x → ∃ y, cs = ec y ∧ Q y)
    {fuel : Nat} {c : Value} {x : DataW H × List MemPlace} (h : DataW.trod enc Tryz.prog w base spare held fuel T [c] = some x) :
    ∃ a n cap xs, c = .slice a n cap ∧ n ≤ maxLen ∧ Rw ec k w (.slice a n cap) xs ∧ ∀ (i : Nat) (y : α), xs[i]? = some y → Q y := by
  rcases Deep.open_slice hT h with ⟨h1, -⟩ | ⟨a, len, cap, m, n, D, Pl, h1, hb, hl, hm, hmm, -, hx⟩
  · simp only [List.cons.injEq, and_true] at h1
    exact ⟨none, 0, 0, [], h1, by unfold maxLen; omega, Rw.nil, fun i y hy => by simp at hy⟩
  · simp only [List.cons.injEq, and_true] at h1
    subst h1
    have hlm : len ≤ m := by rw [hmm]; split <;> omega
    obtain ⟨xs, hxl, hxs⟩ := list_of (p := fun i y => (w.cells? base (a.add (i * k)) k = some (ec y)) ∧ Q y) len (fun i hi => by
      obtain ⟨cs', e1, e2⟩ := hx i (by omega)
      obtain ⟨y, rfl, hq⟩ := dec _ _ _ e2
      rw [hE] at e1
      exact ⟨y, e1, hq⟩)
    refine ⟨some a, len, cap, xs, rfl, by omega, ?_, fun i y hy => (hxs i y hy).2⟩
    subst hxl
    refine ⟨some a, cap, rfl, hl, ?_⟩
    by_cases hz : xs = []
    · exact .inl hz
    · have hpos : 0 < xs.length := List.length_pos_iff.2 hz
      have hc0 := (hxs 0 xs[0] (by simp [hpos])).1
      obtain ⟨_, hlen0, hcell0⟩ := World.cells?_some hc0
      have hc00 := hcell0 0 h0
      rw [List.getElem?_eq_getElem (by omega)] at hc00
      obtain ⟨b, off, spot⟩ := a
      have hspot : spot = none := by
        have := World.cell?_spot hc00
        simpa [Addr.add] using this
      subst hspot
      refine .inr ⟨b, off, rfl, by simpa [Addr.add] using World.block_lt_of_cell? w _ hc00, fun i y hy j hj => ?_⟩
      obtain ⟨_, _, hcell⟩ := World.cells?_some (hxs i y hy).1
      have := hcell j hj
      rw [Deep.add_add, addr_off] at this
      rw [Nat.add_assoc]
      exact this
end
end Go.Proofs.YtdpaocikmijioaaGreatDoor

namespace Go.Proofs.YtdpaocikmijioaaGreatDoor
open Go.ChangeShapes Go.WideShapes Go.ChangeAt Go.RowKit

def FitK (e : Key) : Prop := FitN e.1 ∧ FitN e.2.1 ∧ FitN e.2.2.1 ∧ FitN e.2.2.2.1
/-- Each number is one of this machine. -/
def FitI (xs : List Itm) : Prop := ∀ (k : Nat) (x : Itm), xs[k]? = some x → FitN x.1 ∧ FitK x.2
def FitF (fs : List Flr) : Prop := ∀ (k : Nat) (x : Flr), fs[k]? = some x → FitN x.1 ∧ FitN x.2

section
variable {H : Type} {enc : TypeId × Value → H} {w : World} {base : Nat} {spare : Nat → Bool} {held : Bool}

end
end Go.Proofs.YtdpaocikmijioaaGreatDoor

namespace Go.Proofs.YtdpaocikmijioaaGreatDoor
open Go.RowKit

def wI (x : Itm) : ByteArray := strOfNums (digs x.1) ++ ⟨#[61]⟩ ++ textE x.2.1 x.2.2.1 x.2.2.2.1 x.2.2.2.2.1 x.2.2.2.2.2
def wF (f : Flr) : ByteArray := ⟨#[45]⟩ ++ strOfNums (digs f.1) ++ ⟨#[60]⟩ ++ strOfNums (digs f.2)
/-- A blank, where something stands ahead. -/
def sep (s : ByteArray) : ByteArray := if s.size = 0 then s else s ++ ⟨#[32]⟩
def acc (s w : ByteArray) : ByteArray := sep s ++ w
def tx (ws : List ByteArray) : ByteArray := ws.foldl acc ⟨#[]⟩
theorem tx_nil : tx [] = ⟨#[]⟩ := rfl
theorem tx_app (ws : List ByteArray) (w : ByteArray) : tx (ws ++ [w]) = acc (tx ws) w := by simp [tx]
theorem take_map_succ {α : Type} {xs : List α} {k : Nat} {x : α} (f : α → ByteArray) (h : xs[k]? = some x) : (xs.take (k + 1)).map f = (xs.take k).map f ++ [f x] := by
  rw [List.take_add_one, h]; simp
theorem sep_size (s : ByteArray) : (sep s).size ≤ s.size + 1 := by
  unfold sep
  split
  · omega
  · rw [ByteArray.size_append]; exact Nat.le_refl _
theorem tx_size {B : Nat} : ∀ (ws : List ByteArray) (s : ByteArray), (∀ w ∈ ws, w.size ≤ B) → (ws.foldl acc s).size ≤ s.size + ws.length * (B + 1)
  | [], s, _ => by simp
  | w :: r, s, h => by
    have h1 := tx_size r (acc s w) (fun y hy => h y (by simp [hy]))
    have h2 := h w (by simp)
    have h3 := sep_size s
    have h4 : (acc s w).size = (sep s).size + w.size := by rw [acc, ByteArray.size_append]
    rw [List.foldl_cons, List.length_cons, Nat.add_mul, Nat.one_mul]
    omega
theorem textE_size (ai ar ab av : Int) (ad : ByteArray) : (textE ai ar ab av ad).size ≤ 66 + ad.size := by
  unfold textE
  have e1 : (⟨#[46]⟩ : ByteArray).size = 1 := rfl
  have e2 : (⟨#[58]⟩ : ByteArray).size = 1 := rfl
  have := digs_size ai; have := digs_size ab; have := digs_size av; have := rkT_size ar
  simp only [ByteArray.size_append]
  omega
theorem wI_size (x : Itm) (h : x.2.2.2.2.2.size ≤ 1048576) : (wI x).size ≤ 1048700 ∧ 0 < (wI x).size := by
  unfold wI
  have e1 : (⟨#[61]⟩ : ByteArray).size = 1 := rfl
  have := digs_size x.1; have := textE_size x.2.1 x.2.2.1 x.2.2.2.1 x.2.2.2.2.1 x.2.2.2.2.2
  simp only [ByteArray.size_append]
  omega
theorem wF_size (x : Flr) : (wF x).size ≤ 1048700 ∧ 0 < (wF x).size := by
  unfold wF
  have e1 : (⟨#[45]⟩ : ByteArray).size = 1 := rfl
  have e2 : (⟨#[60]⟩ : ByteArray).size = 1 := rfl
  have := digs_size x.1; have := digs_size x.2
  simp only [ByteArray.size_append]
  omega
theorem words_size {xs : List Itm} {fs : List Flr} (hs : Sml xs) : ∀ w ∈ xs.map wI ++ fs.map wF, w.size ≤ 1048700 ∧ 0 < w.size := by
  intro w hw
  rcases List.mem_append.1 hw with h | h
  · obtain ⟨x, hx, rfl⟩ := List.mem_map.1 h
    obtain ⟨k, hk, rfl⟩ := List.mem_iff_getElem.1 hx
    exact wI_size _ (hs k _ (List.getElem?_eq_getElem hk))
  · obtain ⟨x, hx, rfl⟩ := List.mem_map.1 h
    exact wF_size x
theorem txI_size {xs : List Itm} (hs : Sml xs) (k : Nat) (hk : k ≤ 1048576) : (tx ((xs.take k).map wI)).size ≤ 1099674157056 := by
  have h := tx_size (B := 1048700) ((xs.take k).map wI) ⟨#[]⟩ (fun w hw => by
    have hw2 : w ∈ xs.map wI ++ ([] : List Flr).map wF := by
      obtain ⟨x, hx, rfl⟩ := List.mem_map.1 hw
      simp only [List.map_nil, List.append_nil]
      exact List.mem_map.2 ⟨x, List.mem_of_mem_take hx, rfl⟩
    exact (words_size hs w hw2).1)
  have e0 : (⟨#[]⟩ : ByteArray).size = 0 := rfl
  have e1 : ((xs.take k).map wI).length ≤ 1048576 := by simp; omega
  have e2 : ((xs.take k).map wI).length * (1048700 + 1) ≤ 1048576 * (1048700 + 1) := Nat.mul_le_mul_right _ e1
  unfold tx
  omega
theorem txF_size {xs : List Itm} {fs : List Flr} (hs : Sml xs) (k : Nat) (hn : xs.length ≤ 1048576) (hk : k ≤ 1048576) : (tx (xs.map wI ++ (fs.take k).map wF)).size ≤ 2199348314112 := by
  have h := tx_size (B := 1048700) (xs.map wI ++ (fs.take k).map wF) ⟨#[]⟩ (fun w hw => by
    have hw2 : w ∈ xs.map wI ++ fs.map wF := by
      rcases List.mem_append.1 hw with h | h
      · exact List.mem_append.2 (.inl h)
      · obtain ⟨x, hx, rfl⟩ := List.mem_map.1 h
        exact List.mem_append.2 (.inr (List.mem_map.2 ⟨x, List.mem_of_mem_take hx, rfl⟩))
    exact (words_size hs w hw2).1)
  have e0 : (⟨#[]⟩ : ByteArray).size = 0 := rfl
  have e1 : (xs.map wI ++ (fs.take k).map wF).length ≤ 2097152 := by simp; omega
  have e2 : (xs.map wI ++ (fs.take k).map wF).length * (1048700 + 1) ≤ 2097152 * (1048700 + 1) := Nat.mul_le_mul_right _ e1
  unfold tx
  omega
theorem ba_ext {a b : ByteArray} (h : a.data.toList = b.data.toList) : a = b := by
  obtain ⟨⟨x⟩⟩ := a
  obtain ⟨⟨y⟩⟩ := b
  simp at h
  rw [h]
theorem fold_tail : ∀ (ws : List ByteArray) (s : ByteArray), 0 < s.size → (ws.foldl acc s).data.toList = s.data.toList ++ Lib.joinTail [32] (ws.map (·.data.toList))
  | [], s, _ => by simp [Lib.joinTail]
  | w :: r, s, h => by
    have e : acc s w = s ++ ⟨#[32]⟩ ++ w := by rw [acc, sep, if_neg (by omega)]
    rw [List.foldl_cons, fold_tail r (acc s w) (by rw [e, ByteArray.size_append, ByteArray.size_append]; omega), e]
    simp [Lib.joinTail, List.append_assoc]
/-- Word by word, or joined: one text. -/
theorem tx_join (ws : List ByteArray) (h : ∀ w ∈ ws, 0 < w.size) : tx ws = ⟨(Lib.join (ws.map (·.data.toList)) [32]).toArray⟩ := by
  apply ba_ext
  cases ws with
  | nil => rfl
  | cons w r =>
    have e : acc ⟨#[]⟩ w = w := by
      apply ba_ext
      rw [acc, sep, if_pos (show (⟨#[]⟩ : ByteArray).size = 0 from rfl)]
      simp
    rw [tx, List.foldl_cons, e, fold_tail r w (h w (by simp)), List.map_cons, Lib.join_cons]
theorem join_size (ws : List ByteArray) (h : ∀ w ∈ ws, 0 < w.size) : (Lib.join (ws.map (·.data.toList)) [32]).length = (tx ws).size := by
  rw [tx_join ws h]
  simp [ByteArray.size]
end Go.Proofs.YtdpaocikmijioaaGreatDoor
