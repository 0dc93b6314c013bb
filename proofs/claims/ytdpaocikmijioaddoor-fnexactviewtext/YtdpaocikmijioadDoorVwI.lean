/-
  Who is up, told one by one by a function that is ranged over. No statement is proved here.
-/
import Derived.RangeFuncNested
import Derived.RangeFuncBound
import Derived.RangeFuncCalls
import Derived.RangeFuncLeaves
import Derived.Shelf.Abstract
import Derived.Shelf.RegionOpen
import Derived.WalkKit
import Derived.OwnWalkIn
import Derived.TacticsInMore
import Derived.LoopNIn
import Derived.LoopIn
import Derived.Test.YtdpaocikmijioadDoorVwK
namespace Go.Proofs.YtdpaocikmijioadDoor
open Go.RowKit Go.Shelf

attribute [local go_sem] Oper.semAt_some

theorem grown_none {w w' : World} (h : Below w.heap.size w w') : w.grownBy w' none := ⟨h.os, h.tape, h.output, h.size, fun k hk _ => h.block k hk⟩
theorem wide_call {n m : Nat} {P : Program} {f : FuncId} {args : Array Value} {w : World} {R : Ending → World → Prop} (h : CallsIn Fence.wide m P f args w R) : Fence.wide.fn f ∧ (Fence.wide.depth.isSome = true → 1 ≤ n) ∧ CallsIn Fence.wide m P f args w R := ⟨trivial, (fun k => by cases k), h⟩
theorem gi_call {m : Nat} {P : Program} {f : FuncId} {args : Array Value} {w : World} {R R' : Ending → World → Prop} (h : Calls P f args w R) (k : ∀ e w', R e w' → R' e w') : CallsIn Fence.wide m P f args w R' := (callsIn_wide.2 h).mono k
theorem upI_pos {xs : List Itm} {k : Nat} {x : Itm} (hx : xs[k]? = some x) (h : (x.2.2.1 == 0) = true) : upI (xs.take (k + 1)) = upI (xs.take k) ++ [x] := by
  rw [upI, take_filter hx, if_pos h]; rfl
theorem upI_neg {xs : List Itm} {k : Nat} {x : Itm} (hx : xs[k]? = some x) (h : (x.2.2.1 == 0) = false) : upI (xs.take (k + 1)) = upI (xs.take k) := by
  rw [upI, take_filter hx, if_neg (by simp [h]), List.append_nil]; rfl
theorem upI_k {xs : List Itm} {k : Nat} : (upI (xs.take k)).length ≤ k := Nat.le_trans (List.length_filter_le _ _) (by simp; omega)
theorem upI_pre {xs : List Itm} (k : Nat) : upI (xs.take k) <+: upI xs := (List.take_prefix k xs).filter _

theorem iup_any (v1 v2 : Value) (w : World) : Calls Tryd.prog 29 #[.agg #[v1, v2]] w fun e w' => e = .returned (.func (.func 44) #[] #[.pointer (some ⟨w.heap.size, 0, none⟩)]) ∧ w' = w.alloc (.cells #[v1, v2] 31) := by
  go_enter Tryd.func29, Tryd.ntmps29
  go_wp2
  go_ret
  exact ⟨rfl, rfl⟩

set_option maxRecDepth 100000 in
set_option maxHeartbeats 4000000 in
theorem iup1_in (n l Bs : Nat) (ai : Option Addr) (ni ci : Nat) (xs : List Itm) (af : Option Addr) (nf cf : Nat) (fs : List Flr) (wS : World) (J Jx : List Itm → World → Prop)
    (hY : ∀ pre (x : Itm) W, J pre W → pre.length < 5 → YieldAt Fence.wide (n - 1) Tryd.prog l #[.agg #[.int .i64 x.1, .int .i64 x.2.1, .int .i64 x.2.2.1, .int .i64 x.2.2.2.1, .int .i64 x.2.2.2.2.1, .string x.2.2.2.2.2]] W fun e W' =>
      (e = .returned (.bool true) ∧ J (pre ++ [x]) W' ∧ Below wS.heap.size W W') ∨ (e = .returned (.bool false) ∧ Jx (pre ++ [x]) W'))
    (W : World) (hJ : AbidesFrom W.heap.size J) (hW : Below wS.heap.size wS W) (hbox : W.heap[Bs]? = some (.cells #[.slice ai ni ci, .slice af nf cf] 31 (0, 0)))
    (hni : ni ≤ 140737488351232) (hnf : nf ≤ 140737488351232) (hx : Rw encI 6 wS (.slice ai ni ci) xs) (hf : Rw encF 2 wS (.slice af nf cf) fs) (h0 : J [] W) :
    CallsIn Fence.wide n Tryd.prog 44 #[.func (.yield l) #[] #[], .pointer (some ⟨Bs, 0, none⟩)] W fun e W' => (∃ v, e = .returned v) ∧
      ((∃ ys, ys = vw xs fs ∧ J ys W') ∨ (∃ pre, pre <+: vw xs fs ∧ Jx pre W')) := by
  obtain ⟨okA, hA⟩ : ∃ okA, okS xs fs = okA := ⟨_, rfl⟩
  have hV : vw xs fs = if okA = true then upI xs else [] := by rw [vw, hA]
  have HV := hide hV
  have HA := hide hA
  have HX := hide hx
  have HF := hide hf
  have HW := hide hW
  have HJ := hide hJ
  have HY := hide hY
  have KB := hide hbox
  have hBs : Bs < W.heap.size := (Array.getElem?_eq_some_iff.1 hbox).1
  obtain ⟨p0, p1, -⟩ := blk_cells2 hbox
  clear hA hx hf hW hJ hY hbox hV
  refine callsIn_of_wp Tryd.func44 rfl trivial ?_ rfl
  simp only [Tryd.ntmps44, List.size_toArray, List.length_cons, List.length_nil, Nat.reduceAdd, Nat.reduceSub, Array.replicate_succ, Array.replicate_zero, List.push_toArray, List.append_toArray, List.nil_append, List.cons_append]
  gi_wp2
  refine wide_call (gi_call (istateok_any ai ni ci xs af nf cf fs _ HA _ hni hnf ((unhide HX).later (unhide HW)) ((unhide HF).later (unhide HW))) ?_)
  rintro e w1 ⟨rfl, b1⟩
  have J1 := hide (unhide HJ [] W w1 none h0 (grown_none b1) (fun r e => by cases e))
  have HW1 := hide ((unhide HW).trans (b1.mono (unhide HW).size))
  have hBs1 : Bs < w1.heap.size := Nat.lt_of_lt_of_le hBs b1.size
  have KB1 := hide ((b1.block _ hBs).trans (unhide KB))
  clear p0 p1 b1 KB
  obtain ⟨p0, p1, -⟩ := blk_cells2 (unhide KB1)
  cases okA
  · gi_wp2
    refine bodyPost_ret (results_none rfl _ _ _) rfl ?_
    exact ⟨⟨_, rfl⟩, .inl ⟨[], by rw [unhide HV]; rfl, unhide J1⟩⟩
  · have OA := (okS_iff _ _).1 (unhide HA)
    have m5 : ni ≤ 5 := by have := (unhide HX).len.1; have := OA.len5.1; omega
    have SM := hide OA.sml
    replace HV := hide (show vw xs fs = upI xs from unhide HV)
    clear OA
    gi_wp2
    gi_loopw [11] (fun i wr => ∃ k : Nat, k ≤ ni ∧ i = .int .i64 k ∧ J (upI (xs.take k)) wr ∧ Below wS.heap.size wS wr) (fun i _ => ni - (intOf i).toNat)
    case atStart => exact ⟨0, Nat.zero_le _, rfl, unhide J1, unhide HW1⟩
    case round =>
      clear p0 p1 KB1 hBs1 HW1 J1
      obtain ⟨k, hk, rfl, hJs, hB⟩ := hrel
      have HJs := hide hJs
      have HB := hide hB
      clear hJs
      by_cases hlt : k < ni
      · obtain ⟨x, b, off, hx, rfl, hb, hcap, hc⟩ := ((unhide HX).later hB).at hlt
        obtain ⟨c0, c1, c2, c3, c4, c5⟩ := item_cells hc
        have hd := unhide SM k x hx
        have HX1 := hide hx
        have BX := hide ((Below.refl wr.heap.size wr).alloc (Nat.le_refl _) (.cells #[.int .i64 x.1, .int .i64 x.2.1, .int .i64 x.2.2.1, .int .i64 x.2.2.2.1, .int .i64 x.2.2.2.2.1, .string x.2.2.2.2.2] 50))
        clear hc hx hB
        rcases Bool.eq_false_or_eq_true (x.2.2.1 == 0) with he | he
        · have HP := hide (upI_pos (unhide HX1) he)
          gi_wp2
          refine wide_call (gi_call (icopyI_any x (by omega) _) ?_)
          rintro e w3 ⟨rfl, b3⟩
          have b3' := (unhide BX).trans (b3.mono (by simp))
          have J3 := unhide HJ _ _ w3 none (unhide HJs) (grown_none b3') (fun r e => by cases e)
          have HB3 := hide ((unhide HB).trans (b3'.mono (unhide HB).size))
          obtain ⟨fn, tmps, assign, body, hy, hR⟩ := unhide HY _ x w3 J3 (Nat.lt_of_le_of_lt upI_k (by omega))
          clear b3 b3' J3 BX HB HJs c0 c1 c2 c3 c4 c5
          gi_wp2
          refine ⟨(fun k => by cases k), hR.mono ?_⟩
          clear hR hy
          rintro e W3 (⟨rfl, hJ3, hk3⟩ | ⟨rfl, hJx3⟩)
          · have HJ3 := hide hJ3
            have HB4 := hide ((unhide HB3).trans hk3)
            clear hJ3 hk3
            gi_wp2
            go_roundw
            case rel => exact ⟨k + 1, by omega, by go_num, by rw [unhide HP]; exact unhide HJ3, unhide HB4⟩
            case measure => simp [intOf]; omega
          · have HJ3 := hide hJx3
            clear hJx3
            gi_wp2
            refine bodyPost_ret (results_none rfl _ _ _) rfl ?_
            exact ⟨⟨_, rfl⟩, .inr ⟨_, by rw [unhide HV, ← unhide HP]; exact upI_pre _, unhide HJ3⟩⟩
        · have HP := hide (upI_neg (unhide HX1) he)
          gi_wp2
          refine ⟨trivial, ?_⟩
          gi_wp2
          refine ⟨(fun _ k => by cases k), ?_⟩
          gi_wp2
          go_roundw
          case rel => exact ⟨k + 1, by omega, by go_num, by rw [unhide HP]; exact unhide HJ _ _ _ none (unhide HJs) (grown_none (unhide BX)) (fun r e => by cases e), (unhide HB).trans ((unhide BX).mono (unhide HB).size)⟩
          case measure => simp [intOf]; omega
      · have HT : Hid (upI (xs.take k) = vw xs fs) := hide (by rw [unhide HV, List.take_of_length_le (by have := (unhide HX).len.1; omega)])
        clear hB
        gi_wp2
        go_end0
        exact ⟨⟨_, rfl⟩, .inl ⟨_, unhide HT, unhide HJs⟩⟩

/-- Who is up, one by one: all, or some first ones. -/
theorem iup_stops (n Bs : Nat) (ai : Option Addr) (ni ci : Nat) (xs : List Itm) (af : Option Addr) (nf cf : Nat) (fs : List Flr) (wS w : World) (hW : Below wS.heap.size wS w) (hbox : w.heap[Bs]? = some (.cells #[.slice ai ni ci, .slice af nf cf] 31 (0, 0)))
    (hni : ni ≤ 140737488351232) (hnf : nf ≤ 140737488351232) (hx : Rw encI 6 wS (.slice ai ni ci) xs) (hf : Rw encF 2 wS (.slice af nf cf) fs) :
    SeqStopsK Fence.wide n Tryd.prog 44 #[.pointer (some ⟨Bs, 0, none⟩)] (fun x : Itm => #[.agg #[.int .i64 x.1, .int .i64 x.2.1, .int .i64 x.2.2.1, .int .i64 x.2.2.2.1, .int .i64 x.2.2.2.2.1, .string x.2.2.2.2.2]]) (Below wS.heap.size) (fun ys => ys = vw xs fs) (fun pre => pre <+: vw xs fs) 5 w := fun l J Jx W hb hJ _ hY h0 =>
  iup1_in n l Bs ai ni ci xs af nf cf fs wS J Jx hY W hJ (hW.trans (hb.mono hW.size)) ((hb.block _ (Array.getElem?_eq_some_iff.1 hbox).1).trans hbox) hni hnf hx hf h0
end Go.Proofs.YtdpaocikmijioadDoor
