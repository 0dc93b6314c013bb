/-
  The program's joinFloors. No statement is proved here.
  A map from nodes to entries, as a function. No statement is proved here.
  The program's joinItems and dropOver: what they do to the map. No statement is proved here.
  What the map holds behind both states' items and the floors: the joined items. No program here, no statement is proved here.
  The library's sort of items, at a row that the call itself owns. No statement is proved here.
  The program's itemsInOrder: the map's entries, each once, sorted by their nodes. No statement is proved here.
  The program's StateJoin. No statement is proved here.
-/
import Derived.Test.YtighiahppjekeaaStJP
import Derived.Test.YtighiahppjekeaaApp2
import Derived.Test.YtighiahppjekeaaIStOk
import Derived.Test.YtighiahppjekeaaStT
import Derived.Test.YtighiahppjekeaaStM
import Derived.Test.YtighiahppjekeaaStO
import Derived.Maps.RangeWalk
import Derived.Maps.OwnSet
import Derived.Maps.OwnOps
import Derived.Maps.Ext
import Derived.Test.YtighiahppjekeaaSt3
import Derived.Deep.RegionHeld3
import Derived.Test.YtighiahppjekeaaVwP
import Derived.Test.YtighiahppjekeaaSortL
import Derived.Test.YtighiahppjekeaaSJoin2
import Derived.Carry
namespace Go.Proofs.Ytighiahppjekeaa
open Go.RowKit

set_option maxHeartbeats 8000000 in
set_option maxRecDepth 100000 in
theorem ijoinf_any (vi : Value) (af : Option Addr) (nf cf : Nat) (fs : List Flr) (vj : Value) (bf : Option Addr) (mf df : Nat) (gs : List Flr) (w : World)
    (hnf : nf ≤ 140737488351232) (hmf : mf ≤ 140737488351232) (hf : Rw encF 2 w (.slice af nf cf) fs) (hg : Rw encF 2 w (.slice bf mf df) gs) :
    Calls Try.prog 49 #[.agg #[vi, .slice af nf cf], .agg #[vj, .slice bf mf df]] w fun e w' => ∃ a2 n2 c2, e = .returned (.slice a2 n2 c2) ∧ OwF w.heap.size w' (.slice a2 n2 c2) (joinF fs gs) ∧ Below w.heap.size w w' := by
  obtain ⟨i1, gi, gz0, gz1, gz2⟩ := info_parts Try.infoFloor
  have HF := hide hf
  have HG := hide hg
  clear hf hg
  go_enter Try.func49, Try.ntmps49
  go_wp2
  go_loopw [5, 8] (fun v i wr => ∃ (k : Nat) (a2 : Option Addr) (n2 c2 : Nat), k ≤ 5 ∧ i = .int .i64 k ∧ v = .slice a2 n2 c2 ∧ OwF w.heap.size wr (.slice a2 n2 c2) (jF fs gs k) ∧ Below w.heap.size w wr ∧ wr.heap[w.heap.size]? = some (.cells #[vi, .slice af nf cf] 38 (0, 0)) ∧ wr.heap[w.heap.size + 1]? = some (.cells #[vj, .slice bf mf df] 38 (0, 0))) (fun _ i _ => 5 - (intOf i).toNat)
  case atStart => exact ⟨0, none, 0, 0, by omega, rfl, rfl, World.ownsRow_nil _ _ _ _, ((Below.refl _ _).alloc (Nat.le_refl _) _).alloc (by simp) _, lowB2 w _ _, newB2 w _ _⟩
  case round =>
    obtain ⟨k, a2, n2, c2, hk, rfl, rfl, hown, hbel, ka, kb⟩ := hrel
    have HO := hide hown
    have HB := hide hbel
    have KA := hide ka
    have KB := hide kb
    have hsz := hbel.size
    have hz : w.heap.size + 1 < wr.heap.size := (Array.getElem?_eq_some_iff.mp kb).1
    obtain ⟨pa0, pa1, -⟩ := blk_cells2 ka
    obtain ⟨pb0, pb1, -⟩ := blk_cells2 kb
    clear hown ka kb
    by_cases hlt : k < 5
    · obtain ⟨fa, hfa⟩ : ∃ fa, flo fs k = fa := ⟨_, rfl⟩
      obtain ⟨fb, hfb⟩ : ∃ fb, flo gs k = fb := ⟨_, rfl⟩
      have HFA := hide hfa
      have HFB := hide hfb
      have HF0 : Hid (fl2 fs gs k = max fa fb) := hide (by rw [fl2, hfa, hfb]; split <;> omega)
      have hdk : decide ((k : Int) < 5) = true := by simp; omega
      clear hfa hfb
      have la0 := later_some (w := wr) (b := w.heap.size) (o := 0) (by omega) pa0
      have la1 := later_some (w := wr) (b := w.heap.size) (o := 1) (by omega) pa1
      have lb0 := later_some (w := wr) (b := w.heap.size + 1) (o := 0) (by omega) pb0
      have lb1 := later_some (w := wr) (b := w.heap.size + 1) (o := 1) (by omega) pb1
      have RF := hide ((unhide HF).later hbel)
      have RG := hide ((unhide HG).later hbel)
      clear hbel
      go_wp2_with fail
      refine wp_region_later (by kernel_rfl) (by kernel_rfl) ?_
      repeat (go_big_quiet_step (first
        | (go_at_call_of 57 (Value.slice af nf cf); exact Calls.later_of (ifloor_v _ af nf cf fs _ fa HFA _ hnf ((unhide RF).in_later _ _)))
        | (go_at_call_of 57 (Value.slice bf mf df); exact Calls.later_of (ifloor_v _ bf mf df gs _ fb HFB _ hmf ((unhide RG).in_later _ _)))))
      refine wpQuiet_nil ?_
      intro w1 hb1
      generalize hm : max fa fb = f at HF0 ⊢
      have HO1 := hide ((unhide HO).later hb1)
      have HB1 := hide ((unhide HB).trans (hb1.mono hsz))
      have KA1 := hide ((hb1.block _ (by omega)).trans (unhide KA))
      have KB1 := hide ((hb1.block _ (by omega)).trans (unhide KB))
      have hz1 : w.heap.size + 1 < w1.heap.size := Nat.lt_of_lt_of_le hz hb1.size
      have hn2 : Hid (n2 = (jF fs gs k).length) := hide ((unhide HO1).rw encF_len).len.1
      have hn2l : n2 ≤ 5 := by have := unhide hn2; have := jF_len fs gs k; omega
      clear hm hb1 la0 la1 lb0 lb1 RF RG pa0 pa1 pb0 pb1 HO HB KA KB HFA HFB hsz hz
      have hw1 : w.heap.size ≤ w1.heap.size := by omega
      rcases Bool.eq_false_or_eq_true (decide (0 < f)) with hpos | hpos
      · go_wp2_with (first | (at_builtin; refine wpList_app1 encF_len (by omega) oneF 112 36 i1 _ 16 Try.underlying36 gi gz0 gz1 gz2 rfl (by omega) w1 ((k : Int), f) rfl _ _ rfl w.heap.size _ (jF fs gs k) n2 hn2 rfl (unhide HO1) rfl (by omega) hw1 ?_; intro a2' c2' w2 hO hG; have HO2 := hide hO; have HB2 := hide ((Trn.of_grown hG).below (unhide HB1) hw1 (fun i q => (World.ownsRow.lt (unhide HO1) i q).1)); have HG2 := hide hG; clear hO hG))
        go_roundw
        case rel =>
          have hnA := own_ne (unhide HO1) (unhide KA1) (by decide)
          have hnB := own_ne (unhide HO1) (unhide KB1) (by decide)
          exact ⟨k + 1, a2', n2 + 1, c2', by omega, by go_num, rfl, by rw [jF_pos (by rw [unhide HF0]; exact hpos), unhide HF0]; exact unhide HO2, unhide HB2, ((unhide HG2).block _ (by omega) (fun q => hnA q.symm)).trans (unhide KA1), ((unhide HG2).block _ (by omega) (fun q => hnB q.symm)).trans (unhide KB1)⟩
        case measure => simp [intOf]; omega
      · go_wp2
        go_roundw
        case rel => exact ⟨k + 1, a2, n2, c2, by omega, by go_num, rfl, by rw [jF_neg (by rw [unhide HF0]; exact hpos)]; exact unhide HO1, unhide HB1, unhide KA1, unhide KB1⟩
        case measure => simp [intOf]; omega
    · have hdk : decide ((k : Int) < 5) = false := by simp; omega
      have HE : Hid (OwF w.heap.size wr (.slice a2 n2 c2) (joinF fs gs)) := by
        have h := unhide HO
        have e : k = 5 := by omega
        rw [e] at h
        exact hide h
      clear hbel HO
      go_wp2
      go_ret
      exact ⟨a2, n2, c2, rfl, unhide HE, unhide HB⟩
end Go.Proofs.Ytighiahppjekeaa

namespace Go.Proofs.Ytighiahppjekeaa
open Go.RowKit Go.Maps

/-- How an element of the map reads: as the entry that it is. -/
def RK : Value → Option (DataW Key × List MemPlace)
  | .agg cs => match cs.toList with
    | [.int .i64 i, .int .i64 r, .int .i64 b, .int .i64 v, .string d] => some (.held (i, r, b, v, d), [])
    | _ => none
  | _ => none
theorem RK_mk (e : Key) : RK (.agg #[.int .i64 e.1, .int .i64 e.2.1, .int .i64 e.2.2.1, .int .i64 e.2.2.2.1, .string e.2.2.2.2]) = some (.held e, []) := rfl
theorem RK_inv {v : Value} {z : DataW Key × List MemPlace} (h : RK v = some z) : ∃ e : Key, v = .agg #[.int .i64 e.1, .int .i64 e.2.1, .int .i64 e.2.2.1, .int .i64 e.2.2.2.1, .string e.2.2.2.2] ∧ z = (.held e, []) := by
  unfold RK at h
  split at h
  · rename_i cs
    split at h
    · rename_i i r b v d hcs
      cases h
      refine ⟨(i, r, b, v, d), ?_, rfl⟩
      obtain ⟨l⟩ := cs
      simp only at hcs
      rw [hcs]
    · cases h
  · cases h

theorem klaw : Keyed Try.prog 3 := int_keyed Try.underlying3
theorem wf_fit {n : Int} (h : FitN n) : (Lit.int .i64 n).wf = true := by
  unfold FitN at h
  simp [Lit.wf, IntKind.min, IntKind.max, IntKind.bits, IntKind.signed]
  omega
theorem kof {n : Int} (h : FitN n) : keyOf Try.prog 3 (.int .i64 n) = some (.int .i64 n) := keyOf_int_mk Try.underlying3 (wf_fit h)

/-- The map reads as the function m. -/
def MapV (D : DataW Key) (m : Int → Option Key) : Prop := ∀ id, FitN id → ∀ z, D.atKey (.int .i64 id) z = (match m id with
  | some e => .held e
  | none => z)
def upd (m : Int → Option Key) (id : Int) (e : Key) : Int → Option Key := fun j => if j = id then some e else m j
def cut (m : Int → Option Key) (id : Int) : Int → Option Key := fun j => if j = id then none else m j
def mget (m : Int → Option Key) (id : Int) : Key := (m id).getD zeroK
theorem MapV.nil : MapV (.map []) (fun _ => none) := fun _ _ _ => rfl
theorem lit_ne {a b : Int} (h : a ≠ b) : (Lit.int .i64 a) ≠ Lit.int .i64 b := fun e => h (by injection e)
theorem MapV.put {D : DataW Key} {m : Int → Option Key} (h : MapV D m) (hm : IsMap D) {id : Int} (hk : WideAt.IsKeyLit (Lit.int .i64 id)) (e : Key) : MapV (D.put (.int .i64 id) (.held e)) (upd m id e) := by
  intro j hj z
  unfold upd
  by_cases c : j = id
  · subst c
    rw [atKey_put_same hm hk, if_pos rfl]
  · rw [atKey_put_other (lit_ne c), if_neg c]
    exact h j hj z
theorem MapV.del {D : DataW Key} {m : Int → Option Key} (h : MapV D m) (id : Int) : MapV (D.del (.int .i64 id)) (cut m id) := by
  intro j hj z
  unfold cut
  by_cases c : j = id
  · subst c
    rw [atKey_del_same, if_pos rfl]
  · rw [atKey_del_other (lit_ne c), if_neg c]
    exact h j hj z
theorem key_lit (id : Int) : WideAt.IsKeyLit (Lit.int .i64 id) := trivial

theorem zeroE (w : World) : (zeroValue 83).run Try.prog w = .ok (.agg #[.int .i64 zeroK.1, .int .i64 zeroK.2.1, .int .i64 zeroK.2.2.1, .int .i64 zeroK.2.2.2.1, .string zeroK.2.2.2.2]) w := by kernel_rfl
theorem field0 (e : Key) (w : World) : (Instr.field 83 (.agg #[.int .i64 e.1, .int .i64 e.2.1, .int .i64 e.2.2.1, .int .i64 e.2.2.2.1, .string e.2.2.2.2]) 0).run Try.prog w = .ok (.int .i64 e.1) w := by
  have h := Try.underlying83
  have h3 := Try.underlying3
  simp [Instr.field, run_underlying h, asAgg, part, isAgg, sizeOf, run_underlying h3, typeInfo]
abbrev OwM (w : World) (b n : Nat) (D : DataW Key) : Prop := w.ownsMap Try.prog 3 RK b n D
/-- 'm[id]'. -/
theorem look {w : World} {b n : Nat} {D : DataW Key} {m : Int → Option Key} (h : OwM w b n D) (hv : MapV D m) {id : Int} (hid : FitN id) :
    (Instr.lookup 75 (.map (some b)) (.int .i64 id) false).run Try.prog w = .ok (.agg #[.int .i64 (mget m id).1, .int .i64 (mget m id).2.1, .int .i64 (mget m id).2.2.1, .int .i64 (mget m id).2.2.2.1, .string (mget m id).2.2.2.2]) w := by
  obtain ⟨v, ps, hrun, hR⟩ := h.lookup klaw Try.underlying75 (zeroE w) (RK_mk zeroK) (kof hid)
  obtain ⟨e, rfl, he⟩ := RK_inv hR
  rw [hrun]
  simp only [Prod.mk.injEq] at he
  have h1 := hv id hid (.held zeroK)
  rw [h1] at he
  have : mget m id = e := by
    unfold mget
    cases hm : m id with
    | none => rw [hm] at he; simp only [DataW.held.injEq] at he; exact he.1
    | some x => rw [hm] at he; simp only [DataW.held.injEq] at he; exact he.1
  rw [this]
end Go.Proofs.Ytighiahppjekeaa

namespace Go.Proofs.Ytighiahppjekeaa
open Go.RowKit Go.Maps

theorem imaxK_any (a b r : Key) (hr : Hid (mx a b = r)) (ha : a.2.2.2.2.size ≤ 1048576) (hb : b.2.2.2.2.size ≤ 1048576) (w : World) : Calls Try.prog 83 #[.agg #[.int .i64 a.1, .int .i64 a.2.1, .int .i64 a.2.2.1, .int .i64 a.2.2.2.1, .string a.2.2.2.2], .agg #[.int .i64 b.1, .int .i64 b.2.1, .int .i64 b.2.2.1, .int .i64 b.2.2.2.1, .string b.2.2.2.2]] w fun e w' => e = .returned (.agg #[.int .i64 r.1, .int .i64 r.2.1, .int .i64 r.2.2.1, .int .i64 r.2.2.2.1, .string r.2.2.2.2]) ∧ Below w.heap.size w w' := by
  refine imax_is _ _ _ _ _ _ _ _ _ _ _ _ _ _ _ ?_ (by omega) (by omega) w
  rw [isMax_mx]
  exact (unhide hr).symm

/-- The items laid into the map, one behind the other. -/
def fm (m : Int → Option Key) : List Itm → Int → Option Key
  | [] => m
  | x :: r => fm (upd m x.1 (mx (mget m x.1) x.2)) r
theorem fm_at {m : Int → Option Key} {xs : List Itm} {k : Nat} {x : Itm} (h : xs[k]? = some x) : fm m (xs.drop k) = fm (upd m x.1 (mx (mget m x.1) x.2)) (xs.drop (k + 1)) := by
  rw [drop_at h, fm]
def SmlM (m : Int → Option Key) : Prop := ∀ id e, m id = some e → e.2.2.2.2.size ≤ 1048576
theorem mget_sml {m : Int → Option Key} (h : SmlM m) (id : Int) : (mget m id).2.2.2.2.size ≤ 1048576 := by
  unfold mget
  cases hm : m id with
  | none => show (zeroK.2.2.2.2.size) ≤ _; exact Nat.zero_le _
  | some e => exact h id e hm
theorem mx_sml {a b : Key} (ha : a.2.2.2.2.size ≤ 1048576) (hb : b.2.2.2.2.size ≤ 1048576) : (mx a b).2.2.2.2.size ≤ 1048576 := by
  unfold mx
  split
  · exact hb
  · exact ha
theorem upd_sml {m : Int → Option Key} (h : SmlM m) (id : Int) {e : Key} (he : e.2.2.2.2.size ≤ 1048576) : SmlM (upd m id e) := by
  intro j x hx
  unfold upd at hx
  split at hx
  · cases hx; exact he
  · exact h j x hx
theorem cut_sml {m : Int → Option Key} (h : SmlM m) (id : Int) : SmlM (cut m id) := by
  intro j x hx
  unfold cut at hx
  split at hx
  · cases hx
  · exact h j x hx

theorem owm_later {w w' : World} {b n : Nat} {D : DataW Key} (h : OwM w b n D) (hb : Below w.heap.size w w') : OwM w' b n D := h.kept (grown_below none hb) (by simp)
/-- A row of cells is no map. -/
theorem Rw.beside {α : Type} {enc : α → List Value} {k : Nat} (hk : ∀ x, (enc x).length = k) (h0 : 0 < k) {w w' : World} {v : Value} {xs : List α} (h : Rw enc k w v xs) {b n : Nat} {D : DataW Key} (hm : OwM w b n D) (hg : w.grownBy w' (some b)) : Rw enc k w' v xs := by
  obtain ⟨a, cap, rfl, hcap, h⟩ := h
  refine ⟨a, cap, rfl, hcap, ?_⟩
  rcases h with h | ⟨g, off, rfl, hlt, hc⟩
  · exact .inl h
  · by_cases hz : xs = []
    · exact .inl hz
    · refine .inr ⟨g, off, rfl, Nat.lt_of_lt_of_le hlt hg.size, fun i x hx j hj => ?_⟩
      have hne : g ≠ b := by
        intro e
        subst e
        have hpos : 0 < xs.length := List.length_pos_iff.2 hz
        have := hc 0 xs[0] (by simp [hpos]) 0 h0
        obtain ⟨es, clock, hh, _⟩ := hm
        have e0 : (enc xs[0])[0]? = some ((enc xs[0])[0]'(by rw [hk]; exact h0)) := List.getElem?_eq_getElem _
        rw [e0] at this
        simp [World.cell?, hh] at this
      exact (World.cell?_of_block (w := w) (hg.block g hlt (by simp [hne]))).trans (hc i x hx j hj)

theorem keepX {W : World} {g : Nat} {T : TypeId} {c0 c1 c2 c3 c4 c5 : Value} (h : W.heap[g]? = some (.cells #[c0, c1, c2, c3, c4, c5] T (0, 0))) : W.cell? ⟨g, 0, none⟩ = some c0 ∧ W.cell? ⟨g, 1, none⟩ = some c1 ∧ W.cell? ⟨g, 2, none⟩ = some c2 ∧ W.cell? ⟨g, 3, none⟩ = some c3 ∧ W.cell? ⟨g, 4, none⟩ = some c4 ∧ W.cell? ⟨g, 5, none⟩ = some c5 := by
  obtain ⟨h0, h1, h2, h3, h4, h5, -⟩ := blk_cells6 h
  exact ⟨h0, h1, h2, h3, h4, h5⟩
set_option maxHeartbeats 8000000 in
set_option maxRecDepth 100000 in
theorem ijoini_any (bm n : Nat) (D : DataW Key) (m : Int → Option Key) (ai : Option Addr) (ni ci : Nat) (xs : List Itm) (hfit : ∀ (k : Nat) (x : Itm), xs[k]? = some x → FitN x.1 ∧ x.2.2.2.2.2.size ≤ 1048576) (hsm : SmlM m) (w : World) (hni : ni ≤ 1000000) (hn : n ≤ 1000000)
    (hm : OwM w bm n D) (hv : MapV D m) (hx : Rw encI 6 w (.slice ai ni ci) xs) :
    Calls Try.prog 50 #[.map (some bm), .slice ai ni ci] w fun e w' => e = .returned (.tuple #[]) ∧ (∃ n' D', OwM w' bm n' D' ∧ n' ≤ n + ni ∧ MapV D' (fm m xs) ∧ SmlM (fm m xs)) ∧ w.grownBy w' (some bm) := by
  have HX := hide hx
  have HM := hide hm
  have HV := hide hv
  have HS := hide hsm
  have HFT := hide hfit
  clear hx hm hv hsm hfit
  go_enter Try.func50, Try.ntmps50
  go_wp2
  go_loopw [8] (fun i wr => ∃ (k n' : Nat) (D' : DataW Key) (m' : Int → Option Key), k ≤ ni ∧ i = .int .i64 k ∧ n' ≤ n + k ∧ OwM wr bm n' D' ∧ MapV D' m' ∧ SmlM m' ∧ fm m' (xs.drop k) = fm m xs ∧ w.grownBy wr (some bm)) (fun i _ => ni - (intOf i).toNat)
  case atStart => exact ⟨0, n, D, m, Nat.zero_le _, rfl, by omega, unhide HM, unhide HV, unhide HS, rfl, grown_refl _ _⟩
  case round =>
    obtain ⟨k, n', D', m', hk, rfl, hn', hM, hV, hS, hrec, hgr⟩ := hrel
    have HM1 := hide hM
    have HV1 := hide hV
    have HS1 := hide hS
    have HR := hide hrec
    have HG := hide hgr
    have RX := hide ((unhide HX).beside encI_len (by omega) (unhide HM) hgr)
    clear hM hV hS hrec hgr
    by_cases hlt : k < ni
    · obtain ⟨x, b, off, hx, rfl, hb, hcap, hc⟩ := (unhide RX).at hlt
      obtain ⟨c0, c1, c2, c3, c4, c5⟩ := item_cells hc
      obtain ⟨hid, hxs⟩ := unhide HFT k x hx
      obtain ⟨g, hg⟩ : ∃ g, mget m' x.1 = g := ⟨_, rfl⟩
      obtain ⟨r, hr⟩ : ∃ r, mx g x.2 = r := ⟨_, rfl⟩
      have hgs : g.2.2.2.2.size ≤ 1048576 := by rw [← hg]; exact mget_sml (unhide HS1) _
      have hrs : r.2.2.2.2.size ≤ 1048576 := by rw [← hr]; exact mx_sml hgs hxs
      have HE := hide (fm_at (m := m') hx)
      rw [unhide HR, hg, hr] at HE
      have HRR := hide hr
      have HID := hide hid
      have hlk := look (unhide HM1) (unhide HV1) hid
      rw [hg] at hlk
      have HLK := hide hlk
      clear hc hx hg hr hlk hid
      go_wp2_with fail
      obtain ⟨W, hW⟩ : ∃ W, W = wr.alloc (.cells #[.int .i64 x.1, .int .i64 x.2.1, .int .i64 x.2.2.1, .int .i64 x.2.2.2.1, .int .i64 x.2.2.2.2.1, .string x.2.2.2.2.2] 110) := ⟨_, rfl⟩
      rw [← hW]
      have hWB : Below wr.heap.size wr W := by rw [hW]; exact (Below.refl _ _).alloc (Nat.le_refl _) _
      have KX : Hid (W.heap[wr.heap.size]? = some (.cells #[.int .i64 x.1, .int .i64 x.2.1, .int .i64 x.2.2.1, .int .i64 x.2.2.2.1, .int .i64 x.2.2.2.2.1, .string x.2.2.2.2.2] 110 (0, 0)) ∧ wr.heap.size < W.heap.size) := by rw [hW]; exact hide ⟨newB1 wr _, by simp⟩
      have KXD : Hid (W.drew.heap[wr.heap.size]? = some (.cells #[.int .i64 x.1, .int .i64 x.2.1, .int .i64 x.2.2.1, .int .i64 x.2.2.2.1, .int .i64 x.2.2.2.2.1, .string x.2.2.2.2.2] 110 (0, 0)) ∧ wr.heap.size < W.drew.heap.size) := KX
      have HMW := hide (owm_later (unhide HM1) hWB)
      have hlk : (Instr.lookup 75 (.map (some bm)) (.int .i64 x.1) false).run Try.prog W.drew = .ok (.agg #[.int .i64 g.1, .int .i64 g.2.1, .int .i64 g.2.2.1, .int .i64 g.2.2.2.1, .string g.2.2.2.2]) W.drew := by
        have h := look (show OwM W.drew bm n' D' from unhide HMW) (unhide HV1) (unhide HID)
        have h2 := unhide HLK
        rw [look (unhide HM1) (unhide HV1) (unhide HID)] at h2
        simp only [Result.ok.injEq, and_true] at h2
        rw [h2] at h
        exact h
      have HWB := hide hWB
      clear hW hWB HLK c0 c1 c2 c3 c4 c5
      have hbmne : bm ≠ wr.heap.size := fun e => by have := (unhide HM1).lt; omega
      go_region_held3 (fun V => V.cell? ⟨wr.heap.size, 0, none⟩ = some (.int .i64 x.1) ∧ V.cell? ⟨wr.heap.size, 1, none⟩ = some (.int .i64 x.2.1) ∧ V.cell? ⟨wr.heap.size, 2, none⟩ = some (.int .i64 x.2.2.1) ∧ V.cell? ⟨wr.heap.size, 3, none⟩ = some (.int .i64 x.2.2.2.1) ∧ V.cell? ⟨wr.heap.size, 4, none⟩ = some (.int .i64 x.2.2.2.2.1) ∧ V.cell? ⟨wr.heap.size, 5, none⟩ = some (.string x.2.2.2.2.2))
        (first | (with_reducible exact keepX (unhide KX).1) | (with_reducible exact keepX (unhide KXD).1) | (with_reducible exact keepX (unhide KX1).1) | (with_reducible exact keepX (unhide KX2).1))
        (first | (go_at_call 83; refine (imaxK_any g x.2 r HRR hgs hxs _).mono ?_; rintro e w1 ⟨rfl, b1⟩; have b1' : Below W.heap.size W w1 := ⟨b1.os, b1.tape, b1.output, b1.size, b1.block⟩; have KX1 := hide (keptblk b1' KX); obtain ⟨w2, hrun, hM2, hG2⟩ := (owm_later (unhide HMW) b1').update klaw Try.underlying75 (by unfold maxLen; omega) (kof (unhide HID)) (RK_mk r); have KX2 := hide (And.intro ((hG2.block _ (unhide KX1).2 (by simp; exact fun e => hbmne e.symm)).trans (unhide KX1).1) (Nat.lt_of_lt_of_le (unhide KX1).2 hG2.size)); have HM2 := hide hM2; have HG2 := hide hG2; have HB1 := hide b1'; clear b1 b1' hM2 hG2))
      have HG3 := hide (grown_trans2 (unhide HG) (grown_trans2 (grown_below _ ((unhide HWB).trans ((unhide HB1).mono (unhide HWB).size))) (unhide HG2)))
      clear HG HWB HB1 HG2 hrun hlk KX KXD KX1 KX2
      go_wp2
      go_roundw
      case rel => exact ⟨k + 1, n' + 1, _, upd m' x.1 r, by omega, by go_num, by omega, unhide HM2, (unhide HV1).put (unhide HM1).isMap (key_lit _) r, upd_sml (unhide HS1) _ hrs, (unhide HE).symm, unhide HG3⟩
      case measure => simp [intOf]; omega
    · have HE : Hid (m' = fm m xs) := by
        have h := unhide HR
        rw [drop_end (unhide HX).len.1 hk hlt] at h
        exact hide h
      go_wp2
      go_end0
      exact ⟨rfl, ⟨n', D', unhide HM1, by omega, unhide HE ▸ unhide HV1, unhide HE ▸ unhide HS1⟩, unhide HG⟩

/-- What is over is dropped, floor by floor. -/
def fd (m : Int → Option Key) : List Flr → Int → Option Key
  | [] => m
  | f :: r => fd (if (mget m f.1).1 ≤ f.2 then cut m f.1 else m) r
theorem fd_hit {m : Int → Option Key} {fs : List Flr} {k : Nat} {f : Flr} {g : Key} (h : fs[k]? = some f) (hg : mget m f.1 = g) (hd : decide (g.1 ≤ f.2) = true) : fd m (fs.drop k) = fd (cut m f.1) (fs.drop (k + 1)) := by
  rw [drop_at h, fd, hg, if_pos (of_decide_eq_true hd)]
theorem fd_miss {m : Int → Option Key} {fs : List Flr} {k : Nat} {f : Flr} {g : Key} (h : fs[k]? = some f) (hg : mget m f.1 = g) (hd : decide (g.1 ≤ f.2) = false) : fd m (fs.drop k) = fd m (fs.drop (k + 1)) := by
  rw [drop_at h, fd, hg, if_neg (of_decide_eq_false hd)]

set_option maxHeartbeats 8000000 in
set_option maxRecDepth 100000 in
theorem idrop_any (bm n : Nat) (D : DataW Key) (m : Int → Option Key) (af : Option Addr) (nf cf : Nat) (fs : List Flr) (hfit : ∀ (k : Nat) (x : Flr), fs[k]? = some x → FitN x.1) (hsm : SmlM m) (w : World) (hnf : nf ≤ 1000000)
    (hm : OwM w bm n D) (hv : MapV D m) (hx : Rw encF 2 w (.slice af nf cf) fs) :
    Calls Try.prog 51 #[.map (some bm), .slice af nf cf] w fun e w' => e = .returned (.tuple #[]) ∧ (∃ D', OwM w' bm n D' ∧ MapV D' (fd m fs) ∧ SmlM (fd m fs)) ∧ w.grownBy w' (some bm) := by
  have HX := hide hx
  have HM := hide hm
  have HV := hide hv
  have HS := hide hsm
  have HFT := hide hfit
  clear hx hm hv hsm hfit
  go_enter Try.func51, Try.ntmps51
  go_wp2
  go_loopw [8] (fun i wr => ∃ (k : Nat) (D' : DataW Key) (m' : Int → Option Key), k ≤ nf ∧ i = .int .i64 k ∧ OwM wr bm n D' ∧ MapV D' m' ∧ SmlM m' ∧ fd m' (fs.drop k) = fd m fs ∧ w.grownBy wr (some bm)) (fun i _ => nf - (intOf i).toNat)
  case atStart => exact ⟨0, D, m, Nat.zero_le _, rfl, unhide HM, unhide HV, unhide HS, rfl, grown_refl _ _⟩
  case round =>
    obtain ⟨k, D', m', hk, rfl, hM, hV, hS, hrec, hgr⟩ := hrel
    have HM1 := hide hM
    have HV1 := hide hV
    have HS1 := hide hS
    have HR := hide hrec
    have HG := hide hgr
    have RX := hide ((unhide HX).beside encF_len (by omega) (unhide HM) hgr)
    clear hM hV hS hrec hgr
    by_cases hlt : k < nf
    · obtain ⟨x, b, off, hx, rfl, hb, hcap, hc⟩ := (unhide RX).at hlt
      have c0 : wr.cell? ⟨b, off + k * 2, none⟩ = some (.int .i64 x.1) := hc 0 (by omega)
      have c1 : wr.cell? ⟨b, off + k * 2 + 1, none⟩ = some (.int .i64 x.2) := hc 1 (by omega)
      have hid := unhide HFT k x hx
      obtain ⟨g, hg⟩ : ∃ g, mget m' x.1 = g := ⟨_, rfl⟩
      have HMW := hide (owm_later (unhide HM1) ((Below.refl wr.heap.size wr).alloc (Nat.le_refl _) (.cells #[.int .i64 x.1, .int .i64 x.2] 112)))
      have hlk := look (unhide HMW) (unhide HV1) hid
      rw [hg] at hlk
      have HK := hide (kof hid)
      have hf0 := field0 g
      rcases Bool.eq_false_or_eq_true (decide (g.1 ≤ x.2)) with hle | hle
      · have HE := hide (fd_hit hx hg hle)
        rw [unhide HR] at HE
        clear hc hx hg hid
        go_wp2_with (first | (at_delete; refine wpList_delete_own _ rfl _ _ 75 3 rfl 83 klaw Try.underlying75 RK bm n D' rfl (unhide HMW) _ _ rfl (unhide HK) ?_; intro w1 hM2 ht2; have HM2 := hide hM2; have HT2 := hide ht2.grown; clear hM2 ht2))
        go_roundw
        case rel => exact ⟨k + 1, _, cut m' x.1, by omega, by go_num, unhide HM2, (unhide HV1).del _, cut_sml (unhide HS1) _, (unhide HE).symm, grown_trans2 (unhide HG) (grown_trans2 (World.grownBy_alloc _ _ _) (unhide HT2))⟩
        case measure => simp [intOf]; omega
      · have HE := hide (fd_miss hx hg hle)
        rw [unhide HR] at HE
        clear hc hx hg hid
        go_wp2
        go_roundw
        case rel => exact ⟨k + 1, D', m', by omega, by go_num, unhide HMW, unhide HV1, unhide HS1, (unhide HE).symm, grown_trans2 (unhide HG) (World.grownBy_alloc _ _ _)⟩
        case measure => simp [intOf]; omega
    · have HE : Hid (m' = fd m fs) := by
        have h := unhide HR
        rw [drop_end (unhide HX).len.1 hk hlt] at h
        exact hide h
      go_wp2
      go_end0
      exact ⟨rfl, ⟨D', unhide HM1, unhide HE ▸ unhide HV1, unhide HE ▸ unhide HS1⟩, unhide HG⟩
end Go.Proofs.Ytighiahppjekeaa

namespace Go.Proofs.Ytighiahppjekeaa
open Go.RowKit Go.Maps

theorem ent_cons (x : Itm) (r : List Itm) (id : Int) : ent (x :: r) id = if x.1 = id then some x.2 else ent r id := by
  unfold ent
  rw [List.find?_cons]
  by_cases h : x.1 = id
  · simp [h]
  · rw [show (x.1 == id) = false by simpa using h, if_neg h]
theorem fm_ent : ∀ (xs : List Itm) (m : Int → Option Key), xs.Pairwise (fun a b => a.1 < b.1) → ∀ id, fm m xs id = (match ent xs id with
    | some e => some (mx (mget m id) e)
    | none => m id)
  | [], m, _, id => rfl
  | x :: r, m, h, id => by
    obtain ⟨h1, h2⟩ := List.pairwise_cons.1 h
    rw [fm, fm_ent r _ h2 id, ent_cons]
    by_cases hx : x.1 = id
    · subst hx
      have : ent r x.1 = none := by
        cases hq : ent r x.1 with
        | none => rfl
        | some e => have := h1 _ ((ent_iff h2).1 hq); simp at this
      rw [this]
      simp [upd]
    · rw [if_neg hx]
      have hu : upd m x.1 (mx (mget m x.1) x.2) id = m id := by rw [upd, if_neg (Ne.symm hx)]
      have hg : mget (upd m x.1 (mx (mget m x.1) x.2)) id = mget m id := by rw [mget, hu, mget]
      rw [hu, hg]
theorem mx_zero {e : Key} (h : 1 ≤ e.1) : mx zeroK e = e := by
  have : keyC zeroK e < 0 := by
    have : cmpI 0 e.1 = -1 := by unfold cmpI; rw [if_pos (by omega)]
    unfold keyC lexC
    rw [show zeroK.1 = 0 from rfl, this]
    simp
  rw [mx, if_pos this]
theorem fd_none : ∀ (fs : List Flr) (m : Int → Option Key) (id : Int), m id = none → fd m fs id = none
  | [], _, _, h => h
  | f :: r, m, id, h => by
    rw [fd]
    refine fd_none r _ id ?_
    split
    · rw [cut]; split
      · rfl
      · exact h
    · exact h
theorem fd_at : ∀ (fs : List Flr) (m : Int → Option Key), fs.Pairwise (fun a b => a.1 < b.1) → (∀ f ∈ fs, 1 ≤ f.2) → ∀ (id : Int) (e : Key), m id = some e → 1 ≤ e.1 → fd m fs id = if e.1 ≤ flo fs id then none else some e
  | [], m, _, _, id, e, h, he => by rw [fd, h, if_neg (by show ¬ e.1 ≤ 0; omega)]
  | f :: r, m, hp, h1, id, e, h, he => by
    obtain ⟨p1, p2⟩ := List.pairwise_cons.1 hp
    rw [fd]
    by_cases hf : f.1 = id
    · have hfl : flo (f :: r) id = f.2 := flo_mem hp (by rw [← hf]; simp)
      have hg : mget m f.1 = e := by rw [mget, hf, h]; rfl
      rw [hfl, hg]
      by_cases hle : e.1 ≤ f.2
      · rw [if_pos hle, if_pos hle]
        exact fd_none r _ id (by rw [cut, if_pos hf.symm])
      · rw [if_neg hle, if_neg hle, fd_at r m p2 (fun g hg => h1 g (by simp [hg])) id e h he]
        have : flo r id = 0 := by
          by_cases hc : flo r id = 0
          · exact hc
          · have := p1 _ ((flo_pos p2 hc).1 rfl)
            simp only at this; omega
        rw [this, if_neg (by omega)]
    · have hfl : flo (f :: r) id = flo r id := by
        unfold flo
        rw [List.find?_cons, show (f.1 == id) = false by simpa using hf]
      rw [hfl]
      refine fd_at r _ p2 (fun g hg => h1 g (by simp [hg])) id e ?_ he
      split
      · rw [cut, if_neg (Ne.symm hf)]; exact h
      · exact h
section
variable {xs ys : List Itm} {fs gs : List Flr}
theorem map_join (hx : OkS xs fs) (hy : OkS ys gs) (id : Int) : fm (fm (fun _ => none) xs) ys id = jE (ent xs id) (ent ys id) := by
  have h1 : fm (fun _ => none) xs id = ent xs id := by
    rw [fm_ent xs _ hx.px]
    cases hq : ent xs id with
    | none => rfl
    | some e =>
      show some (mx zeroK e) = _
      rw [mx_zero (okE_inc (hx.ent_in hq).2.2.1).1]
  rw [fm_ent ys _ hy.px]
  cases hq : ent ys id with
  | none =>
    rw [h1]
    cases ent xs id <;> rfl
  | some e =>
    show some (mx (mget (fm (fun _ => none) xs) id) e) = _
    rw [mget, h1]
    cases ent xs id with
    | none => show some (mx zeroK e) = some e; rw [mx_zero (okE_inc (hy.ent_in hq).2.2.1).1]
    | some d => rfl
theorem map_end (hx : OkS xs fs) (hy : OkS ys gs) (x : Itm) : x ∈ joinI xs fs ys gs ↔ FitN x.1 ∧ fd (fm (fm (fun _ => none) xs) ys) (joinF fs gs) x.1 = some x.2 := by
  have hm := map_join hx hy x.1
  rw [joinI, mem_jI]
  cases hj : jE (ent xs x.1) (ent ys x.1) with
  | none =>
    rw [hj] at hm
    rw [fd_none _ _ _ hm]
    simp
  | some e =>
    rw [hj] at hm
    have hin := hx.jE_in hy hj
    have he := okE_inc hin.2.2
    rw [fd_at (joinF fs gs) _ (jF_pair 5) (fun f hf => (mem_jF.1 hf).2.2.1) x.1 e hm he.1, join_flo hx hy]
    constructor
    · rintro ⟨_, _, h3, h4⟩
      cases h3
      rw [if_neg (by omega)]
      exact ⟨by unfold FitN; omega, rfl⟩
    · rintro ⟨_, h⟩
      split at h
      · cases h
      · cases h
        exact ⟨hin.1, by omega, rfl, by omega⟩
end
end Go.Proofs.Ytighiahppjekeaa

namespace Go.Proofs.Ytighiahppjekeaa
open Go.RowKit Go.Maps Go.Sort

theorem flat_list {α : Type} [Inhabited α] {enc : α → List Value} {k : Nat} (h0 : 0 < k) (hk : ∀ x, (enc x).length = k) (d : Array α) : (flatK enc k d).toList = d.toList.flatMap enc := by
  apply List.ext_getElem?
  intro m
  obtain ⟨e, hr⟩ := div_parts h0 m
  by_cases hm : m < d.size * k
  · have hq : m / k < d.size := Nat.div_lt_of_lt_mul (by rw [Nat.mul_comm]; exact hm)
    have e1 : (flatK enc k d).toList[m]? = some ((enc d[m / k]!)[m % k]!) := by
      rw [← get_flatK enc k d m hm, Array.getElem?_toList, Array.getElem?_eq_getElem (by simpa using hm), getElem!_pos _ m (by simpa using hm)]
    rw [e1]
    conv => rhs; rw [e]
    have hd : d.toList[m / k]? = some d[m / k]! := by
      rw [Array.getElem?_toList, Array.getElem?_eq_getElem hq, getElem!_pos d (m / k) hq]
    rw [flat_at hk _ (m / k) d[m / k]! (m % k) hd hr]
    have hl : m % k < (enc d[m / k]!).length := by rw [hk]; exact hr
    rw [List.getElem?_eq_getElem hl, getElem!_pos _ (m % k) hl]
  · rw [flat_none hk _ _ (by simpa using hm), List.getElem?_eq_none (by simpa using hm)]

theorem holds_ow {α : Type} [Inhabited α] {enc : α → List Value} {k : Nat} (h0 : 0 < k) (hk : ∀ x, (enc x).length = k) {e : TypeId} {base : Nat} {w : World} {g n cap : Nat} {xs : List α} (h : Ow enc k e base w (.slice (some ⟨g, 0, none⟩) n cap) xs) (hn : n = xs.length) : HoldsK enc k w g 0 xs.toArray := by
  subst hn
  intro j hj
  have hj' : j < xs.length * k := by simpa using hj
  refine ⟨?_, ?_⟩
  · rw [Nat.zero_add, World.ownsRow.cellAt h j hj', ← (show xs.toArray.toList = xs from rfl), ← flat_list h0 hk xs.toArray, Array.getElem?_toList, Array.getElem?_eq_getElem (by simpa using hj), getElem!_pos _ j (by simpa using hj)]
    rfl
  · rw [Nat.zero_add]; exact World.ownsRow.frozenAt h j

theorem heap_sorted6 {w : World} {g m : Nat} {os : Array Obj} {cur : Array Value} {e : TypeId} {fr : Nat × Nat} (F : Array Value) (hb : w.heap[g]? = some (.cells cur e fr)) :
    (grow (putRow id (Sort.ahead w m) g 0 F) os).heap[g]? = some (.cells (putCells id 0 F cur) e fr) := by
  have hg : g < w.heap.size := (Array.getElem?_eq_some_iff.1 hb).1
  rw [heap_grow_old _ _ (by simpa using hg)]
  simp [putRow, mapBlock, Sort.ahead, Array.getElem?_modify, hb, onCells]
theorem grown_sorted {α : Type} {enc : α → List Value} {k : Nat} [Inhabited α] {w : World} {g m : Nat} {os : Array Obj} (d : Array α) : w.grownBy (sortWorldK enc k w g 0 m d os) (some g) := by
  refine ⟨rfl, rfl, rfl, by simp [sortWorldK, putRowK], fun j hj hne => ?_⟩
  unfold sortWorldK putRowK
  rw [heap_grow_old _ _ (by simpa using hj)]
  have : g ≠ j := fun e => hne (by rw [e])
  simp [putRow, mapBlock, Sort.ahead, Array.getElem?_modify, this]
theorem take_put (cur F : Array Value) (h : F.size ≤ cur.size) : (putCells id 0 F cur).toList.take F.size = F.toList := by
  apply List.ext_getElem?
  intro j
  by_cases hj : j < F.size
  · rw [List.getElem?_take_of_lt hj, Array.getElem?_toList, Array.getElem?_toList]
    simp [putCells, hj, show j < cur.size by omega]
  · rw [List.getElem?_eq_none (by simp; omega), List.getElem?_eq_none (by simpa using hj)]
theorem ow_sorted {α : Type} [Inhabited α] {enc : α → List Value} {k : Nat} (h0 : 0 < k) (hk : ∀ x, (enc x).length = k) {e : TypeId} {base : Nat} {w : World} {g n cap m : Nat} {os : Array Obj} {xs : List α} (h : Ow enc k e base w (.slice (some ⟨g, 0, none⟩) n cap) xs) (hn : n = xs.length) (d : Array α) (hd : d.size = n) :
    Ow enc k e base (sortWorldK enc k w g 0 m d os) (.slice (some ⟨g, 0, none⟩) n cap) d.toList := by
  have hl : d.toList.length = n := by simpa using hd
  rcases h.2 with ⟨hv, _⟩ | ⟨g', cap', cur, hv, hb, hg, hnc, hcm, hcs, htake⟩
  · simp at hv
  · simp only [Value.slice.injEq, Option.some.injEq, Addr.mk.injEq, and_true] at hv
    obtain ⟨rfl, hn2, rfl⟩ := hv
    unfold Ow
    rw [hl]
    refine ⟨by rw [flat_len hk, hl], .inr ⟨g, cap, _, rfl, hb, heap_sorted6 _ hg, by omega, hcm, by simp [putCells, hcs], ?_⟩⟩
    have hsz : (flatK enc k d).size = n * k := by rw [size_flatK, hd]
    rw [← hsz, take_put cur _ (by rw [hsz, hcs]; exact Nat.mul_le_mul_right _ (by omega)), flat_list h0 hk]

theorem cmpI_lt (x y : Itm) : ltOf (fun x y : Itm => cmpI x.1 y.1) x y = decide (x.1 < y.1) := by
  unfold ltOf cmpI
  by_cases h1 : x.1 < y.1
  · simp [h1]
  · by_cases h2 : y.1 < x.1 <;> simp [h1, h2]
theorem swoI : SWO (ltOf fun x y : Itm => cmpI x.1 y.1) where
  irrefl x := by rw [cmpI_lt]; simp
  trans x y z h1 h2 := by rw [cmpI_lt] at *; simp at *; omega
  ntrans x y z h1 h2 := by rw [cmpI_lt] at *; simp at *; omega

set_option maxHeartbeats 1000000 in
theorem closure_any (x y : Itm) (W : World) : Calls Try.prog 85 #[.agg #[.int .i64 x.1, .int .i64 x.2.1, .int .i64 x.2.2.1, .int .i64 x.2.2.2.1, .int .i64 x.2.2.2.2.1, .string x.2.2.2.2.2], .agg #[.int .i64 y.1, .int .i64 y.2.1, .int .i64 y.2.2.1, .int .i64 y.2.2.2.1, .int .i64 y.2.2.2.2.1, .string y.2.2.2.2.2]] W fun e w' => e = .returned (.int .i64 (cmpI x.1 y.1)) ∧ ∃ q os', w' = grow (W.drewN q) os' := by
  go_enter Try.func85, Try.ntmps85
  go_wp2_with fail
  refine (cmpi_is x.1 y.1 _).mono ?_
  rintro e _ ⟨rfl, rfl⟩
  go_wp2
  go_ret
  exact ⟨rfl, 0, _, by rw [alloc_eq_grow, alloc_eq_grow, grow_grow]; rfl⟩
theorem cmpLays (blk off size : Nat) (w : World) : CmpLays Try.prog 85 #[] encI 6 (fun x y => cmpI x.1 y.1) blk off size w :=
  fun _ _ _ _ x y => closure_any x y _
theorem lenAny (n : Nat) (W : World) (h : n ≤ 12) : Calls Try.prog 105 #[.int .u64 n] W fun e w' => (∃ l : Int, e = .returned (.int .i64 l)) ∧ w' = W :=
  (Try.bits_Len n W (by omega) (by omega)).mono fun _ _ ⟨he, hw⟩ => ⟨⟨_, he⟩, hw⟩

set_option maxHeartbeats 1000000 in
theorem ins_none (p : Option Addr) (cap : Nat) (fv : Value) (w : World) :
    Calls Try.prog 115 #[.slice p 0 cap, .int .i64 0, .int .i64 0, fv] w fun e w' => e = .returned (.tuple #[]) ∧ w' = w := by
  go_enter Try.func115, Try.ntmps115
  go_wp2
  refine wp_loop_rounds 1 ?_
  rw [rounds_succ]
  go_wp2
  go_end0
  exact ⟨rfl, rfl⟩
set_option maxHeartbeats 1000000 in
theorem pdq_none (p : Option Addr) (cap : Nat) (lim : Int) (fv : Value) (w : World) :
    Calls Try.prog 104 #[.slice p 0 cap, .int .i64 0, .int .i64 0, .int .i64 lim, fv] w fun e w' => e = .returned (.tuple #[]) ∧ w' = w := by
  go_enter Try.func104, Try.ntmps104
  go_wp2
  refine wp_loop_rounds 1 ?_
  rw [rounds_succ]
  go_wp2_with (go_at_call 115; refine (ins_none _ _ _ _).mono ?_; rintro e w' ⟨rfl, rfl⟩)
  (try simp only [Exit.inBlock, Exit.then]); refine bodyPost_ret (results_none rfl _ _ _) rfl ?_
  exact ⟨rfl, rfl⟩
set_option maxHeartbeats 1000000 in
theorem sort_none (p : Option Addr) (cap : Nat) (fv : Value) (w : World) :
    Calls Try.prog 84 #[.slice p 0 cap, fv] w fun e w' => e = .returned (.tuple #[]) ∧ w' = w := by
  have hl : ∀ W, Calls Try.prog 105 #[.int .u64 0] W fun e w' => e = .returned (.int .i64 (Lib.bitLen 0 : Nat)) ∧ w' = W := fun W => Try.bits_Len 0 W (by omega) (by omega)
  go_enter Try.func84, Try.ntmps84
  go_wp2_with (first | (go_at_call 105; refine (hl _).mono ?_; rintro e w' ⟨rfl, rfl⟩) | (go_at_call 104; refine (pdq_none _ _ _ _ _).mono ?_; rintro e w' ⟨rfl, rfl⟩))
  go_end0
  exact ⟨rfl, rfl⟩

theorem sorted_list {d : Array Itm} {n : Nat} (hn : d.size = n) (h : SortedIn (ltOf fun x y : Itm => cmpI x.1 y.1) 0 n d) : d.toList.Pairwise (fun a b => a.1 ≤ b.1) := by
  rw [List.pairwise_iff_getElem]
  intro i j hi hj hij
  have := h i j (Nat.zero_le _) hij (by simp at hj; omega)
  rw [cmpI_lt, getElem!_pos d j (by simpa using hj), getElem!_pos d i (by simpa using hi)] at this
  simp at this
  simpa using this
theorem perm_list {d d' : Array Itm} (h : PermIn 0 d.size d d') : d'.toList.Perm d.toList := by
  obtain ⟨h1, _, h3⟩ := h
  have e : d'.extract 0 d.size = d' := by rw [← h1]; simp
  rw [e] at h3
  simpa using h3
/-- Sorted, by numbers of which none stands twice, it is one list. -/
theorem one_list {m : Int → Option Key} {ts ss rs : List Itm} (ht : ts.Pairwise (fun a b => a.1 < b.1)) (hm : ∀ x : Itm, x ∈ ts ↔ FitN x.1 ∧ m x.1 = some x.2) (hs : (ss.map (·.1)).Nodup) (hsm : ∀ x : Itm, x ∈ ss ↔ FitN x.1 ∧ m x.1 = some x.2)
    (hp : rs.Perm ss) (hr : rs.Pairwise (fun a b => a.1 ≤ b.1)) : rs = ts ∧ ss.length = ts.length := by
  have nt : ts.Nodup := ht.imp (fun h e => by rw [e] at h; omega)
  have ns : ss.Nodup := (List.pairwise_map.1 hs).imp (fun h e => h (by rw [e]))
  have pst : ss.Perm ts := (List.perm_ext_iff_of_nodup ns nt).2 (fun x => (hsm x).trans (hm x).symm)
  refine ⟨List.Perm.eq_of_pairwise ?_ hr (ht.imp (fun h => by omega)) (hp.trans pst), pst.length_eq⟩
  intro a b ha hb h1 h2
  have qa := (hsm a).1 (hp.mem_iff.1 ha)
  have qb := (hm b).1 hb
  have e : a.1 = b.1 := by omega
  have e2 : a.2 = b.2 := by
    have := qa.2
    rw [e, qb.2] at this
    exact (Option.some.inj this).symm
  exact Prod.ext e e2
end Go.Proofs.Ytighiahppjekeaa

namespace Go.Proofs.Ytighiahppjekeaa
open Go.RowKit Go.Maps Go.Sort

theorem fit_wf {n : Int} (h : (Lit.int .i64 n).wf = true) : FitN n := by
  unfold FitN
  simp [Lit.wf, IntKind.min, IntKind.max, IntKind.bits, IntKind.signed] at h
  omega
/-- What was met so far: no node twice, and just what the map holds and is no longer to come. -/
def Coll (m : Int → Option Key) (left : Lit → Bool) (ss : List Itm) : Prop := (ss.map (·.1)).Nodup ∧ ∀ x : Itm, x ∈ ss ↔ FitN x.1 ∧ m x.1 = some x.2 ∧ left (.int .i64 x.1) = false
theorem map_has {D : DataW Key} {m : Int → Option Key} (hv : MapV D m) {id : Int} {e : Key} (h1 : FitN id) (h2 : m id = some e) : Maps.has D (.int .i64 id) = true := by
  refine has_true_of_atKey (y := .held e) (fun z => ?_)
  rw [hv id h1 z, h2]
theorem map_at {D : DataW Key} {m : Int → Option Key} (hv : MapV D m) {id : Int} {e : Key} (h1 : FitN id) (h2 : ∀ z, D.atKey (.int .i64 id) z = .held e) : m id = some e := by
  cases hm : m id with
  | some x =>
    have := (hv id h1 (.held e)).symm.trans (h2 _)
    rw [hm] at this
    simp only [DataW.held.injEq] at this
    rw [this]
  | none =>
    have := (hv id h1 (.map [])).symm.trans (h2 _)
    rw [hm] at this
    simp at this
theorem Coll.start {D : DataW Key} {m : Int → Option Key} (hv : MapV D m) : Coll m (Maps.has D) [] := by
  refine ⟨by simp, fun x => ⟨fun h => by simp at h, fun ⟨h1, h2, h3⟩ => ?_⟩⟩
  rw [map_has hv h1 h2] at h3
  cases h3
theorem Coll.step {D : DataW Key} {m : Int → Option Key} (hv : MapV D m) {left : Lit → Bool} {ss : List Itm} (h : Coll m left ss) {id : Int} {e : Key} (h1 : FitN id) (hl : left (.int .i64 id) = true) (hat : ∀ z, D.atKey (.int .i64 id) z = .held e) :
    Coll m (fun z => left z && !z.sameKey (.int .i64 id)) (ss ++ [(id, e)]) := by
  have hm := map_at hv h1 hat
  have hnew : ∀ x ∈ ss, x.1 ≠ id := fun x hx q => by
    have := ((h.2 x).1 hx).2.2
    rw [q, hl] at this
    cases this
  refine ⟨?_, fun x => ?_⟩
  · rw [List.map_append]
    refine List.nodup_append.2 ⟨h.1, by simp, fun a ha b hb => ?_⟩
    simp at hb
    subst hb
    obtain ⟨x, hx, rfl⟩ := List.mem_map.1 ha
    exact hnew x hx
  · rw [List.mem_append, h.2 x]
    simp only [List.mem_singleton]
    by_cases hy : x.1 = id
    · constructor
      · rintro (⟨a, b, c⟩ | rfl)
        · rw [hy, hl] at c; cases c
        · exact ⟨h1, hm, by simp [Lit.sameKey]⟩
      · rintro ⟨a, b, _⟩
        right
        rw [hy, hm] at b
        exact Prod.ext hy (Option.some.inj b).symm
    · have : (left (.int .i64 x.1) && !(Lit.int .i64 x.1).sameKey (.int .i64 id)) = left (.int .i64 x.1) := by simp [Lit.sameKey, hy]
      rw [this]
      constructor
      · rintro (q | rfl)
        · exact q
        · exact absurd rfl hy
      · exact .inl
theorem Coll.len {m : Int → Option Key} {left : Lit → Bool} {ss ts : List Itm} (h : Coll m left ss) (ht : ts.Pairwise (fun a b => a.1 < b.1)) (hm : ∀ x : Itm, x ∈ ts ↔ FitN x.1 ∧ m x.1 = some x.2) : ss.length ≤ ts.length := by
  classical
  have ns : ss.Nodup := (List.pairwise_map.1 h.1).imp (fun h e => h (by rw [e]))
  have nt : ts.Nodup := ht.imp (fun h e => by rw [e] at h; omega)
  have hp : ss.Perm (ts.filter (fun x => decide (x ∈ ss))) := by
    refine (List.perm_ext_iff_of_nodup ns (nt.filter _)).2 (fun x => ?_)
    rw [List.mem_filter, decide_eq_true_eq]
    refine ⟨fun hx => ⟨?_, hx⟩, fun q => q.2⟩
    have := (h.2 x).1 hx
    exact (hm x).2 ⟨this.1, this.2.1⟩
  rw [hp.length_eq]
  exact List.length_filter_le _ _

theorem row_no_iter {base : Nat} {e : TypeId} {k : Nat} {w : World} {v : Value} {n : Nat} {xs : List Value} (h : w.ownsRow base e k v n xs) {K : TypeId} {b r N : Nat} {D : DataW Key} {left : Lit → Bool} {cnt : Nat} (hr : w.ranges Try.prog K RK b r N D left cnt) : v.ownBlock ≠ some r := by
  intro q
  obtain ⟨es, clock, since, seen, c0, _, _, _, _, hh2, _⟩ := hr
  rcases h.2 with ⟨rfl, _⟩ | ⟨g', cap, cur, rfl, _, hh, _⟩
  · cases q
  · simp only [Value.ownBlock, Option.some.injEq] at q
    subst q
    rw [hh] at hh2
    cases hh2

set_option maxHeartbeats 8000000 in
set_option maxRecDepth 100000 in
theorem iorder_any (bm n : Nat) (D : DataW Key) (m : Int → Option Key) (ts : List Itm) (ht : ts.Pairwise (fun a b => a.1 < b.1)) (hmt : ∀ x : Itm, x ∈ ts ↔ FitN x.1 ∧ m x.1 = some x.2) (h12 : ts.length ≤ 12) (w : World)
    (hm : OwM w bm n D) (hv : MapV D m) :
    Calls Try.prog 52 #[.map (some bm)] w fun e w' => ∃ a2 n2 c2, e = .returned (.slice a2 n2 c2) ∧ OwI w.heap.size w' (.slice a2 n2 c2) ts ∧ Below w.heap.size w w' := by
  obtain ⟨i1, gi, gz0, gz1, gz2⟩ := info_parts Try.infoItem
  have HM := hide hm
  have HV := hide hv
  have HT := hide ht
  have HMT := hide hmt
  have hbm : bm < w.heap.size := hm.lt
  clear hm hv ht hmt
  go_enter Try.func52, Try.ntmps52
  go_wp2_with (first | (at_range; refine wpList_range_own _ rfl _ 75 rfl 3 83 klaw Try.underlying75 RK bm n D rfl (unhide HM) ?_; intro w0 hrg0 hg0 hs0; have HR0 := hide hrg0; have HG0 := hide hg0; clear hrg0 hg0 hs0))
  go_frame
  go_loopw [3] (fun v wr => ∃ (left : Lit → Bool) (cnt : Nat) (ss : List Itm) (a2 : Option Addr) (n2 c2 : Nat), v = .slice a2 n2 c2 ∧ wr.ranges Try.prog 3 RK bm w.heap.size n D left cnt ∧ OwI w.heap.size wr (.slice a2 n2 c2) ss ∧ Coll m left ss ∧ Below w.heap.size w wr) (fun _ wr => wr.rangeLeft bm w.heap.size)
  case atStart => exact ⟨_, _, [], none, 0, 0, rfl, unhide HR0, World.ownsRow_nil _ _ _ _, Coll.start (unhide HV), ⟨(unhide HG0).os, (unhide HG0).tape, (unhide HG0).output, (unhide HG0).size, fun i hi => (unhide HG0).block i hi (by simp)⟩⟩
  case round =>
    obtain ⟨left, cnt, ss, a2, n2, c2, rfl, hrg, hown, hcoll, hbel⟩ := hrel
    have HRG := hide hrg
    have HO := hide hown
    have HC := hide hcoll
    have HB := hide hbel
    have hsz := hbel.size
    have hlt := hrg.lt
    clear hrg hown hcoll hbel HR0 HG0
    go_wp2_with (first | (at_next; refine wpList_next_ranges _ rfl _ rfl 3 klaw RK (Value.int .i64) (fun e : Key => .agg #[.int .i64 e.1, .int .i64 e.2.1, .int .i64 e.2.2.1, .int .i64 e.2.2.2.1, .string e.2.2.2.2]) (fun key kl hkey => by obtain ⟨x, rfl, _⟩ := Maps.keyOf_int_inv Try.underlying3 hkey; exact ⟨x, rfl⟩) (fun v y hv => by obtain ⟨c, rfl, _⟩ := RK_inv hv; exact ⟨c, rfl⟩) bm w.heap.size n D left cnt rfl (unhide HRG) ?_ ?_))
    · intro hc0 hl0
      have hsm : ∀ x : Itm, x ∈ ss ↔ FitN x.1 ∧ m x.1 = some x.2 := fun x => by rw [(unhide HC).2 x, hl0]; simp
      have hlen := (unhide HC).len (unhide HT) (unhide HMT)
      have HSM := hide hsm
      have HND := hide (unhide HC).1
      clear hc0 hl0 hsm HC
      rcases (unhide HO).2 with ⟨hv, h0⟩ | ⟨g, cap, cur, hv, hb, hg, _⟩
      · simp only [Value.slice.injEq] at hv
        obtain ⟨rfl, rfl, rfl⟩ := hv
        obtain rfl : ss = [] := List.eq_nil_of_length_eq_zero h0
        obtain ⟨rfl, -⟩ := one_list (unhide HT) (unhide HMT) (unhide HND) (unhide HSM) (List.Perm.refl _) List.Pairwise.nil
        clear h0 hlen
        go_wp2_with (go_at_call 84; refine (sort_none _ _ _ _).mono ?_; rintro e w' ⟨rfl, rfl⟩)
        go_ret
        exact ⟨none, 0, 0, rfl, unhide HO, unhide HB⟩
      · simp only [Value.slice.injEq] at hv
        obtain ⟨rfl, rfl, rfl⟩ := hv
        have hgs : g < wr.heap.size := (Array.getElem?_eq_some_iff.1 hg).1
        clear hg
        go_wp2_with (go_at_call 84; refine (Try.sort_items encI encI_len oneI (fun x y : Itm => cmpI x.1 y.1) 85 swoI g 0 c2 ss.toArray _ (enters_of Try.func85 (by kernel_rfl) rfl) (cmpLays _ _ _ _) (holds_ow (by omega) encI_len (unhide HO) rfl) hgs (by simpa using Nat.le_trans hlen h12) lenAny).mono ?_; rintro e w' ⟨rfl, d', nn, os, hp, hs, rfl⟩)
        obtain ⟨he, hel⟩ := one_list (unhide HT) (unhide HMT) (unhide HND) (unhide HSM) (by simpa using perm_list hp) (sorted_list (by rw [hp.1]) hs)
        have HO1 : Hid (OwI w.heap.size (sortWorldK encI 6 wr g 0 nn d' os) (.slice (some ⟨g, 0, none⟩) ss.length c2) ts) := hide (he ▸ ow_sorted (by omega) encI_len (unhide HO) rfl d' (by rw [hp.1]; simp))
        have HG := hide (grown_sorted (enc := encI) (k := 6) (w := wr) (g := g) (m := nn) (os := os) d')
        generalize sortWorldK encI 6 wr g 0 nn d' os = W at HO1 HG ⊢
        clear hp hs
        go_wp2
        go_ret
        refine ⟨some ⟨g, 0, none⟩, ss.length, c2, rfl, unhide HO1, (Trn.of_grown (unhide HG)).below (unhide HB) hsz ?_⟩
        intro i q
        cases q
        exact hb
    · intro x c0 c1 c2' c3 c4 kl yd yp w1 cnt1 hkey hlk hvv hat hrg1 hlt1 hg1 hs1 hen
      obtain ⟨x', ex, rfl, hwx⟩ := Maps.keyOf_int_inv Try.underlying3 hkey
      cases ex
      have hvv2 : some ((.held (c0, c1, c2', c3, c4), []) : DataW Key × List MemPlace) = some (yd, yp) := hvv
      simp only [Option.some.injEq, Prod.mk.injEq] at hvv2
      obtain ⟨rfl, rfl⟩ := hvv2
      have hx := fit_wf hwx
      have HC1 := hide ((unhide HC).step (unhide HV) hx hlk hat)
      have hne := row_no_iter (unhide HO) (unhide HRG)
      have HO1 : Hid (OwI w.heap.size w1 (.slice a2 n2 c2) ss) := hide ((unhide HO).kept hg1 (.inr hne))
      have HB1 : Hid (Below w.heap.size w w1) := hide ((Trn.of_grown hg1).below (unhide HB) hsz (fun i q => by cases q; exact Nat.le_refl _))
      have HR1 := hide hrg1
      have HL : Hid (w1.rangeLeft bm w.heap.size < wr.rangeLeft bm w.heap.size) := hide (by rw [hrg1.left_eq, (unhide HRG).left_eq]; exact hlt1)
      have hw1 : w.heap.size < w1.heap.size := hrg1.lt
      have hn2 : Hid (n2 = ss.length) := hide ((unhide HO).rw encI_len).len.1
      have hn2l : n2 ≤ 12 := by have := unhide hn2; have := (unhide HC).len (unhide HT) (unhide HMT); omega
      clear hkey hlk hvv hat hrg1 hlt1 hg1 hs1 hne HO HB HRG HC hsz hlt hwx
      obtain ⟨V, hV⟩ : ∃ V, V = w1.alloc (.cells #[.int .i64 c0, .int .i64 c1, .int .i64 c2', .int .i64 c3, .string c4] 83) := ⟨_, rfl⟩
      have hV1 : w1.heap.size + 1 = V.heap.size := by rw [hV]; simp
      have HOV : Hid (OwI w.heap.size V (.slice a2 n2 c2) ss) := by rw [hV]; exact hide ((unhide HO1).alloc _)
      have HBV : Hid (Below w.heap.size w V) := by rw [hV]; exact hide ((unhide HB1).alloc (by omega) _)
      have HRV : Hid (V.ranges Try.prog 3 RK bm w.heap.size n D (fun z => left z && !z.sameKey (.int .i64 x)) cnt1) := by rw [hV]; exact hide ((unhide HR1).alloc _)
      have HLV : Hid (V.rangeLeft bm w.heap.size < wr.rangeLeft bm w.heap.size) := hide (by rw [(unhide HRV).left_eq, ← (unhide HR1).left_eq]; exact unhide HL)
      have HV0 := hide hV
      have HV1 := hide hV1
      clear hV hV1
      go_wp2_with (first | (at_builtin; have hV := unhide HV0; have hV1 := unhide HV1; clear HV0 HV1; rw [← hV, hV1]; clear hV; refine wpList_app1 encI_len (by omega) oneI 110 35 i1 _ 56 Try.underlying35 gi gz0 gz1 gz2 rfl (by omega) V (x, (c0, c1, c2', c3, c4)) rfl _ _ rfl w.heap.size _ ss n2 hn2 rfl (unhide HOV) rfl (by omega) (by omega) ?_; intro a2' c2'' w2 hO hG; have HO2 := hide hO; have HB2 := hide ((Trn.of_grown hG).below (unhide HBV) (by omega) (fun i q => (World.ownsRow.lt (unhide HOV) i q).1)); have HR2 := hide ((unhide HRV).kept hG (fun q => by have := World.ownsRow.lt (unhide HOV) _ q.symm; omega) (fun q => row_no_iter (unhide HOV) (unhide HRV) q.symm)); clear hO hG))
      go_roundw
      case rel => exact ⟨_, _, ss ++ [(x, (c0, c1, c2', c3, c4))], a2', n2 + 1, c2'', rfl, unhide HR2, unhide HO2, unhide HC1, unhide HB2⟩
      case measure => rw [(unhide HR2).left_eq, ← (unhide HRV).left_eq]; exact unhide HLV
end Go.Proofs.Ytighiahppjekeaa

namespace Go.Proofs.Ytighiahppjekeaa
open Go.RowKit Go.Maps

theorem asc_len {α : Type} : ∀ (xs : List (Int × α)) (lo : Int), lo ≤ 4 → xs.Pairwise (fun a b => a.1 < b.1) → (∀ x ∈ xs, lo < x.1 ∧ x.1 ≤ 4) → (xs.length : Int) ≤ 4 - lo
  | [], lo, h, _, _ => by simp; omega
  | x :: r, lo, h, hp, hb => by
    obtain ⟨h1, h2⟩ := List.pairwise_cons.1 hp
    have hx := hb x (by simp)
    have := asc_len r x.1 hx.2 h2 (fun y hy => ⟨h1 y hy, (hb y (by simp [hy])).2⟩)
    rw [List.length_cons]; omega
theorem OkS.len {xs : List Itm} {fs : List Flr} (h : OkS xs fs) : xs.length ≤ 5 ∧ fs.length ≤ 5 := by
  have a := asc_len xs (-1) (by omega) h.px (fun x hx => by have := h.ix x hx; omega)
  have b := asc_len fs (-1) (by omega) h.pf (fun x hx => by have := h.jf x hx; omega)
  omega
theorem OkS.fitJ {xs : List Itm} {fs : List Flr} (h : OkS xs fs) (k : Nat) (x : Itm) (hx : xs[k]? = some x) : FitN x.1 ∧ x.2.2.2.2.2.size ≤ 1048576 := by
  have := h.ix x (List.mem_of_getElem? hx)
  have s := okE_size this.2.2.1
  exact ⟨by unfold FitN; omega, by omega⟩
theorem joinF_fit {fs gs : List Flr} (k : Nat) (x : Flr) (hx : (joinF fs gs)[k]? = some x) : FitN x.1 := by
  have := mem_jF.1 (List.mem_of_getElem? hx)
  unfold FitN; omega
theorem grown_own {w w' : World} {b : Nat} (h : w.grownBy w' (some b)) {α : Type} {enc : α → List Value} {k : Nat} {e : TypeId} {base : Nat} {v : Value} {xs : List α} (ho : Ow enc k e base w v xs) (hl : ∀ i, v.ownBlock = some i → i < b) : Ow enc k e base w' v xs :=
  World.ownsRow.kept ho h (.inr (fun q => by have := hl _ q; omega))

set_option maxHeartbeats 8000000 in
set_option maxRecDepth 100000 in
theorem ijoin_any (ai : Option Addr) (ni ci : Nat) (xs : List Itm) (af : Option Addr) (nf cf : Nat) (fs : List Flr) (bi : Option Addr) (mi di : Nat) (ys : List Itm) (bf : Option Addr) (mf df : Nat) (gs : List Flr) (ok : Bool) (h0 : Hid ((okS xs fs && okS ys gs) = ok)) (n1 n2 : Nat) (hn1 : Hid ((jnI ok xs fs ys gs).length = n1)) (hn2 : Hid ((jnF ok fs gs).length = n2)) (w : World)
    (hni : ni ≤ 140737488351232) (hnf : nf ≤ 140737488351232) (hmi : mi ≤ 140737488351232) (hmf : mf ≤ 140737488351232) (hx : Rw encI 6 w (.slice ai ni ci) xs) (hf : Rw encF 2 w (.slice af nf cf) fs) (hy : Rw encI 6 w (.slice bi mi di) ys) (hg : Rw encF 2 w (.slice bf mf df) gs) :
    Calls Try.prog 18 #[.agg #[.slice ai ni ci, .slice af nf cf], .agg #[.slice bi mi di, .slice bf mf df]] w fun e w' => ∃ a1 c1 a2 c2, e = .returned (.tuple #[.agg #[.slice a1 n1 c1, .slice a2 n2 c2], .bool ok]) ∧ OwI w.heap.size w' (.slice a1 n1 c1) (jnI ok xs fs ys gs) ∧ OwF w.heap.size w' (.slice a2 n2 c2) (jnF ok fs gs) ∧ Below w.heap.size w w' := by
  have HX := hide hx
  have HY := hide hy
  have HF := hide hf
  have HG := hide hg
  obtain ⟨okA, hA⟩ : ∃ okA, okS xs fs = okA := ⟨_, rfl⟩
  obtain ⟨okB, hB⟩ : ∃ okB, okS ys gs = okB := ⟨_, rfl⟩
  have hk := unhide h0
  rw [hA, hB] at hk
  have HA := hide hA
  have HB := hide hB
  clear hx hy hf hg hA hB h0
  cases okA
  · obtain rfl : ok = false := hk.symm
    clear hk
    obtain rfl := unhide hn1
    obtain rfl := unhide hn2
    go_enter Try.func18, Try.ntmps18
    go_wp2_with fail
    refine (istateok_any ai ni ci xs af nf cf fs _ HA _ hni hnf ((((unhide HX).alloc _).alloc _).alloc _) ((((unhide HF).alloc _).alloc _).alloc _)).mono ?_
    rintro e w1 ⟨rfl, b1⟩
    obtain ⟨p0, p1, -⟩ := blk_cells2 ((b1.block _ (by simp)).trans (newB3 w _ _ _))
    have HB1 := hide (((((Below.refl w.heap.size w).alloc (Nat.le_refl _) _).alloc (by simp) _).alloc (by simp; omega) _).trans (b1.mono (by simp; omega)))
    have MR := hide ((b1.block _ (by simp)).trans (newB3 w _ _ _))
    obtain ⟨p0, p1, pf⟩ := blk_cells2 (unhide MR)
    clear b1
    go_wp2
    exact bodyPost_ret (v := .tuple #[.agg #[.slice none 0 0, .slice none 0 0], .bool false]) (by simp [results, Try.results18, go_sem, p0, p1]) rfl ⟨none, 0, none, 0, rfl, World.ownsRow_nil _ _ _ _, World.ownsRow_nil _ _ _ _, ((unhide HB1).setCell (p := ⟨w.heap.size + 1 + 1, 0, none⟩) (by simp <;> omega) _).setCell (p := ⟨w.heap.size + 1 + 1, 1, none⟩) (by simp <;> omega) _⟩
  · cases okB
    · obtain rfl : ok = false := hk.symm
      clear hk
      obtain rfl := unhide hn1
      obtain rfl := unhide hn2
      go_enter Try.func18, Try.ntmps18
      go_wp2_with fail
      refine (istateok_any ai ni ci xs af nf cf fs _ HA _ hni hnf ((((unhide HX).alloc _).alloc _).alloc _) ((((unhide HF).alloc _).alloc _).alloc _)).mono ?_
      rintro e w1 ⟨rfl, b1⟩
      obtain ⟨q0, q1, -⟩ := blk_cells2 ((b1.block _ (by simp)).trans (midB3 w _ _ _))
      have HB1 := hide (((((Below.refl w.heap.size w).alloc (Nat.le_refl _) _).alloc (by simp) _).alloc (by simp; omega) _).trans (b1.mono (by simp; omega)))
      have MR := hide ((b1.block _ (by simp)).trans (newB3 w _ _ _))
      have hz1 : w.heap.size + 1 + 1 < w1.heap.size := (Array.getElem?_eq_some_iff.mp (unhide MR)).1
      clear b1
      go_wp2_with fail
      refine (istateok_any bi mi di ys bf mf df gs _ HB _ hmi hmf ((unhide HY).later (unhide HB1)) ((unhide HG).later (unhide HB1))).mono ?_
      rintro e w2 ⟨rfl, b2⟩
      have HB2 := hide ((unhide HB1).trans (b2.mono (unhide HB1).size))
      obtain ⟨p0, p1, pf⟩ := blk_cells2 ((b2.block _ hz1).trans (unhide MR))
      clear b2
      go_wp2
      exact bodyPost_ret (v := .tuple #[.agg #[.slice none 0 0, .slice none 0 0], .bool false]) (by simp [results, Try.results18, go_sem, p0, p1]) rfl ⟨none, 0, none, 0, rfl, World.ownsRow_nil _ _ _ _, World.ownsRow_nil _ _ _ _, ((unhide HB2).setCell (p := ⟨w.heap.size + 1 + 1, 0, none⟩) (by simp <;> omega) _).setCell (p := ⟨w.heap.size + 1 + 1, 1, none⟩) (by simp <;> omega) _⟩
    · obtain rfl : ok = true := hk.symm
      clear hk
      have okA := (okS_iff xs fs).1 (unhide HA)
      have okB := (okS_iff ys gs).1 (unhide HB)
      have OA := hide okA
      have OB := hide okB
      have hni5 : ni ≤ 5 := by have := okA.len.1; have := (unhide HX).len.1; omega
      have hmi5 : mi ≤ 5 := by have := okB.len.1; have := (unhide HY).len.1; omega
      clear okA okB
      have hmm := @run_makeMap Try.prog
      go_enter Try.func18, Try.ntmps18
      go_wp2_with fail
      refine (istateok_any ai ni ci xs af nf cf fs _ HA _ hni hnf ((((unhide HX).alloc _).alloc _).alloc _) ((((unhide HF).alloc _).alloc _).alloc _)).mono ?_
      rintro e w1 ⟨rfl, b1⟩
      have MA := hide ((b1.block _ (by simp; omega)).trans (lowB3 w _ _ _))
      have MB := hide ((b1.block _ (by simp)).trans (midB3 w _ _ _))
      obtain ⟨q0, q1, -⟩ := blk_cells2 (unhide MB)
      have HB1 := hide (((((Below.refl w.heap.size w).alloc (Nat.le_refl _) _).alloc (by simp) _).alloc (by simp; omega) _).trans (b1.mono (by simp; omega)))
      have MR := hide ((b1.block _ (by simp)).trans (newB3 w _ _ _))
      have hz1 : w.heap.size + 1 + 1 < w1.heap.size := (Array.getElem?_eq_some_iff.mp (unhide MR)).1
      clear b1
      go_wp2_with fail
      refine (istateok_any bi mi di ys bf mf df gs _ HB _ hmi hmf ((unhide HY).later (unhide HB1)) ((unhide HG).later (unhide HB1))).mono ?_
      rintro e w2 ⟨rfl, b2⟩
      have HB2 := hide ((unhide HB1).trans (b2.mono (unhide HB1).size))
      have MR2 := hide ((b2.block _ hz1).trans (unhide MR))
      have hz2 : w.heap.size + 1 + 1 < w2.heap.size := (Array.getElem?_eq_some_iff.mp (unhide MR2)).1
      have MA2 := hide ((b2.block _ (by omega)).trans (unhide MA))
      have MB2 := hide ((b2.block _ (by omega)).trans (unhide MB))
      obtain ⟨r0, r1, -⟩ := blk_cells2 (unhide MA2)
      obtain ⟨s0, s1, -⟩ := blk_cells2 (unhide MB2)
      clear b2 q0 q1 MA MB MR HB1
      go_wp2_with fail
      refine (ijoinf_any _ af nf cf fs _ bf mf df gs _ hnf hmf ((unhide HF).later (unhide HB2)) ((unhide HG).later (unhide HB2))).mono ?_
      rintro e w3 ⟨a2, m2, c2, rfl, o2, b3⟩
      obtain rfl : m2 = n2 := ((o2.rw encF_len).len.1).trans (unhide hn2)
      have HB3 := hide ((unhide HB2).trans (b3.mono (unhide HB2).size))
      have MR3 := hide ((b3.block _ hz2).trans (unhide MR2))
      have MA3 := hide ((b3.block _ (by omega)).trans (unhide MA2))
      have MB3 := hide ((b3.block _ (by omega)).trans (unhide MB2))
      have O3 : Hid (OwF (w.heap.size + 1 + 1 + 1) w3 (.slice a2 m2 c2) (joinF fs gs)) := hide (Ow.base o2 (by omega))
      have hm2 : m2 ≤ 5 := by rw [(o2.rw encF_len).len.1]; exact jF_len fs gs 5
      have hz3 : w.heap.size + 1 + 1 < w3.heap.size := (Array.getElem?_eq_some_iff.mp (unhide MR3)).1
      obtain ⟨t0, t1, -⟩ := blk_cells2 (unhide MA3)
      have LO := hide (World.ownsRow.lt o2)
      clear b3 o2 hn2 r0 r1 s0 s1 MA2 MB2 MR2 HB2
      have nz3 : w.heap.size < w3.heap.size := by omega
      go_wp2_with fail
      obtain ⟨V, hV⟩ : ∃ V, V = w3.alloc (.map #[] 0) := ⟨_, rfl⟩
      rw [← hV]
      have BV : Below w3.heap.size w3 V := by rw [hV]; exact (Below.refl _ _).alloc (Nat.le_refl _) _
      have HMV : Hid (OwM V w3.heap.size 0 (.map [])) := by rw [hV]; exact hide (World.ownsMap_made _ _ _ _)
      have HBV := hide ((unhide HB3).trans (BV.mono (unhide HB3).size))
      have MRV := hide ((BV.block _ hz3).trans (unhide MR3))
      have MBV := hide ((BV.block _ (by omega)).trans (unhide MB3))
      have OV := hide ((unhide O3).later BV)
      have hzV : w.heap.size + 1 + 1 < V.heap.size := Nat.lt_of_lt_of_le hz3 BV.size
      have hbm : w3.heap.size < V.heap.size := (unhide HMV).lt
      generalize hbme : w3.heap.size = bm at *
      clear hV BV MA3 MR3 MB3 O3 t0 t1 HB3 hmm
      refine (ijoini_any bm 0 _ _ ai ni ci xs (unhide OA).fitJ (fun _ _ q => by cases q) _ (by omega) (by omega) (unhide HMV) MapV.nil ((unhide HX).later (unhide HBV))).mono ?_
      rintro e w4 ⟨rfl, ⟨n4, D4, hM4, hn4, hV4, hS4⟩, g4⟩
      have HM4 := hide hM4; have HV4 := hide hV4; have HS4 := hide hS4
      have MR4 := hide ((g4.block _ hzV (by simp; omega)).trans (unhide MRV))
      have MB4 := hide ((g4.block _ (by omega) (by simp; omega)).trans (unhide MBV))
      have O4 := hide (grown_own g4 (unhide OV) (fun i q => by have := unhide LO i q; omega))
      have HB4 := hide ((Trn.of_grown g4).below (unhide HBV) (unhide HBV).size (fun i q => by cases q; omega))
      have hz4 : w.heap.size + 1 + 1 < w4.heap.size := Nat.lt_of_lt_of_le hzV g4.size
      have nz4 : w.heap.size + 1 < w4.heap.size := by omega
      obtain ⟨u0, u1, -⟩ := blk_cells2 (unhide MB4)
      clear hM4 hV4 hS4 g4 MRV MBV OV HBV HMV
      go_wp2_with fail
      clear u0 u1
      refine (ijoini_any bm n4 _ _ bi mi di ys (unhide OB).fitJ (unhide HS4) _ (by omega) (by omega) (unhide HM4) (unhide HV4) ((unhide HY).later (unhide HB4))).mono ?_
      rintro e w5 ⟨rfl, ⟨n5, D5, hM5, hn5, hV5, hS5⟩, g5⟩
      have HM5 := hide hM5; have HV5 := hide hV5; have HS5 := hide hS5
      have MR5 := hide ((g5.block _ hz4 (by simp; omega)).trans (unhide MR4))
      have O5 := hide (grown_own g5 (unhide O4) (fun i q => by have := unhide LO i q; omega))
      have HB5 := hide ((Trn.of_grown g5).below (unhide HB4) (unhide HB4).size (fun i q => by cases q; omega))
      have hz5 : w.heap.size + 1 + 1 < w5.heap.size := Nat.lt_of_lt_of_le hz4 g5.size
      clear hM5 hV5 hS5 g5 MR4 MB4 O4 HB4 HM4 HV4 HS4
      go_wp2_with fail
      refine (idrop_any bm n5 _ _ a2 m2 c2 (joinF fs gs) joinF_fit (unhide HS5) _ (by omega) (unhide HM5) (unhide HV5) ((unhide O5).rw encF_len)).mono ?_
      rintro e w6 ⟨rfl, ⟨D6, hM6, hV6, _⟩, g6⟩
      have HM6 := hide hM6; have HV6 := hide hV6
      have MR6 := hide ((g6.block _ hz5 (by simp; omega)).trans (unhide MR5))
      have O6 := hide (grown_own g6 (unhide O5) (fun i q => by have := unhide LO i q; omega))
      have HB6 := hide ((Trn.of_grown g6).below (unhide HB5) (unhide HB5).size (fun i q => by cases q; omega))
      have hz6 : w.heap.size + 1 + 1 < w6.heap.size := Nat.lt_of_lt_of_le hz5 g6.size
      clear hM6 hV6 g6 MR5 O5 HB5 HM5 HV5 HS5
      go_wp2_with fail
      refine (iorder_any bm n5 _ _ (joinI xs fs ys gs) (jI_pair 5) (map_end (unhide OA) (unhide OB)) (Nat.le_trans (jI_len xs fs ys gs 5) (by omega)) _ (unhide HM6) (unhide HV6)).mono ?_
      rintro e w7 ⟨a1, m1, c1, rfl, o1, b7⟩
      obtain rfl : m1 = n1 := ((o1.rw encI_len).len.1).trans (unhide hn1)
      have HB7 := hide ((unhide HB6).trans (b7.mono (unhide HB6).size))
      obtain ⟨p0, p1, pf⟩ := blk_cells2 ((b7.block _ hz6).trans (unhide MR6))
      have O1 := hide (Ow.base (base' := w.heap.size + 1 + 1 + 1) o1 (by omega))
      have O2 := hide ((unhide O6).later b7)
      clear b7 o1 hn1 O6 HB6 MR6 HM6 HV6
      go_wp2
      exact bodyPost_ret (v := .tuple #[.agg #[.slice a1 m1 c1, .slice a2 m2 c2], .bool true]) (by simp [results, Try.results18, go_sem, p0, p1]) rfl ⟨a1, c1, a2, c2, rfl, Ow.base (((unhide O1).set ⟨w.heap.size + 1 + 1, 0, none⟩ (by simp <;> omega) _).set ⟨w.heap.size + 1 + 1, 1, none⟩ (by simp <;> omega) _) (by omega), Ow.base (((unhide O2).set ⟨w.heap.size + 1 + 1, 0, none⟩ (by simp <;> omega) _).set ⟨w.heap.size + 1 + 1, 1, none⟩ (by simp <;> omega) _) (by omega), ((unhide HB7).setCell (p := ⟨w.heap.size + 1 + 1, 0, none⟩) (by simp <;> omega) _).setCell (p := ⟨w.heap.size + 1 + 1, 1, none⟩) (by simp <;> omega) _⟩
end Go.Proofs.Ytighiahppjekeaa
