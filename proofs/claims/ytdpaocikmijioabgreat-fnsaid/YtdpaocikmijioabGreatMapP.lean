/-
  A map from nodes to entries, as a function. No statement is proved here.
-/
import Derived.Test.YtdpaocikmijioabGreatStJP
import Derived.Test.YtdpaocikmijioabGreatStO
import Derived.Maps.RangeWalk
import Derived.Maps.OwnSet
import Derived.Maps.OwnOps
import Derived.Maps.Ext
namespace Go.Proofs.YtdpaocikmijioabGreat
open Go.RowKit Go.Maps

/-- How an element of the map reads: as the entry that it is. -/
def RK : Value → Option (DataW Key × List MemPlace)
  | .agg cs => match cs.toList with
    | [.int .i64 i, .int .i64 r, .int .i64 b, .int .i64 v, .string d] => some (.held (i, r, b, v, d), [])
    | _ => none
  | _ => none
theorem RK_mk (e : Key) : RK (.agg #[.int .i64 e.1, .int .i64 e.2.1, .int .i64 e.2.2.1, .int .i64 e.2.2.2.1, .string e.2.2.2.2]) = some (.held e, []) := rfl
theorem RK_inv {v : Value} {z : DataW Key × List MemPlace} (h : RK v = some z) : ∃ e : Key, v = .agg #[.int .i64 e.1, .int .i64 e.2.1, .int .i64 e.2.2.1, .int .i64 e.2.2.2.1, .string e.2.2.2.2] ∧ z = (.held e, []) := by
  unfold RK at h
  split at h
  · rename_i cs
    split at h
    · rename_i i r b v d hcs
      cases h
      refine ⟨(i, r, b, v, d), ?_, rfl⟩
      obtain ⟨l⟩ := cs
      simp only at hcs
      rw [hcs]
    · cases h
  · cases h

theorem klaw : Keyed Tryz.prog 3 := int_keyed Tryz.underlying3
theorem wf_fit {n : Int} (h : FitN n) : (Lit.int .i64 n).wf = true := by
  unfold FitN at h
  simp [Lit.wf, IntKind.min, IntKind.max, IntKind.bits, IntKind.signed]
  omega
theorem kof {n : Int} (h : FitN n) : keyOf Tryz.prog 3 (.int .i64 n) = some (.int .i64 n) := keyOf_int_mk Tryz.underlying3 (wf_fit h)

/-- The map reads as the function m. -/
def MapV (D : DataW Key) (m : Int → Option Key) : Prop := ∀ id, FitN id → ∀ z, D.atKey (.int .i64 id) z = (match m id with
  | some e => .held e
  | none => z)
def upd (m : Int → Option Key) (id : Int) (e : Key) : Int → Option Key := fun j => if j = id then some e else m j
def cut (m : Int → Option Key) (id : Int) : Int → Option Key := fun j => if j = id then none else m j
def mget (m : Int → Option Key) (id : Int) : Key := (m id).getD zeroK
theorem MapV.nil : MapV (.map []) (fun _ => none) := fun _ _ _ => rfl
theorem lit_ne {a b : Int} (h : a ≠ b) : (Lit.int .i64 a) ≠ Lit.int .i64 b := fun e => h (by injection e)
theorem MapV.put {D : DataW Key} {m : Int → Option Key} (h : MapV D m) (hm : IsMap D) {id : Int} (hk : WideAt.IsKeyLit (Lit.int .i64 id)) (e : Key) : MapV (D.put (.int .i64 id) (.held e)) (upd m id e) := by
  intro j hj z
  unfold upd
  by_cases c : j = id
  · subst c
    rw [atKey_put_same hm hk, if_pos rfl]
  · rw [atKey_put_other (lit_ne c), if_neg c]
    exact h j hj z
theorem MapV.del {D : DataW Key} {m : Int → Option Key} (h : MapV D m) (id : Int) : MapV (D.del (.int .i64 id)) (cut m id) := by
  intro j hj z
  unfold cut
  by_cases c : j = id
  · subst c
    rw [atKey_del_same, if_pos rfl]
  · rw [atKey_del_other (lit_ne c), if_neg c]
    exact h j hj z
theorem key_lit (id : Int) : WideAt.IsKeyLit (Lit.int .i64 id) := trivial

theorem zeroE (w : World) : (zeroValue 38).run Tryz.prog w = .ok (.agg #[.int .i64 zeroK.1, .int .i64 zeroK.2.1, .int .i64 zeroK.2.2.1, .int .i64 zeroK.2.2.2.1, .string zeroK.2.2.2.2]) w := by kernel_rfl
theorem field0 (e : Key) (w : World) : (Instr.field 38 (.agg #[.int .i64 e.1, .int .i64 e.2.1, .int .i64 e.2.2.1, .int .i64 e.2.2.2.1, .string e.2.2.2.2]) 0).run Tryz.prog w = .ok (.int .i64 e.1) w := by
  have h := Tryz.underlying38
  have h3 := Tryz.underlying3
  simp [Instr.field, run_underlying h, asAgg, part, isAgg, sizeOf, run_underlying h3, typeInfo]
abbrev OwM (w : World) (b n : Nat) (D : DataW Key) : Prop := w.ownsMap Tryz.prog 3 RK b n D
/-- 'm[id]'. -/
theorem look {w : World} {b n : Nat} {D : DataW Key} {m : Int → Option Key} (h : OwM w b n D) (hv : MapV D m) {id : Int} (hid : FitN id) :
    (Instr.lookup 69 (.map (some b)) (.int .i64 id) false).run Tryz.prog w = .ok (.agg #[.int .i64 (mget m id).1, .int .i64 (mget m id).2.1, .int .i64 (mget m id).2.2.1, .int .i64 (mget m id).2.2.2.1, .string (mget m id).2.2.2.2]) w := by
  obtain ⟨v, ps, hrun, hR⟩ := h.lookup klaw Tryz.underlying69 (zeroE w) (RK_mk zeroK) (kof hid)
  obtain ⟨e, rfl, he⟩ := RK_inv hR
  rw [hrun]
  simp only [Prod.mk.injEq] at he
  have h1 := hv id hid (.held zeroK)
  rw [h1] at he
  have : mget m id = e := by
    unfold mget
    cases hm : m id with
    | none => rw [hm] at he; simp only [DataW.held.injEq] at he; exact he.1
    | some x => rw [hm] at he; simp only [DataW.held.injEq] at he; exact he.1
  rw [this]
end Go.Proofs.YtdpaocikmijioabGreat
