/-
  Rows of numbers appended to one another, and copied. No statement is proved here.
-/
import Derived.Test.YtjlocbimkfocnaaIntS
import Derived.Laws.AppendOwnNone
import Derived.Laws.StructEq
namespace Go.Proofs.Ytjlocbimkfocnaa
open Go.RowKit

theorem wpList_appN {ops : Array Oper} {rest : List Oper} {o : Oper} {a : Act} {Q : Exit → Act → World → Prop} (w : World) (hgd : o.guard = none) (s x : Operand)
    (ho : o.op = .call { callee := .builtin .append, args := #[s, x], argTypes := #[35, 35] })
    (base : Nat) (v : Value) (xs : List Int) (hs : a.eval s = v) (hown : OwN base w v xs) (b : Option Addr) (m cap : Nat) (ys : List Int) (hx : a.eval x = .slice b m cap) (hu : RwN w (.slice b m cap) ys) (hnil : b = none → cap = 0) (hl : xs.length + ys.length ≤ 100000000) (hbase : base ≤ w.heap.size)
    (h : ∀ v' w', OwN base w' v' (xs ++ ys) → w.grownBy w' v.ownBlock → wpList Try.prog ops Q rest (a.put o.dst v') w') : wpList Try.prog ops Q (o :: rest) a w := by
  obtain ⟨i0, hi, hz0, hz1, hz2⟩ := info_parts Try.infoInt
  obtain ⟨hm, hcap⟩ := hu.len
  subst hm
  cases b with
  | none =>
    have hys : ys = [] := by
      cases ys with
      | nil => rfl
      | cons y r =>
        obtain ⟨z, b', off', _, hp, _⟩ := hu.atN (i := 0) (by simp)
        cases hp
    subst hys
    obtain rfl := hnil rfl
    exact wpList_append_own_none hgd s x 35 ho base 3 i0 1 Try.underlying35 hi v xs.length (xs.flatMap encN) hs hown hx (h v w (by simpa using hown) (World.grownBy.refl _ _))
  | some ad =>
    refine wpList_append_own w hgd s x 35 ho base 3 i0 (.int .i64 0) 1 8 Try.underlying35 hi hz0 hz1 hz2 rfl (by decide) v xs.length (xs.flatMap encN) hs hown ad ys.length cap (ys.flatMap encN) hx (by rw [flatN, List.length_map]; omega) ?_ ?_ (by unfold maxLen; omega) (by omega) hbase (fun v' w' o1 g1 _ => h v' w' ?_ g1)
    · intro j u hj
      rw [flatN] at hj
      have hj' : j < ys.length := by have := (List.getElem?_eq_some_iff.1 hj).1; simpa using this
      obtain ⟨z, b', off', hz, hp, _, _, cz⟩ := hu.atN hj'
      simp only [Option.some.injEq] at hp
      subst hp
      have e : (⟨b', off', none⟩ : Addr).add j = ⟨b', off' + j, none⟩ := by
        unfold Addr.add
        by_cases h0 : j = 0
        · subst h0; rfl
        · rw [if_neg h0]
      rw [e, cz]
      rw [List.getElem?_map, hz] at hj
      simpa using hj
    · intro u hu'
      rw [flatN] at hu'
      exact ints_oneCell _ _ u hu'
    · unfold OwN Ow
      rw [List.flatMap_append, List.length_append]
      exact o1
theorem Ow.nilok {E : TypeId} {base : Nat} {w : World} {a : Option Addr} {n c : Nat} {ns : List Int} (h : Ow encN 1 E base w (.slice a n c) ns) : a = none → c = 0 := by
  rintro rfl
  rcases h.2 with ⟨e, _⟩ | ⟨g, cap, cur, e, _⟩
  · simp at e; exact e.2
  · simp at e

theorem eqlnil {P : Program} (w : World) (t e : TypeId) (a : Option Addr) (n c : Nat) (h : P.underlying t = some (.slice e)) : (binOp .eql t (.slice a n c) (.slice none 0 0)).run P w = .ok (.bool a.isNone) w := by
  have h1 : ∀ d : Nat, (Op.equalIn (d + 1) t (.slice a n c) (.slice none 0 0)).run P w = .ok a.isNone w := fun d => by cases a <;> simp [Op.equalIn, run_underlying h]
  simp only [binOp]
  simp [Op.equal, Op.maxDepth, h1 9999]
theorem madeN {w : World} {g base : Nat} (hb : base ≤ g) (h : w.heap[g]? = some (.cells #[] 3 (0, 0))) : OwN base w (.slice (some ⟨g, 0, none⟩) 0 0) [] :=
  ⟨by simp, .inr ⟨g, 0, #[], rfl, hb, h, by simp, by simp⟩⟩
end Go.Proofs.Ytjlocbimkfocnaa
