/-
  copy(dst, src) of elements of several cells, dst a row of the call's own as long as src. No program here, no statement is proved here.
-/
import Derived.Test.YtdpaocikmijioacRwO
import Derived.Laws.CopyRow
import Derived.Laws.CopyOwn
namespace Go.Proofs.Ytdpaocikmijioac
open Go.RowKit

theorem add_off (b off i : Nat) : (⟨b, off, none⟩ : Addr).add i = ⟨b, off + i, none⟩ := by
  unfold Addr.add
  split
  · rename_i e; rw [e]; rfl
  · rfl
theorem run_copyk_none {P : Program} {w : World} {T ty E : TypeId} {i : TypeInfo} (ht : P.underlying T = some (.slice E)) (hi : P.info? E = some i) (d a : Option Addr) (dCap sCap : Nat) :
    (Builtin.copy_ #[T, T] ty #[.slice d 0 dCap, .slice a 0 sCap]).run P w = .ok (goInt 0) w := by
  have hl : ∀ (x : Addr), (loadCells x 0).run P w = .ok #[] w := fun x => by simpa using run_loadCells_list (P := P) w x [] (by simp)
  cases d <;> cases a <;> simp [Builtin.copy_, run_underlying ht, Builtin.lenOf, Builtin.firstCells, sizeOf, typeInfo, hi, storeCells, hl]
theorem run_copyk {P : Program} {w : World} {T ty E : TypeId} {i : TypeInfo} {k : Nat} (ht : P.underlying T = some (.slice E)) (hi : P.info? E = some i) (hs : i.size = k) (g n dCap : Nat) (ad : Addr) (sCap : Nat) (cur : Array Value) (t : TypeId) (cs : List Value)
    (hg : w.heap[g]? = some (.cells cur t (0, 0))) (hn : cs.length = n * k) (hsrc : ∀ j v, cs[j]? = some v → w.cell? (ad.add j) = some v) (hfit : cs.length ≤ cur.size) (h1 : ∀ v ∈ cs, v.oneCell' = true) :
    (Builtin.copy_ #[T, T] ty #[.slice (some ⟨g, 0, none⟩) n dCap, .slice (some ad) n sCap]).run P w = .ok (goInt n) (w.setRow g (cs ++ cur.toList.drop cs.length).toArray) := by
  have hl := run_loadCells_list (P := P) w ad cs hsrc
  have hst := run_storeCells_at P g 0 t cs 0 cur w hg (by simpa using hfit) h1
  simp [Builtin.copy_, run_underlying ht, Builtin.lenOf, Builtin.firstCells, sizeOf, typeInfo, hi, hs, ← hn, hl, hst]

theorem copy_own {P : Program} {α : Type} {enc : α → List Value} {k : Nat} (hk : ∀ x, (enc x).length = k) (h0 : 0 < k) (E T : TypeId) (i : TypeInfo) (ht : P.underlying T = some (.slice E)) (hi : P.info? E = some i) (hsize : i.size = k)
    (w : World) (base : Nat) (dv sv : Value) (ys xs : List α) (n : Nat) (hn : n = xs.length) (h1 : ∀ u ∈ xs.flatMap enc, u.oneCell' = true) (hown : Ow enc k E base w dv ys) (hx : Rw enc k w sv xs) (hl : ys.length = xs.length) (ty : TypeId) :
    ∃ w', (Builtin.copy_ #[T, T] ty #[dv, sv]).run P w = .ok (goInt n) w' ∧ Ow enc k E base w' dv xs ∧ w.grownBy w' dv.ownBlock := by
  subst hn
  obtain ⟨a, cap, rfl, hcap, hr⟩ := hx
  by_cases hz : xs = []
  · subst hz
    obtain rfl : ys = [] := List.eq_nil_of_length_eq_zero hl
    obtain ⟨a', c', rfl⟩ := hown.form
    exact ⟨w, run_copyk_none ht hi _ _ _ _, hown, ⟨rfl, rfl, rfl, Nat.le_refl _, fun _ _ _ => rfl⟩⟩
  · rcases hr with hr | ⟨b, off, rfl, hb, hc⟩
    · exact absurd hr hz
    have hpos : 0 < xs.length := List.length_pos_iff.2 hz
    rcases hown.2 with ⟨_, h00⟩ | ⟨g, dcap, cur, rfl, hbg, hg, hnc, hcm, hcs, htake⟩
    · omega
    · have hfl := flat_len (enc := enc) hk xs
      have hfit : (xs.flatMap enc).length ≤ cur.size := by
        rw [hfl, hcs, ← hl]; exact Nat.mul_le_mul_right _ hnc
      have hrun := run_copyk (P := P) (w := w) (ty := ty) ht hi hsize g xs.length dcap ⟨b, off, none⟩ cap cur E (xs.flatMap enc) hg hfl (fun j v hj => by
        have hjl : j < (xs.flatMap enc).length := (List.getElem?_eq_some_iff.1 hj).1
        rw [hfl] at hjl
        obtain ⟨e, hr⟩ := div_parts h0 j
        have hq : j / k < xs.length := Nat.div_lt_of_lt_mul (by rw [Nat.mul_comm]; exact hjl)
        have ea : (⟨b, off, none⟩ : Addr).add j = ⟨b, off + j / k * k + j % k, none⟩ := by
          rw [add_off]; congr 1; omega
        rw [ea, hc (j / k) xs[j / k] (by simp [hq]) (j % k) hr, ← flat_at hk xs (j / k) xs[j / k] (j % k) (by simp [hq]) hr, ← e]
        exact hj) hfit h1
      refine ⟨_, by rw [hl]; exact hrun, ⟨by rw [hfl], .inr ⟨g, dcap, ((xs.flatMap enc) ++ cur.toList.drop (xs.flatMap enc).length).toArray, by rw [hl], hbg, setRow_heap w g cur _ E _ hg, by omega, hcm, ?_, ?_⟩⟩, ?_⟩
      · rw [List.size_toArray, List.length_append, List.length_drop]
        have : cur.toList.length = cur.size := by simp
        omega
      · simp [hfl]
      · exact ⟨rfl, rfl, rfl, by simp [World.setRow], fun q _ hne => setRow_other w g q _ (fun e => hne (by simp [Value.ownBlock, e]))⟩

theorem wpList_copyk {P : Program} {α : Type} {enc : α → List Value} {k : Nat} (hk : ∀ x, (enc x).length = k) (h0 : 0 < k) {ops : Array Oper} {rest : List Oper} {o : Oper} {a : Act} {Q : Exit → Act → World → Prop}
    (E T : TypeId) (i : TypeInfo) (ht : P.underlying T = some (.slice E)) (hi : P.info? E = some i) (hsize : i.size = k)
    (w : World) (hgd : o.guard = none) (d s : Operand) (ho : o.op = .call { callee := .builtin .copy, args := #[d, s], argTypes := #[T, T] })
    (base : Nat) (dv sv : Value) (ys xs : List α) (n : Nat) (hn : Hid (n = xs.length)) (hd : a.eval d = dv) (hs : a.eval s = sv) (h1 : Hid (∀ u ∈ xs.flatMap enc, u.oneCell' = true)) (hown : Ow enc k E base w dv ys) (hx : Rw enc k w sv xs) (hl : ys.length = xs.length)
    (h : ∀ w', Ow enc k E base w' dv xs → w.grownBy w' dv.ownBlock → wpList P ops Q rest (a.put o.dst (goInt n)) w') :
    wpList P ops Q (o :: rest) a w := by
  obtain ⟨w', hrun, r1, r2⟩ := copy_own hk h0 E T i ht hi hsize w base dv sv ys xs n (unhide hn) (unhide h1) hown hx hl o.type
  refine wpList_plain hgd fun K hK => ?_
  unfold Oper.wp
  simp [execOp, ho, resolve, invoke, builtin, hd, hs, hrun, Result.andThen]
  exact hK _ _ (h w' r1 r2)
end Go.Proofs.Ytdpaocikmijioac
