/-
  How far each was heard, as lists of numbers: right, the greater of two, beneath, raised. No program here, no statement is proved here.
  Tables as lists of rows, marks that are put into a row, the least of a place: plain lists. No program here, no statement is proved here.
  Rows of rows of numbers in memory: what reads so, what the call itself owns. No program here, no statement is proved here.
-/
import Derived.Test.YtjlocbimkfocnaaGreatNm
import Derived.Test.YtjlocbimkfocnaaGreatApp2
import Derived.Test.YtjlocbimkfocnaaGreatIntS
import Derived.Test.YtjlocbimkfocnaaGreatTrn
namespace Go.Proofs.YtjlocbimkfocnaaGreat
open Go.RowKit

/-- What is not there counts as 0. -/
def nAt (ns : List Int) (k : Nat) : Int := ns.getD k 0
/-- The first k places of the greater of two. -/
def vmK (xs ys : List Int) (k : Nat) : List Int := (List.range k).map fun i => max (nAt xs i) (nAt ys i)
def vm (xs ys : List Int) : List Int := vmK xs ys (max xs.length ys.length)
/-- The first k places are beneath. -/
def vlK (xs ys : List Int) (k : Nat) : Bool := (List.range k).all fun i => decide (nAt xs i ≤ nAt ys i)
def vl (xs ys : List Int) : Bool := vlK xs ys xs.length
def inP (at0 : Int) (ns : List Int) : Bool := inB at0 0 ((ns.length : Int) - 1)
def vr (ns : List Int) (at0 n : Int) : List Int := if inP at0 ns = true then ns.set at0.toNat (max (nAt ns at0.toNat) n) else ns
/-- The first k numbers are right ones. -/
def okNK (ns : List Int) (k : Nat) : Bool := (ns.take k).all fun x => inB x 0 100000
def okN (ns : List Int) : Bool := ns.all fun x => inB x 0 100000
def vok (ns : List Int) (n : Int) : Bool := inB n 1 5 && ((ns.length : Int) == n) && okN ns

theorem vmK_len (xs ys : List Int) (k : Nat) : (vmK xs ys k).length = k := by simp [vmK]
theorem vm_len (xs ys : List Int) : (vm xs ys).length = max xs.length ys.length := vmK_len _ _ _
theorem vmK_succ (xs ys : List Int) (k : Nat) : vmK xs ys (k + 1) = vmK xs ys k ++ [max (nAt xs k) (nAt ys k)] := by simp [vmK, List.range_succ]
theorem vm_at (xs ys : List Int) (k : Nat) : nAt (vm xs ys) k = if k < max xs.length ys.length then max (nAt xs k) (nAt ys k) else 0 := by
  unfold nAt vm vmK
  rw [List.getD_eq_getElem?_getD, List.getElem?_map]
  by_cases h : k < max xs.length ys.length
  · rw [if_pos h, List.getElem?_range h]; rfl
  · rw [if_neg h, List.getElem?_eq_none (by simp; omega)]; rfl
theorem nAt_out {ns : List Int} {k : Nat} (h : ns.length ≤ k) : nAt ns k = 0 := by
  unfold nAt; rw [List.getD_eq_getElem?_getD, List.getElem?_eq_none h]; rfl
theorem nAt_in {ns : List Int} {k : Nat} {z : Int} (h : ns[k]? = some z) : nAt ns k = z := by
  unfold nAt; rw [List.getD_eq_getElem?_getD, h]; rfl
theorem vlK_succ (xs ys : List Int) (k : Nat) : vlK xs ys (k + 1) = (vlK xs ys k && decide (nAt xs k ≤ nAt ys k)) := by simp [vlK, List.range_succ]
theorem vl_iff {xs ys : List Int} : vl xs ys = true ↔ ∀ k, k < xs.length → nAt xs k ≤ nAt ys k := by simp [vl, vlK]
theorem vl_no {xs ys : List Int} {k : Nat} (hk : k < xs.length) (h : nAt ys k < nAt xs k) : vl xs ys = false := by
  rw [Bool.eq_false_iff]
  intro q
  have := vl_iff.1 q k hk
  omega
theorem okNK_succ {ns : List Int} {k : Nat} {z : Int} (h : ns[k]? = some z) : okNK ns (k + 1) = (okNK ns k && inB z 0 100000) := by
  rw [okNK, okNK, List.take_add_one, h]; simp
theorem okNK_all {ns : List Int} {k : Nat} (h : ns.length ≤ k) : okNK ns k = okN ns := by rw [okNK, List.take_of_length_le h, okN]
theorem okN_no {ns : List Int} {k : Nat} {z : Int} (h : ns[k]? = some z) (hz : inB z 0 100000 = false) : okN ns = false := by
  rw [Bool.eq_false_iff]
  intro q
  rw [okN, List.all_eq_true] at q
  rw [q z (List.mem_of_getElem? h)] at hz
  cases hz
theorem vr_len (ns : List Int) (at0 n : Int) : (vr ns at0 n).length = ns.length := by
  unfold vr; split <;> simp
theorem inP_iff {at0 : Int} {ns : List Int} : inP at0 ns = true ↔ 0 ≤ at0 ∧ at0 < ns.length := by
  unfold inP inB; simp; omega
theorem vl_left (xs ys : List Int) : vl xs (vm xs ys) = true := by
  rw [vl_iff]
  intro k hk
  rw [vm_at, if_pos (by omega)]
  omega
theorem vl_right (xs ys : List Int) : vl ys (vm xs ys) = true := by
  rw [vl_iff]
  intro k hk
  rw [vm_at, if_pos (by omega)]
  omega
theorem vl_swap (xs ys : List Int) : vl (vm ys xs) (vm xs ys) = true := by
  rw [vl_iff]
  intro k hk
  rw [vm_len] at hk
  rw [vm_at, vm_at, if_pos hk, if_pos (by omega)]
  omega
theorem vr_at {ns : List Int} {k : Nat} {n z : Int} (hk : k < ns.length) (h : (vr ns k n)[k]? = some z) : n ≤ z := by
  rw [vr, if_pos (inP_iff.2 (by omega)), Int.toNat_natCast, List.getElem?_set, if_pos rfl, if_pos hk] at h
  cases h
  omega
end Go.Proofs.YtjlocbimkfocnaaGreat

namespace Go.Proofs.YtjlocbimkfocnaaGreat
open Go.RowKit

abbrev Tb := List (List Int)
/-- A row of a right table. -/
def okR (r : List Int) : Bool := decide (r.length = 5) && r.all fun x => inB x 0 1000
def okRK (r : List Int) (k : Nat) : Bool := (r.take k).all fun x => inB x 0 1000
def okRs (t : Tb) : Bool := t.all okR
def okRsK (t : Tb) (k : Nat) : Bool := (t.take k).all okR
def okT (t : Tb) (n : Int) : Bool := inB n 1 5 && ((t.length : Int) == n) && okRs t
theorem okRK_succ {r : List Int} {k : Nat} {x : Int} (h : r[k]? = some x) : okRK r (k + 1) = (okRK r k && inB x 0 1000) := by
  unfold okRK
  rw [List.take_add_one, h, List.all_append]; simp
theorem okRK_all {r : List Int} {k : Nat} (h : k = r.length) : okRK r k = r.all fun x => inB x 0 1000 := by
  unfold okRK
  rw [List.take_of_length_le (by omega)]
theorem okRsK_succ {t : Tb} {k : Nat} {r : List Int} (h : t[k]? = some r) : okRsK t (k + 1) = (okRsK t k && okR r) := by
  unfold okRsK
  rw [List.take_add_one, h, List.all_append]; simp
theorem okRsK_all {t : Tb} {k : Nat} (h : k = t.length) : okRsK t k = okRs t := by
  unfold okRsK okRs
  rw [List.take_of_length_le (by omega)]
theorem all_no {α : Type} {p : α → Bool} {xs : List α} {k : Nat} {x : α} (h : xs[k]? = some x) (hp : p x = false) : xs.all p = false := by
  rw [← Bool.not_eq_true, List.all_eq_true]
  intro q
  have := q x (List.mem_of_getElem? h)
  rw [hp] at this; cases this
theorem okR_no {r : List Int} {k : Nat} {x : Int} (h : r[k]? = some x) (hp : inB x 0 1000 = false) : okR r = false := by
  unfold okR
  rw [all_no (p := fun x => inB x 0 1000) h hp, Bool.and_false]
theorem okRs_no {t : Tb} {k : Nat} {r : List Int} (h : t[k]? = some r) (hp : okR r = false) : okRs t = false := all_no (p := okR) h hp

/-- A table of noughts. -/
def nulR : List Int := List.replicate 5 0
def newT (n : Int) : Tb := if inB n 1 5 = true then List.replicate n.toNat nulR else []
theorem newT_len (n : Int) : (newT n).length ≤ 5 := by
  unfold newT
  split
  · rename_i h
    simp [inB] at h
    simp; omega
  · simp

/-- A mark that is put into a row; a list of marks. -/
def putM (r : List Int) (m : Flr) : List Int := r.set m.1.toNat (max (nAt r m.1.toNat) m.2)
def putMs (r : List Int) (ms : List Flr) : List Int := ms.foldl putM r
theorem putM_len (r : List Int) (m : Flr) : (putM r m).length = r.length := by simp [putM]
theorem putMs_len : ∀ (ms : List Flr) (r : List Int), (putMs r ms).length = r.length
  | [], _ => rfl
  | m :: ms, r => by
    show (putMs (putM r m) ms).length = _
    rw [putMs_len ms, putM_len]
theorem putMs_take {r : List Int} {ms : List Flr} {k : Nat} {m : Flr} (h : ms[k]? = some m) : putMs r (ms.take (k + 1)) = putM (putMs r (ms.take k)) m := by
  unfold putMs
  rw [List.take_add_one, h, List.foldl_append]; rfl
def rowT (t : Tb) (k : Int) : List Int := t.getD k.toNat []
theorem rowT_in {t : Tb} {k : Nat} {r : List Int} (h : t[k]? = some r) : rowT t (k : Int) = r := by
  unfold rowT; rw [List.getD_eq_getElem?_getD]; simp [h]
def addOk (t : Tb) (k : Int) (ms : List Flr) : Bool := inB k 0 ((t.length : Int) - 1) && gF (-1) ms && decide (5 ≤ (rowT t k).length)
def addT (t : Tb) (k : Int) (ms : List Flr) : Tb := if addOk t k ms = true then t.set k.toNat (putMs (rowT t k) ms) else t
theorem addT_len (t : Tb) (k : Int) (ms : List Flr) : (addT t k ms).length = t.length := by
  unfold addT; split <;> simp

/-- The least of some numbers; 0 of none. -/
def lst : List Int → Int
  | [] => 0
  | x :: r => r.foldl min x
theorem lst_one (x : Int) : lst [x] = x := rfl
theorem lst_snoc {ns : List Int} (h : ns ≠ []) (x : Int) : lst (ns ++ [x]) = min (lst ns) x := by
  cases ns with
  | nil => exact absurd rfl h
  | cons y r => simp [lst, List.foldl_append]
/-- The numbers at a place. -/
def col (t : Tb) (k : Nat) : List Int := t.map fun r => nAt r k
def hasR (id : Int) (r : List Int) : Bool := inB id 0 ((r.length : Int) - 1)
def com (t : Tb) (id : Int) : Int := if t.all (hasR id) = true then lst (col t id.toNat) else 0
theorem col_take {t : Tb} {i k : Nat} {r : List Int} (h : t[i]? = some r) : col (t.take (i + 1)) k = col (t.take i) k ++ [nAt r k] := by
  unfold col
  rw [List.take_add_one, h, List.map_append]; rfl
theorem com_no {t : Tb} {id : Int} {i : Nat} {r : List Int} (h : t[i]? = some r) (hp : hasR id r = false) : com t id = 0 := by
  unfold com
  rw [if_neg]
  rw [all_no h hp]; simp
theorem hasR_take {t : Tb} {id : Int} {i : Nat} {r : List Int} (h : t[i]? = some r) (hp : hasR id r = true) (hk : (t.take i).all (hasR id) = true) : (t.take (i + 1)).all (hasR id) = true := by
  rw [List.take_add_one, h, List.all_append, hk]; simp [hp]
theorem lst_le : ∀ {ns : List Int} {x : Int}, x ∈ ns → lst ns ≤ x := by
  have h : ∀ (r : List Int) (m : Int), r.foldl min m ≤ m ∧ ∀ y ∈ r, r.foldl min m ≤ y := by
    intro r
    induction r with
    | nil => intro m; exact ⟨Int.le_refl _, fun y hy => by simp at hy⟩
    | cons z r ih =>
      intro m
      obtain ⟨h1, h2⟩ := ih (min m z)
      refine ⟨by simp only [List.foldl_cons]; omega, fun y hy => ?_⟩
      simp only [List.foldl_cons]
      rcases List.mem_cons.1 hy with rfl | hy
      · omega
      · exact h2 y hy
  intro ns x hx
  cases ns with
  | nil => simp at hx
  | cons y r =>
    rcases List.mem_cons.1 hx with rfl | hx
    · exact (h r x).1
    · exact (h r y).2 x hx
end Go.Proofs.YtjlocbimkfocnaaGreat

namespace Go.Proofs.YtjlocbimkfocnaaGreat
open Go.RowKit

def encV (v : Value) : List Value := [v]
theorem encV_len (v : Value) : (encV v).length = 1 := rfl
abbrev OwR (base : Nat) (w : World) (v : Value) (ps : List Value) : Prop := Ow encV 1 24 base w v ps
/-- A slice without a block has no room. -/
def nilV (p : Value) : Prop := ∀ n c, p = .slice none n c → c = 0

/-- The inner rows, read. -/
structure InsG (w : World) (ps : List Value) (t : Tb) : Prop where
  len : ps.length = t.length
  ins : ∀ (i : Nat) (p : Value) (r : List Int), ps[i]? = some p → t[i]? = some r → RwN w p r ∧ nilV p
theorem InsG.later {w w' : World} {ps : List Value} {t : Tb} (h : InsG w ps t) (hb : Below w.heap.size w w') : InsG w' ps t := ⟨h.len, fun i p r hp hr => ⟨(h.ins i p r hp hr).1.later hb, (h.ins i p r hp hr).2⟩⟩
/-- The slice value v reads as the table t. -/
def RwG (w : World) (v : Value) (t : Tb) : Prop := ∃ ps, Rw encV 1 w v ps ∧ InsG w ps t
theorem RwG.later {w w' : World} {v : Value} {t : Tb} (h : RwG w v t) (hb : Below w.heap.size w w') : RwG w' v t := by
  obtain ⟨ps, h1, h2⟩ := h
  exact ⟨ps, h1.later hb, h2.later hb⟩
theorem RwG.alloc {w : World} {v : Value} {t : Tb} (h : RwG w v t) (o : Obj) : RwG (w.alloc o) v t := h.later ((Below.refl _ _).alloc (Nat.le_refl _) o)
theorem RwG.len {w : World} {a : Option Addr} {n cap : Nat} {t : Tb} (h : RwG w (.slice a n cap) t) : n = t.length ∧ n ≤ cap := by
  obtain ⟨ps, h1, h2⟩ := h
  exact ⟨h1.len.1.trans h2.len, h1.len.2⟩
theorem Rw.formG {α : Type} {enc : α → List Value} {k : Nat} {w : World} {v : Value} {xs : List α} (h : Rw enc k w v xs) : ∃ a n c, v = .slice a n c ∧ n = xs.length := by
  obtain ⟨a, cap, rfl, -⟩ := h
  exact ⟨a, _, cap, rfl, rfl⟩
/-- A row that is read: where it lies. -/
theorem RwG.at {w : World} {a : Option Addr} {n cap : Nat} {t : Tb} (h : RwG w (.slice a n cap) t) {i : Nat} (hi : i < n) :
    ∃ r ai ni ci b off, t[i]? = some r ∧ a = some ⟨b, off, none⟩ ∧ b < w.heap.size ∧ n ≤ cap ∧ w.cell? ⟨b, off + i, none⟩ = some (.slice ai ni ci) ∧ RwN w (.slice ai ni ci) r ∧ (ai = none → ci = 0) := by
  obtain ⟨ps, h1, h2⟩ := h
  obtain ⟨p, b, off, hp, ha, hb, hcap, hc⟩ := h1.at hi
  have hl := h1.len.1
  obtain ⟨r, hr⟩ : ∃ r, t[i]? = some r := ⟨_, List.getElem?_eq_getElem (by have := h2.len; omega)⟩
  obtain ⟨r1, r2⟩ := h2.ins i _ _ hp hr
  obtain ⟨ai, ni, ci, rfl, -⟩ := r1.formG
  have c0 := hc 0 (by omega)
  rw [Nat.mul_one, Nat.add_zero] at c0
  exact ⟨r, ai, ni, ci, b, off, hr, ha, hb, hcap, c0, r1, fun e => r2 ni ci (by rw [e])⟩

/-- How many numbers there are in all. -/
def totG : Tb → Nat
  | [] => 0
  | r :: t => r.length + totG t
theorem totG_app : ∀ (a b : Tb), totG (a ++ b) = totG a + totG b
  | [], b => by simp [totG]
  | s :: r, b => by rw [List.cons_append, totG, totG, totG_app r b]; omega
theorem totG_at : ∀ {t : Tb} {i : Nat} {r : List Int}, t[i]? = some r → totG (t.take i) + r.length + totG (t.drop (i + 1)) = totG t
  | [], i, s, h => by simp at h
  | x :: r, 0, s, h => by simp at h; subst h; simp [totG]
  | x :: r, i + 1, s, h => by
    have := totG_at (t := r) (i := i) (r := s) (by simpa using h)
    simp only [List.take_succ_cons, List.drop_succ_cons, totG]; omega
theorem takeG {α : Type} {xs : List α} {k : Nat} {x : α} (h : xs[k]? = some x) : xs.take (k + 1) = xs.take k ++ [x] := by
  rw [List.take_add_one, h]; rfl

/-- The inner rows of a table of the call's own: in blocks from lo on, ahead of hi, no two in one block. -/
structure PaG (lo hi : Nat) (w : World) (ps : List Value) (t : Tb) : Prop where
  len : ps.length = t.length
  ins : ∀ (i : Nat) (p : Value) (r : List Int), ps[i]? = some p → t[i]? = some r → OwN lo w p r
  top : ∀ p ∈ ps, ∀ g, p.ownBlock = some g → g < hi
  apt : ps.Pairwise fun p q => ∀ g, p.ownBlock = some g → q.ownBlock ≠ some g
theorem PaG.nil (lo hi : Nat) (w : World) : PaG lo hi w [] [] := ⟨rfl, fun i p s h => by simp at h, fun p h => by simp at h, .nil⟩
theorem PaG.later {lo hi : Nat} {w w' : World} {ps : List Value} {t : Tb} (h : PaG lo hi w ps t) (hb : Below w.heap.size w w') : PaG lo hi w' ps t :=
  ⟨h.len, fun i p s hp hs => (h.ins i p s hp hs).later hb, h.top, h.apt⟩
theorem Ow.nilV {E : TypeId} {base : Nat} {w : World} {p : Value} {ns : List Int} (h : Ow encN 1 E base w p ns) : nilV p := by
  rintro n c rfl
  rcases h.2 with ⟨e, _⟩ | ⟨g, cap, cur, e, _⟩
  · simp at e; exact e.2
  · simp at e
theorem PaG.rw {lo hi : Nat} {w : World} {ps : List Value} {t : Tb} (h : PaG lo hi w ps t) : InsG w ps t := ⟨h.len, fun i p s hp hs => ⟨(h.ins i p s hp hs).rw encN_len, (h.ins i p s hp hs).nilV⟩⟩
theorem PaG.trn {S : Nat → Prop} {lo hi : Nat} {w w' : World} {ps : List Value} {t : Tb} (h : PaG lo hi w ps t) (tr : Trn S w w') (hs : ∀ i, S i → ¬ (lo ≤ i ∧ i < hi)) : PaG lo hi w' ps t := by
  refine ⟨h.len, fun i p s hp hq => ?_, h.top, h.apt⟩
  have h1 := h.ins i p s hp hq
  exact tr.own h1 (fun g hg k => hs g k ⟨(World.ownsRow.lt h1 _ hg).1, h.top p (List.mem_of_getElem? hp) g hg⟩)
/-- A write into a block of another type. -/
theorem Ow.apartT {α : Type} {enc : α → List Value} {k : Nat} {E T : TypeId} {base : Nat} {w w' : World} {v : Value} {xs : List α} {b : Option Nat} (h : Ow enc k E base w v xs) (hb : ∀ g, b = some g → ∃ cs fz, w.heap[g]? = some (.cells cs T fz)) (hne : E ≠ T) (hg : w.grownBy w' b) : Ow enc k E base w' v xs := by
  refine (Trn.of_grown hg).own h (fun i hi q => ?_)
  obtain ⟨cs, fz, hb⟩ := hb i q
  rcases h.2 with ⟨rfl, _⟩ | ⟨g', cap, cur, rfl, _, hh, _⟩
  · cases hi
  · simp only [Value.ownBlock, Option.some.injEq] at hi
    subst hi
    rw [hh] at hb
    simp at hb
    exact hne hb.2.1
/-- The block of an owned row, where it has one. -/
theorem Ow.blkT {α : Type} {enc : α → List Value} {k : Nat} {E : TypeId} {base : Nat} {w : World} {v : Value} {xs : List α} (h : Ow enc k E base w v xs) : ∀ g, v.ownBlock = some g → ∃ cs fz, w.heap[g]? = some (.cells cs E fz) := by
  intro g hg
  rcases h.2 with ⟨rfl, _⟩ | ⟨g', cap, cur, rfl, _, hh, _⟩
  · cases hg
  · simp only [Value.ownBlock, Option.some.injEq] at hg
    subst hg
    exact ⟨_, _, hh⟩
theorem PaG.other {lo hi : Nat} {w w' : World} {ps : List Value} {t : Tb} {b : Option Nat} {T : TypeId} (h : PaG lo hi w ps t) (hb : ∀ g, b = some g → ∃ cs fz, w.heap[g]? = some (.cells cs T fz)) (hT : 3 ≠ T) (hg : w.grownBy w' b) : PaG lo hi w' ps t :=
  ⟨h.len, fun i p s hp hs => (h.ins i p s hp hs).apartT hb hT hg, h.top, h.apt⟩
theorem PaG.snoc {lo hi B hi' : Nat} {w : World} {ps : List Value} {t : Tb} {p : Value} {r : List Int} (h : PaG lo hi w ps t) (h1 : OwN B w p r) (hB : hi ≤ B) (hlo : lo ≤ B) (hh : w.heap.size ≤ hi') (hhi : hi ≤ hi') : PaG lo hi' w (ps ++ [p]) (t ++ [r]) := by
  refine ⟨by simp [h.len], fun i q s hq hs => ?_, fun q hq g hg => ?_, ?_⟩
  · by_cases hi : i < ps.length
    · rw [List.getElem?_append_left hi] at hq
      rw [List.getElem?_append_left (by rw [← h.len]; exact hi)] at hs
      exact h.ins i q s hq hs
    · rw [List.getElem?_append_right (by omega)] at hq
      rw [List.getElem?_append_right (by rw [← h.len]; omega), ← h.len] at hs
      have e : i - ps.length = 0 := by
        have := (List.getElem?_eq_some_iff.1 hq).1
        simp at this; omega
      rw [e] at hq hs
      simp at hq hs
      subst hq hs
      exact h1.base hlo
  · rcases List.mem_append.1 hq with hq | hq
    · have := h.top q hq g hg; omega
    · simp at hq; subst hq
      have := (World.ownsRow.lt h1 _ hg).2; omega
  · refine List.pairwise_append.2 ⟨h.apt, by simp, fun q hq s hs => ?_⟩
    simp at hs
    subst hs
    intro g hg k
    have a := h.top q hq g hg
    have b := (World.ownsRow.lt h1 _ k).1
    omega
theorem PaG.mono {lo hi lo' hi' : Nat} {w : World} {ps : List Value} {t : Tb} (h : PaG lo hi w ps t) (h1 : lo' ≤ lo) (h2 : hi ≤ hi') : PaG lo' hi' w ps t :=
  ⟨h.len, fun i p s hp hs => (h.ins i p s hp hs).base h1, fun p hp g hg => Nat.lt_of_lt_of_le (h.top p hp g hg) h2, h.apt⟩
/-- One of the rows is turned, in its own block. -/
theorem PaG.turn {lo hi : Nat} {w w' : World} {ps : List Value} {t : Tb} {k : Nat} {p : Value} {r : List Int} (h : PaG lo hi w ps t) (hp : ps[k]? = some p) (hg : w.grownBy w' p.ownBlock) (ho : OwN lo w' p r) : PaG lo hi w' ps (t.set k r) := by
  refine ⟨by simp [h.len], fun i q s hq hs => ?_, h.top, h.apt⟩
  rw [List.getElem?_set] at hs
  split at hs
  · rename_i e
    subst e
    rw [hp] at hq
    cases hq
    split at hs
    · cases hs; exact ho
    · cases hs
  · rename_i e
    refine (Trn.of_grown hg).own (h.ins i q s hq hs) (fun g h1 h2 => ?_)
    have hi := (List.getElem?_eq_some_iff.1 hq).1
    have hk := (List.getElem?_eq_some_iff.1 hp).1
    have ap := List.pairwise_iff_getElem.1 h.apt
    obtain ⟨_, eq⟩ := List.getElem?_eq_some_iff.1 hq
    obtain ⟨_, ep⟩ := List.getElem?_eq_some_iff.1 hp
    rcases Nat.lt_or_gt_of_ne e with l | l
    · exact ap k i hk hi l g (by rw [ep]; exact h2) (by rw [eq]; exact h1)
    · exact ap i k hi hk l g (by rw [eq]; exact h1) (by rw [ep]; exact h2)

/-- A table of the call's own, with all that is in it. -/
structure OwG (lo hi : Nat) (w : World) (v : Value) (t : Tb) : Prop where
  own : ∃ ps, OwR lo w v ps ∧ PaG lo hi w ps t
  top : ∀ g, v.ownBlock = some g → g < hi
theorem OwG.later {lo hi : Nat} {w w' : World} {v : Value} {t : Tb} (h : OwG lo hi w v t) (hb : Below w.heap.size w w') : OwG lo hi w' v t := by
  obtain ⟨ps, h1, h2⟩ := h.own
  exact ⟨⟨ps, h1.later hb, h2.later hb⟩, h.top⟩
theorem OwG.rw {lo hi : Nat} {w : World} {v : Value} {t : Tb} (h : OwG lo hi w v t) : RwG w v t := by
  obtain ⟨ps, h1, h2⟩ := h.own
  exact ⟨ps, h1.rw encV_len, h2.rw⟩
theorem OwG.mono {lo hi lo' hi' : Nat} {w : World} {v : Value} {t : Tb} (h : OwG lo hi w v t) (h1 : lo' ≤ lo) (h2 : hi ≤ hi') : OwG lo' hi' w v t := by
  obtain ⟨ps, k1, k2⟩ := h.own
  exact ⟨⟨ps, k1.base h1, k2.mono h1 h2⟩, fun g hg => Nat.lt_of_lt_of_le (h.top g hg) h2⟩
theorem OwG.trn {S : Nat → Prop} {lo hi : Nat} {w w' : World} {v : Value} {t : Tb} (h : OwG lo hi w v t) (tr : Trn S w w') (hs : ∀ i, S i → ¬ (lo ≤ i ∧ i < hi)) : OwG lo hi w' v t := by
  obtain ⟨ps, k1, k2⟩ := h.own
  exact ⟨⟨ps, tr.own k1 (fun i hi q => hs i q ⟨(World.ownsRow.lt k1 _ hi).1, h.top i hi⟩), k2.trn tr hs⟩, h.top⟩
theorem OwG.nil (lo hi : Nat) (w : World) : OwG lo hi w (.slice none 0 0) [] := ⟨⟨[], World.ownsRow_nil _ _ _ _, PaG.nil _ _ _⟩, fun g hg => by cases hg⟩
/-- A number of an owned table: where it lies, and the table with another one there. -/
theorem OwG.slot {lo hi n c : Nat} {a : Option Addr} {w : World} {t : Tb} (h : OwG lo hi w (.slice a n c) t) {k : Nat} {r : List Int} (hr : t[k]? = some r) :
    ∃ ob ar cr, a = some ⟨ob, 0, none⟩ ∧ n ≤ c ∧ ob < w.heap.size ∧ w.cell? ⟨ob, k, none⟩ = some (.slice ar r.length cr) ∧ OwN lo w (.slice ar r.length cr) r ∧ (∀ g, (Value.slice ar r.length cr).ownBlock = some g → g < hi) ∧
      ∀ (w' : World) (r' : List Int), w.grownBy w' (Value.slice ar r.length cr).ownBlock → OwN lo w' (.slice ar r.length cr) r' → OwG lo hi w' (.slice a n c) (t.set k r') := by
  obtain ⟨ps, h1, h2⟩ := h.own
  have hk := (List.getElem?_eq_some_iff.1 hr).1
  have hn := (h1.rw encV_len).len
  obtain ⟨p, b, off, hp, ha, hb, hcap, hc⟩ := (h1.rw encV_len).at (i := k) (by have := h2.len; omega)
  have ho := h2.ins k p r hp hr
  obtain ⟨ar, cr, rfl⟩ := ho.form
  have c0 := hc 0 (by omega)
  rw [Nat.mul_one, Nat.add_zero] at c0
  have e0 : off = 0 := by
    rcases h1.2 with ⟨hh, _⟩ | ⟨g, cap, cur, hh, _⟩
    · simp only [Value.slice.injEq] at hh
      rw [ha] at hh; cases hh.1
    · simp only [Value.slice.injEq] at hh
      rw [ha] at hh
      simp only [Option.some.injEq, Addr.mk.injEq] at hh
      exact hh.1.2.1
  subst e0
  rw [Nat.zero_add] at c0
  refine ⟨b, ar, cr, ha, hn.2, hb, c0, ho, h2.top _ (List.mem_of_getElem? hp), fun w' r' hg ho' => ⟨⟨ps, ?_, h2.turn hp hg ho'⟩, h.top⟩⟩
  exact h1.apartT (T := 3) ho.blkT (by decide) hg
end Go.Proofs.YtjlocbimkfocnaaGreat
