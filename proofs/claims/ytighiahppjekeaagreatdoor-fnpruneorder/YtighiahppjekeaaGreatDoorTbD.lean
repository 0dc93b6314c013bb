/-
  Rows of numbers in memory. No program here, no statement is proved here.
  How far each was heard, as lists of numbers: right, the greater of two, beneath, raised. No program here, no statement is proved here.
  Tables as lists of rows, marks that are put into a row, the least of a place: plain lists. No program here, no statement is proved here.
  The helpers of the laws on slices of numbers: a copy of its own memory, two that read the same, marks and whether they are held. No statement is proved here.
  Rows of rows of numbers in memory: what reads so, what the call itself owns. No program here, no statement is proved here.
  A row that came in as an argument: what it reads as. No statement is proved here.
  A slice of numbers, and a tree, as an argument, opened; the laws' helpers on slices of numbers, said of values. No statement is proved here.
  What the laws do with a table: its size is taken off, it is turned into the program's own, two are compared, it is marked and held. No statement is proved here.
  Rows of numbers appended to one another, and copied. No statement is proved here.
  A new table, a table's copy: the specification's and the program's. No statement is proved here.
  Whether marks are right: the specification's, and the program's. No statement is proved here.
  The specification's word for the greater of two numbers. No statement is proved here.
  Small helpers of chapter 8: the greater of two numbers, what stands at a place, whether numbers are right. No statement is proved here.
  A vector that is raised at one place: the specification's and the program's. No statement is proved here.
  Marks are put into a table's row: the specification's and the program's. No statement is proved here.
-/
import Derived.Test.YtighiahppjekeaaGreatDoorApp2
import Derived.WalkLawsBesides
import Derived.BigQuiet
import Derived.Deep.QuietTactic
import Derived.Test.YtighiahppjekeaaGreatDoorStM
import Derived.ProofKit
import Derived.ChangeArms
import Derived.Deep.Slices
import Derived.Laws.AppendOwnNone
import Derived.Laws.StructEq
import Derived.Test.YtighiahppjekeaaGreatDoorOrd
import Derived.Test.YtighiahppjekeaaGreatDoorBase
import Derived.Deep.RegionHeld3
import Derived.Deep.DeepCutAuto
namespace Go.Proofs.YtighiahppjekeaaGreatDoor
open Go.RowKit

def encN (n : Int) : List Value := [.int .i64 n]
theorem encN_len (n : Int) : (encN n).length = 1 := rfl
abbrev RwN := Rw encN 1
theorem Rw.atN {w : World} {a : Option Addr} {n cap : Nat} {ns : List Int} (h : RwN w (.slice a n cap) ns) {i : Nat} (hi : i < n) :
    ∃ z b off, ns[i]? = some z ∧ a = some ⟨b, off, none⟩ ∧ b < w.heap.size ∧ n ≤ cap ∧ w.cell? ⟨b, off + i, none⟩ = some (.int .i64 z) := by
  obtain ⟨z, b, off, h1, h2, h3, h4, h5⟩ := h.at hi
  refine ⟨z, b, off, h1, h2, h3, h4, ?_⟩
  have := h5 0 (by omega)
  rw [Nat.mul_one, Nat.add_zero] at this
  rw [this]; rfl
end Go.Proofs.YtighiahppjekeaaGreatDoor

namespace Go.Proofs.YtighiahppjekeaaGreatDoor
open Go.RowKit

/-- What is not there counts as 0. -/
def nAt (ns : List Int) (k : Nat) : Int := ns.getD k 0
/-- The first k places of the greater of two. -/
def vmK (xs ys : List Int) (k : Nat) : List Int := (List.range k).map fun i => max (nAt xs i) (nAt ys i)
def vm (xs ys : List Int) : List Int := vmK xs ys (max xs.length ys.length)
/-- The first k places are beneath. -/
def vlK (xs ys : List Int) (k : Nat) : Bool := (List.range k).all fun i => decide (nAt xs i ≤ nAt ys i)
def vl (xs ys : List Int) : Bool := vlK xs ys xs.length
def inP (at0 : Int) (ns : List Int) : Bool := inB at0 0 ((ns.length : Int) - 1)
def vr (ns : List Int) (at0 n : Int) : List Int := if inP at0 ns = true then ns.set at0.toNat (max (nAt ns at0.toNat) n) else ns
/-- The first k numbers are right ones. -/
def okNK (ns : List Int) (k : Nat) : Bool := (ns.take k).all fun x => inB x 0 100000
def okN (ns : List Int) : Bool := ns.all fun x => inB x 0 100000
def vok (ns : List Int) (n : Int) : Bool := inB n 1 5 && ((ns.length : Int) == n) && okN ns

theorem vmK_len (xs ys : List Int) (k : Nat) : (vmK xs ys k).length = k := by simp [vmK]
theorem vm_len (xs ys : List Int) : (vm xs ys).length = max xs.length ys.length := vmK_len _ _ _
theorem vmK_succ (xs ys : List Int) (k : Nat) : vmK xs ys (k + 1) = vmK xs ys k ++ [max (nAt xs k) (nAt ys k)] := by simp [vmK, List.range_succ]
theorem vm_at (xs ys : List Int) (k : Nat) : nAt (vm xs ys) k = if k < max xs.length ys.length then max (nAt xs k) (nAt ys k) else 0 := by
  unfold nAt vm vmK
  rw [List.getD_eq_getElem?_getD, List.getElem?_map]
  by_cases h : k < max xs.length ys.length
  · rw [if_pos h, List.getElem?_range h]; rfl
  · rw [if_neg h, List.getElem?_eq_none (by simp; omega)]; rfl
theorem nAt_out {ns : List Int} {k : Nat} (h : ns.length ≤ k) : nAt ns k = 0 := by
  unfold nAt; rw [List.getD_eq_getElem?_getD, List.getElem?_eq_none h]; rfl
theorem nAt_in {ns : List Int} {k : Nat} {z : Int} (h : ns[k]? = some z) : nAt ns k = z := by
  unfold nAt; rw [List.getD_eq_getElem?_getD, h]; rfl
theorem vlK_succ (xs ys : List Int) (k : Nat) : vlK xs ys (k + 1) = (vlK xs ys k && decide (nAt xs k ≤ nAt ys k)) := by simp [vlK, List.range_succ]
theorem vl_iff {xs ys : List Int} : vl xs ys = true ↔ ∀ k, k < xs.length → nAt xs k ≤ nAt ys k := by simp [vl, vlK]
theorem vl_no {xs ys : List Int} {k : Nat} (hk : k < xs.length) (h : nAt ys k < nAt xs k) : vl xs ys = false := by
  rw [Bool.eq_false_iff]
  intro q
  have := vl_iff.1 q k hk
  omega
theorem okNK_succ {ns : List Int} {k : Nat} {z : Int} (h : ns[k]? = some z) : okNK ns (k + 1) = (okNK ns k && inB z 0 100000) := by
  rw [okNK, okNK, List.take_add_one, h]; simp
theorem okNK_all {ns : List Int} {k : Nat} (h : ns.length ≤ k) : okNK ns k = okN ns := by rw [okNK, List.take_of_length_le h, okN]
theorem okN_no {ns : List Int} {k : Nat} {z : Int} (h : ns[k]? = some z) (hz : inB z 0 100000 = false) : okN ns = false := by
  rw [Bool.eq_false_iff]
  intro q
  rw [okN, List.all_eq_true] at q
  rw [q z (List.mem_of_getElem? h)] at hz
  cases hz
theorem vr_len (ns : List Int) (at0 n : Int) : (vr ns at0 n).length = ns.length := by
  unfold vr; split <;> simp
theorem inP_iff {at0 : Int} {ns : List Int} : inP at0 ns = true ↔ 0 ≤ at0 ∧ at0 < ns.length := by
  unfold inP inB; simp; omega
theorem vl_left (xs ys : List Int) : vl xs (vm xs ys) = true := by
  rw [vl_iff]
  intro k hk
  rw [vm_at, if_pos (by omega)]
  omega
theorem vl_right (xs ys : List Int) : vl ys (vm xs ys) = true := by
  rw [vl_iff]
  intro k hk
  rw [vm_at, if_pos (by omega)]
  omega
theorem vl_swap (xs ys : List Int) : vl (vm ys xs) (vm xs ys) = true := by
  rw [vl_iff]
  intro k hk
  rw [vm_len] at hk
  rw [vm_at, vm_at, if_pos hk, if_pos (by omega)]
  omega
theorem vr_at {ns : List Int} {k : Nat} {n z : Int} (hk : k < ns.length) (h : (vr ns k n)[k]? = some z) : n ≤ z := by
  rw [vr, if_pos (inP_iff.2 (by omega)), Int.toNat_natCast, List.getElem?_set, if_pos rfl, if_pos hk] at h
  cases h
  omega
end Go.Proofs.YtighiahppjekeaaGreatDoor

namespace Go.Proofs.YtighiahppjekeaaGreatDoor
open Go.RowKit

abbrev Tb := List (List Int)
/-- A row of a right table. -/
def okR (r : List Int) : Bool := decide (r.length = 5) && r.all fun x => inB x 0 1000
def okRK (r : List Int) (k : Nat) : Bool := (r.take k).all fun x => inB x 0 1000
def okRs (t : Tb) : Bool := t.all okR
def okRsK (t : Tb) (k : Nat) : Bool := (t.take k).all okR
def okT (t : Tb) (n : Int) : Bool := inB n 1 5 && ((t.length : Int) == n) && okRs t
theorem okRK_succ {r : List Int} {k : Nat} {x : Int} (h : r[k]? = some x) : okRK r (k + 1) = (okRK r k && inB x 0 1000) := by
  unfold okRK
  rw [List.take_add_one, h, List.all_append]; simp
theorem okRK_all {r : List Int} {k : Nat} (h : k = r.length) : okRK r k = r.all fun x => inB x 0 1000 := by
  unfold okRK
  rw [List.take_of_length_le (by omega)]
theorem okRsK_succ {t : Tb} {k : Nat} {r : List Int} (h : t[k]? = some r) : okRsK t (k + 1) = (okRsK t k && okR r) := by
  unfold okRsK
  rw [List.take_add_one, h, List.all_append]; simp
theorem okRsK_all {t : Tb} {k : Nat} (h : k = t.length) : okRsK t k = okRs t := by
  unfold okRsK okRs
  rw [List.take_of_length_le (by omega)]
theorem all_no {α : Type} {p : α → Bool} {xs : List α} {k : Nat} {x : α} (h : xs[k]? = some x) (hp : p x = false) : xs.all p = false := by
  rw [← Bool.not_eq_true, List.all_eq_true]
  intro q
  have := q x (List.mem_of_getElem? h)
  rw [hp] at this; cases this
theorem okR_no {r : List Int} {k : Nat} {x : Int} (h : r[k]? = some x) (hp : inB x 0 1000 = false) : okR r = false := by
  unfold okR
  rw [all_no (p := fun x => inB x 0 1000) h hp, Bool.and_false]
theorem okRs_no {t : Tb} {k : Nat} {r : List Int} (h : t[k]? = some r) (hp : okR r = false) : okRs t = false := all_no (p := okR) h hp

/-- A table of noughts. -/
def nulR : List Int := List.replicate 5 0
def newT (n : Int) : Tb := if inB n 1 5 = true then List.replicate n.toNat nulR else []
theorem newT_len (n : Int) : (newT n).length ≤ 5 := by
  unfold newT
  split
  · rename_i h
    simp [inB] at h
    simp; omega
  · simp

/-- A mark that is put into a row; a list of marks. -/
def putM (r : List Int) (m : Flr) : List Int := r.set m.1.toNat (max (nAt r m.1.toNat) m.2)
def putMs (r : List Int) (ms : List Flr) : List Int := ms.foldl putM r
theorem putM_len (r : List Int) (m : Flr) : (putM r m).length = r.length := by simp [putM]
theorem putMs_len : ∀ (ms : List Flr) (r : List Int), (putMs r ms).length = r.length
  | [], _ => rfl
  | m :: ms, r => by
    show (putMs (putM r m) ms).length = _
    rw [putMs_len ms, putM_len]
theorem putMs_take {r : List Int} {ms : List Flr} {k : Nat} {m : Flr} (h : ms[k]? = some m) : putMs r (ms.take (k + 1)) = putM (putMs r (ms.take k)) m := by
  unfold putMs
  rw [List.take_add_one, h, List.foldl_append]; rfl
def rowT (t : Tb) (k : Int) : List Int := t.getD k.toNat []
theorem rowT_in {t : Tb} {k : Nat} {r : List Int} (h : t[k]? = some r) : rowT t (k : Int) = r := by
  unfold rowT; rw [List.getD_eq_getElem?_getD]; simp [h]
def addOk (t : Tb) (k : Int) (ms : List Flr) : Bool := inB k 0 ((t.length : Int) - 1) && gF (-1) ms && decide (5 ≤ (rowT t k).length)
def addT (t : Tb) (k : Int) (ms : List Flr) : Tb := if addOk t k ms = true then t.set k.toNat (putMs (rowT t k) ms) else t
theorem addT_len (t : Tb) (k : Int) (ms : List Flr) : (addT t k ms).length = t.length := by
  unfold addT; split <;> simp

/-- The least of some numbers; 0 of none. -/
def lst : List Int → Int
  | [] => 0
  | x :: r => r.foldl min x
theorem lst_one (x : Int) : lst [x] = x := rfl
theorem lst_snoc {ns : List Int} (h : ns ≠ []) (x : Int) : lst (ns ++ [x]) = min (lst ns) x := by
  cases ns with
  | nil => exact absurd rfl h
  | cons y r => simp [lst, List.foldl_append]
/-- The numbers at a place. -/
def col (t : Tb) (k : Nat) : List Int := t.map fun r => nAt r k
def hasR (id : Int) (r : List Int) : Bool := inB id 0 ((r.length : Int) - 1)
def com (t : Tb) (id : Int) : Int := if t.all (hasR id) = true then lst (col t id.toNat) else 0
theorem col_take {t : Tb} {i k : Nat} {r : List Int} (h : t[i]? = some r) : col (t.take (i + 1)) k = col (t.take i) k ++ [nAt r k] := by
  unfold col
  rw [List.take_add_one, h, List.map_append]; rfl
theorem com_no {t : Tb} {id : Int} {i : Nat} {r : List Int} (h : t[i]? = some r) (hp : hasR id r = false) : com t id = 0 := by
  unfold com
  rw [if_neg]
  rw [all_no h hp]; simp
theorem hasR_take {t : Tb} {id : Int} {i : Nat} {r : List Int} (h : t[i]? = some r) (hp : hasR id r = true) (hk : (t.take i).all (hasR id) = true) : (t.take (i + 1)).all (hasR id) = true := by
  rw [List.take_add_one, h, List.all_append, hk]; simp [hp]
theorem lst_le : ∀ {ns : List Int} {x : Int}, x ∈ ns → lst ns ≤ x := by
  have h : ∀ (r : List Int) (m : Int), r.foldl min m ≤ m ∧ ∀ y ∈ r, r.foldl min m ≤ y := by
    intro r
    induction r with
    | nil => intro m; exact ⟨Int.le_refl _, fun y hy => by simp at hy⟩
    | cons z r ih =>
      intro m
      obtain ⟨h1, h2⟩ := ih (min m z)
      refine ⟨by simp only [List.foldl_cons]; omega, fun y hy => ?_⟩
      simp only [List.foldl_cons]
      rcases List.mem_cons.1 hy with rfl | hy
      · omega
      · exact h2 y hy
  intro ns x hx
  cases ns with
  | nil => simp at hx
  | cons y r =>
    rcases List.mem_cons.1 hx with rfl | hx
    · exact (h r x).1
    · exact (h r y).2 x hx
end Go.Proofs.YtighiahppjekeaaGreatDoor

namespace Go.Proofs.YtighiahppjekeaaGreatDoor
open Go.RowKit

theorem Tryz.infoInt : (Tryz.prog.info? 3).map (fun i => (i.zero, i.size, i.bytes)) = some (some (.int .i64 0), 1, 8) := by kernel_rfl
/-- The slice value v reads as the numbers xs. -/
def SegN (w : World) (v : Value) (xs : List Int) : Prop :=
  ∃ a cap, v = .slice a xs.length cap ∧ xs.length ≤ cap ∧ (xs = [] ∨ ∃ b off, a = some ⟨b, off, none⟩ ∧ b < w.heap.size ∧ ∀ i, i < xs.length → w.cell? ⟨b, off + i, none⟩ = some (.int .i64 (xs.getD i 0)))
theorem segN_of {w : World} {v : Value} {xs : List Int} (h : RwN w v xs) : SegN w v xs := by
  obtain ⟨a, cap, rfl, hcap, h⟩ := h
  refine ⟨a, cap, rfl, hcap, ?_⟩
  rcases h with h | ⟨b, off, rfl, hlt, hc⟩
  · exact .inl h
  · refine .inr ⟨b, off, rfl, hlt, fun i hi => ?_⟩
    have := hc i xs[i] (by simp [hi]) 0 (by omega)
    rw [Nat.mul_one, Nat.add_zero] at this
    rw [this]
    simp [encN, hi]
theorem flatN (xs : List Int) : xs.flatMap encN = xs.map (Value.int .i64) := by
  induction xs with
  | nil => rfl
  | cons x r ih => rw [List.flatMap_cons, ih]; rfl
/-- A row of numbers that the call itself owns. -/
abbrev OwN (base : Nat) (w : World) (v : Value) (ns : List Int) : Prop := Ow encN 1 3 base w v ns
theorem ownN_iff {w : World} {base : Nat} {E : TypeId} {v : Value} {ns : List Int} : Ow encN 1 E base w v ns ↔ w.ownsRow base E 1 v ns.length (ns.map (Value.int .i64)) := by
  unfold Ow; rw [flatN]
theorem oneN (x : Int) : ∀ u ∈ encN x, u.oneCell' = true := by
  intro u hu
  simp [encN] at hu
  subst hu; rfl
theorem setN_take_drop (xs : List Int) (n k : Nat) (hk : k < n) (hn : n = xs.length) :
    ((xs.take k ++ List.replicate (n - k) 0).map (Value.int .i64)).set k (.int .i64 (xs[k]?.getD 0)) = (xs.take (k + 1) ++ List.replicate (n - (k + 1)) 0).map (Value.int .i64) := by
  subst hn
  rw [← fill_set xs 0 k xs[k] (by simp [hk]), List.map_set]
  simp [hk]



theorem grown_on {w w1 w2 : World} {g : Option Nat} (h : w.grownBy w1 g) (k : w1.grownBy w2 g) : w.grownBy w2 g :=
  ⟨k.os.trans h.os, k.tape.trans h.tape, k.output.trans h.output, Nat.le_trans h.size k.size, fun i hi hne => (k.block i (Nat.lt_of_lt_of_le hi h.size) hne).trans (h.block i hi hne)⟩
/-- The marks: from k on, a byte each. -/
def markN (k : Int) (n : Nat) : List Int := (List.range n).map fun i : Nat => k + (i : Int)

theorem markN_length (k : Int) (n : Nat) : (markN k n).length = n := by simp [markN]
theorem markN_succ (k : Int) (n : Nat) : markN k (n + 1) = markN k n ++ [(k + n)] := by simp [markN, List.range_succ]
theorem markN_get (k : Int) (n i : Nat) (h : i < n) : (markN k n).getD i 0 = (k + i) := by simp [markN, h]

theorem markN_set (k : Int) (xs : List Int) (j : Nat) (hj : j < xs.length) :
    ((markN k j ++ xs.drop j).map (Value.int .i64)).set j (.int .i64 ((k + j))) = (markN k (j + 1) ++ xs.drop (j + 1)).map (Value.int .i64) := by
  rw [markN_succ, List.drop_eq_getElem_cons hj]
  simp only [List.map_append, List.map_cons, List.append_assoc, List.cons_append, List.nil_append]
  rw [List.set_append_right _ _ (by simp [markN_length])]
  simp [markN_length]


end Go.Proofs.YtighiahppjekeaaGreatDoor

namespace Go.Proofs.YtighiahppjekeaaGreatDoor
open Go.RowKit

def encV (v : Value) : List Value := [v]
theorem encV_len (v : Value) : (encV v).length = 1 := rfl
abbrev OwR (base : Nat) (w : World) (v : Value) (ps : List Value) : Prop := Ow encV 1 70 base w v ps
/-- A slice without a block has no room. -/
def nilV (p : Value) : Prop := ∀ n c, p = .slice none n c → c = 0

/-- The inner rows, read. -/
structure InsG (w : World) (ps : List Value) (t : Tb) : Prop where
  len : ps.length = t.length
  ins : ∀ (i : Nat) (p : Value) (r : List Int), ps[i]? = some p → t[i]? = some r → RwN w p r ∧ nilV p
theorem InsG.later {w w' : World} {ps : List Value} {t : Tb} (h : InsG w ps t) (hb : Below w.heap.size w w') : InsG w' ps t := ⟨h.len, fun i p r hp hr => ⟨(h.ins i p r hp hr).1.later hb, (h.ins i p r hp hr).2⟩⟩
/-- The slice value v reads as the table t. -/
def RwG (w : World) (v : Value) (t : Tb) : Prop := ∃ ps, Rw encV 1 w v ps ∧ InsG w ps t
theorem RwG.later {w w' : World} {v : Value} {t : Tb} (h : RwG w v t) (hb : Below w.heap.size w w') : RwG w' v t := by
  obtain ⟨ps, h1, h2⟩ := h
  exact ⟨ps, h1.later hb, h2.later hb⟩
theorem RwG.alloc {w : World} {v : Value} {t : Tb} (h : RwG w v t) (o : Obj) : RwG (w.alloc o) v t := h.later ((Below.refl _ _).alloc (Nat.le_refl _) o)
theorem RwG.len {w : World} {a : Option Addr} {n cap : Nat} {t : Tb} (h : RwG w (.slice a n cap) t) : n = t.length ∧ n ≤ cap := by
  obtain ⟨ps, h1, h2⟩ := h
  exact ⟨h1.len.1.trans h2.len, h1.len.2⟩
theorem Rw.formG {α : Type} {enc : α → List Value} {k : Nat} {w : World} {v : Value} {xs : List α} (h : Rw enc k w v xs) : ∃ a n c, v = .slice a n c ∧ n = xs.length := by
  obtain ⟨a, cap, rfl, -⟩ := h
  exact ⟨a, _, cap, rfl, rfl⟩
/-- A row that is read: where it lies. -/
theorem RwG.at {w : World} {a : Option Addr} {n cap : Nat} {t : Tb} (h : RwG w (.slice a n cap) t) {i : Nat} (hi : i < n) :
    ∃ r ai ni ci b off, t[i]? = some r ∧ a = some ⟨b, off, none⟩ ∧ b < w.heap.size ∧ n ≤ cap ∧ w.cell? ⟨b, off + i, none⟩ = some (.slice ai ni ci) ∧ RwN w (.slice ai ni ci) r ∧ (ai = none → ci = 0) := by
  obtain ⟨ps, h1, h2⟩ := h
  obtain ⟨p, b, off, hp, ha, hb, hcap, hc⟩ := h1.at hi
  have hl := h1.len.1
  obtain ⟨r, hr⟩ : ∃ r, t[i]? = some r := ⟨_, List.getElem?_eq_getElem (by have := h2.len; omega)⟩
  obtain ⟨r1, r2⟩ := h2.ins i _ _ hp hr
  obtain ⟨ai, ni, ci, rfl, -⟩ := r1.formG
  have c0 := hc 0 (by omega)
  rw [Nat.mul_one, Nat.add_zero] at c0
  exact ⟨r, ai, ni, ci, b, off, hr, ha, hb, hcap, c0, r1, fun e => r2 ni ci (by rw [e])⟩

/-- How many numbers there are in all. -/
def totG : Tb → Nat
  | [] => 0
  | r :: t => r.length + totG t
theorem totG_app : ∀ (a b : Tb), totG (a ++ b) = totG a + totG b
  | [], b => by simp [totG]
  | s :: r, b => by rw [List.cons_append, totG, totG, totG_app r b]; omega
theorem totG_at : ∀ {t : Tb} {i : Nat} {r : List Int}, t[i]? = some r → totG (t.take i) + r.length + totG (t.drop (i + 1)) = totG t
  | [], i, s, h => by simp at h
  | x :: r, 0, s, h => by simp at h; subst h; simp [totG]
  | x :: r, i + 1, s, h => by
    have := totG_at (t := r) (i := i) (r := s) (by simpa using h)
    simp only [List.take_succ_cons, List.drop_succ_cons, totG]; omega
theorem takeG {α : Type} {xs : List α} {k : Nat} {x : α} (h : xs[k]? = some x) : xs.take (k + 1) = xs.take k ++ [x] := by
  rw [List.take_add_one, h]; rfl

/-- The inner rows of a table of the call's own: in blocks from lo on, ahead of hi, no two in one block. -/
structure PaG (lo hi : Nat) (w : World) (ps : List Value) (t : Tb) : Prop where
  len : ps.length = t.length
  ins : ∀ (i : Nat) (p : Value) (r : List Int), ps[i]? = some p → t[i]? = some r → OwN lo w p r
  top : ∀ p ∈ ps, ∀ g, p.ownBlock = some g → g < hi
  apt : ps.Pairwise fun p q => ∀ g, p.ownBlock = some g → q.ownBlock ≠ some g
theorem PaG.nil (lo hi : Nat) (w : World) : PaG lo hi w [] [] := ⟨rfl, fun i p s h => by simp at h, fun p h => by simp at h, .nil⟩
theorem PaG.later {lo hi : Nat} {w w' : World} {ps : List Value} {t : Tb} (h : PaG lo hi w ps t) (hb : Below w.heap.size w w') : PaG lo hi w' ps t :=
  ⟨h.len, fun i p s hp hs => (h.ins i p s hp hs).later hb, h.top, h.apt⟩
theorem Ow.nilV {E : TypeId} {base : Nat} {w : World} {p : Value} {ns : List Int} (h : Ow encN 1 E base w p ns) : nilV p := by
  rintro n c rfl
  rcases h.2 with ⟨e, _⟩ | ⟨g, cap, cur, e, _⟩
  · simp at e; exact e.2
  · simp at e
theorem PaG.rw {lo hi : Nat} {w : World} {ps : List Value} {t : Tb} (h : PaG lo hi w ps t) : InsG w ps t := ⟨h.len, fun i p s hp hs => ⟨(h.ins i p s hp hs).rw encN_len, (h.ins i p s hp hs).nilV⟩⟩
theorem PaG.trn {S : Nat → Prop} {lo hi : Nat} {w w' : World} {ps : List Value} {t : Tb} (h : PaG lo hi w ps t) (tr : Trn S w w') (hs : ∀ i, S i → ¬ (lo ≤ i ∧ i < hi)) : PaG lo hi w' ps t := by
  refine ⟨h.len, fun i p s hp hq => ?_, h.top, h.apt⟩
  have h1 := h.ins i p s hp hq
  exact tr.own h1 (fun g hg k => hs g k ⟨(World.ownsRow.lt h1 _ hg).1, h.top p (List.mem_of_getElem? hp) g hg⟩)
/-- A write into a block of another type. -/
theorem Ow.apartT {α : Type} {enc : α → List Value} {k : Nat} {E T : TypeId} {base : Nat} {w w' : World} {v : Value} {xs : List α} {b : Option Nat} (h : Ow enc k E base w v xs) (hb : ∀ g, b = some g → ∃ cs fz, w.heap[g]? = some (.cells cs T fz)) (hne : E ≠ T) (hg : w.grownBy w' b) : Ow enc k E base w' v xs := by
  refine (Trn.of_grown hg).own h (fun i hi q => ?_)
  obtain ⟨cs, fz, hb⟩ := hb i q
  rcases h.2 with ⟨rfl, _⟩ | ⟨g', cap, cur, rfl, _, hh, _⟩
  · cases hi
  · simp only [Value.ownBlock, Option.some.injEq] at hi
    subst hi
    rw [hh] at hb
    simp at hb
    exact hne hb.2.1
/-- The block of an owned row, where it has one. -/
theorem Ow.blkT {α : Type} {enc : α → List Value} {k : Nat} {E : TypeId} {base : Nat} {w : World} {v : Value} {xs : List α} (h : Ow enc k E base w v xs) : ∀ g, v.ownBlock = some g → ∃ cs fz, w.heap[g]? = some (.cells cs E fz) := by
  intro g hg
  rcases h.2 with ⟨rfl, _⟩ | ⟨g', cap, cur, rfl, _, hh, _⟩
  · cases hg
  · simp only [Value.ownBlock, Option.some.injEq] at hg
    subst hg
    exact ⟨_, _, hh⟩
theorem PaG.other {lo hi : Nat} {w w' : World} {ps : List Value} {t : Tb} {b : Option Nat} {T : TypeId} (h : PaG lo hi w ps t) (hb : ∀ g, b = some g → ∃ cs fz, w.heap[g]? = some (.cells cs T fz)) (hT : 3 ≠ T) (hg : w.grownBy w' b) : PaG lo hi w' ps t :=
  ⟨h.len, fun i p s hp hs => (h.ins i p s hp hs).apartT hb hT hg, h.top, h.apt⟩
theorem PaG.snoc {lo hi B hi' : Nat} {w : World} {ps : List Value} {t : Tb} {p : Value} {r : List Int} (h : PaG lo hi w ps t) (h1 : OwN B w p r) (hB : hi ≤ B) (hlo : lo ≤ B) (hh : w.heap.size ≤ hi') (hhi : hi ≤ hi') : PaG lo hi' w (ps ++ [p]) (t ++ [r]) := by
  refine ⟨by simp [h.len], fun i q s hq hs => ?_, fun q hq g hg => ?_, ?_⟩
  · by_cases hi : i < ps.length
    · rw [List.getElem?_append_left hi] at hq
      rw [List.getElem?_append_left (by rw [← h.len]; exact hi)] at hs
      exact h.ins i q s hq hs
    · rw [List.getElem?_append_right (by omega)] at hq
      rw [List.getElem?_append_right (by rw [← h.len]; omega), ← h.len] at hs
      have e : i - ps.length = 0 := by
        have := (List.getElem?_eq_some_iff.1 hq).1
        simp at this; omega
      rw [e] at hq hs
      simp at hq hs
      subst hq hs
      exact h1.base hlo
  · rcases List.mem_append.1 hq with hq | hq
    · have := h.top q hq g hg; omega
    · simp at hq; subst hq
      have := (World.ownsRow.lt h1 _ hg).2; omega
  · refine List.pairwise_append.2 ⟨h.apt, by simp, fun q hq s hs => ?_⟩
    simp at hs
    subst hs
    intro g hg k
    have a := h.top q hq g hg
    have b := (World.ownsRow.lt h1 _ k).1
    omega
theorem PaG.mono {lo hi lo' hi' : Nat} {w : World} {ps : List Value} {t : Tb} (h : PaG lo hi w ps t) (h1 : lo' ≤ lo) (h2 : hi ≤ hi') : PaG lo' hi' w ps t :=
  ⟨h.len, fun i p s hp hs => (h.ins i p s hp hs).base h1, fun p hp g hg => Nat.lt_of_lt_of_le (h.top p hp g hg) h2, h.apt⟩
/-- One of the rows is turned, in its own block. -/
theorem PaG.turn {lo hi : Nat} {w w' : World} {ps : List Value} {t : Tb} {k : Nat} {p : Value} {r : List Int} (h : PaG lo hi w ps t) (hp : ps[k]? = some p) (hg : w.grownBy w' p.ownBlock) (ho : OwN lo w' p r) : PaG lo hi w' ps (t.set k r) := by
  refine ⟨by simp [h.len], fun i q s hq hs => ?_, h.top, h.apt⟩
  rw [List.getElem?_set] at hs
  split at hs
  · rename_i e
    subst e
    rw [hp] at hq
    cases hq
    split at hs
    · cases hs; exact ho
    · cases hs
  · rename_i e
    refine (Trn.of_grown hg).own (h.ins i q s hq hs) (fun g h1 h2 => ?_)
    have hi := (List.getElem?_eq_some_iff.1 hq).1
    have hk := (List.getElem?_eq_some_iff.1 hp).1
    have ap := List.pairwise_iff_getElem.1 h.apt
    obtain ⟨_, eq⟩ := List.getElem?_eq_some_iff.1 hq
    obtain ⟨_, ep⟩ := List.getElem?_eq_some_iff.1 hp
    rcases Nat.lt_or_gt_of_ne e with l | l
    · exact ap k i hk hi l g (by rw [ep]; exact h2) (by rw [eq]; exact h1)
    · exact ap i k hi hk l g (by rw [eq]; exact h1) (by rw [ep]; exact h2)

/-- A table of the call's own, with all that is in it. -/
structure OwG (lo hi : Nat) (w : World) (v : Value) (t : Tb) : Prop where
  own : ∃ ps, OwR lo w v ps ∧ PaG lo hi w ps t
  top : ∀ g, v.ownBlock = some g → g < hi
theorem OwG.later {lo hi : Nat} {w w' : World} {v : Value} {t : Tb} (h : OwG lo hi w v t) (hb : Below w.heap.size w w') : OwG lo hi w' v t := by
  obtain ⟨ps, h1, h2⟩ := h.own
  exact ⟨⟨ps, h1.later hb, h2.later hb⟩, h.top⟩
theorem OwG.rw {lo hi : Nat} {w : World} {v : Value} {t : Tb} (h : OwG lo hi w v t) : RwG w v t := by
  obtain ⟨ps, h1, h2⟩ := h.own
  exact ⟨ps, h1.rw encV_len, h2.rw⟩
theorem OwG.mono {lo hi lo' hi' : Nat} {w : World} {v : Value} {t : Tb} (h : OwG lo hi w v t) (h1 : lo' ≤ lo) (h2 : hi ≤ hi') : OwG lo' hi' w v t := by
  obtain ⟨ps, k1, k2⟩ := h.own
  exact ⟨⟨ps, k1.base h1, k2.mono h1 h2⟩, fun g hg => Nat.lt_of_lt_of_le (h.top g hg) h2⟩
theorem OwG.trn {S : Nat → Prop} {lo hi : Nat} {w w' : World} {v : Value} {t : Tb} (h : OwG lo hi w v t) (tr : Trn S w w') (hs : ∀ i, S i → ¬ (lo ≤ i ∧ i < hi)) : OwG lo hi w' v t := by
  obtain ⟨ps, k1, k2⟩ := h.own
  exact ⟨⟨ps, tr.own k1 (fun i hi q => hs i q ⟨(World.ownsRow.lt k1 _ hi).1, h.top i hi⟩), k2.trn tr hs⟩, h.top⟩
theorem OwG.nil (lo hi : Nat) (w : World) : OwG lo hi w (.slice none 0 0) [] := ⟨⟨[], World.ownsRow_nil _ _ _ _, PaG.nil _ _ _⟩, fun g hg => by cases hg⟩
/-- A number of an owned table: where it lies, and the table with another one there. -/
theorem OwG.slot {lo hi n c : Nat} {a : Option Addr} {w : World} {t : Tb} (h : OwG lo hi w (.slice a n c) t) {k : Nat} {r : List Int} (hr : t[k]? = some r) :
    ∃ ob ar cr, a = some ⟨ob, 0, none⟩ ∧ n ≤ c ∧ ob < w.heap.size ∧ w.cell? ⟨ob, k, none⟩ = some (.slice ar r.length cr) ∧ OwN lo w (.slice ar r.length cr) r ∧ (∀ g, (Value.slice ar r.length cr).ownBlock = some g → g < hi) ∧
      ∀ (w' : World) (r' : List Int), w.grownBy w' (Value.slice ar r.length cr).ownBlock → OwN lo w' (.slice ar r.length cr) r' → OwG lo hi w' (.slice a n c) (t.set k r') := by
  obtain ⟨ps, h1, h2⟩ := h.own
  have hk := (List.getElem?_eq_some_iff.1 hr).1
  have hn := (h1.rw encV_len).len
  obtain ⟨p, b, off, hp, ha, hb, hcap, hc⟩ := (h1.rw encV_len).at (i := k) (by have := h2.len; omega)
  have ho := h2.ins k p r hp hr
  obtain ⟨ar, cr, rfl⟩ := ho.form
  have c0 := hc 0 (by omega)
  rw [Nat.mul_one, Nat.add_zero] at c0
  have e0 : off = 0 := by
    rcases h1.2 with ⟨hh, _⟩ | ⟨g, cap, cur, hh, _⟩
    · simp only [Value.slice.injEq] at hh
      rw [ha] at hh; cases hh.1
    · simp only [Value.slice.injEq] at hh
      rw [ha] at hh
      simp only [Option.some.injEq, Addr.mk.injEq] at hh
      exact hh.1.2.1
  subst e0
  rw [Nat.zero_add] at c0
  refine ⟨b, ar, cr, ha, hn.2, hb, c0, ho, h2.top _ (List.mem_of_getElem? hp), fun w' r' hg ho' => ⟨⟨ps, ?_, h2.turn hp hg ho'⟩, h.top⟩⟩
  exact h1.apartT (T := 3) ho.blkT (by decide) hg
end Go.Proofs.YtighiahppjekeaaGreatDoor

namespace Go.Proofs.YtighiahppjekeaaGreatDoor
open Go.ChangeShapes Go.WideShapes Go.ChangeAt Go.RowKit

def FitN (n : Int) : Prop := -9223372036854775808 ≤ n ∧ n ≤ 9223372036854775807
theorem list_of {α : Type} {p : Nat → α → Prop} : ∀ (n : Nat), (∀ i, i < n → ∃ y, p i y) → ∃ xs : List α, xs.length = n ∧ ∀ (i : Nat) (y : α), xs[i]? = some y → p i y
  | 0, _ => ⟨[], rfl, fun i y h => by simp at h⟩
  | n + 1, h => by
    obtain ⟨xs, hl, hx⟩ := list_of n (fun i hi => h i (by omega))
    obtain ⟨y, hy⟩ := h n (by omega)
    refine ⟨xs ++ [y], by simp [hl], fun i z hz => ?_⟩
    by_cases hi : i < n
    · rw [List.getElem?_append_left (by omega)] at hz; exact hx i z hz
    · have hlt := (List.getElem?_eq_some_iff.1 hz).1
      simp [hl] at hlt
      obtain rfl : i = n := by omega
      rw [List.getElem?_append_right (by omega)] at hz
      simp [hl] at hz
      subst hz; exact hy

theorem fit_of {n : Int} (h : (Lit.int .i64 n).wf = true) : FitN n := by
  simp [Lit.wf, IntKind.min, IntKind.max, IntKind.bits, IntKind.signed] at h
  unfold FitN
  omega

theorem addr_off (b off i : Nat) : (⟨b, off, none⟩ : Addr).add i = ⟨b, off + i, none⟩ := by
  unfold Addr.add
  split
  · rename_i e; rw [e]; rfl
  · rfl

section
variable {H : Type} {enc : TypeId × Value → H} {w : World} {base : Nat} {spare : Nat → Bool} {held : Bool}

/-- A slice whose elements are structs. -/
theorem rw_of_slice {α : Type} {ec : α → List Value} {k : Nat} {Q : α → Prop} {T E : TypeId} (hT : Tryz.prog.underlying T = some (.slice E)) (hE : Tryz.prog.cellsOf E = k) (h0 : 0 < k)
    (dec : ∀ (fuel : Nat) (cs : List Value) (x : DataW H × List MemPlace), DataW.trod enc Tryz.prog w base spare held fuel E cs = some x → ∃ y, cs = ec y ∧ Q y)
    {fuel : Nat} {c : Value} {x : DataW H × List MemPlace} (h : DataW.trod enc Tryz.prog w base spare held fuel T [c] = some x) :
    ∃ a n cap xs, c = .slice a n cap ∧ n ≤ maxLen ∧ Rw ec k w (.slice a n cap) xs ∧ ∀ (i : Nat) (y : α), xs[i]? = some y → Q y := by
  rcases Deep.open_slice hT h with ⟨h1, -⟩ | ⟨a, len, cap, m, n, D, Pl, h1, hb, hl, hm, hmm, -, hx⟩
  · simp only [List.cons.injEq, and_true] at h1
    exact ⟨none, 0, 0, [], h1, by unfold maxLen; omega, Rw.nil, fun i y hy => by simp at hy⟩
  · simp only [List.cons.injEq, and_true] at h1
    subst h1
    have hlm : len ≤ m := by rw [hmm]; split <;> omega
    obtain ⟨xs, hxl, hxs⟩ := list_of (p := fun i y => (w.cells? base (a.add (i * k)) k = some (ec y)) ∧ Q y) len (fun i hi => by
      obtain ⟨cs', e1, e2⟩ := hx i (by omega)
      obtain ⟨y, rfl, hq⟩ := dec _ _ _ e2
      rw [hE] at e1
      exact ⟨y, e1, hq⟩)
    refine ⟨some a, len, cap, xs, rfl, by omega, ?_, fun i y hy => (hxs i y hy).2⟩
    subst hxl
    refine ⟨some a, cap, rfl, hl, ?_⟩
    by_cases hz : xs = []
    · exact .inl hz
    · have hpos : 0 < xs.length := List.length_pos_iff.2 hz
      have hc0 := (hxs 0 xs[0] (by simp [hpos])).1
      obtain ⟨_, hlen0, hcell0⟩ := World.cells?_some hc0
      have hc00 := hcell0 0 h0
      rw [List.getElem?_eq_getElem (by omega)] at hc00
      obtain ⟨b, off, spot⟩ := a
      have hspot : spot = none := by
        have := World.cell?_spot hc00
        simpa [Addr.add] using this
      subst hspot
      refine .inr ⟨b, off, rfl, by simpa [Addr.add] using World.block_lt_of_cell? w _ hc00, fun i y hy j hj => ?_⟩
      obtain ⟨_, _, hcell⟩ := World.cells?_some (hxs i y hy).1
      have := hcell j hj
      rw [Deep.add_add, addr_off] at this
      rw [Nat.add_assoc]
      exact this
end
end Go.Proofs.YtighiahppjekeaaGreatDoor

namespace Go.Proofs.YtighiahppjekeaaGreatDoor
open Go.RowKit

def FitNs (ns : List Int) : Prop := ∀ (k : Nat) (x : Int), ns[k]? = some x → FitN x
section
variable {H : Type} {enc : TypeId × Value → H} {w : World} {base : Nat} {spare : Nat → Bool} {held : Bool}
theorem int_of_cells {fuel : Nat} {cs : List Value} {x : DataW H × List MemPlace} (h : DataW.trod enc Tryz.prog w base spare held fuel 3 cs = some x) : ∃ y : Int, cs = encN y ∧ FitN y := by
  obtain ⟨n0, e0, -, f0⟩ := DataW.trod_int Tryz.underlying3 h
  exact ⟨n0, by rw [e0]; rfl, fit_of f0⟩
set_option maxRecDepth 100000 in
theorem open_numrow {r : Reach} {b0 : Nat} {v : Value} {d : DataW H} {p : List MemPlace}
    (hv : Value.okWide Tryz.prog w r b0 70 v) (h : DataW.Trod enc Tryz.prog w base spare held 70 v d p) :
    ∃ a n c ns, v = .slice a n c ∧ n ≤ 9223372036854775807 ∧ RwN w (.slice a n c) ns ∧ FitNs ns := by
  obtain ⟨a0, l0, c0, rfl⟩ := Go.WideShapes.okWide_slice Tryz.underlying70 hv
  obtain ⟨fuel, hf⟩ := h
  obtain ⟨a, n, c, ns, e, l1, r1, q1⟩ := rw_of_slice (ec := encN) (k := 1) (Q := FitN) Tryz.underlying70 (by kernel_rfl) (by omega) (fun _ _ _ h => int_of_cells h) (c := .slice a0 l0 c0) (by simpa [Value.cells] using hf)
  unfold maxLen at l1
  exact ⟨a, n, c, ns, e, l1, r1, q1⟩
end
end Go.Proofs.YtighiahppjekeaaGreatDoor

namespace Go.Proofs.YtighiahppjekeaaGreatDoor
open Go.RowKit

theorem Tryz.infoRow : (Tryz.prog.info? 70).map (fun i => (i.zero, i.size, i.bytes)) = some (some (.slice none 0 0), 1, 24) := by kernel_rfl
def zeroV : Value := .slice none 0 0
theorem fillG {α : Type} (ps : List α) (z p : α) (m : Nat) : (ps ++ List.replicate (m + 1) z).set ps.length p = (ps ++ [p]) ++ List.replicate m z := by
  rw [List.set_append_right _ _ (Nat.le_refl _), Nat.sub_self, List.replicate_succ, List.set_cons_zero, List.append_assoc]; rfl
/-- A row is stored into an owned table's outer row, which is filled so far. -/
theorem OwR.fill {base g n m : Nat} {w : World} {ps : List Value} {p : Value} (h : OwR base w (.slice (some ⟨g, 0, none⟩) n n) (ps ++ List.replicate (m + 1) zeroV)) (hn : n = ps.length + (m + 1)) :
    (∃ y, w.cell? ⟨g, ps.length, none⟩ = some y) ∧ (∀ o, w.frozen? ⟨g, o, none⟩ = false) ∧ OwR base (w.setCell ⟨g, ps.length, none⟩ p) (.slice (some ⟨g, 0, none⟩) n n) ((ps ++ [p]) ++ List.replicate m zeroV) ∧ w.grownBy (w.setCell ⟨g, ps.length, none⟩ p) (some g) ∧ base ≤ g := by
  have hl : (ps ++ List.replicate (m + 1) zeroV).length = n := by simp; omega
  have h' : w.ownsRow base 70 1 (.slice (some ⟨g, 0, none⟩) n n) n ((ps ++ List.replicate (m + 1) zeroV).flatMap encV) := by
    have q := h
    unfold OwR Ow at q
    rw [hl] at q
    exact q
  have hf : ∀ l : List Value, l.flatMap encV = l := fun l => by
    induction l with
    | nil => rfl
    | cons x r ih => rw [List.flatMap_cons, ih]; rfl
  rw [hf] at h'
  have hst := h'.stored ps.length p
  refine ⟨⟨_, (h'.cellAt ps.length (by omega)).trans (List.getElem?_eq_getElem (by rw [hl]; omega))⟩, h'.frozenAt, ?_, hst.2, (World.ownsRow.lt h' _ rfl).1⟩
  rw [fillG] at hst
  unfold OwR Ow
  have hl2 : ((ps ++ [p]) ++ List.replicate m zeroV).length = n := by simp; omega
  rw [hl2, hf]
  exact hst.1




/-- The marks of a table: from k on, a number each. -/
def mkG : Int → Tb → Tb
  | _, [] => []
  | k, r :: t => markN k r.length :: mkG (k + r.length) t
theorem mkG_app : ∀ (a b : Tb) (k : Int), mkG k (a ++ b) = mkG k a ++ mkG (k + totG a) b
  | [], b, k => by simp [mkG, totG]
  | s :: r, b, k => by rw [List.cons_append, mkG, mkG, totG, mkG_app r b]; simp [Int.add_assoc]
theorem mkG_len : ∀ (a : Tb) (k : Int), (mkG k a).length = a.length
  | [], k => rfl
  | s :: r, k => by rw [mkG, List.length_cons, List.length_cons, mkG_len r]
theorem dropG {α : Type} {xs : List α} {k : Nat} {x : α} (h : xs[k]? = some x) : xs.drop k = x :: xs.drop (k + 1) := by
  obtain ⟨hk, rfl⟩ := List.getElem?_eq_some_iff.1 h
  exact List.drop_eq_getElem_cons hk
theorem mkG_at {t : Tb} {j : Nat} {r : List Int} (h : t[j]? = some r) (k : Int) : (mkG k t)[j]? = some (markN (k + totG (t.take j)) r.length) := by
  have hj := (List.getElem?_eq_some_iff.1 h).1
  have e : t = t.take j ++ r :: t.drop (j + 1) := by rw [← dropG h, List.take_append_drop]
  conv => lhs; rw [e]
  rw [mkG_app, List.getElem?_append_right (by rw [mkG_len]; simp; omega), mkG_len]
  have : j - (t.take j).length = 0 := by simp; omega
  rw [this, mkG]
  rfl
/-- The first j marked, the rest as it was. -/
def mixG (k : Int) (t : Tb) (j : Nat) : Tb := mkG k (t.take j) ++ t.drop j
theorem mixG_at {k : Int} {t : Tb} {j : Nat} {r : List Int} (h : t[j]? = some r) : (mixG k t j)[j]? = some r := by
  have hj := (List.getElem?_eq_some_iff.1 h).1
  rw [mixG, List.getElem?_append_right (by rw [mkG_len]; simp; omega), mkG_len, show j - (t.take j).length = 0 by simp; omega, dropG h]; rfl
theorem mixG_next {k : Int} {t : Tb} {j : Nat} {r : List Int} (h : t[j]? = some r) : mixG k t (j + 1) = (mixG k t j).set j (markN (k + totG (t.take j)) r.length) := by
  have hj := (List.getElem?_eq_some_iff.1 h).1
  rw [mixG, mixG, takeG h, mkG_app, dropG h, List.set_append_right _ _ (by rw [mkG_len]; simp; omega), mkG_len, show j - (t.take j).length = 0 by simp; omega]
  simp [mkG]

end Go.Proofs.YtighiahppjekeaaGreatDoor

namespace Go.Proofs.YtighiahppjekeaaGreatDoor
open Go.RowKit

theorem wpList_appN {ops : Array Oper} {rest : List Oper} {o : Oper} {a : Act} {Q : Exit → Act → World → Prop} (w : World) (hgd : o.guard = none) (s x : Operand)
    (ho : o.op = .call { callee := .builtin .append, args := #[s, x], argTypes := #[70, 70] })
    (base : Nat) (v : Value) (xs : List Int) (hs : a.eval s = v) (hown : OwN base w v xs) (b : Option Addr) (m cap : Nat) (ys : List Int) (hx : a.eval x = .slice b m cap) (hu : RwN w (.slice b m cap) ys) (hnil : b = none → cap = 0) (hl : xs.length + ys.length ≤ 100000000) (hbase : base ≤ w.heap.size)
    (h : ∀ v' w', OwN base w' v' (xs ++ ys) → w.grownBy w' v.ownBlock → wpList Tryz.prog ops Q rest (a.put o.dst v') w') : wpList Tryz.prog ops Q (o :: rest) a w := by
  obtain ⟨i0, hi, hz0, hz1, hz2⟩ := info_parts Tryz.infoInt
  obtain ⟨hm, hcap⟩ := hu.len
  subst hm
  cases b with
  | none =>
    have hys : ys = [] := by
      cases ys with
      | nil => rfl
      | cons y r =>
        obtain ⟨z, b', off', _, hp, _⟩ := hu.atN (i := 0) (by simp)
        cases hp
    subst hys
    obtain rfl := hnil rfl
    exact wpList_append_own_none hgd s x 70 ho base 3 i0 1 Tryz.underlying70 hi v xs.length (xs.flatMap encN) hs hown hx (h v w (by simpa using hown) (World.grownBy.refl _ _))
  | some ad =>
    refine wpList_append_own w hgd s x 70 ho base 3 i0 (.int .i64 0) 1 8 Tryz.underlying70 hi hz0 hz1 hz2 rfl (by decide) v xs.length (xs.flatMap encN) hs hown ad ys.length cap (ys.flatMap encN) hx (by rw [flatN, List.length_map]; omega) ?_ ?_ (by unfold maxLen; omega) (by omega) hbase (fun v' w' o1 g1 _ => h v' w' ?_ g1)
    · intro j u hj
      rw [flatN] at hj
      have hj' : j < ys.length := by have := (List.getElem?_eq_some_iff.1 hj).1; simpa using this
      obtain ⟨z, b', off', hz, hp, _, _, cz⟩ := hu.atN hj'
      simp only [Option.some.injEq] at hp
      subst hp
      have e : (⟨b', off', none⟩ : Addr).add j = ⟨b', off' + j, none⟩ := by
        unfold Addr.add
        by_cases h0 : j = 0
        · subst h0; rfl
        · rw [if_neg h0]
      rw [e, cz]
      rw [List.getElem?_map, hz] at hj
      simpa using hj
    · intro u hu'
      rw [flatN] at hu'
      exact ints_oneCell _ _ u hu'
    · unfold OwN Ow
      rw [List.flatMap_append, List.length_append]
      exact o1
theorem Ow.nilok {E : TypeId} {base : Nat} {w : World} {a : Option Addr} {n c : Nat} {ns : List Int} (h : Ow encN 1 E base w (.slice a n c) ns) : a = none → c = 0 := by
  rintro rfl
  rcases h.2 with ⟨e, _⟩ | ⟨g, cap, cur, e, _⟩
  · simp at e; exact e.2
  · simp at e

theorem eqlnil {P : Program} (w : World) (t e : TypeId) (a : Option Addr) (n c : Nat) (h : P.underlying t = some (.slice e)) : (binOp .eql t (.slice a n c) (.slice none 0 0)).run P w = .ok (.bool a.isNone) w := by
  have h1 : ∀ d : Nat, (Op.equalIn (d + 1) t (.slice a n c) (.slice none 0 0)).run P w = .ok a.isNone w := fun d => by cases a <;> simp [Op.equalIn, run_underlying h]
  simp only [binOp]
  simp [Op.equal, Op.maxDepth, h1 9999]
theorem madeN {w : World} {g base : Nat} (hb : base ≤ g) (h : w.heap[g]? = some (.cells #[] 3 (0, 0))) : OwN base w (.slice (some ⟨g, 0, none⟩) 0 0) [] :=
  ⟨by simp, .inr ⟨g, 0, #[], rfl, hb, h, by simp, by simp⟩⟩
set_option maxHeartbeats 2000000 in
set_option maxRecDepth 100000 in
theorem iclone_any (a : Option Addr) (n c : Nat) (ns : List Int) (w : World) (hn : n ≤ 10000000) (hnil : a = none → c = 0) (h : RwN w (.slice a n c) ns) :
    Calls Tryz.prog 85 #[.slice a n c] w fun e w' => ∃ a1 c1, e = .returned (.slice a1 n c1) ∧ OwN w.heap.size w' (.slice a1 n c1) ns ∧ Below w.heap.size w w' := by
  have hN := h.len.1
  have HR := hide h
  cases a with
  | none =>
    have hns : ns = [] := by
      cases ns with
      | nil => rfl
      | cons y r =>
        obtain ⟨z, b', off', _, hp, _⟩ := h.atN (i := 0) (by rw [hN]; simp)
        cases hp
    subst hns
    obtain rfl : n = 0 := hN
    obtain rfl := hnil rfl
    have hcl : ∀ W, (binOp .eql 70 (.slice none 0 0) (.slice none 0 0)).run Tryz.prog W = .ok (.bool true) W := fun W => eqlnil W 70 3 none 0 0 Tryz.underlying70
    clear h HR
    go_enter Tryz.func85, Tryz.ntmps85
    go_wp2
    go_ret
    exact ⟨none, 0, rfl, World.ownsRow_nil _ _ _ _, Below.refl _ _⟩
  | some ad =>
    have hO : Hid (OwN w.heap.size (w.alloc (.cells #[] 3)) (.slice (some ⟨w.heap.size, 0, none⟩) 0 0) []) := hide (World.ownsRow_made _ #[] 0 (Nat.le_refl _) (by simp [maxLen]) rfl)
    have HL := hide hN
    have hcl : ∀ W, (binOp .eql 70 (.slice (some ad) n c) (.slice none 0 0)).run Tryz.prog W = .ok (.bool false) W := fun W => eqlnil W 70 3 (some ad) n c Tryz.underlying70
    clear h hN
    go_enter Tryz.func85, Tryz.ntmps85
    go_wp2_with (at_builtin; refine wpList_appN _ rfl _ _ rfl w.heap.size _ [] rfl (unhide hO) (some ad) n c ns rfl ((unhide HR).alloc _) (fun h => by cases h) (by have := unhide HL; simp; omega) (by simp) ?_; intro v' w' hV hG; have HV := hide hV; have HG := hide (((Below.refl w.heap.size w).alloc (Nat.le_refl _) _).grown hG (by simp) (fun k hk => ((unhide hO).lt k hk).1)); clear hV hG)
    go_ret
    have hv := unhide HV
    rw [List.nil_append] at hv
    obtain ⟨a1, c1, rfl⟩ := hv.form
    rw [← unhide HL] at hv ⊢
    exact ⟨a1, c1, rfl, hv, unhide HG⟩
end Go.Proofs.YtighiahppjekeaaGreatDoor

namespace Go.Proofs.YtighiahppjekeaaGreatDoor
open Go.RowKit

theorem oneV (v : Value) (h : v.oneCell' = true) : ∀ u ∈ encV v, u.oneCell' = true := by
  intro u hu
  simp [encV] at hu
  subst hu
  exact h
theorem nul_cells : (madeCells #[.int .i64 0] 5).toList = nulR.flatMap encN := made_flat (enc := encN) (by omega) encN_len #[.int .i64 0] 0 rfl 5
theorem nul_len : nulR.length = 5 := rfl
theorem own_nul {base : Nat} {w : World} {v : Value} (h : w.ownsRow base 3 1 v 5 (madeCells #[.int .i64 0] 5).toList) : OwN base w v nulR := by
  unfold OwN Ow
  rw [nul_len, ← nul_cells]
  exact h
set_option maxHeartbeats 4000000 in
set_option maxRecDepth 100000 in
theorem stablenew_any (n : Int) (w : World) :
    Calls Tryz.prog 89 #[.int .i64 n] w fun e w' => ∃ a m c, e = .returned (.slice a m c) ∧ OwG w.heap.size w'.heap.size w' (.slice a m c) (newT n) ∧ Below w.heap.size w w' := by
  obtain ⟨b1, h1⟩ : ∃ b, Hid (inB n 1 5 = b) := ⟨_, hide rfl⟩
  obtain ⟨i0, hi, hz0, hz1, hz2⟩ := info_parts Tryz.infoInt
  obtain ⟨i1, gi, gz0, gz1, gz2⟩ := info_parts Tryz.infoRow
  have HZ2 := hide hz2
  have HY2 := hide gz2
  clear hz2 gz2
  go_enter Tryz.func89, Tryz.ntmps89
  go_wp2_with fail
  refine (l1in_is n 1 5 b1 (unhide h1) _).mono ?_
  rintro e _ ⟨rfl, rfl⟩
  cases b1
  · have HO : Hid (OwG w.heap.size (w.heap.size + 1) (w.alloc (.cells #[] 70)) (.slice (some ⟨w.heap.size, 0, none⟩) 0 0) (newT n)) := hide (by
      have e : newT n = [] := by unfold newT; rw [if_neg (by rw [unhide h1]; simp)]
      rw [e]
      exact ⟨⟨[], World.ownsRow_made _ #[] 0 (Nat.le_refl _) (by simp [maxLen]) rfl, PaG.nil _ _ _⟩, fun g hg => by simp [Value.ownBlock] at hg; omega⟩)
    go_wp2
    go_ret
    exact ⟨_, _, _, rfl, by simpa using unhide HO, (Below.refl _ _).alloc (Nat.le_refl _) _⟩
  obtain ⟨m, rfl⟩ : ∃ m : Nat, n = (m : Int) := by
    have h := unhide h1
    simp [inB] at h
    exact ⟨n.toNat, by omega⟩
  have hm5 : m ≤ 5 := by
    have h := unhide h1
    simp [inB] at h
    omega
  have HE : Hid (newT (m : Int) = List.replicate m nulR) := hide (by unfold newT; rw [if_pos (unhide h1)]; simp)
  clear h1
  go_wp2
  go_loopw [3, 4] (fun v i wr => ∃ (k : Nat) (a : Option Addr) (c : Nat) (ps : List Value), k ≤ m ∧ i = .int .i64 k ∧ v = .slice a k c ∧ ps.length = k ∧ OwR w.heap.size wr (.slice a k c) ps ∧ PaG w.heap.size wr.heap.size wr ps (List.replicate k nulR) ∧ Below w.heap.size w wr) (fun _ i _ => m - (intOf i).toNat)
  case atStart => exact ⟨0, _, _, [], Nat.zero_le _, rfl, rfl, rfl, World.ownsRow_made _ #[] 0 (Nat.le_refl _) (by simp [maxLen]) rfl, PaG.nil _ _ _, (Below.refl _ _).alloc (Nat.le_refl _) _⟩
  case round =>
    obtain ⟨k, a, c, ps, hk, rfl, rfl, hpl, hown, hpa, hb⟩ := hrel
    have HO := hide hown
    have HP := hide hpa
    have HB := hide hb
    have HPL := hide hpl
    have hsz := hb.size
    clear hown hpa hb hpl
    by_cases hlt : k < m
    · have hb5 : i0.bytes * 5 ≤ 281474976710656 := by rw [unhide HZ2]; omega
      go_wp2_with (first | (at_make; refine wpList_make_full _ rfl _ _ 70 rfl wr.heap.size 3 i0 (.int .i64 0) 1 Tryz.underlying70 hi hz0 hz1 .i64 .i64 _ _ 5 rfl rfl rfl rfl hb5 (by unfold maxLen; omega) (Nat.le_refl _) ?_))
      intro w1 hown1 hgrow
      have b1 : Below wr.heap.size wr w1 := (Below.refl _ _).grown hgrow (Nat.le_refl _) (fun k hk => by cases hk)
      have z1 := b1.size
      have o1 : OwN wr.heap.size w1 (.slice (some ⟨wr.heap.size, 0, none⟩) 5 5) nulR := own_nul hown1
      have HO1 := hide o1
      have HOR := hide ((unhide HO).later b1)
      have HP1 := hide (((unhide HP).later b1).snoc (hi' := w1.heap.size) o1 (Nat.le_refl _) hsz (Nat.le_refl _) z1)
      have HB1 := hide ((unhide HB).trans (b1.mono hsz))
      have hz1 : w.heap.size ≤ w1.heap.size := by omega
      clear b1 o1 hown1 hgrow HO HP HB
      go_wp2_with (first | (at_builtin; refine wpList_app1x encV_len (by omega) 70 28 i1 _ 24 Tryz.underlying28 gi gz0 gz1 (unhide HY2) rfl (by omega) w1 (.slice (some ⟨wr.heap.size, 0, none⟩) 5 5) (oneV _ rfl) rfl _ _ rfl w.heap.size _ ps k (hide (unhide HPL).symm) rfl (unhide HOR) rfl (by omega) hz1 ?_))
      · intro a' c' w2 hO hG
        have hz2 : w1.heap.size ≤ w2.heap.size := hG.size
        have HO2 := hide hO
        have HP2 := hide (((unhide HP1).other (T := 70) (unhide HOR).blkT (by decide) hG).mono (Nat.le_refl _) hz2)
        have HB2 := hide ((unhide HB1).grown hG hz1 (fun g hg => (World.ownsRow.lt (unhide HOR) g hg).1))
        clear hO hG HP1 HB1 HOR
        go_wp2
        go_roundw
        case rel => exact ⟨k + 1, _, _, ps ++ [.slice (some ⟨wr.heap.size, 0, none⟩) 5 5], by omega, by go_num, rfl, by simp [unhide HPL], unhide HO2, by rw [List.replicate_succ']; exact unhide HP2, unhide HB2⟩
        case measure => simp [intOf]; omega
    · have HOG : Hid (OwG w.heap.size wr.heap.size wr (.slice a k c) (newT m)) := hide (by
        have e : k = m := by omega
        rw [unhide HE, ← e]
        exact ⟨⟨ps, unhide HO, unhide HP⟩, fun g hg => (World.ownsRow.lt (unhide HO) g hg).2⟩)
      clear HO HP
      go_wp2
      go_ret
      exact ⟨_, _, _, rfl, unhide HOG, unhide HB⟩
set_option maxHeartbeats 4000000 in
set_option maxRecDepth 100000 in
theorem itablenew_any (n : Int) (w : World) :
    Calls Tryz.prog 22 #[.int .i64 n] w fun e w' => ∃ a m c, e = .returned (.slice a m c) ∧ OwG w.heap.size w'.heap.size w' (.slice a m c) (newT n) ∧ Below w.heap.size w w' := by
  obtain ⟨b1, h1⟩ : ∃ b, Hid (inB n 1 5 = b) := ⟨_, hide rfl⟩
  obtain ⟨i0, hi, hz0, hz1, hz2⟩ := info_parts Tryz.infoInt
  obtain ⟨i1, gi, gz0, gz1, gz2⟩ := info_parts Tryz.infoRow
  have HZ2 := hide hz2
  have HY2 := hide gz2
  clear hz2 gz2
  go_enter Tryz.func22, Tryz.ntmps22
  go_wp2_with fail
  refine (within_is n 1 5 b1 (unhide h1) _).mono ?_
  rintro e _ ⟨rfl, rfl⟩
  cases b1
  · have HE : Hid (newT n = []) := hide (by unfold newT; rw [if_neg (by rw [unhide h1]; simp)])
    go_wp2
    go_ret
    exact ⟨none, 0, 0, rfl, by rw [unhide HE]; exact OwG.nil _ _ _, Below.refl _ _⟩
  obtain ⟨m, rfl⟩ : ∃ m : Nat, n = (m : Int) := by
    have h := unhide h1
    simp [inB] at h
    exact ⟨n.toNat, by omega⟩
  have hm5 : m ≤ 5 := by
    have h := unhide h1
    simp [inB] at h
    omega
  have HE : Hid (newT (m : Int) = List.replicate m nulR) := hide (by unfold newT; rw [if_pos (unhide h1)]; simp)
  have hb6 : i1.bytes * m ≤ 281474976710656 := by rw [unhide HY2]; omega
  clear h1
  go_wp2_with (first | (at_make; refine wpList_make_full _ rfl _ _ 28 rfl w.heap.size 70 i1 (.slice none 0 0) 1 Tryz.underlying28 gi gz0 gz1 .i64 .i64 _ _ m rfl rfl rfl rfl hb6 (by unfold maxLen; omega) (Nat.le_refl _) ?_))
  intro w1 hown hgrow
  have hbel : Below w.heap.size w w1 := (Below.refl _ _).grown hgrow (Nat.le_refl _) (fun k hk => by cases hk)
  have hown0 : OwR w.heap.size w1 (.slice (some ⟨w.heap.size, 0, none⟩) m m) ([] ++ List.replicate (m - 0) zeroV) := by
    have hmf := made_flat (enc := encV) (by omega) encV_len #[.slice none 0 0] zeroV rfl m
    rw [Nat.mul_one] at hmf
    rw [hmf] at hown
    unfold OwR Ow
    simpa using hown
  clear hown hgrow
  go_wp2
  go_loopw [12] (fun i wr => ∃ (k : Nat) (ps : List Value), k ≤ m ∧ i = .int .i64 k ∧ ps.length = k ∧ OwR w.heap.size wr (.slice (some ⟨w.heap.size, 0, none⟩) m m) (ps ++ List.replicate (m - k) zeroV) ∧ PaG w.heap.size wr.heap.size wr ps (List.replicate k nulR) ∧ Below w.heap.size w wr) (fun i _ => m - (intOf i).toNat)
  case atStart => exact ⟨0, [], Nat.zero_le _, rfl, rfl, hown0, PaG.nil _ _ _, hbel⟩
  case round =>
    obtain ⟨k, ps, hk, rfl, hpl, hown, hpa, hb⟩ := hrel
    clear hown0 hbel
    have HO := hide hown
    have HP := hide hpa
    have HB := hide hb
    have HPL := hide hpl
    have hsz := hb.size
    clear hown hpa hb hpl
    by_cases hlt : k < m
    · have hb5 : i0.bytes * 5 ≤ 281474976710656 := by rw [unhide HZ2]; omega
      go_wp2_with (first | (at_make; refine wpList_make_full _ rfl _ _ 70 rfl wr.heap.size 3 i0 (.int .i64 0) 1 Tryz.underlying70 hi hz0 hz1 .i64 .i64 _ _ 5 rfl rfl rfl rfl hb5 (by unfold maxLen; omega) (Nat.le_refl _) ?_))
      intro w2 hown1 hgrow
      have b2 : Below wr.heap.size wr w2 := (Below.refl _ _).grown hgrow (Nat.le_refl _) (fun k hk => by cases hk)
      have z2 := b2.size
      have o1 : OwN wr.heap.size w2 (.slice (some ⟨wr.heap.size, 0, none⟩) 5 5) nulR := own_nul hown1
      have hown2 := (unhide HO).later b2
      have hpa2 := (unhide HP).later b2
      have hb3 := (unhide HB).trans (b2.mono hsz)
      have hpl := unhide HPL
      rw [show m - k = (m - (k + 1)) + 1 by omega] at hown2
      obtain ⟨⟨y0, z0⟩, zf, R1, hG, hlo⟩ := OwR.fill (p := .slice (some ⟨wr.heap.size, 0, none⟩) 5 5) hown2 (by omega)
      rw [hpl] at z0 R1 hG
      have hP3 := (hpa2.snoc (p := .slice (some ⟨wr.heap.size, 0, none⟩) 5 5) (r := nulR) (hi' := w2.heap.size) o1 (Nat.le_refl _) hsz (Nat.le_refl _) z2).other (T := 70) (fun g hg => hown2.blkT g (by simpa [Value.ownBlock] using hg)) (by decide) hG
      rw [← List.replicate_succ'] at hP3
      have HR1 := hide R1
      have HR2 := hide (hb3.setCell (p := ⟨w.heap.size, k, none⟩) (Nat.le_refl _) (.slice (some ⟨wr.heap.size, 0, none⟩) 5 5))
      have HP3 := hide hP3
      clear hown2 hb3 b2 R1 HO HB hpa2 hG hP3 o1 HP hpl hown1 hgrow
      go_wp2
      go_roundw
      case rel => exact ⟨k + 1, ps ++ [.slice (some ⟨wr.heap.size, 0, none⟩) 5 5], by omega, by go_num, by simp [unhide HPL], unhide HR1, by simpa using unhide HP3, unhide HR2⟩
      case measure => simp [intOf]; omega
    · have HOG : Hid (OwG w.heap.size wr.heap.size wr (.slice (some ⟨w.heap.size, 0, none⟩) m m) (newT m)) := by
        have e : k = m := by omega
        refine hide ⟨⟨ps, ?_, ?_⟩, fun g hg => (World.ownsRow.lt (unhide HO) g (by simpa [Value.ownBlock] using hg)).2⟩
        · have h := unhide HO
          rw [e, Nat.sub_self] at h
          simpa using h
        · rw [unhide HE, ← e]; exact unhide HP
      clear HO HP
      go_wp2
      go_ret
      exact ⟨_, _, _, rfl, unhide HOG, unhide HB⟩
theorem ownform {E : TypeId} {base : Nat} {w : World} {v : Value} {r : List Int} {n : Nat} (h : Ow encN 1 E base w v ([] ++ r)) (hn : n = r.length) : ∃ a1 c1, v = .slice a1 n c1 ∧ Hid (Ow encN 1 E base w (.slice a1 n c1) r) := by
  subst hn
  rw [List.nil_append] at h
  obtain ⟨a1, c1, rfl⟩ := h.form
  exact ⟨a1, c1, rfl, hide h⟩
set_option maxHeartbeats 4000000 in
set_option maxRecDepth 100000 in
theorem l9copy_any (a : Option Addr) (n c : Nat) (t : Tb) (w : World) (hn : n ≤ 1048576) (ht : totG t ≤ 1048576) (h : RwG w (.slice a n c) t) :
    Calls Tryz.prog 63 #[.slice a n c] w fun e w' => ∃ a' c', e = .returned (.slice a' n c') ∧ OwG w.heap.size w'.heap.size w' (.slice a' n c') t ∧ Below w.heap.size w w' := by
  obtain ⟨i1, gi, gz0, gz1, gz2⟩ := info_parts Tryz.infoRow
  have HY2 := hide gz2
  have HX := hide h
  clear gz2 h
  go_enter Tryz.func63, Tryz.ntmps63
  go_wp2
  go_loopw [3, 4] (fun v i wr => ∃ (k : Nat) (b : Option Addr) (d : Nat) (ps : List Value), k ≤ n ∧ i = .int .i64 k ∧ v = .slice b k d ∧ ps.length = k ∧ OwR w.heap.size wr (.slice b k d) ps ∧ PaG w.heap.size wr.heap.size wr ps (t.take k) ∧ Below w.heap.size w wr) (fun _ i _ => n - (intOf i).toNat)
  case atStart => exact ⟨0, _, _, [], Nat.zero_le _, rfl, rfl, rfl, World.ownsRow_made _ #[] 0 (Nat.le_refl _) (by simp [maxLen]) rfl, PaG.nil _ _ _, (Below.refl _ _).alloc (Nat.le_refl _) _⟩
  case round =>
    obtain ⟨k, b, d, ps, hk, rfl, rfl, hpl, hown, hpa, hb⟩ := hrel
    have HO := hide hown
    have HP := hide hpa
    have HB := hide hb
    have HPL := hide hpl
    have hsz := hb.size
    by_cases hlt : k < n
    · obtain ⟨r, ai, ni, ci, bb, off, hx, rfl, hbw, hcap, c0, rx, hnil⟩ := (unhide HX).at hlt
      have d0 := (hb.cell (p := ⟨bb, off + k, none⟩) hbw).trans c0
      have hbw2 : bb < wr.heap.size := by omega
      have hT := totG_at hx
      have hn1 : ni ≤ 1048576 := by have := rx.len.1; omega
      have HRX := hide (rx.later hb)
      have HNI := hide rx.len.1
      have HX1 := hide hx
      have HM : Hid (OwN wr.heap.size (wr.alloc (.cells #[] 3)) (.slice (some ⟨wr.heap.size, 0, none⟩) 0 0) []) := hide (madeN (Nat.le_refl _) (heap_alloc_new wr _))
      clear c0 hx rx hT hown hpa hb hpl
      go_wp2_with (first
        | (at_builtin; refine wpList_appN _ rfl _ _ rfl wr.heap.size _ [] rfl (unhide HM) ai ni ci r rfl ((unhide HRX).alloc _) hnil (by have := unhide HNI; simp; omega) (by simp) ?_; intro v' w1 hV hG; have HV := hide hV; have HG := hide (((Below.refl wr.heap.size wr).alloc (Nat.le_refl _) _).grown hG (by simp) (fun k hk => ((unhide HM).lt k hk).1)); clear hV hG; obtain ⟨a1, c1, rfl, HR1⟩ : ∃ a1 c1, v' = .slice a1 ni c1 ∧ Hid (OwN wr.heap.size w1 (.slice a1 ni c1) r) := ownform (unhide HV) (unhide HNI); have HOR := hide ((unhide HO).later (unhide HG)); have z1 := (unhide HG).size; have hz1 : w.heap.size ≤ w1.heap.size := by omega)
        | (at_builtin; refine wpList_app1x encV_len (by omega) 70 28 i1 _ 24 Tryz.underlying28 gi gz0 gz1 (unhide HY2) rfl (by omega) w1 (.slice a1 ni c1) (oneV _ rfl) rfl _ _ rfl w.heap.size _ ps k (hide (unhide HPL).symm) rfl (unhide HOR) rfl (by omega) hz1 ?_))
      intro a' c' w2 hO hG
      have hz2 : w1.heap.size ≤ w2.heap.size := hG.size
      have HO2 := hide hO
      have HP2 := hide (((((unhide HP).later (unhide HG)).snoc (hi' := w1.heap.size) (unhide HR1) (Nat.le_refl _) hsz (Nat.le_refl _) z1).other (T := 70) (unhide HOR).blkT (by decide) hG).mono (Nat.le_refl _) hz2)
      rw [← takeG (unhide HX1)] at HP2
      have HB2 := hide (((unhide HB).trans ((unhide HG).mono hsz)).grown hG hz1 (fun g hg => (World.ownsRow.lt (unhide HOR) g hg).1))
      clear hO hG HP HOR HO HB HG HR1
      go_wp2
      go_roundw
      case rel => exact ⟨k + 1, _, _, ps ++ [.slice a1 ni c1], by omega, by go_num, rfl, by simp [unhide HPL], unhide HO2, unhide HP2, unhide HB2⟩
      case measure => simp [intOf]; omega
    · have e : k = n := by omega
      have HOG : Hid (OwG w.heap.size wr.heap.size wr (.slice b n d) t) := hide (by
        have h1 := unhide HO
        have h2 := unhide HP
        rw [List.take_of_length_le (by have := (unhide HX).len.1; omega)] at h2
        rw [e] at h1
        exact ⟨⟨ps, h1, h2⟩, fun g hg => (World.ownsRow.lt h1 g hg).2⟩)
      subst e
      clear HO HP hown hpa hb hpl
      go_wp2
      go_ret
      exact ⟨_, _, rfl, unhide HOG, unhide HB⟩
set_option maxHeartbeats 4000000 in
set_option maxRecDepth 100000 in
theorem itablecopy_any (a : Option Addr) (n c : Nat) (t : Tb) (w : World) (hn : n ≤ 1048576) (ht : totG t ≤ 1048576) (h : RwG w (.slice a n c) t) :
    Calls Tryz.prog 56 #[.slice a n c] w fun e w' => ∃ a' c', e = .returned (.slice a' n c') ∧ OwG w.heap.size w'.heap.size w' (.slice a' n c') t ∧ Below w.heap.size w w' := by
  obtain ⟨i1, gi, gz0, gz1, gz2⟩ := info_parts Tryz.infoRow
  have HY2 := hide gz2
  have HX := hide h
  have hb6 : i1.bytes * n ≤ 281474976710656 := by rw [gz2]; omega
  clear gz2 h
  go_enter Tryz.func56, Tryz.ntmps56
  go_wp2_with (first | (at_make; refine wpList_make_full _ rfl _ _ 28 rfl w.heap.size 70 i1 (.slice none 0 0) 1 Tryz.underlying28 gi gz0 gz1 .i64 .i64 _ _ n rfl rfl rfl rfl hb6 (by unfold maxLen; omega) (Nat.le_refl _) ?_))
  intro w1 hown hgrow
  have hbel : Below w.heap.size w w1 := (Below.refl _ _).grown hgrow (Nat.le_refl _) (fun k hk => by cases hk)
  have hown0 : OwR w.heap.size w1 (.slice (some ⟨w.heap.size, 0, none⟩) n n) ([] ++ List.replicate (n - 0) zeroV) := by
    have hmf := made_flat (enc := encV) (by omega) encV_len #[.slice none 0 0] zeroV rfl n
    rw [Nat.mul_one] at hmf
    rw [hmf] at hown
    unfold OwR Ow
    simpa using hown
  clear hown hgrow
  go_wp2
  go_loopw [11] (fun i wr => ∃ (k : Nat) (ps : List Value), k ≤ n ∧ i = .int .i64 k ∧ ps.length = k ∧ OwR w.heap.size wr (.slice (some ⟨w.heap.size, 0, none⟩) n n) (ps ++ List.replicate (n - k) zeroV) ∧ PaG w.heap.size wr.heap.size wr ps (t.take k) ∧ Below w.heap.size w wr) (fun i _ => n - (intOf i).toNat)
  case atStart => exact ⟨0, [], Nat.zero_le _, rfl, rfl, hown0, PaG.nil _ _ _, hbel⟩
  case round =>
    obtain ⟨k, ps, hk, rfl, hpl, hown, hpa, hb⟩ := hrel
    clear hown0 hbel
    have HO := hide hown
    have HP := hide hpa
    have HB := hide hb
    have HPL := hide hpl
    have hsz := hb.size
    clear hown hpa hpl
    by_cases hlt : k < n
    · obtain ⟨r, ai, ni, ci, bb, off, hx, rfl, hbw, hcap, c0, rx, hnil⟩ := (unhide HX).at hlt
      have d0 := (hb.cell (p := ⟨bb, off + k, none⟩) hbw).trans c0
      have hbw2 : bb < wr.heap.size := by omega
      have hT := totG_at hx
      have hn1 : ni ≤ 1048576 := by have := rx.len.1; omega
      have HRX := hide (rx.later hb)
      have HX1 := hide hx
      have HNL := hide hnil
      clear c0 hx rx hT hb hnil
      go_wp2_with fail
      refine (iclone_any ai ni ci r _ (by omega) (unhide HNL) (unhide HRX)).mono ?_
      rintro e w2 ⟨a1, c1, rfl, o1, b2⟩
      have z2 := b2.size
      have hown2 := (unhide HO).later b2
      have hpa2 := (unhide HP).later b2
      have hb3 := (unhide HB).trans (b2.mono hsz)
      have hpl := unhide HPL
      rw [show n - k = (n - (k + 1)) + 1 by omega] at hown2
      obtain ⟨⟨y0, z0⟩, zf, R1, hG, hlo⟩ := OwR.fill (p := .slice a1 ni c1) hown2 (by omega)
      rw [hpl] at z0 R1 hG
      have hP3 := (hpa2.snoc (p := .slice a1 ni c1) (r := r) (hi' := w2.heap.size) o1 (Nat.le_refl _) hsz (Nat.le_refl _) z2).other (T := 70) (fun g hg => hown2.blkT g (by simpa [Value.ownBlock] using hg)) (by decide) hG
      rw [← takeG (unhide HX1)] at hP3
      have HR1 := hide R1
      have HR2 := hide (hb3.setCell (p := ⟨w.heap.size, k, none⟩) (Nat.le_refl _) (.slice a1 ni c1))
      have HP3 := hide hP3
      clear hown2 hb3 b2 R1 HO HB hpa2 hG hP3 o1 HP hpl
      go_wp2
      go_roundw
      case rel => exact ⟨k + 1, ps ++ [.slice a1 ni c1], by omega, by go_num, by simp [unhide HPL], unhide HR1, by simpa using unhide HP3, unhide HR2⟩
      case measure => simp [intOf]; omega
    · have HOG : Hid (OwG w.heap.size wr.heap.size wr (.slice (some ⟨w.heap.size, 0, none⟩) n n) t) := by
        have e : k = n := by omega
        refine hide ⟨⟨ps, ?_, ?_⟩, fun g hg => (World.ownsRow.lt (unhide HO) g (by simpa [Value.ownBlock] using hg)).2⟩
        · have h := unhide HO
          rw [e, Nat.sub_self] at h
          simpa using h
        · have h2 := unhide HP
          rw [List.take_of_length_le (by have := (unhide HX).len.1; omega)] at h2
          exact h2
      clear HO HP hb
      go_wp2
      go_ret
      exact ⟨_, _, rfl, unhide HOG, unhide HB⟩
end Go.Proofs.YtighiahppjekeaaGreatDoor

namespace Go.Proofs.YtighiahppjekeaaGreatDoor
open Go.RowKit

theorem imarksok_any (a : Option Addr) (n c : Nat) (fs : List Flr) (ok : Bool) (h0 : Hid (gF (-1) fs = ok)) (w : World) (hn : n ≤ 140737488351232) (hf : Rw encF 2 w (.slice a n c) fs) :
    Calls Tryz.prog 16 #[.slice a n c] w fun e w' => e = .returned (.bool ok) ∧ Below w.heap.size w w' := by
  have HF := hide hf
  clear hf
  go_enter Tryz.func16, Tryz.ntmps16
  go_wp2_with fail
  refine (iordM_any a n c fs ok h0 _ hn (unhide HF)).mono ?_
  rintro e w1 ⟨rfl, b1⟩
  have HB := hide b1
  clear b1
  go_wp2
  go_ret
  exact ⟨rfl, unhide HB⟩
theorem mnode_any9 (x : Int) (b : Bool) (hb : Hid (inB x 0 4 = b)) (w : World) : Calls Tryz.prog 37 #[.int .i64 x] w fun e w' => e = .returned (.bool b) ∧ w = w' := by
  go_enter Tryz.func37, Tryz.ntmps37
  go_wp2_with fail
  refine (l1in_is x 0 4 b (unhide hb) _).mono ?_
  rintro e _ ⟨rfl, rfl⟩
  go_wp2
  go_ret
  exact ⟨rfl, rfl⟩
set_option maxHeartbeats 8000000 in
set_option maxRecDepth 100000 in
theorem smarksok_any (a : Option Addr) (n c : Nat) (fs : List Flr) (ok : Bool) (h0 : Hid (gF (-1) fs = ok)) (w : World) (hn : n ≤ 140737488351232) (hf : Rw encF 2 w (.slice a n c) fs) :
    Calls Tryz.prog 64 #[.slice a n c] w fun e w' => e = .returned (.bool ok) ∧ Below w.heap.size w w' := by
  have HX := hide hf
  clear hf
  go_enter Tryz.func64, Tryz.ntmps64
  go_wp2
  go_loopw [3] (fun i wr => ∃ k : Nat, k ≤ n ∧ i = .int .i64 k ∧ gF (prv fs k) (fs.drop k) = ok ∧ Below w.heap.size w wr) (fun i _ => n - (intOf i).toNat)
  case atStart => exact ⟨0, Nat.zero_le _, rfl, unhide h0, Below.refl _ _⟩
  case round =>
    obtain ⟨k, hk, rfl, hrec, hbel⟩ := hrel
    have HB := hide hbel
    have hsz := hbel.size
    by_cases hlt : k < n
    · obtain ⟨x, b, off, hx, rfl, hb, hcap, hc⟩ := (unhide HX).at hlt
      have l0 := later_some (w := wr) (b := b) (o := off + k * 2) (v := .int .i64 x.1) (by omega) ((hbel.cell (p := ⟨b, off + k * 2, none⟩) hb).trans (hc 0 (by omega)))
      have l1 := later_some (w := wr) (b := b) (o := off + k * 2 + 1) (v := .int .i64 x.2) (by omega) ((hbel.cell (p := ⟨b, off + k * 2 + 1, none⟩) hb).trans (hc 1 (by omega)))
      have hEq := gF_at (last := prv fs k) hx
      rw [hrec, prv_succ hx] at hEq
      have HPV := hide (prv_succ hx)
      obtain ⟨q1, hq1⟩ : ∃ q, Hid (inB x.1 0 4 = q) := ⟨_, hide rfl⟩
      obtain ⟨q3, hq3⟩ : ∃ q, Hid (inB x.2 1 1000 = q) := ⟨_, hide rfl⟩
      by_cases hk0 : 0 < k
      · obtain ⟨y, b', off', hy, hab, hb', hcap', hc'⟩ := (unhide HX).at (i := k - 1) (by omega)
        simp only [Option.some.injEq, Addr.mk.injEq] at hab
        obtain ⟨rfl, rfl, -⟩ := hab
        have m0 := later_some (w := wr) (b := b) (o := off + (k - 1) * 2) (v := .int .i64 y.1) (by omega) ((hbel.cell (p := ⟨b, off + (k - 1) * 2, none⟩) hb).trans (hc' 0 (by omega)))
        have hpv : prv fs k = y.1 := by
          obtain ⟨m, rfl⟩ : ∃ m, k = m + 1 := ⟨k - 1, by omega⟩
          exact prv_succ hy
        obtain ⟨q2, hq2⟩ : ∃ q, decide (x.1 ≤ y.1) = q := ⟨_, rfl⟩
        have HE : Hid (ok = (q1 && !q2 && q3 && gF x.1 (fs.drop (k + 1)))) := hide (by rw [← unhide hq1, ← unhide hq3, ← le_lt hq2, ← hpv]; exact hEq)
        have hkd : decide ((0 : Int) < (k : Int)) = true := by simpa using hk0
        clear hc hc' hx hy hbel hEq hpv hrec
        cases q1 <;> cases q2 <;> cases q3
        all_goals
          go_wp2_with fail
          refine wp_region_later (by kernel_rfl) (by kernel_rfl) ?_
          repeat (go_big_quiet_step (first | (go_at_call 37; exact Calls.later_same (mnode_any9 _ _ hq1 _)) | (go_at_call 40; exact Calls.later_same (l1in_is _ _ _ _ (unhide hq3) _))))
          refine wpQuiet_nil ?_
          intro w1 hb1
          have HB1 := hide ((unhide HB).trans (hb1.mono hsz))
          clear hb1 HB
          go_wp2
          first
            | (go_roundw
               case rel => exact ⟨k + 1, by omega, by go_num, by rw [unhide HPV, unhide HE]; rfl, unhide HB1⟩
               case measure => simp [intOf]; omega)
            | (obtain rfl : ok = false := by rw [unhide HE]; rfl
               go_ret
               exact ⟨rfl, unhide HB1⟩)
      · have HK0 : Hid (k = 0) := hide (by omega)
        have HE : Hid (ok = (q1 && q3 && gF x.1 (fs.drop (k + 1)))) := hide (by
          rw [hEq, unhide HK0, unhide hq3]
          show (inB x.1 0 4 && decide ((-1 : Int) < x.1) && q3 && _) = _
          rw [unhide hq1]
          cases q1
          · rfl
          · rw [in_low (unhide hq1)]; rfl)
        have hkn : (0 < k) = False := by simpa using hk0
        have hkm : ((0 : Int) < (k : Int)) = False := by simp; omega
        clear hc hx hbel hEq hk0 hrec
        cases q1 <;> cases q3
        all_goals
          go_wp2_with fail
          refine wp_region_later (by kernel_rfl) (by kernel_rfl) ?_
          repeat (go_big_quiet_step (first | (go_at_call 37; exact Calls.later_same (mnode_any9 _ _ hq1 _)) | (go_at_call 40; exact Calls.later_same (l1in_is _ _ _ _ (unhide hq3) _))))
          refine wpQuiet_nil ?_
          intro w1 hb1
          have HB1 := hide ((unhide HB).trans (hb1.mono hsz))
          clear hb1 HB hkn hkm
          go_wp2
          first
            | (go_roundw
               case rel => exact ⟨k + 1, by omega, by go_num, by rw [unhide HPV, unhide HE]; rfl, unhide HB1⟩
               case measure => simp [intOf]; omega)
            | (obtain rfl : ok = false := by rw [unhide HE]; rfl
               go_ret
               exact ⟨rfl, unhide HB1⟩)
    · have hEq : ok = true := by
        have h := hrec
        rw [drop_end (unhide HX).len.1 hk hlt] at h
        rw [← h]; rfl
      subst hEq
      clear hbel hrec
      go_wp2
      go_ret
      exact ⟨rfl, unhide HB⟩
end Go.Proofs.YtighiahppjekeaaGreatDoor

namespace Go.Proofs.YtighiahppjekeaaGreatDoor
open Go.RowKit

theorem l1max_any (a b m : Int) (h : Hid (max a b = m)) (w : World) : Calls Tryz.prog 65 #[.int .i64 a, .int .i64 b] w fun e w' => e = .returned (.int .i64 m) ∧ w = w' := by
  by_cases hl : b < a
  · have hd : decide (b < a) = true := by simpa using hl
    obtain rfl : m = a := by rw [← unhide h]; omega
    clear h hl
    go_enter Tryz.func65, Tryz.ntmps65
    go_wp2
    go_ret
    exact ⟨rfl, rfl⟩
  · have hd : decide (b < a) = false := by simpa using hl
    obtain rfl : m = b := by rw [← unhide h]; omega
    clear h hl
    go_enter Tryz.func65, Tryz.ntmps65
    go_wp2
    go_ret
    exact ⟨rfl, rfl⟩
end Go.Proofs.YtighiahppjekeaaGreatDoor

namespace Go.Proofs.YtighiahppjekeaaGreatDoor
open Go.RowKit

theorem greater_any (a b m : Int) (h : Hid (max a b = m)) (w : World) : Calls Tryz.prog 57 #[.int .i64 a, .int .i64 b] w fun e w' => e = .returned (.int .i64 m) ∧ w = w' := by
  by_cases hl : a < b
  · have hd : decide (a < b) = true := by simpa using hl
    obtain rfl : m = b := by rw [← unhide h]; omega
    clear h hl
    go_enter Tryz.func57, Tryz.ntmps57
    go_wp2
    go_ret
    exact ⟨rfl, rfl⟩
  · have hd : decide (a < b) = false := by simpa using hl
    obtain rfl : m = a := by rw [← unhide h]; omega
    clear h hl
    go_enter Tryz.func57, Tryz.ntmps57
    go_wp2
    go_ret
    exact ⟨rfl, rfl⟩
theorem hasplace_any (a : Option Addr) (n c : Nat) (at0 : Int) (b : Bool) (hb : inB at0 0 ((n : Int) - 1) = b) (w : World) (hn : n ≤ 140737488351232) :
    Calls Tryz.prog 43 #[.slice a n c, .int .i64 at0] w fun e w' => e = .returned (.bool b) ∧ w = w' := by
  have HB := hide hb
  clear hb
  go_enter Tryz.func43, Tryz.ntmps43
  go_wp2_with fail
  refine (within_is at0 0 ((n : Int) - 1) b (unhide HB) _).mono ?_
  rintro e _ ⟨rfl, rfl⟩
  go_wp2
  go_ret
  exact ⟨rfl, rfl⟩
end Go.Proofs.YtighiahppjekeaaGreatDoor

namespace Go.Proofs.YtighiahppjekeaaGreatDoor
open Go.RowKit

theorem OwN.putN {base g n c : Nat} {W : World} {ns : List Int} (h : OwN base W (.slice (some ⟨g, 0, none⟩) n c) ns) (hn : n = ns.length) (k : Nat) (z : Int) : OwN base (W.setCell ⟨g, k, none⟩ (.int .i64 z)) (.slice (some ⟨g, 0, none⟩) n c) (ns.set k z) := by
  subst hn
  have hst := (World.ownsRow.stored (show W.ownsRow base 3 1 (.slice (some ⟨g, 0, none⟩) ns.length c) ns.length (ns.flatMap encN) from h) k (.int .i64 z)).1
  unfold OwN Ow
  rw [List.length_set, flatN, List.map_set, ← flatN]
  exact hst
theorem OwN.slot {base n c : Nat} {a : Option Addr} {W : World} {ns : List Int} (h : OwN base W (.slice a n c) ns) (hn : n = ns.length) {k : Nat} (hk : k < n) : ∃ g y, a = some ⟨g, 0, none⟩ ∧ base ≤ g ∧ n ≤ c ∧ W.cell? ⟨g, k, none⟩ = some y ∧ W.frozen? ⟨g, k, none⟩ = false := by
  subst hn
  have hc := (h.rw encN_len).len.2
  have h' : W.ownsRow base 3 1 (.slice a ns.length c) ns.length (ns.flatMap encN) := h
  rcases h'.2 with ⟨hh, h0⟩ | ⟨g, cap, cur, hh, hg, _⟩
  · omega
  · simp only [Value.slice.injEq] at hh
    obtain ⟨rfl, _, rfl⟩ := hh
    have hc2 := h'.cellAt k (by omega)
    rw [flatN] at hc2
    exact ⟨g, _, rfl, hg, hc, hc2.trans (List.getElem?_eq_getElem (by simpa using hk)), h'.frozenAt k⟩
theorem set_back8 {ns : List Int} {k : Nat} {z : Int} (h : ns[k]? = some z) : ns.set k z = ns := by
  apply List.ext_getElem?
  intro i
  rw [List.getElem?_set]
  by_cases e : k = i
  · subst e
    obtain ⟨hk, rfl⟩ := List.getElem?_eq_some_iff.1 h
    simp [hk]
  · rw [if_neg e]

end Go.Proofs.YtighiahppjekeaaGreatDoor

namespace Go.Proofs.YtighiahppjekeaaGreatDoor
open Go.RowKit

/-- A number of an owned table, and the table with another one there. -/
theorem OwG.cell {lo hi n c : Nat} {a : Option Addr} {w : World} {t : Tb} (h : OwG lo hi w (.slice a n c) t) {k : Nat} {r : List Int} (hr : t[k]? = some r) {j : Nat} {z0 : Int} (hz : r[j]? = some z0) :
    ∃ ob g cr, a = some ⟨ob, 0, none⟩ ∧ n ≤ c ∧ ob < w.heap.size ∧ g < w.heap.size ∧ lo ≤ g ∧ g < hi ∧ ob ≠ g ∧ r.length ≤ cr ∧ w.cell? ⟨ob, k, none⟩ = some (.slice (some ⟨g, 0, none⟩) r.length cr) ∧ w.cell? ⟨g, j, none⟩ = some (.int .i64 z0) ∧ w.frozen? ⟨g, j, none⟩ = false ∧
      ∀ z, OwG lo hi (w.setCell ⟨g, j, none⟩ (.int .i64 z)) (.slice a n c) (t.set k (r.set j z)) := by
  obtain ⟨ob, ar, cr, ha, hn, hob, c0, o1, htop, hput⟩ := h.slot hr
  have hj := (List.getElem?_eq_some_iff.1 hz).1
  obtain ⟨z, b, off, hz', hb, hbw, hrc, cz⟩ := (o1.rw encN_len).atN hj
  rw [hz] at hz'
  cases hz'
  obtain ⟨g, y, hg, hlo, hc, hy, hf⟩ := OwN.slot o1 rfl hj
  subst hg
  simp only [Option.some.injEq, Addr.mk.injEq] at hb
  obtain ⟨rfl, rfl, -⟩ := hb
  rw [Nat.zero_add] at cz
  have hne : ob ≠ g := by
    rintro rfl
    obtain ⟨ps, h1, -⟩ := h.own
    obtain ⟨cs, fz, e1⟩ := h1.blkT ob (by rw [ha]; rfl)
    obtain ⟨cs', fz', e2⟩ := o1.blkT ob rfl
    rw [e1] at e2
    simp at e2
  refine ⟨ob, g, cr, ha, hn, hob, hbw, hlo, htop g rfl, hne, hrc, c0, cz, hf, fun z => ?_⟩
  have hst := (World.ownsRow.stored (show w.ownsRow lo 3 1 (.slice (some ⟨g, 0, none⟩) r.length cr) r.length (r.flatMap encN) from o1) j (.int .i64 z)).2
  have hp := OwN.putN o1 rfl j z
  have e := hput _ (r.set j z) hst hp
  exact e
theorem keepC {W : World} {g j b o : Nat} {z v : Value} (hne : b ≠ g) (h : W.cell? ⟨b, o, none⟩ = some v) : (W.setCell ⟨g, j, none⟩ z).cell? ⟨b, o, none⟩ = some v := by
  rw [World.cell?_of_block (w := W) (heap_setCell_other _ _ _ _ hne)]; exact h
theorem set_same9 {α : Type} {t : List α} {k : Nat} {r : α} (h : t[k]? = some r) : t.set k r = t := by
  apply List.ext_getElem?
  intro i
  rw [List.getElem?_set]
  split
  · rename_i e
    subst e
    rw [h]
    have := (List.getElem?_eq_some_iff.1 h).1
    simp [this]
  · rfl
theorem gF_mem : ∀ {last : Int} {fs : List Flr}, gF last fs = true → ∀ (i : Nat) (m : Flr), fs[i]? = some m → 0 ≤ m.1 ∧ m.1 ≤ 4 ∧ 1 ≤ m.2 ∧ m.2 ≤ 1000
  | _, [], _, i, m, hm => by simp at hm
  | last, x :: r, h, i, m, hm => by
    rw [gF, Bool.and_eq_true, Bool.and_eq_true, Bool.and_eq_true] at h
    cases i with
    | zero =>
      simp at hm
      subst hm
      have h1 := h.1.1.1
      have h2 := h.1.2
      simp [inB] at h1 h2
      omega
    | succ i => exact gF_mem h.2 i m (by simpa using hm)
set_option linter.unusedSimpArgs false in
set_option maxHeartbeats 4000000 in
set_option maxRecDepth 100000 in
theorem stableadd_any (a : Option Addr) (n c : Nat) (t : Tb) (k : Int) (ma : Option Addr) (mn mc : Nat) (ms : List Flr) (w : World) (hn : n ≤ 1048576) (ht : totG t ≤ 1048576) (hmn : mn ≤ 140737488351232) (h : RwG w (.slice a n c) t) (hm : Rw encF 2 w (.slice ma mn mc) ms) :
    Calls Tryz.prog 28 #[.slice a n c, .int .i64 k, .slice ma mn mc] w fun e w' => ∃ a' c', e = .returned (.slice a' n c') ∧ OwG w.heap.size w'.heap.size w' (.slice a' n c') (addT t k ms) ∧ Below w.heap.size w w' := by
  have HX := hide h
  have HM := hide hm
  have HN := hide h.len.1
  obtain ⟨q1, hq1⟩ : ∃ q, Hid (inB k 0 ((n : Int) - 1) = q) := ⟨_, hide rfl⟩
  obtain ⟨q2, hq2⟩ : ∃ q, Hid (gF (-1) ms = q) := ⟨_, hide rfl⟩
  have HA : Hid (addOk t k ms = (q1 && q2 && decide (5 ≤ (rowT t k).length))) := hide (by rw [addOk, ← h.len.1, unhide hq1, unhide hq2])
  clear h hm
  go_enter Tryz.func28, Tryz.ntmps28
  go_wp2_with fail
  refine (l9copy_any a n c t _ hn ht (unhide HX)).mono ?_
  rintro e w1 ⟨a1, c1, rfl, o1, b1⟩
  have HO := hide o1
  have HB := hide b1
  have hz1 := b1.size
  clear o1 b1
  have HFIN : ∀ w2, Hid (addOk t k ms = false) → Below w1.heap.size w1 w2 → ∃ a' c', Ending.returned (Value.slice a1 n c1) = .returned (.slice a' n c') ∧ OwG w.heap.size w2.heap.size w2 (.slice a' n c') (addT t k ms) ∧ Below w.heap.size w w2 := fun w2 hf b => ⟨a1, c1, rfl, by
    have e : addT t k ms = t := by unfold addT; rw [if_neg (by rw [unhide hf]; simp)]
    rw [e]
    exact ((unhide HO).later b).mono (Nat.le_refl _) b.size, (unhide HB).trans (b.mono hz1)⟩
  have HF := hide HFIN
  clear HFIN
  go_wp2_with fail
  refine (l1in_is k 0 ((n : Int) - 1) q1 (unhide hq1) _).mono ?_
  rintro e _ ⟨rfl, rfl⟩
  cases q1
  · have HA0 : Hid (addOk t k ms = false) := hide (by rw [unhide HA]; rfl)
    go_wp2
    go_ret
    exact unhide HF _ HA0 (Below.refl _ _)
  go_wp2_with fail
  refine (smarksok_any ma mn mc ms q2 hq2 _ hmn ((unhide HM).later (unhide HB))).mono ?_
  rintro e w2 ⟨rfl, b2⟩
  have HB2 := hide b2
  have hz2 := b2.size
  clear b2
  cases q2
  · have HA0 : Hid (addOk t k ms = false) := hide (by rw [unhide HA]; rfl)
    go_wp2
    go_ret
    exact unhide HF _ HA0 (unhide HB2)
  obtain ⟨kk, rfl⟩ : ∃ kk : Nat, k = (kk : Int) := by
    have h := unhide hq1
    simp [inB] at h
    exact ⟨k.toNat, by omega⟩
  have hkk : kk < n := by
    have h := unhide hq1
    simp [inB] at h
    omega
  have HBW := hide ((unhide HB).trans ((unhide HB2).mono hz1))
  obtain ⟨r, ai, ni, ci, bb, off, hr, rfl, hbw, hcap, c0, rx, -⟩ := (unhide HX).at hkk
  have d0 := ((unhide HBW).cell (p := ⟨bb, off + kk, none⟩) hbw).trans c0
  obtain ⟨q3, hq3⟩ : ∃ q, decide ((ni : Int) < 5) = q := ⟨_, rfl⟩
  have HR := hide hr
  have HNI := hide rx.len.1
  have HA1 : Hid (addOk t (kk : Int) ms = !q3) := hide (by
    rw [unhide HA, rowT_in hr, ← rx.len.1, ← hq3]
    by_cases h : (ni : Int) < 5
    · simp [h]; omega
    · simp [h]; omega)
  clear c0 rx hr
  cases q3
  rotate_left
  · have HA0 : Hid (addOk t (kk : Int) ms = false) := hide (by rw [unhide HA1]; rfl)
    clear hq1
    go_wp2
    go_ret
    exact unhide HF _ HA0 (unhide HB2)
  have hni5 : 5 ≤ ni := by simp at hq3; omega
  have HE : Hid (addT t (kk : Int) ms = t.set kk (putMs r ms)) := hide (by
    unfold addT
    rw [if_pos (by rw [unhide HA1]; rfl), rowT_in (unhide HR)]; simp)
  have HO2 := hide (((unhide HO).later (unhide HB2)).mono (Nat.le_refl _) hz2)
  clear HO HF hq1 HA HA1
  go_wp2
  clear d0
  go_loopw [8] (fun i wr => ∃ j : Nat, j ≤ mn ∧ i = .int .i64 j ∧ OwG w.heap.size w2.heap.size wr (.slice a1 n c1) (t.set kk (putMs r (ms.take j))) ∧ Below w.heap.size w wr ∧ w2.heap.size ≤ wr.heap.size) (fun i _ => mn - (intOf i).toNat)
  case atStart => exact ⟨0, Nat.zero_le _, rfl, by show OwG _ _ _ _ (t.set kk r); rw [set_same9 (unhide HR)]; exact unhide HO2, unhide HBW, Nat.le_refl _⟩
  case round =>
    obtain ⟨j, hj, rfl, hogr, hb, hsw⟩ := hrel
    have HG := hide hogr
    have HBR := hide hb
    have hsr := hb.size
    by_cases hlt : j < mn
    · obtain ⟨m, mb, moff, hm, rfl, hmb, hmc, hcm⟩ := (unhide HM).at hlt
      have hmbr : mb < wr.heap.size := by omega
      have e0 : wr.cell? ⟨mb, moff + j * 2, none⟩ = some (.int .i64 m.1) := (hb.cell (p := ⟨mb, moff + j * 2, none⟩) hmb).trans (hcm 0 (by omega))
      have e1 : wr.cell? ⟨mb, moff + j * 2 + 1, none⟩ = some (.int .i64 m.2) := (hb.cell (p := ⟨mb, moff + j * 2 + 1, none⟩) hmb).trans (hcm 1 (by omega))
      have HCM := hide hcm
      clear hcm
      obtain ⟨hm0, hm4, hi0, hi1⟩ := gF_mem (unhide hq2) j m hm
      obtain ⟨m1, m2⟩ := m
      simp only at hm0 hm4 hi0 hi1 e0 e1
      obtain ⟨id, rfl⟩ := Int.eq_ofNat_of_zero_le hm0
      obtain ⟨r2, hr2⟩ : ∃ r2, putMs r (ms.take j) = r2 := ⟨_, rfl⟩
      have hl2 : r2.length = ni := by rw [← hr2, putMs_len, ← unhide HNI]
      obtain ⟨z0, hz0⟩ : ∃ z, r2[id]? = some z := ⟨_, List.getElem?_eq_getElem (by omega)⟩
      have hrt : (t.set kk (putMs r (ms.take j)))[kk]? = some r2 := by
        rw [hr2, List.getElem?_set]
        have := (List.getElem?_eq_some_iff.1 (unhide HR)).1
        simp [this]
      obtain ⟨ob, g, cr, rfl, hc1, hob, hgb, hlo, hghi, hog, hcr, f0, f1, ff, hput⟩ := hogr.cell hrt hz0
      rw [hl2] at f0 hcr
      have HP := hide (hput (max z0 m2))
      obtain ⟨z, hz⟩ : ∃ z, Hid (max z0 m2 = z) := ⟨_, hide rfl⟩
      rw [unhide hz] at HP
      have HID := hide hz0
      have HR2 := hide hr2
      have HMJ := hide hm
      have hid5 : id < ni := by omega
      have hidc : id < cr := by omega
      have hmg : mb ≠ g := by omega
      clear hogr hb hrt hput hz0 hr2 hm hm0 hl2
      go_wp2
      refine wp_region_noPanic ?_
      refine wp_region_held_drew (S := (fun W => W.cell? ⟨ob, kk, none⟩ = some (.slice (some ⟨g, 0, none⟩) ni cr) ∧ W.cell? ⟨mb, moff + j * 2, none⟩ = some (.int .i64 id) ∧ W.cell? ⟨mb, moff + j * 2 + 1, none⟩ = some (.int .i64 m2))) (by kernel_rfl) ?_ (fun hHeld => ?_)
      · (try dsimp only); exact ⟨f0, e0, e1⟩
      refine wpAnyH_take (i := 0) (v := ?v0) (by (simp only [List.getElem?_toArray, List.getElem?_cons_succ, List.getElem?_cons_zero]; rfl)) (by kernel_rfl) (by kernel_rfl) (by kernel_rfl) (fun _ _ _ h => h) (Or.inl ⟨by rfl, ?hy0⟩) (by assumption) ?rest0
      case hy0 => (intro w hSw; (try dsimp only at hSw); go_simp <;> with_reducible rfl)
      (try simp only [Act.put, List.setIfInBounds_toArray, List.set_cons_zero, List.set_cons_succ])
      refine wpAnyH_take (i := 1) (v := ?v1) (by (simp only [List.getElem?_toArray, List.getElem?_cons_succ, List.getElem?_cons_zero]; rfl)) (by kernel_rfl) (by kernel_rfl) (by kernel_rfl) (fun _ _ _ h => h) (Or.inl ⟨by rfl, ?hy1⟩) (by assumption) ?rest1
      case hy1 => (intro w hSw; (try dsimp only at hSw); go_simp <;> with_reducible rfl)
      (try simp only [Act.put, List.setIfInBounds_toArray, List.set_cons_zero, List.set_cons_succ])
      refine wpAnyH_take (i := 2) (v := ?v2) (by (simp only [List.getElem?_toArray, List.getElem?_cons_succ, List.getElem?_cons_zero]; rfl)) (by kernel_rfl) (by kernel_rfl) (by kernel_rfl) (fun _ _ _ h => h) (Or.inl ⟨by rfl, ?hy2⟩) (by assumption) ?rest2
      case hy2 => (intro w hSw; (try dsimp only at hSw); go_simp <;> with_reducible rfl)
      (try simp only [Act.put, List.setIfInBounds_toArray, List.set_cons_zero, List.set_cons_succ])
      refine wpAnyH_take (i := 3) (v := ?v3) (by (simp only [List.getElem?_toArray, List.getElem?_cons_succ, List.getElem?_cons_zero]; rfl)) (by kernel_rfl) (by kernel_rfl) (by kernel_rfl) (fun _ _ _ h => h) (Or.inl ⟨by rfl, ?hy3⟩) (by assumption) ?rest3
      case hy3 => (intro w hSw; (try dsimp only at hSw); go_simp <;> with_reducible rfl)
      (try simp only [Act.put, List.setIfInBounds_toArray, List.set_cons_zero, List.set_cons_succ])
      refine wpAnyH_take (i := 4) (v := ?v4) (by (simp only [List.getElem?_toArray, List.getElem?_cons_succ, List.getElem?_cons_zero]; rfl)) (by kernel_rfl) (by kernel_rfl) (by kernel_rfl) (fun _ _ _ h => h) (Or.inl ⟨by rfl, ?hy4⟩) (by assumption) ?rest4
      case hy4 => (intro w hSw; (try dsimp only at hSw); go_simp <;> with_reducible rfl)
      (try simp only [Act.put, List.setIfInBounds_toArray, List.set_cons_zero, List.set_cons_succ])
      refine wpAnyH_take (i := 5) (v := ?v5) (by (simp only [List.getElem?_toArray, List.getElem?_cons_succ, List.getElem?_cons_zero]; rfl)) (by kernel_rfl) (by kernel_rfl) (by kernel_rfl) (fun _ _ _ h => h) (Or.inl ⟨by rfl, ?hy5⟩) (by assumption) ?rest5
      case hy5 => (intro w hSw; (try dsimp only at hSw); go_simp <;> with_reducible rfl)
      (try simp only [Act.put, List.setIfInBounds_toArray, List.set_cons_zero, List.set_cons_succ])
      refine wpAnyH_take (i := 6) (v := ?v6) (by (simp only [List.getElem?_toArray, List.getElem?_cons_succ, List.getElem?_cons_zero]; rfl)) (by kernel_rfl) (by kernel_rfl) (by kernel_rfl) (fun _ _ _ h => h) (Or.inl ⟨by rfl, ?hy6⟩) (by assumption) ?rest6
      case hy6 => (intro w hSw; (try dsimp only at hSw); go_simp <;> with_reducible rfl)
      (try simp only [Act.put, List.setIfInBounds_toArray, List.set_cons_zero, List.set_cons_succ])
      refine wpAnyH_take (i := 7) (v := ?v7) (by (simp only [List.getElem?_toArray, List.getElem?_cons_succ, List.getElem?_cons_zero]; rfl)) (by kernel_rfl) (by kernel_rfl) (by kernel_rfl) (fun _ _ _ h => h) (Or.inl ⟨by rfl, ?hy7⟩) (by assumption) ?rest7
      case hy7 => (intro w hSw; (try dsimp only at hSw); go_simp <;> with_reducible rfl)
      (try simp only [Act.put, List.setIfInBounds_toArray, List.set_cons_zero, List.set_cons_succ])
      refine wpAnyH_take (i := 8) (v := ?v8) (by (simp only [List.getElem?_toArray, List.getElem?_cons_succ, List.getElem?_cons_zero]; rfl)) (by kernel_rfl) (by kernel_rfl) (by kernel_rfl) (fun _ _ _ h => h) (Or.inl ⟨by rfl, ?hy8⟩) (by assumption) ?rest8
      case hy8 => (intro w hSw; (try dsimp only at hSw); go_simp <;> with_reducible rfl)
      (try simp only [Act.put, List.setIfInBounds_toArray, List.set_cons_zero, List.set_cons_succ])
      refine wpAnyH_take (i := 9) (v := ?v9) (by (simp only [List.getElem?_toArray, List.getElem?_cons_succ, List.getElem?_cons_zero]; rfl)) (by kernel_rfl) (by kernel_rfl) (by kernel_rfl) (fun _ _ _ h => h) (Or.inl ⟨by rfl, ?hy9⟩) (by assumption) ?rest9
      case hy9 => (intro w hSw; (try dsimp only at hSw); go_simp <;> with_reducible rfl)
      (try simp only [Act.put, List.setIfInBounds_toArray, List.set_cons_zero, List.set_cons_succ])
      refine wpAnyH_take (i := 10) (v := ?v10) (by (simp only [List.getElem?_toArray, List.getElem?_cons_succ, List.getElem?_cons_zero]; rfl)) (by kernel_rfl) (by kernel_rfl) (by kernel_rfl) (fun _ _ _ h => h) (Or.inl ⟨by rfl, ?hy10⟩) (by assumption) ?rest10
      case hy10 => (intro w hSw; (try dsimp only at hSw); go_simp <;> with_reducible rfl)
      (try simp only [Act.put, List.setIfInBounds_toArray, List.set_cons_zero, List.set_cons_succ])
      refine wpAnyH_take (i := 11) (v := ?v11) (by (simp only [List.getElem?_toArray, List.getElem?_cons_succ, List.getElem?_cons_zero]; rfl)) (by kernel_rfl) (by kernel_rfl) (by kernel_rfl) (fun _ _ _ h => h) (Or.inl ⟨by rfl, ?hy11⟩) (by assumption) ?rest11
      case hy11 => (intro w hSw; (try dsimp only at hSw); go_simp <;> with_reducible rfl)
      (try simp only [Act.put, List.setIfInBounds_toArray, List.set_cons_zero, List.set_cons_succ])
      refine wpAnyH_take (i := 12) (v := ?v12) (by (simp only [List.getElem?_toArray, List.getElem?_cons_succ, List.getElem?_cons_zero]; rfl)) (by kernel_rfl) (by kernel_rfl) (by kernel_rfl) (fun _ _ _ h => h) (Or.inl ⟨by rfl, ?hy12⟩) (by assumption) ?rest12
      case hy12 => (intro w hSw; (try dsimp only at hSw); go_simp <;> with_reducible rfl)
      (try simp only [Act.put, List.setIfInBounds_toArray, List.set_cons_zero, List.set_cons_succ])
      refine wpAnyH_take (i := 13) (v := ?v13) (by (simp only [List.getElem?_toArray, List.getElem?_cons_succ, List.getElem?_cons_zero]; rfl)) (by kernel_rfl) (by kernel_rfl) (by kernel_rfl) (fun _ _ _ h => h) (Or.inl ⟨by rfl, ?hy13⟩) (by assumption) ?rest13
      case hy13 => (intro w hSw; (try dsimp only at hSw); go_simp <;> with_reducible rfl)
      (try simp only [Act.put, List.setIfInBounds_toArray, List.set_cons_zero, List.set_cons_succ])
      refine wpAnyH_take (i := 14) (v := ?v14) (by (simp only [List.getElem?_toArray, List.getElem?_cons_succ, List.getElem?_cons_zero]; rfl)) (by kernel_rfl) (by kernel_rfl) (by kernel_rfl) (fun _ _ _ h => h) (Or.inl ⟨by rfl, ?hy14⟩) (by assumption) ?rest14
      case hy14 => (intro w hSw; (try dsimp only at hSw); go_simp <;> with_reducible rfl)
      (try simp only [Act.put, List.setIfInBounds_toArray, List.set_cons_zero, List.set_cons_succ])
      refine wpAnyH_take (i := 15) (v := ?v15) (by (simp only [List.getElem?_toArray, List.getElem?_cons_succ, List.getElem?_cons_zero]; rfl)) (by kernel_rfl) (by kernel_rfl) (by kernel_rfl) (fun _ _ _ h => h) (Or.inl ⟨by rfl, ?hy15⟩) (by assumption) ?rest15
      case hy15 => (intro w hSw; (try dsimp only at hSw); go_simp <;> with_reducible rfl)
      (try simp only [Act.put, List.setIfInBounds_toArray, List.set_cons_zero, List.set_cons_succ])
      refine wpAnyH_take (i := 16) (v := ?v16) (by (simp only [List.getElem?_toArray, List.getElem?_cons_succ, List.getElem?_cons_zero]; rfl)) (by kernel_rfl) (by kernel_rfl) (by kernel_rfl) (fun _ _ _ h => h) (Or.inl ⟨by rfl, ?hy16⟩) (by assumption) ?rest16
      case hy16 => (intro w hSw; (try dsimp only at hSw); go_simp <;> with_reducible rfl)
      (try simp only [Act.put, List.setIfInBounds_toArray, List.set_cons_zero, List.set_cons_succ])
      refine wpAnyH_take (i := 17) (v := ?v17) (by (simp only [List.getElem?_toArray, List.getElem?_cons_succ, List.getElem?_cons_zero]; rfl)) (by kernel_rfl) (by kernel_rfl) (by kernel_rfl) (fun _ _ _ h => h) (Or.inl ⟨by rfl, ?hy17⟩) (by assumption) ?rest17
      case hy17 => (intro w hSw; (try dsimp only at hSw); go_simp <;> with_reducible rfl)
      (try simp only [Act.put, List.setIfInBounds_toArray, List.set_cons_zero, List.set_cons_succ])
      refine wpAnyH_take (i := 18) (v := ?v18) (by (simp only [List.getElem?_toArray, List.getElem?_cons_succ, List.getElem?_cons_zero]; rfl)) (by kernel_rfl) (by kernel_rfl) (by kernel_rfl) (fun _ _ _ h => h) (Or.inl ⟨by rfl, ?hy18⟩) (by assumption) ?rest18
      case hy18 => (intro w hSw; (try dsimp only at hSw); go_simp <;> with_reducible rfl)
      (try simp only [Act.put, List.setIfInBounds_toArray, List.set_cons_zero, List.set_cons_succ])
      refine wpAnyH_take (i := 20) (v := ?v20) (by (simp only [List.getElem?_toArray, List.getElem?_cons_succ, List.getElem?_cons_zero]; rfl)) (by kernel_rfl) (by kernel_rfl) (by kernel_rfl) (fun _ _ _ h => h) (Or.inl ⟨by rfl, ?hy20⟩) (by assumption) ?rest20
      case hy20 => (intro w hSw; (try dsimp only at hSw); go_simp <;> with_reducible rfl)
      (try simp only [Act.put, List.setIfInBounds_toArray, List.set_cons_zero, List.set_cons_succ])
      refine wpAnyH_take (i := 21) (v := ?v21) (by (simp only [List.getElem?_toArray, List.getElem?_cons_succ, List.getElem?_cons_zero]; rfl)) (by kernel_rfl) (by kernel_rfl) (by kernel_rfl) (fun _ _ _ h => h) (Or.inl ⟨by rfl, ?hy21⟩) (by assumption) ?rest21
      case hy21 => (intro w hSw; (try dsimp only at hSw); go_simp <;> with_reducible rfl)
      (try simp only [Act.put, List.setIfInBounds_toArray, List.set_cons_zero, List.set_cons_succ])
      refine wpAnyH_take (i := 22) (v := ?v22) (by (simp only [List.getElem?_toArray, List.getElem?_cons_succ, List.getElem?_cons_zero]; rfl)) (by kernel_rfl) (by kernel_rfl) (by kernel_rfl) (fun _ _ _ h => h) (Or.inl ⟨by rfl, ?hy22⟩) (by assumption) ?rest22
      case hy22 => (intro w hSw; (try dsimp only at hSw); go_simp <;> with_reducible rfl)
      (try simp only [Act.put, List.setIfInBounds_toArray, List.set_cons_zero, List.set_cons_succ])
      refine wpAnyH_take (i := 23) (v := ?v23) (by (simp only [List.getElem?_toArray, List.getElem?_cons_succ, List.getElem?_cons_zero]; rfl)) (by kernel_rfl) (by kernel_rfl) (by kernel_rfl) (fun _ _ _ h => h) (Or.inl ⟨by rfl, ?hy23⟩) (by assumption) ?rest23
      case hy23 => (intro w hSw; (try dsimp only at hSw); go_simp <;> with_reducible rfl)
      (try simp only [Act.put, List.setIfInBounds_toArray, List.set_cons_zero, List.set_cons_succ])
      refine wpAnyH_take (i := 24) (v := ?v24) (by (simp only [List.getElem?_toArray, List.getElem?_cons_succ, List.getElem?_cons_zero]; rfl)) (by kernel_rfl) (by kernel_rfl) (by kernel_rfl) (fun _ _ _ h => h) (Or.inl ⟨by rfl, ?hy24⟩) (by assumption) ?rest24
      case hy24 => (intro w hSw; (try dsimp only at hSw); go_simp <;> with_reducible rfl)
      (try simp only [Act.put, List.setIfInBounds_toArray, List.set_cons_zero, List.set_cons_succ])
      refine wpAnyH_ready (rs := [19]) (by kernel_rfl) (by simp) ?_
      refine AllReadyH.cons (by (simp only [List.getElem?_toArray, List.getElem?_cons_succ, List.getElem?_cons_zero]; rfl)) (fun K hK => ?_) AllReadyH.nil
      go_simp
      refine hK.out _ _ ?_ (fun hHeldN => ?_)
      · (try dsimp only); exact hHeld
      clear hK K hHeld
      have hHeld := hHeldN; clear hHeldN
      (try simp only [Act.put, List.setIfInBounds_toArray, List.set_cons_zero, List.set_cons_succ])
      refine wpAnyH_ready (rs := [25]) (by kernel_rfl) (by simp) ?_
      refine AllReadyH.cons (by (simp only [List.getElem?_toArray, List.getElem?_cons_succ, List.getElem?_cons_zero]; rfl)) (fun K hK => ?_) AllReadyH.nil
      go_simp
      refine (l1max_any z0 m2 z hz _).mono ?_
      rintro e _ ⟨rfl, rfl⟩
      (try go_wp2_with fail)
      refine hK.out _ _ ?_ (fun hHeldN => ?_)
      · (try dsimp only); exact hHeld
      clear hK K hHeld
      have hHeld := hHeldN; clear hHeldN
      (try simp only [Act.put, List.setIfInBounds_toArray, List.set_cons_zero, List.set_cons_succ])
      refine wpAnyH_take (i := 26) (v := ?v26) (by (simp only [List.getElem?_toArray, List.getElem?_cons_succ, List.getElem?_cons_zero]; rfl)) (by kernel_rfl) (by kernel_rfl) (by kernel_rfl) (fun _ _ _ h => h) (Or.inl ⟨by rfl, ?hy26⟩) (by assumption) ?rest26
      case hy26 => (intro w hSw; (try dsimp only at hSw); go_simp <;> with_reducible rfl)
      (try simp only [Act.put, List.setIfInBounds_toArray, List.set_cons_zero, List.set_cons_succ])
      refine wpAnyH_ready (rs := [27]) (by kernel_rfl) (by simp) ?_
      refine AllReadyH.cons (by (simp only [List.getElem?_toArray, List.getElem?_cons_succ, List.getElem?_cons_zero]; rfl)) (fun K hK => ?_) AllReadyH.nil
      go_simp
      refine hK.out _ _ ?_ (fun hHeldN => ?_)
      · (try dsimp only); exact ⟨keepC hog hHeld.1, keepC hmg hHeld.2.1, keepC hmg hHeld.2.2⟩
      clear hK K hHeld
      have hHeld := hHeldN; clear hHeldN
      (try simp only [Act.put, List.setIfInBounds_toArray, List.set_cons_zero, List.set_cons_succ])
      refine wpAnyH_done (by kernel_rfl) ?_ _
      refine NoPanic.normal ?_
      clear hHeld
      have HSTEP : Hid (t.set kk (putMs r (ms.take (j + 1))) = (t.set kk (putMs r (ms.take j))).set kk (r2.set id z)) := hide (by
        rw [putMs_take (unhide HMJ), unhide HR2, List.set_set, ← unhide hz]
        congr 1
        unfold putM
        dsimp only
        rw [show (id : Int).toNat = id from by omega, nAt_in (unhide HID)])
      have HG2 : Hid (OwG w.heap.size w2.heap.size (wr.setCell ⟨g, id, none⟩ (.int .i64 z)).drew (.slice (some ⟨ob, 0, none⟩) n c1) (t.set kk (putMs r (ms.take (j + 1))))) := by
        rw [unhide HSTEP]
        exact hide ((unhide HP).later ((Below.refl _ _).drew))
      have HB3 := hide (((unhide HBR).setCell (p := ⟨g, id, none⟩) hlo (.int .i64 z)).drew)
      have hs3 : w2.heap.size ≤ ((wr.setCell ⟨g, id, none⟩ (.int .i64 z)).drew).heap.size := by
        show w2.heap.size ≤ (wr.setCell ⟨g, id, none⟩ (.int .i64 z)).heap.size
        simp; omega
      clear HP HBR HG HSTEP
      go_wp2
      go_roundw
      case rel => exact ⟨j + 1, by omega, by go_num, unhide HG2, unhide HB3, hs3⟩
      case measure => simp [intOf]; omega
    · have HFG : Hid (OwG w.heap.size wr.heap.size wr (.slice a1 n c1) (addT t (kk : Int) ms)) := hide (by
        rw [unhide HE]
        have h := hogr
        rw [List.take_of_length_le (by have := (unhide HM).len.1; omega)] at h
        exact h.mono (Nat.le_refl _) hsw)
      clear hogr hb
      go_wp2
      go_ret
      exact ⟨_, _, rfl, unhide HFG, unhide HBR⟩
set_option linter.unusedSimpArgs false in
set_option maxHeartbeats 4000000 in
set_option maxRecDepth 100000 in
theorem itableadd_any (a : Option Addr) (n c : Nat) (t : Tb) (k : Int) (ma : Option Addr) (mn mc : Nat) (ms : List Flr) (w : World) (hn : n ≤ 1048576) (ht : totG t ≤ 1048576) (hmn : mn ≤ 140737488351232) (h : RwG w (.slice a n c) t) (hm : Rw encF 2 w (.slice ma mn mc) ms) :
    Calls Tryz.prog 23 #[.slice a n c, .int .i64 k, .slice ma mn mc] w fun e w' => ∃ a' c', e = .returned (.slice a' n c') ∧ OwG w.heap.size w'.heap.size w' (.slice a' n c') (addT t k ms) ∧ Below w.heap.size w w' := by
  have HX := hide h
  have HM := hide hm
  have HN := hide h.len.1
  obtain ⟨q1, hq1⟩ : ∃ q, Hid (inB k 0 ((n : Int) - 1) = q) := ⟨_, hide rfl⟩
  obtain ⟨q2, hq2⟩ : ∃ q, Hid (gF (-1) ms = q) := ⟨_, hide rfl⟩
  have HA : Hid (addOk t k ms = (q1 && q2 && decide (5 ≤ (rowT t k).length))) := hide (by rw [addOk, ← h.len.1, unhide hq1, unhide hq2])
  clear h hm
  go_enter Tryz.func23, Tryz.ntmps23
  go_wp2_with fail
  refine (itablecopy_any a n c t _ hn ht (unhide HX)).mono ?_
  rintro e w1 ⟨a1, c1, rfl, o1, b1⟩
  have HO := hide o1
  have HB := hide b1
  have hz1 := b1.size
  clear o1 b1
  have HFIN : ∀ w2, Hid (addOk t k ms = false) → Below w1.heap.size w1 w2 → ∃ a' c', Ending.returned (Value.slice a1 n c1) = .returned (.slice a' n c') ∧ OwG w.heap.size w2.heap.size w2 (.slice a' n c') (addT t k ms) ∧ Below w.heap.size w w2 := fun w2 hf b => ⟨a1, c1, rfl, by
    have e : addT t k ms = t := by unfold addT; rw [if_neg (by rw [unhide hf]; simp)]
    rw [e]
    exact ((unhide HO).later b).mono (Nat.le_refl _) b.size, (unhide HB).trans (b.mono hz1)⟩
  have HF := hide HFIN
  clear HFIN
  go_wp2_with fail
  refine (within_is k 0 ((n : Int) - 1) q1 (unhide hq1) _).mono ?_
  rintro e _ ⟨rfl, rfl⟩
  cases q1
  · have HA0 : Hid (addOk t k ms = false) := hide (by rw [unhide HA]; rfl)
    go_wp2
    go_ret
    exact unhide HF _ HA0 (Below.refl _ _)
  go_wp2_with fail
  refine (imarksok_any ma mn mc ms q2 hq2 _ hmn ((unhide HM).later (unhide HB))).mono ?_
  rintro e w2 ⟨rfl, b2⟩
  have HB2 := hide b2
  have hz2 := b2.size
  clear b2
  cases q2
  · have HA0 : Hid (addOk t k ms = false) := hide (by rw [unhide HA]; rfl)
    go_wp2
    go_ret
    exact unhide HF _ HA0 (unhide HB2)
  obtain ⟨kk, rfl⟩ : ∃ kk : Nat, k = (kk : Int) := by
    have h := unhide hq1
    simp [inB] at h
    exact ⟨k.toNat, by omega⟩
  have hkk : kk < n := by
    have h := unhide hq1
    simp [inB] at h
    omega
  have HBW := hide ((unhide HB).trans ((unhide HB2).mono hz1))
  obtain ⟨r, ai, ni, ci, bb, off, hr, rfl, hbw, hcap, c0, rx, -⟩ := (unhide HX).at hkk
  have d0 := ((unhide HBW).cell (p := ⟨bb, off + kk, none⟩) hbw).trans c0
  obtain ⟨q3, hq3⟩ : ∃ q, decide ((ni : Int) < 5) = q := ⟨_, rfl⟩
  have HR := hide hr
  have HNI := hide rx.len.1
  have HA1 : Hid (addOk t (kk : Int) ms = !q3) := hide (by
    rw [unhide HA, rowT_in hr, ← rx.len.1, ← hq3]
    by_cases h : (ni : Int) < 5
    · simp [h]; omega
    · simp [h]; omega)
  clear c0 rx hr
  cases q3
  rotate_left
  · have HA0 : Hid (addOk t (kk : Int) ms = false) := hide (by rw [unhide HA1]; rfl)
    clear hq1
    go_wp2
    go_ret
    exact unhide HF _ HA0 (unhide HB2)
  have hni5 : 5 ≤ ni := by simp at hq3; omega
  have HE : Hid (addT t (kk : Int) ms = t.set kk (putMs r ms)) := hide (by
    unfold addT
    rw [if_pos (by rw [unhide HA1]; rfl), rowT_in (unhide HR)]; simp)
  have HO2 := hide (((unhide HO).later (unhide HB2)).mono (Nat.le_refl _) hz2)
  clear HO HF hq1 HA HA1
  go_wp2
  clear d0
  go_loopw [34] (fun i wr => ∃ j : Nat, j ≤ mn ∧ i = .int .i64 j ∧ OwG w.heap.size w2.heap.size wr (.slice a1 n c1) (t.set kk (putMs r (ms.take j))) ∧ Below w.heap.size w wr ∧ w2.heap.size ≤ wr.heap.size) (fun i _ => mn - (intOf i).toNat)
  case atStart => exact ⟨0, Nat.zero_le _, rfl, by show OwG _ _ _ _ (t.set kk r); rw [set_same9 (unhide HR)]; exact unhide HO2, unhide HBW, Nat.le_refl _⟩
  case round =>
    obtain ⟨j, hj, rfl, hogr, hb, hsw⟩ := hrel
    have HG := hide hogr
    have HBR := hide hb
    have hsr := hb.size
    by_cases hlt : j < mn
    · obtain ⟨m, mb, moff, hm, rfl, hmb, hmc, hcm⟩ := (unhide HM).at hlt
      have hmbr : mb < wr.heap.size := by omega
      have e0 : wr.cell? ⟨mb, moff + j * 2, none⟩ = some (.int .i64 m.1) := (hb.cell (p := ⟨mb, moff + j * 2, none⟩) hmb).trans (hcm 0 (by omega))
      have e1 : wr.cell? ⟨mb, moff + j * 2 + 1, none⟩ = some (.int .i64 m.2) := (hb.cell (p := ⟨mb, moff + j * 2 + 1, none⟩) hmb).trans (hcm 1 (by omega))
      have HCM := hide hcm
      clear hcm
      obtain ⟨hm0, hm4, hi0, hi1⟩ := gF_mem (unhide hq2) j m hm
      obtain ⟨m1, m2⟩ := m
      simp only at hm0 hm4 hi0 hi1 e0 e1
      obtain ⟨id, rfl⟩ := Int.eq_ofNat_of_zero_le hm0
      have HMJ := hide hm
      clear hm hb hogr hm0
      go_upto_region 7 with fail
      obtain ⟨W, hW⟩ : ∃ q, q = wr.alloc (.cells #[.int .i64 id, .int .i64 m2] 37) := ⟨_, rfl⟩
      rw [← hW]
      have bW : Below wr.heap.size wr W := by rw [hW]; exact (Below.refl _ _).alloc (Nat.le_refl _) _
      have hWs : W.heap.size = wr.heap.size + 1 := by rw [hW]; simp
      have e2 : W.cell? ⟨wr.heap.size, 0, none⟩ = some (.int .i64 id) := by rw [hW]; simp
      have e3 : W.cell? ⟨wr.heap.size, 1, none⟩ = some (.int .i64 m2) := by rw [hW]; simp
      have hogW := (unhide HG).later bW
      have HBW2 := hide ((unhide HBR).trans (bW.mono hsr))
      clear hW e0 e1
      obtain ⟨r2, hr2⟩ : ∃ r2, putMs r (ms.take j) = r2 := ⟨_, rfl⟩
      have hl2 : r2.length = ni := by rw [← hr2, putMs_len, ← unhide HNI]
      obtain ⟨z0, hz0⟩ : ∃ z, r2[id]? = some z := ⟨_, List.getElem?_eq_getElem (by omega)⟩
      have hrt : (t.set kk (putMs r (ms.take j)))[kk]? = some r2 := by
        rw [hr2, List.getElem?_set]
        have := (List.getElem?_eq_some_iff.1 (unhide HR)).1
        simp [this]
      obtain ⟨ob, g, cr, rfl, hc1, hob, hgb, hlo, hghi, hog, hcr, f0, f1, ff, hput⟩ := hogW.cell hrt hz0
      rw [hl2] at f0 hcr
      have HP := hide (hput (max z0 m2))
      obtain ⟨z, hz⟩ : ∃ z, Hid (max z0 m2 = z) := ⟨_, hide rfl⟩
      rw [unhide hz] at HP
      have HID := hide hz0
      have HR2 := hide hr2
      have hid5 : id < ni := by omega
      have hidc : id < cr := by omega
      have hmg : wr.heap.size ≠ g := by omega
      clear hogW hrt hput hz0 hr2 hl2 bW
      refine wp_region_noPanic ?_
      refine wp_region_held_drew (S := (fun W => W.cell? ⟨ob, kk, none⟩ = some (.slice (some ⟨g, 0, none⟩) ni cr) ∧ W.cell? ⟨wr.heap.size, 0, none⟩ = some (.int .i64 id) ∧ W.cell? ⟨wr.heap.size, 1, none⟩ = some (.int .i64 m2))) (by kernel_rfl) ?_ (fun hHeld => ?_)
      · (try dsimp only); exact ⟨f0, e2, e3⟩
      refine wpAnyH_take (i := 0) (v := ?v0) (by (simp only [List.getElem?_toArray, List.getElem?_cons_succ, List.getElem?_cons_zero]; rfl)) (by kernel_rfl) (by kernel_rfl) (by kernel_rfl) (fun _ _ _ h => h) (Or.inl ⟨by rfl, ?hy0⟩) (by assumption) ?rest0
      case hy0 => (intro w hSw; (try dsimp only at hSw); go_simp <;> with_reducible rfl)
      (try simp only [Act.put, List.setIfInBounds_toArray, List.set_cons_zero, List.set_cons_succ])
      refine wpAnyH_take (i := 1) (v := ?v1) (by (simp only [List.getElem?_toArray, List.getElem?_cons_succ, List.getElem?_cons_zero]; rfl)) (by kernel_rfl) (by kernel_rfl) (by kernel_rfl) (fun _ _ _ h => h) (Or.inl ⟨by rfl, ?hy1⟩) (by assumption) ?rest1
      case hy1 => (intro w hSw; (try dsimp only at hSw); go_simp <;> with_reducible rfl)
      (try simp only [Act.put, List.setIfInBounds_toArray, List.set_cons_zero, List.set_cons_succ])
      refine wpAnyH_take (i := 2) (v := ?v2) (by (simp only [List.getElem?_toArray, List.getElem?_cons_succ, List.getElem?_cons_zero]; rfl)) (by kernel_rfl) (by kernel_rfl) (by kernel_rfl) (fun _ _ _ h => h) (Or.inl ⟨by rfl, ?hy2⟩) (by assumption) ?rest2
      case hy2 => (intro w hSw; (try dsimp only at hSw); go_simp <;> with_reducible rfl)
      (try simp only [Act.put, List.setIfInBounds_toArray, List.set_cons_zero, List.set_cons_succ])
      refine wpAnyH_take (i := 3) (v := ?v3) (by (simp only [List.getElem?_toArray, List.getElem?_cons_succ, List.getElem?_cons_zero]; rfl)) (by kernel_rfl) (by kernel_rfl) (by kernel_rfl) (fun _ _ _ h => h) (Or.inl ⟨by rfl, ?hy3⟩) (by assumption) ?rest3
      case hy3 => (intro w hSw; (try dsimp only at hSw); go_simp <;> with_reducible rfl)
      (try simp only [Act.put, List.setIfInBounds_toArray, List.set_cons_zero, List.set_cons_succ])
      refine wpAnyH_take (i := 4) (v := ?v4) (by (simp only [List.getElem?_toArray, List.getElem?_cons_succ, List.getElem?_cons_zero]; rfl)) (by kernel_rfl) (by kernel_rfl) (by kernel_rfl) (fun _ _ _ h => h) (Or.inl ⟨by rfl, ?hy4⟩) (by assumption) ?rest4
      case hy4 => (intro w hSw; (try dsimp only at hSw); go_simp <;> with_reducible rfl)
      (try simp only [Act.put, List.setIfInBounds_toArray, List.set_cons_zero, List.set_cons_succ])
      refine wpAnyH_take (i := 5) (v := ?v5) (by (simp only [List.getElem?_toArray, List.getElem?_cons_succ, List.getElem?_cons_zero]; rfl)) (by kernel_rfl) (by kernel_rfl) (by kernel_rfl) (fun _ _ _ h => h) (Or.inl ⟨by rfl, ?hy5⟩) (by assumption) ?rest5
      case hy5 => (intro w hSw; (try dsimp only at hSw); go_simp <;> with_reducible rfl)
      (try simp only [Act.put, List.setIfInBounds_toArray, List.set_cons_zero, List.set_cons_succ])
      refine wpAnyH_take (i := 6) (v := ?v6) (by (simp only [List.getElem?_toArray, List.getElem?_cons_succ, List.getElem?_cons_zero]; rfl)) (by kernel_rfl) (by kernel_rfl) (by kernel_rfl) (fun _ _ _ h => h) (Or.inl ⟨by rfl, ?hy6⟩) (by assumption) ?rest6
      case hy6 => (intro w hSw; (try dsimp only at hSw); go_simp <;> with_reducible rfl)
      (try simp only [Act.put, List.setIfInBounds_toArray, List.set_cons_zero, List.set_cons_succ])
      refine wpAnyH_take (i := 7) (v := ?v7) (by (simp only [List.getElem?_toArray, List.getElem?_cons_succ, List.getElem?_cons_zero]; rfl)) (by kernel_rfl) (by kernel_rfl) (by kernel_rfl) (fun _ _ _ h => h) (Or.inl ⟨by rfl, ?hy7⟩) (by assumption) ?rest7
      case hy7 => (intro w hSw; (try dsimp only at hSw); go_simp <;> with_reducible rfl)
      (try simp only [Act.put, List.setIfInBounds_toArray, List.set_cons_zero, List.set_cons_succ])
      refine wpAnyH_take (i := 8) (v := ?v8) (by (simp only [List.getElem?_toArray, List.getElem?_cons_succ, List.getElem?_cons_zero]; rfl)) (by kernel_rfl) (by kernel_rfl) (by kernel_rfl) (fun _ _ _ h => h) (Or.inl ⟨by rfl, ?hy8⟩) (by assumption) ?rest8
      case hy8 => (intro w hSw; (try dsimp only at hSw); go_simp <;> with_reducible rfl)
      (try simp only [Act.put, List.setIfInBounds_toArray, List.set_cons_zero, List.set_cons_succ])
      refine wpAnyH_take (i := 9) (v := ?v9) (by (simp only [List.getElem?_toArray, List.getElem?_cons_succ, List.getElem?_cons_zero]; rfl)) (by kernel_rfl) (by kernel_rfl) (by kernel_rfl) (fun _ _ _ h => h) (Or.inl ⟨by rfl, ?hy9⟩) (by assumption) ?rest9
      case hy9 => (intro w hSw; (try dsimp only at hSw); go_simp <;> with_reducible rfl)
      (try simp only [Act.put, List.setIfInBounds_toArray, List.set_cons_zero, List.set_cons_succ])
      refine wpAnyH_take (i := 10) (v := ?v10) (by (simp only [List.getElem?_toArray, List.getElem?_cons_succ, List.getElem?_cons_zero]; rfl)) (by kernel_rfl) (by kernel_rfl) (by kernel_rfl) (fun _ _ _ h => h) (Or.inl ⟨by rfl, ?hy10⟩) (by assumption) ?rest10
      case hy10 => (intro w hSw; (try dsimp only at hSw); go_simp <;> with_reducible rfl)
      (try simp only [Act.put, List.setIfInBounds_toArray, List.set_cons_zero, List.set_cons_succ])
      refine wpAnyH_take (i := 11) (v := ?v11) (by (simp only [List.getElem?_toArray, List.getElem?_cons_succ, List.getElem?_cons_zero]; rfl)) (by kernel_rfl) (by kernel_rfl) (by kernel_rfl) (fun _ _ _ h => h) (Or.inl ⟨by rfl, ?hy11⟩) (by assumption) ?rest11
      case hy11 => (intro w hSw; (try dsimp only at hSw); go_simp <;> with_reducible rfl)
      (try simp only [Act.put, List.setIfInBounds_toArray, List.set_cons_zero, List.set_cons_succ])
      refine wpAnyH_take (i := 12) (v := ?v12) (by (simp only [List.getElem?_toArray, List.getElem?_cons_succ, List.getElem?_cons_zero]; rfl)) (by kernel_rfl) (by kernel_rfl) (by kernel_rfl) (fun _ _ _ h => h) (Or.inl ⟨by rfl, ?hy12⟩) (by assumption) ?rest12
      case hy12 => (intro w hSw; (try dsimp only at hSw); go_simp <;> with_reducible rfl)
      (try simp only [Act.put, List.setIfInBounds_toArray, List.set_cons_zero, List.set_cons_succ])
      refine wpAnyH_take (i := 14) (v := ?v14) (by (simp only [List.getElem?_toArray, List.getElem?_cons_succ, List.getElem?_cons_zero]; rfl)) (by kernel_rfl) (by kernel_rfl) (by kernel_rfl) (fun _ _ _ h => h) (Or.inl ⟨by rfl, ?hy14⟩) (by assumption) ?rest14
      case hy14 => (intro w hSw; (try dsimp only at hSw); go_simp <;> with_reducible rfl)
      (try simp only [Act.put, List.setIfInBounds_toArray, List.set_cons_zero, List.set_cons_succ])
      refine wpAnyH_take (i := 15) (v := ?v15) (by (simp only [List.getElem?_toArray, List.getElem?_cons_succ, List.getElem?_cons_zero]; rfl)) (by kernel_rfl) (by kernel_rfl) (by kernel_rfl) (fun _ _ _ h => h) (Or.inl ⟨by rfl, ?hy15⟩) (by assumption) ?rest15
      case hy15 => (intro w hSw; (try dsimp only at hSw); go_simp <;> with_reducible rfl)
      (try simp only [Act.put, List.setIfInBounds_toArray, List.set_cons_zero, List.set_cons_succ])
      refine wpAnyH_ready (rs := [13]) (by kernel_rfl) (by simp) ?_
      refine AllReadyH.cons (by (simp only [List.getElem?_toArray, List.getElem?_cons_succ, List.getElem?_cons_zero]; rfl)) (fun K hK => ?_) AllReadyH.nil
      go_simp
      refine hK.out _ _ ?_ (fun hHeldN => ?_)
      · (try dsimp only); exact hHeld
      clear hK K hHeld
      have hHeld := hHeldN; clear hHeldN
      (try simp only [Act.put, List.setIfInBounds_toArray, List.set_cons_zero, List.set_cons_succ])
      refine wpAnyH_ready (rs := [16]) (by kernel_rfl) (by simp) ?_
      refine AllReadyH.cons (by (simp only [List.getElem?_toArray, List.getElem?_cons_succ, List.getElem?_cons_zero]; rfl)) (fun K hK => ?_) AllReadyH.nil
      go_simp
      refine (greater_any z0 m2 z hz _).mono ?_
      rintro e _ ⟨rfl, rfl⟩
      (try go_wp2_with fail)
      refine hK.out _ _ ?_ (fun hHeldN => ?_)
      · (try dsimp only); exact hHeld
      clear hK K hHeld
      have hHeld := hHeldN; clear hHeldN
      (try simp only [Act.put, List.setIfInBounds_toArray, List.set_cons_zero, List.set_cons_succ])
      refine wpAnyH_take (i := 17) (v := ?v17) (by (simp only [List.getElem?_toArray, List.getElem?_cons_succ, List.getElem?_cons_zero]; rfl)) (by kernel_rfl) (by kernel_rfl) (by kernel_rfl) (fun _ _ _ h => h) (Or.inl ⟨by rfl, ?hy17⟩) (by assumption) ?rest17
      case hy17 => (intro w hSw; (try dsimp only at hSw); go_simp <;> with_reducible rfl)
      (try simp only [Act.put, List.setIfInBounds_toArray, List.set_cons_zero, List.set_cons_succ])
      refine wpAnyH_ready (rs := [18]) (by kernel_rfl) (by simp) ?_
      refine AllReadyH.cons (by (simp only [List.getElem?_toArray, List.getElem?_cons_succ, List.getElem?_cons_zero]; rfl)) (fun K hK => ?_) AllReadyH.nil
      go_simp
      refine hK.out _ _ ?_ (fun hHeldN => ?_)
      · (try dsimp only); exact ⟨keepC hog hHeld.1, keepC hmg hHeld.2.1, keepC hmg hHeld.2.2⟩
      clear hK K hHeld
      have hHeld := hHeldN; clear hHeldN
      (try simp only [Act.put, List.setIfInBounds_toArray, List.set_cons_zero, List.set_cons_succ])
      refine wpAnyH_done (by kernel_rfl) ?_ _
      refine NoPanic.normal ?_
      clear hHeld
      have HSTEP : Hid (t.set kk (putMs r (ms.take (j + 1))) = (t.set kk (putMs r (ms.take j))).set kk (r2.set id z)) := hide (by
        rw [putMs_take (unhide HMJ), unhide HR2, List.set_set, ← unhide hz]
        congr 1
        unfold putM
        dsimp only
        rw [show (id : Int).toNat = id from by omega, nAt_in (unhide HID)])
      have HG2 : Hid (OwG w.heap.size w2.heap.size (W.setCell ⟨g, id, none⟩ (.int .i64 z)).drew (.slice (some ⟨ob, 0, none⟩) n c1) (t.set kk (putMs r (ms.take (j + 1))))) := by
        rw [unhide HSTEP]
        exact hide ((unhide HP).later ((Below.refl _ _).drew))
      have HB3 := hide (((unhide HBW2).setCell (p := ⟨g, id, none⟩) hlo (.int .i64 z)).drew)
      have hs3 : w2.heap.size ≤ ((W.setCell ⟨g, id, none⟩ (.int .i64 z)).drew).heap.size := by
        show w2.heap.size ≤ (W.setCell ⟨g, id, none⟩ (.int .i64 z)).heap.size
        simp; omega
      clear HP HBR HBW2 HG HSTEP
      go_wp2
      go_roundw
      case rel => exact ⟨j + 1, by omega, by go_num, unhide HG2, unhide HB3, hs3⟩
      case measure => simp [intOf]; omega
    · have HFG : Hid (OwG w.heap.size wr.heap.size wr (.slice a1 n c1) (addT t (kk : Int) ms)) := hide (by
        rw [unhide HE]
        have h := hogr
        rw [List.take_of_length_le (by have := (unhide HM).len.1; omega)] at h
        exact h.mono (Nat.le_refl _) hsw)
      clear hogr hb
      go_wp2
      go_ret
      exact ⟨_, _, rfl, unhide HFG, unhide HBR⟩
end Go.Proofs.YtighiahppjekeaaGreatDoor
