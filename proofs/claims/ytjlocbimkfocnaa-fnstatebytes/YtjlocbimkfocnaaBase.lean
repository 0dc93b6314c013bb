/-
  What is used of rows of bytes in memory, whatever the program: a slice value that reads as a list of bytes ('Seg'), what the call itself owns ('ownsRow') carried from one world to a later one, and the check sum as a function on lists. No statement is proved here.
-/
import Derived.Test.YtjlocbimkfocnaaRows
import Derived.WalkKit
import Derived.ProofKit
import Derived.OpenShut
import Derived.Below
import Derived.Outline
namespace Go.Proofs.Ytjlocbimkfocnaa
open Go.RowKit

theorem hide {p : Prop} (h : p) : Hid p := h
theorem unhide {p : Prop} (h : Hid p) : p := h

theorem Try.infoByte : (Try.prog.info? 5).map (fun i => (i.zero, i.size, i.bytes)) = some (some (.int .u8 0), 1, 1) := by kernel_rfl

/-- The slice value v reads as the bytes xs. -/
def Seg (w : World) (v : Value) (xs : List Int) : Prop :=
  ∃ a cap, v = .slice a xs.length cap ∧ xs.length ≤ cap ∧ (xs = [] ∨ ∃ b off, a = some ⟨b, off, none⟩ ∧ b < w.heap.size ∧ ∀ i, i < xs.length → w.cell? ⟨b, off + i, none⟩ = some (.int .u8 (xs.getD i 0)))

theorem Seg.mk {w : World} {a : Option Addr} {cap n : Nat} {xs : List Int} (hn : n = xs.length) (hcap : n ≤ cap) (h : xs = [] ∨ ∃ b off, a = some ⟨b, off, none⟩ ∧ b < w.heap.size ∧ ∀ i, i < xs.length → w.cell? ⟨b, off + i, none⟩ = some (.int .u8 (xs.getD i 0))) :
    Seg w (.slice a n cap) xs := by subst hn; exact ⟨a, cap, rfl, hcap, h⟩

/-- What came in reads so, each byte within its bounds. -/
theorem seg_of_row {w : World} {a : Option Addr} {len cap : Nat} {zs : List Int}
    (h : (a = none ∧ len = 0 ∧ cap = 0 ∧ zs = []) ∨ ∃ x, a = some x ∧ len ≤ cap ∧ cap ≤ maxLen ∧ zs.length = cap ∧ (∀ i, i < zs.length → w.cell? (x.add i) = some (.int .u8 (zs.getD i 0))) ∧ ∀ n ∈ zs, (Lit.int .u8 n).wf = true) :
    ∃ xs : List Int, xs.length = len ∧ Seg w (.slice a len cap) xs ∧ ∀ z ∈ xs, 0 ≤ z ∧ z ≤ 255 := by
  rcases h with ⟨rfl, rfl, rfl, rfl⟩ | ⟨x, rfl, hl, hm, hz, hc, hw⟩
  · exact ⟨[], rfl, ⟨none, 0, rfl, Nat.le_refl _, .inl rfl⟩, fun z hz => by cases hz⟩
  · refine ⟨zs.take len, by simp; omega, Seg.mk (by simp; omega) hl ?_, fun z hz => bounds_u8 (hw z (List.mem_of_mem_take hz))⟩
    by_cases h0 : len = 0
    · exact .inl (by simp [h0])
    · obtain ⟨b, off, spot⟩ := x
      have hc0 := hc 0 (by omega)
      have hspot : spot = none := by simpa [Addr.add] using World.cell?_spot hc0
      subst hspot
      refine .inr ⟨b, off, rfl, World.block_lt_of_cell? w _ hc0, fun i hi => ?_⟩
      have hi' : i < len := by simp at hi; omega
      have := hc i (by omega)
      have e : (if i = 0 then (⟨b, off, none⟩ : Addr) else ⟨b, off + i, none⟩) = ⟨b, off + i, none⟩ := by
        by_cases hi0 : i = 0
        · subst hi0; rfl
        · rw [if_neg hi0]
      simp only [Addr.add] at this
      rw [e] at this
      rw [this]
      simp [List.getD_eq_getElem?_getD, hi']

/-- A reading stays where the blocks that were there are as they were. -/
theorem Seg.below {w w' : World} {v : Value} {xs : List Int} (h : Seg w v xs) {B : Nat} (hb : Below B w w') (hB : w.heap.size ≤ B) : Seg w' v xs := by
  obtain ⟨a, cap, rfl, hcap, h⟩ := h
  refine ⟨a, cap, rfl, hcap, ?_⟩
  rcases h with h | ⟨b, off, rfl, hlt, hc⟩
  · exact .inl h
  · exact .inr ⟨b, off, rfl, Nat.lt_of_lt_of_le hlt hb.size, fun i hi => (hb.cell (p := ⟨b, off + i, none⟩) (Nat.lt_of_lt_of_le hlt hB)).trans (hc i hi)⟩

theorem Seg.heap {w w' : World} {v : Value} {xs : List Int} (h : Seg w v xs) (hh : w'.heap = w.heap) : Seg w' v xs := by
  obtain ⟨a, cap, rfl, hcap, h⟩ := h
  refine ⟨a, cap, rfl, hcap, ?_⟩
  rcases h with h | ⟨b, off, rfl, hlt, hc⟩
  · exact .inl h
  · exact .inr ⟨b, off, rfl, by rw [hh]; exact hlt, fun i hi => (World.cell?_of_block (w := w) (a := ⟨b, off + i, none⟩) (by rw [hh])).trans (hc i hi)⟩
/-- A list, and the same list with one place that holds another number. -/
theorem drop_split (l : List Int) (j : Nat) (h : j < l.length) : ∃ A B, l = A ++ l.getD j 0 :: B ∧ ∀ u : Value, (l.map (Value.int .u8)).set j u = A.map (Value.int .u8) ++ u :: B.map (Value.int .u8) := by
  refine ⟨l.take j, l.drop (j + 1), ?_, fun u => ?_⟩
  · have e : l.getD j 0 = l[j] := by simp [h]
    rw [e, ← List.drop_eq_getElem_cons h, List.take_append_drop]
  · rw [List.set_eq_take_append_cons_drop, if_pos (by simpa using h), List.map_take, List.map_drop]

/-- What is owned reads so. -/
theorem seg_of_owns {w : World} {base : Nat} {e : TypeId} {v : Value} {xs : List Int} {n : Nat} (h : w.ownsRow base e 1 v n (xs.map (Value.int .u8))) : Seg w v xs := by
  have hn : n = xs.length := by have := h.1; simp at this; omega
  subst hn
  rcases h.2 with ⟨rfl, h0⟩ | ⟨g, cap, cur, rfl, hb, hg, hnc, hcm, hcs, htake⟩
  · exact ⟨none, 0, by rw [h0], by omega, .inl (List.eq_nil_of_length_eq_zero h0)⟩
  · refine ⟨_, cap, rfl, hnc, .inr ⟨g, 0, rfl, (Array.getElem?_eq_some_iff.1 hg).1, fun i hi => ?_⟩⟩
    have := World.ownsRow.cellAt h i (by omega)
    rw [Nat.zero_add, this]
    simp [hi]

/-- What is owned stays owned where the blocks that were there are as they were. -/
theorem owns_below {w w' : World} {base : Nat} {e : TypeId} {size : Nat} {v : Value} {n : Nat} {xs : List Value} (h : w.ownsRow base e size v n xs) {B : Nat} (hb : Below B w w') (hB : ∀ k, v.ownBlock = some k → k < B) : w'.ownsRow base e size v n xs := by
  refine ⟨h.1, ?_⟩
  rcases h.2 with hn | ⟨g, cap, cur, rfl, hg, hh, r⟩
  · exact .inl hn
  · exact .inr ⟨g, cap, cur, rfl, hg, by rw [hb.block g (hB g rfl)]; exact hh, r⟩

theorem owns_later {w w' : World} {base : Nat} {e : TypeId} {size : Nat} {v : Value} {n : Nat} {xs : List Value} (h : w.ownsRow base e size v n xs) {B : Nat} (hb : Below B w w') (hB : w.heap.size ≤ B) : w'.ownsRow base e size v n xs :=
  owns_below h hb fun k hk => Nat.lt_of_lt_of_le (h.lt k hk).2 hB

theorem owns_base {w : World} {base base' : Nat} {e : TypeId} {size : Nat} {v : Value} {n : Nat} {xs : List Value} (h : w.ownsRow base e size v n xs) (hb : base' ≤ base) : w.ownsRow base' e size v n xs := by
  refine ⟨h.1, ?_⟩
  rcases h.2 with hn | ⟨g, cap, cur, rfl, hg, r⟩
  · exact .inl hn
  · exact .inr ⟨g, cap, cur, rfl, by omega, r⟩

/-- Behind an append of one byte that was laid in a block of its own. -/
theorem own_step {B j : Nat} {e : TypeId} {w wr w1 : World} {o : Obj} {u v' : Value} {ys : List Int} {y : Int} (hown : wr.ownsRow B e 1 u j (ys.map (Value.int .u8))) (hbel : Below B w wr) (hB : B ≤ wr.heap.size)
    (hown' : w1.ownsRow B e 1 v' (j + 1) (ys.map (Value.int .u8) ++ [.int .u8 y])) (hgrow : (wr.alloc o).grownBy w1 u.ownBlock) :
    w1.ownsRow B e 1 v' (j + 1) ((ys ++ [y]).map (Value.int .u8)) ∧ Below B w w1 :=
  ⟨by simpa using hown', (hbel.alloc hB o).grown hgrow (by simp; omega) (fun k hk => (hown.lt k hk).1)⟩

/-- The slice value v reads as the cells cs. -/
def SegV (w : World) (v : Value) (cs : List Value) : Prop :=
  ∃ a cap, v = .slice a cs.length cap ∧ cs.length ≤ cap ∧ (cs = [] ∨ ∃ b off, a = some ⟨b, off, none⟩ ∧ b < w.heap.size ∧ ∀ i, i < cs.length → w.cell? ⟨b, off + i, none⟩ = cs[i]?)
theorem SegV.below {w w' : World} {v : Value} {cs : List Value} (h : SegV w v cs) {B : Nat} (hb : Below B w w') (hB : w.heap.size ≤ B) : SegV w' v cs := by
  obtain ⟨a, cap, rfl, hcap, h⟩ := h
  refine ⟨a, cap, rfl, hcap, ?_⟩
  rcases h with h | ⟨b, off, rfl, hlt, hc⟩
  · exact .inl h
  · exact .inr ⟨b, off, rfl, Nat.lt_of_lt_of_le hlt hb.size, fun i hi => (hb.cell (p := ⟨b, off + i, none⟩) (Nat.lt_of_lt_of_le hlt hB)).trans (hc i hi)⟩
theorem segv_of_owns {w : World} {base : Nat} {e : TypeId} {v : Value} {cs : List Value} {n : Nat} (h : w.ownsRow base e 1 v n cs) : SegV w v cs := by
  have hn : n = cs.length := by have := h.1; omega
  subst hn
  rcases h.2 with ⟨rfl, h0⟩ | ⟨g, cap, cur, rfl, hb, hg, hnc, hcm, hcs, htake⟩
  · exact ⟨none, 0, by rw [h0], by omega, .inl (List.eq_nil_of_length_eq_zero h0)⟩
  · refine ⟨_, cap, rfl, hnc, .inr ⟨g, 0, rfl, (Array.getElem?_eq_some_iff.1 hg).1, fun i hi => ?_⟩⟩
    rw [Nat.zero_add]
    exact World.ownsRow.cellAt h i (by omega)

/-- Two rows of unlike elements are not one. -/
theorem owns_apart {w : World} {B B' : Nat} {e e' : TypeId} {size size' : Nat} {v u : Value} {n m : Nat} {xs ys : List Value} (h : w.ownsRow B e size v n xs) (h' : w.ownsRow B' e' size' u m ys) (hne : e ≠ e') : v.ownBlock = none ∨ v.ownBlock ≠ u.ownBlock := by
  rcases h.2 with ⟨rfl, _⟩ | ⟨g, cap, cur, rfl, _, hg, _⟩
  · exact .inl rfl
  · rcases h'.2 with ⟨rfl, _⟩ | ⟨g', cap', cur', rfl, _, hg', _⟩
    · exact .inr (by simp [Value.ownBlock])
    · refine .inr ?_
      simp only [Value.ownBlock, ne_eq, Option.some.injEq]
      intro e1
      subst e1
      rw [hg] at hg'
      simp at hg'
      exact hne hg'.2

/-- Behind an append of one value that was laid in a block of its own. -/
theorem own_stepV {B j : Nat} {e : TypeId} {w wr w1 : World} {o : Obj} {u : Value} {cs : List Value} (hown : wr.ownsRow B e 1 u j cs) (hbel : Below B w wr) (hB : B ≤ wr.heap.size)
    (hgrow : (wr.alloc o).grownBy w1 u.ownBlock) : Below B w w1 :=
  (hbel.alloc hB o).grown hgrow (by simp; omega) (fun k hk => (hown.lt k hk).1)

theorem set_take_drop (xs : List Int) (n k : Nat) (hk : k < n) (hn : n = xs.length) :
    ((xs.take k ++ List.replicate (n - k) 0).map (Value.int .u8)).set k (.int .u8 (xs[k]?.getD 0)) = (xs.take (k + 1) ++ List.replicate (n - (k + 1)) 0).map (Value.int .u8) := by
  subst hn
  apply List.ext_getElem?
  intro i
  rw [List.getElem?_set]
  simp only [List.length_map, List.length_append, List.length_take, List.length_replicate, List.getElem?_map, List.getElem?_append, List.getElem?_take, List.getElem?_replicate]
  have hm : min k xs.length = k := by omega
  have hm1 : min (k + 1) xs.length = k + 1 := by omega
  rw [hm, hm1]
  by_cases h1 : k = i
  · subst h1
    rw [if_pos rfl, if_pos (by omega), if_pos (by omega), if_pos (by omega), List.getElem?_eq_getElem hk]
    rfl
  · rw [if_neg h1]
    by_cases h2 : i < k
    · rw [if_pos h2, if_pos h2, if_pos (by omega), if_pos (by omega)]
    · have e1 : ¬ i < k + 1 := by omega
      rw [if_neg h2, if_neg e1]
      by_cases h3 : i < xs.length
      · rw [if_pos (by omega), if_pos (by omega)]
      · rw [if_neg (by omega), if_neg (by omega)]

/-! ### The check sum -/
def crcBit (q : Int) : Int := if (q.tmod 2 == 1) = true then bits BinOp.xor IntKind.i64 (wrap64 (q.tdiv 2)) 3988292384 else wrap64 (q.tdiv 2)
def crcIt : Nat → Int → Int
  | 0, q => q
  | n + 1, q => crcBit (crcIt n q)
def crcByte (q z : Int) : Int := crcIt 8 (bits BinOp.xor IntKind.i64 q (wrap64 z))
def crcRun (zs : List Int) : Int := zs.foldl crcByte 4294967295
def crcOf (zs : List Int) : Int := bits BinOp.xor IntKind.i64 (crcRun zs) 4294967295

theorem take_snoc (zs : List Int) (k : Nat) (hk : k < zs.length) : zs.take (k + 1) = zs.take k ++ [zs[k]?.getD 0] := by
  rw [List.take_add_one, List.getElem?_eq_getElem hk]; rfl
theorem crcRun_snoc (zs : List Int) (k : Nat) (z : Int) (hk : k < zs.length) (hz : zs.getD k 0 = z) : crcRun (zs.take (k + 1)) = crcIt 8 (bits BinOp.xor IntKind.i64 (crcRun (zs.take k)) (wrap64 z)) := by
  subst hz; rw [take_snoc zs k hk]; simp [crcRun, crcByte]
theorem crcIt_odd (j : Nat) (q : Int) (h : ((crcIt j q).tmod 2 == 1) = true) : bits BinOp.xor IntKind.i64 (wrap64 ((crcIt j q).tdiv 2)) 3988292384 = crcIt (j + 1) q := by
  simp only [crcIt, crcBit, h, if_true]
theorem crcIt_even (j : Nat) (q : Int) (h : ((crcIt j q).tmod 2 == 1) = false) : wrap64 ((crcIt j q).tdiv 2) = crcIt (j + 1) q := by
  simp only [crcIt, crcBit, h]; rfl
theorem int_eq {k : IntKind} {a b : Int} (h : a = b) : Value.int k a = Value.int k b := by rw [h]
theorem ret_int {k : IntKind} {a b : Int} (h : a = b) : Ending.returned (.int k a) = .returned (.int k b) := by rw [h]
end Go.Proofs.Ytjlocbimkfocnaa
