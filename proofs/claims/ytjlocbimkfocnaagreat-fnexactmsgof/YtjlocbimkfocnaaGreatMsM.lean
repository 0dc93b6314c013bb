/-
  A message in memory: its numbers, and its six lists; what reads so, what the call itself owns. No statement is proved here.
-/
import Derived.Test.YtjlocbimkfocnaaGreatMsZ
import Derived.Test.YtjlocbimkfocnaaGreatGrM
import Derived.Test.YtjlocbimkfocnaaGreatStA
namespace Go.Proofs.YtjlocbimkfocnaaGreat
open Go.RowKit

/-- Where the six lists of a message lie. -/
structure Mp where
  ta : Option Addr
  tn : Nat
  tc : Nat
  va : Option Addr
  vn : Nat
  vc : Nat
  la : Option Addr
  ln : Nat
  lc : Nat
  xa : Option Addr
  xn : Nat
  xc : Nat
  ya : Option Addr
  yn : Nat
  yc : Nat
  ka : Option Addr
  kn : Nat
  kc : Nat
structure SzM (p : Mp) (N : Nat) : Prop where
  t : p.tn ≤ N
  v : p.vn ≤ N
  l : p.ln ≤ N
  x : p.xn ≤ N
  y : p.yn ≤ N
  k : p.kn ≤ N
structure RwM (w : World) (m : Mg) (p : Mp) : Prop where
  t : RwN w (.slice p.ta p.tn p.tc) m.tl
  v : RwN w (.slice p.va p.vn p.vc) m.ve
  l : RwN w (.slice p.la p.ln p.lc) m.le
  x : Rw encI 6 w (.slice p.xa p.xn p.xc) m.its
  y : Rw encF 2 w (.slice p.ya p.yn p.yc) m.fls
  k : Rw encF 2 w (.slice p.ka p.kn p.kc) m.ma
theorem RwM.later {w W : World} {m : Mg} {p : Mp} (h : RwM w m p) (b : Below w.heap.size w W) : RwM W m p :=
  ⟨h.t.later b, h.v.later b, h.l.later b, h.x.later b, h.y.later b, h.k.later b⟩
theorem RwM.alloc {w : World} {m : Mg} {p : Mp} (h : RwM w m p) (o : Obj) : RwM (w.alloc o) m p := h.later ((Below.refl _ _).alloc (Nat.le_refl _) o)
theorem RwM.in_later {w : World} {m : Mg} {p : Mp} (h : RwM w m p) (n : Nat) (os : Array Obj) : RwM (lw w n os) m p := h.later (later_below w n os)
abbrev OwKm (base : Nat) (w : World) (v : Value) (fs : List Flr) : Prop := Ow encF 2 80 base w v fs
/-- A message of the call's own: no two of its lists in one block. -/
structure OwMg (B : Nat) (w : World) (m : Mg) (p : Mp) : Prop where
  t : OwN B w (.slice p.ta p.tn p.tc) m.tl
  v : OwN B w (.slice p.va p.vn p.vc) m.ve
  l : OwN B w (.slice p.la p.ln p.lc) m.le
  x : OwI B w (.slice p.xa p.xn p.xc) m.its
  y : OwF B w (.slice p.ya p.yn p.yc) m.fls
  k : OwKm B w (.slice p.ka p.kn p.kc) m.ma
  tv : ∀ g, (Value.slice p.ta p.tn p.tc).ownBlock = some g → (Value.slice p.va p.vn p.vc).ownBlock ≠ some g
  tl : ∀ g, (Value.slice p.ta p.tn p.tc).ownBlock = some g → (Value.slice p.la p.ln p.lc).ownBlock ≠ some g
  vl : ∀ g, (Value.slice p.va p.vn p.vc).ownBlock = some g → (Value.slice p.la p.ln p.lc).ownBlock ≠ some g
theorem OwMg.later {B : Nat} {w W : World} {m : Mg} {p : Mp} (h : OwMg B w m p) (b : Below w.heap.size w W) : OwMg B W m p :=
  ⟨h.t.later b, h.v.later b, h.l.later b, h.x.later b, h.y.later b, h.k.later b, h.tv, h.tl, h.vl⟩
theorem OwMg.base {B B' : Nat} {w : World} {m : Mg} {p : Mp} (h : OwMg B w m p) (hb : B' ≤ B) : OwMg B' w m p :=
  ⟨h.t.base hb, h.v.base hb, h.l.base hb, h.x.base hb, h.y.base hb, h.k.base hb, h.tv, h.tl, h.vl⟩
theorem OwMg.rw {B : Nat} {w : World} {m : Mg} {p : Mp} (h : OwMg B w m p) : RwM w m p :=
  ⟨h.t.rw encN_len, h.v.rw encN_len, h.l.rw encN_len, h.x.rw encI_len, h.y.rw encF_len, h.k.rw encF_len⟩
theorem OwMg.set {B : Nat} {w : World} {m : Mg} {p : Mp} (h : OwMg B w m p) (q : Addr) (hq : q.block < B) (u : Value) : OwMg B (w.setCell q u) m p :=
  ⟨h.t.set q hq u, h.v.set q hq u, h.l.set q hq u, h.x.set q hq u, h.y.set q hq u, h.k.set q hq u, h.tv, h.tl, h.vl⟩
theorem OwMg.trn {S : Nat → Prop} {B : Nat} {w W : World} {m : Mg} {p : Mp} (h : OwMg B w m p) (k : Trn S w W) (hs : ∀ i, B ≤ i → ¬ S i) : OwMg B W m p :=
  have q : ∀ {α : Type} {enc : α → List Value} {n : Nat} {E : TypeId} {v : Value} {xs : List α}, Ow enc n E B w v xs → Ow enc n E B W v xs := fun o => k.own o (fun i e => hs i (World.ownsRow.lt o i e).1)
  ⟨q h.t, q h.v, q h.l, q h.x, q h.y, q h.k, h.tv, h.tl, h.vl⟩
theorem RwM.len {w : World} {m : Mg} {p : Mp} (h : RwM w m p) : p.tn = m.tl.length ∧ p.vn = m.ve.length ∧ p.ln = m.le.length ∧ p.xn = m.its.length ∧ p.yn = m.fls.length ∧ p.kn = m.ma.length :=
  ⟨h.t.len.1, h.v.len.1, h.l.len.1, h.x.len.1, h.y.len.1, h.k.len.1⟩
/-- A block of a message's cells. -/
theorem msg_cells {w : World} {g : Nat} {T : TypeId} {c0 c1 c2 c3 c4 c5 c6 c7 c8 c9 ca cb : Value} (h : w.heap[g]? = some (.cells #[c0, c1, c2, c3, c4, c5, c6, c7, c8, c9, ca, cb] T (0, 0))) :
    w.cell? ⟨g, 0, none⟩ = some c0 ∧ w.cell? ⟨g, 1, none⟩ = some c1 ∧ w.cell? ⟨g, 2, none⟩ = some c2 ∧ w.cell? ⟨g, 3, none⟩ = some c3 ∧ w.cell? ⟨g, 4, none⟩ = some c4 ∧ w.cell? ⟨g, 5, none⟩ = some c5 ∧ w.cell? ⟨g, 6, none⟩ = some c6 ∧ w.cell? ⟨g, 7, none⟩ = some c7 ∧ w.cell? ⟨g, 8, none⟩ = some c8 ∧ w.cell? ⟨g, 9, none⟩ = some c9 ∧ w.cell? ⟨g, 10, none⟩ = some ca ∧ w.cell? ⟨g, 11, none⟩ = some cb ∧ ∀ o, w.frozen? ⟨g, o, none⟩ = false := by
  simp [World.cell?, World.frozen?, h]
/-- A list of the message's own is turned: the others stay. -/
theorem Ow.aptT {α : Type} {enc : α → List Value} {k : Nat} {E F : TypeId} {base : Nat} {w w' : World} {v : Value} {xs : List α} {β : Type} {enc' : β → List Value} {k' : Nat} {base' : Nat} {u : Value} {ys : List β} (h : Ow enc k E base w v xs) (o : Ow enc' k' F base' w u ys) (hne : E ≠ F) (hg : w.grownBy w' u.ownBlock) : Ow enc k E base w' v xs :=
  h.apartT o.blkT hne hg
theorem Ow.aptB {α : Type} {enc : α → List Value} {k : Nat} {E : TypeId} {base : Nat} {w w' : World} {v : Value} {xs : List α} {u : Value} (h : Ow enc k E base w v xs) (hne : ∀ g, v.ownBlock = some g → u.ownBlock ≠ some g) (hg : w.grownBy w' u.ownBlock) : Ow enc k E base w' v xs :=
  (Trn.of_grown hg).own h (fun i e q => hne i e q)
end Go.Proofs.YtjlocbimkfocnaaGreat
