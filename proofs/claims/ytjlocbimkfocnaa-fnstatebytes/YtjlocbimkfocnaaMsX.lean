/-
  The tree of sums as functions on lists: leaves, slices, bytes, sums. No program here, no statement is proved here.
  A message, said plainly: which one is right, and its bytes. No program here, no statement is proved here.
  Reading a number, as a function on lists: the number that begins at that place and the place behind it, or none. No program; no statement is proved here.
  Reading a text, as a function on lists ('getT'). No statement is proved here.
  What is written is read as it was, on lists: a number, a text. No program; no statement is proved here.
  Bytes are of one state, and of one message, alone; what is put is got, in the midst of other bytes. No program here, no statement is proved here.
  The program's reader of bytes as functions on lists: what it reads is what was put, and whatever it reads whole was put so. No program here, no statement is proved here.
  A state and a message that are read: as functions on lists; what is read whole and right is the state, the message, of these bytes, else there is none. No program here, no statement is proved here.
  Reading numbers, items and lists out of bytes with a cursor, as functions on lists; what was put is read so. No program here, no statement is proved here.
-/
import Derived.Test.YtjlocbimkfocnaaVwP
import Derived.Test.YtjlocbimkfocnaaCrcP
import Derived.Test.YtjlocbimkfocnaaBase
import Derived.Laws.BytesArg
import Derived.WalkLawsBesides
namespace Go.Proofs.Ytjlocbimkfocnaa
open Go.RowKit

/-- The leaf of a node. -/
def lf (id : Int) : Int := if inB id 0 4 = true then crcOf (putN id) % 4 else -1
theorem lf_in {id : Int} (h : inB id 0 4 = true) : lf id = crcOf (putN id) % 4 ∧ 0 ≤ lf id ∧ lf id ≤ 3 := by
  have e : lf id = crcOf (putN id) % 4 := by rw [lf, if_pos h]
  rw [e]
  refine ⟨rfl, by omega, by omega⟩
theorem lf_out {id : Int} (h : inB id 0 4 = false) : lf id = -1 := by rw [lf, h]; rfl
theorem lf_nn (id : Int) : decide (0 ≤ lf id) = inB id 0 4 := by
  cases h : inB id 0 4
  · rw [lf_out h]; rfl
  · have := lf_in h; simp; omega
theorem lf_range (id : Int) : -1 ≤ lf id ∧ lf id ≤ 3 := by
  cases h : inB id 0 4
  · rw [lf_out h]; omega
  · have := lf_in h; omega

/-- Whether a number stands in a list. -/
def hasN (ls : List Int) (x : Int) : Bool := ls.any fun y => y == x
theorem hasN_iff {ls : List Int} {x : Int} : hasN ls x = true ↔ x ∈ ls := by simp [hasN]
theorem hasN_one {k x : Int} : hasN [k] x = (k == x) := by simp [hasN]
/-- The part of a state that lies in some leaves. -/
def slI (ls : List Int) (xs : List Itm) : List Itm := xs.filter fun x => hasN ls (lf x.1)
def slF (ls : List Int) (fs : List Flr) : List Flr := fs.filter fun f => hasN ls (lf f.1)
theorem find_sl {α : Type} (p : Int → Bool) (id : Int) : ∀ xs : List (Int × α), (xs.filter fun x => p x.1).find? (fun x => x.1 == id) = if p id = true then xs.find? (fun x => x.1 == id) else none
  | [] => by simp
  | x :: r => by
    have ih := find_sl p id r
    by_cases hx : x.1 = id
    · subst hx
      by_cases hp : p x.1 = true
      · simp [hp]
      · rw [List.filter_cons, if_neg hp, ih, if_neg hp, if_neg hp]
    · have hn : (x.1 == id) = false := by simpa using hx
      by_cases hp : p x.1 = true
      · rw [List.filter_cons, if_pos hp, List.find?_cons, List.find?_cons, hn]; exact ih
      · rw [List.filter_cons, if_neg hp, List.find?_cons, hn]; exact ih
theorem ent_sl (ls : List Int) (xs : List Itm) (id : Int) : ent (slI ls xs) id = if hasN ls (lf id) = true then ent xs id else none := by
  unfold ent slI
  rw [find_sl (fun i => hasN ls (lf i)) id xs]
  split <;> rfl
theorem flo_sl (ls : List Int) (fs : List Flr) (id : Int) : flo (slF ls fs) id = if hasN ls (lf id) = true then flo fs id else 0 := by
  unfold flo slF
  rw [find_sl (fun i => hasN ls (lf i)) id fs]
  split <;> rfl
theorem OkS.slice {xs : List Itm} {fs : List Flr} (h : OkS xs fs) (ls : List Int) : OkS (slI ls xs) (slF ls fs) := by
  refine ⟨h.px.sublist List.filter_sublist, h.pf.sublist List.filter_sublist, fun x hx => ?_, fun f hf => h.jf f (List.mem_filter.1 hf).1⟩
  obtain ⟨m, hp⟩ := List.mem_filter.1 hx
  have := h.ix x m
  refine ⟨this.1, this.2.1, this.2.2.1, ?_⟩
  rw [flo_sl, if_pos hp]
  exact this.2.2.2
theorem slI_len (ls : List Int) (xs : List Itm) : (slI ls xs).length ≤ xs.length := List.length_filter_le _ _
theorem slF_len (ls : List Int) (fs : List Flr) : (slF ls fs).length ≤ fs.length := List.length_filter_le _ _
theorem slI_pos {ls : List Int} {xs : List Itm} {k : Nat} {x : Itm} (hx : xs[k]? = some x) (h : hasN ls (lf x.1) = true) : slI ls (xs.take (k + 1)) = slI ls (xs.take k) ++ [x] := by
  rw [slI, take_filter hx, if_pos h]; rfl
theorem slI_neg {ls : List Int} {xs : List Itm} {k : Nat} {x : Itm} (hx : xs[k]? = some x) (h : hasN ls (lf x.1) = false) : slI ls (xs.take (k + 1)) = slI ls (xs.take k) := by
  rw [slI, take_filter hx, if_neg (by simp [h]), List.append_nil]; rfl
theorem slF_pos {ls : List Int} {xs : List Flr} {k : Nat} {x : Flr} (hx : xs[k]? = some x) (h : hasN ls (lf x.1) = true) : slF ls (xs.take (k + 1)) = slF ls (xs.take k) ++ [x] := by
  rw [slF, take_filter hx, if_pos h]; rfl
theorem slF_neg {ls : List Int} {xs : List Flr} {k : Nat} {x : Flr} (hx : xs[k]? = some x) (h : hasN ls (lf x.1) = false) : slF ls (xs.take (k + 1)) = slF ls (xs.take k) := by
  rw [slF, take_filter hx, if_neg (by simp [h]), List.append_nil]; rfl
theorem slI_k {ls : List Int} {xs : List Itm} {k : Nat} : (slI ls (xs.take k)).length ≤ k := Nat.le_trans (slI_len _ _) (by simp; omega)
theorem slF_k {ls : List Int} {xs : List Flr} {k : Nat} : (slF ls (xs.take k)).length ≤ k := Nat.le_trans (slF_len _ _) (by simp; omega)
/-- What is sliced of a state: of one that is not right, nothing. -/
def scI (ok : Bool) (ls : List Int) (xs : List Itm) : List Itm := if ok = true then slI ls xs else []
def scF (ok : Bool) (ls : List Int) (fs : List Flr) : List Flr := if ok = true then slF ls fs else []
theorem scI_len (ok : Bool) (ls : List Int) (xs : List Itm) : (scI ok ls xs).length ≤ xs.length := by
  cases ok
  · simp [scI]
  · exact slI_len _ _
theorem scF_len (ok : Bool) (ls : List Int) (fs : List Flr) : (scF ok ls fs).length ≤ fs.length := by
  cases ok
  · simp [scF]
  · exact slF_len _ _

/-- Numbers as bytes, one behind the other; an item's bytes, a floor's, a state's. -/
def nums (ns : List Int) : List Int := ns.flatMap putN
theorem nums_nil : nums [] = [] := rfl
theorem nums_cons (n : Int) (ns : List Int) : nums (n :: ns) = putN n ++ nums ns := by simp [nums]
theorem nums_one (n : Int) : nums [n] = putN n := by simp [nums]
theorem nums_take {ns : List Int} {k : Nat} {n : Int} (h : ns[k]? = some n) : nums (ns.take (k + 1)) = nums (ns.take k) ++ putN n := by
  rw [nums, List.take_add_one, h, List.flatMap_append]; simp [nums]
theorem nums_len (ns : List Int) : (nums ns).length ≤ ns.length * 5 := by
  induction ns with
  | nil => simp [nums]
  | cons n r ih =>
    rw [nums_cons, List.length_append, List.length_cons]
    have := putN_length n
    omega
theorem nums_bytes (ns : List Int) : ∀ z ∈ nums ns, 0 ≤ z ∧ z ≤ 255 := by
  intro z hz
  obtain ⟨n, _, h⟩ := List.mem_flatMap.1 hz
  exact putN_bytes n z h
def sbI (x : Itm) : List Int := nums [x.1, x.2.1, x.2.2.1, x.2.2.2.1, x.2.2.2.2.1] ++ putT (bl x.2.2.2.2.2)
def sbF (f : Flr) : List Int := nums [f.1, f.2]
def sbIs (xs : List Itm) : List Int := xs.flatMap sbI
def sbFs (fs : List Flr) : List Int := fs.flatMap sbF
def sb (xs : List Itm) (fs : List Flr) : List Int := (putN xs.length ++ sbIs xs) ++ (putN fs.length ++ sbFs fs)
theorem sbIs_take {xs : List Itm} {k : Nat} {x : Itm} (h : xs[k]? = some x) : sbIs (xs.take (k + 1)) = sbIs (xs.take k) ++ sbI x := by
  rw [sbIs, List.take_add_one, h, List.flatMap_append]; simp [sbIs]
theorem sbFs_take {xs : List Flr} {k : Nat} {x : Flr} (h : xs[k]? = some x) : sbFs (xs.take (k + 1)) = sbFs (xs.take k) ++ sbF x := by
  rw [sbFs, List.take_add_one, h, List.flatMap_append]; simp [sbFs]
theorem putT_len (l : List Int) : (putT l).length ≤ 5 + l.length := by
  rw [putT, List.length_append]
  have := putN_length l.length
  omega
theorem sbI_bytes (x : Itm) : ∀ z ∈ sbI x, 0 ≤ z ∧ z ≤ 255 := by
  intro z hz
  rcases List.mem_append.1 hz with h | h
  · exact nums_bytes _ z h
  · exact putT_bytes _ (bl_bytes _) z h
theorem sb_bytes (xs : List Itm) (fs : List Flr) : ∀ z ∈ sb xs fs, 0 ≤ z ∧ z ≤ 255 := by
  intro z hz
  rcases List.mem_append.1 hz with h | h
  · rcases List.mem_append.1 h with h | h
    · exact putN_bytes _ z h
    · obtain ⟨x, _, h⟩ := List.mem_flatMap.1 h
      exact sbI_bytes x z h
  · rcases List.mem_append.1 h with h | h
    · exact putN_bytes _ z h
    · obtain ⟨x, _, h⟩ := List.mem_flatMap.1 h
      exact nums_bytes _ z h
theorem sbI_len {x : Itm} (h : x.2.2.2.2.2.size ≤ 8) : (sbI x).length ≤ 38 := by
  rw [sbI, List.length_append]
  have h1 := nums_len [x.1, x.2.1, x.2.2.1, x.2.2.2.1, x.2.2.2.2.1]
  have h2 := putT_len (bl x.2.2.2.2.2)
  rw [bl_length] at h2
  simp at h1
  omega
theorem sbIs_len : ∀ {xs : List Itm}, (∀ x ∈ xs, x.2.2.2.2.2.size ≤ 8) → (sbIs xs).length ≤ xs.length * 38
  | [], _ => by simp [sbIs]
  | x :: r, h => by
    have h1 := sbI_len (h x (by simp))
    have h2 := sbIs_len (xs := r) (fun y hy => h y (by simp [hy]))
    have e : sbIs (x :: r) = sbI x ++ sbIs r := by simp [sbIs]
    rw [e, List.length_append, List.length_cons]
    omega
theorem sbFs_len : ∀ fs : List Flr, (sbFs fs).length ≤ fs.length * 10
  | [] => by simp [sbFs]
  | x :: r => by
    have h2 := sbFs_len r
    have h1 := nums_len [x.1, x.2]
    have e : sbFs (x :: r) = sbF x ++ sbFs r := by simp [sbFs]
    rw [e, List.length_append, List.length_cons, sbF]
    simp at h1
    omega
theorem OkS.small {xs : List Itm} {fs : List Flr} (h : OkS xs fs) : ∀ x ∈ xs, x.2.2.2.2.2.size ≤ 8 := fun x hx => okE_size (h.ix x hx).2.2.1
theorem sb_len {xs : List Itm} {fs : List Flr} (h : OkS xs fs) : (sb xs fs).length ≤ 250 := by
  have h1 := h.len5
  have h2 := sbIs_len h.small
  have h3 := sbFs_len fs
  have h4 := putN_length xs.length
  have h5 := putN_length fs.length
  rw [sb, List.length_append, List.length_append, List.length_append]
  omega
def sbS (xs : List Itm) (fs : List Flr) : List Int := if okS xs fs = true then sb xs fs else []
theorem sbS_len (xs : List Itm) (fs : List Flr) : (sbS xs fs).length ≤ 250 := by
  unfold sbS; split
  · rename_i h; exact sb_len ((okS_iff _ _).1 h)
  · simp
theorem sbS_bytes (xs : List Itm) (fs : List Flr) : ∀ z ∈ sbS xs fs, 0 ≤ z ∧ z ≤ 255 := by
  unfold sbS; split
  · exact sb_bytes _ _
  · intro z hz; simp at hz

/-- The sum of a leaf, of a tree's leaves, a tree. -/
def lsm (xs : List Itm) (fs : List Flr) (k : Int) : Int := if (okS xs fs && inB k 0 3) = true then crcOf (sb (slI [k] xs) (slF [k] fs)) % 1024 else 0
def rt (ls : List Int) : Int := crcOf (nums ls) % 1024
def trL (xs : List Itm) (fs : List Flr) : List Int := if okS xs fs = true then [lsm xs fs 0, lsm xs fs 1, lsm xs fs 2, lsm xs fs 3] else []
def trR (xs : List Itm) (fs : List Flr) : Int := if okS xs fs = true then rt [lsm xs fs 0, lsm xs fs 1, lsm xs fs 2, lsm xs fs 3] else 0
theorem lsm_range (xs : List Itm) (fs : List Flr) (k : Int) : 0 ≤ lsm xs fs k ∧ lsm xs fs k < 1024 := by
  unfold lsm
  split
  · omega
  · omega
theorem rt_range (ls : List Int) : 0 ≤ rt ls ∧ rt ls < 1024 := by
  rw [rt]
  omega
theorem trR_range (xs : List Itm) (fs : List Flr) : 0 ≤ trR xs fs ∧ trR xs fs < 1024 := by
  unfold trR; split
  · exact rt_range _
  · omega
theorem trL_at {xs : List Itm} {fs : List Flr} (h : okS xs fs = true) {k : Nat} (hk : k < 4) : (trL xs fs)[k]? = some (lsm xs fs k) := by
  rw [trL, if_pos h]
  rcases (by omega : k = 0 ∨ k = 1 ∨ k = 2 ∨ k = 3) with rfl | rfl | rfl | rfl <;> rfl
theorem trL_len (xs : List Itm) (fs : List Flr) : (trL xs fs).length = if okS xs fs = true then 4 else 0 := by
  unfold trL; split <;> rfl

/-- A tree that is touched where a node turned. -/
def tcOk (ts : List Int) (xs : List Itm) (fs : List Flr) (id : Int) : Bool := okS xs fs && inB id 0 4 && (ts.length == 4)
def tcL (ts : List Int) (xs : List Itm) (fs : List Flr) (id : Int) : List Int := if tcOk ts xs fs id = true then ts.set (lf id).toNat (lsm xs fs (lf id)) else ts
def tcR (ts : List Int) (r : Int) (xs : List Itm) (fs : List Flr) (id : Int) : Int := if tcOk ts xs fs id = true then rt (ts.set (lf id).toNat (lsm xs fs (lf id))) else r
/-- Where two trees are not the same. -/
def dfP (ts us : List Int) (k : Int) : Bool := !(ts.length == 4) || !(us.length == 4) || (ts.getD k.toNat 0 != us.getD k.toNat 0)
def dfL (ts : List Int) (r : Int) (us : List Int) (q : Int) : List Int := if r = q then [] else ([0, 1, 2, 3] : List Int).filter (dfP ts us)

/-! ### What the laws say -/
theorem slI_all {xs : List Itm} {fs : List Flr} (h : OkS xs fs) : slI [0, 1, 2, 3] xs = xs ∧ slF [0, 1, 2, 3] fs = fs := by
  have key : ∀ id : Int, 0 ≤ id → id ≤ 4 → hasN [0, 1, 2, 3] (lf id) = true := fun id h0 h1 => by
    have := lf_in (inB_iff.2 ⟨h0, h1⟩)
    rw [hasN_iff]
    simp
    omega
  exact ⟨List.filter_eq_self.2 fun x hx => key x.1 (h.ix x hx).1 (h.ix x hx).2.1, List.filter_eq_self.2 fun f hf => key f.1 (h.jf f hf).1 (h.jf f hf).2.1⟩
theorem hasN_app (A B : List Int) (x : Int) : hasN (A ++ B) x = (hasN A x || hasN B x) := by simp [hasN]
theorem OkS.slice_join {xs : List Itm} {fs : List Flr} (h : OkS xs fs) (A B : List Int) : joinI (slI A xs) (slF A fs) (slI B xs) (slF B fs) = slI (A ++ B) xs ∧ joinF (slF A fs) (slF B fs) = slF (A ++ B) fs := by
  have hA := h.slice A
  have hB := h.slice B
  have nn := h.flo_nn
  have f2 : ∀ id, fl2 (slF A fs) (slF B fs) id = flo (slF (A ++ B) fs) id := fun id => by
    have := nn id
    rw [(hA.fl2_nn hB id).2.2, flo_sl, flo_sl, flo_sl, hasN_app]
    cases hasN A (lf id) <;> cases hasN B (lf id) <;> simp <;> omega
  refine (hA.join hB).ext (h.slice _) (fun id => ?_) (fun id => (join_flo hA hB id).trans (f2 id))
  rw [join_ent' hA hB, f2, ent_sl, ent_sl, ent_sl, flo_sl, hasN_app]
  have hk := h.keep_ent id (f := flo fs id) (Int.le_refl _)
  cases hasN A (lf id) <;> cases hasN B (lf id) <;> simp [jE_self, jE_none, hk]
  · rfl
  · rw [jE_comm, jE_none, hk]
/-- Joined with one node's item, the leaves of others stay as they were. -/
theorem OkS.other_leaf {xs : List Itm} {fs : List Flr} (h : OkS xs fs) {id : Int} {e : Key} (h1 : OkS [(id, e)] []) {k : Int} (hk : lf id ≠ k) : slI [k] (joinI xs fs [(id, e)] []) = slI [k] xs ∧ slF [k] (joinF fs []) = slF [k] fs := by
  have hj := h.join h1
  refine (hj.slice [k]).ext (h.slice [k]) (fun i => ?_) (fun i => ?_)
  · rw [ent_sl, ent_sl, hasN_one]
    by_cases hi : k = lf i
    · rw [if_pos (by simpa using hi), if_pos (by simpa using hi), join_ent' h h1]
      have hne : id ≠ i := fun q => hk (by rw [q]; exact hi.symm)
      have e0 : ent [(id, e)] i = none := by simp [ent, hne]
      have f0 := h.flo_nn i
      have e1 : fl2 fs [] i = flo fs i := by rw [(h.fl2_nn h1 i).2.2, flo_nil]; omega
      rw [e0, jE_none, e1, h.keep_ent i (Int.le_refl _)]
    · rw [if_neg (by simpa using hi), if_neg (by simpa using hi)]
  · rw [flo_sl, flo_sl, join_flo h h1]
    have f0 := h.flo_nn i
    have e1 : fl2 fs [] i = flo fs i := by rw [(h.fl2_nn h1 i).2.2, flo_nil]; omega
    rw [e1]
theorem OkS.other_sum {xs : List Itm} {fs : List Flr} (h : OkS xs fs) {id : Int} {e : Key} (h1 : OkS [(id, e)] []) {k : Int} (hk : lf id ≠ k) : lsm (joinI xs fs [(id, e)] []) (joinF fs []) k = lsm xs fs k := by
  obtain ⟨a, b⟩ := h.other_leaf h1 hk
  rw [lsm, lsm, a, b, (okS_iff _ _).2 h, (okS_iff _ _).2 (h.join h1)]
theorem OkS.touched {xs : List Itm} {fs : List Flr} (h : OkS xs fs) {id : Int} {e : Key} (h1 : OkS [(id, e)] []) :
    tcL (trL xs fs) (joinI xs fs [(id, e)] []) (joinF fs []) id = trL (joinI xs fs [(id, e)] []) (joinF fs []) ∧ tcR (trL xs fs) (trR xs fs) (joinI xs fs [(id, e)] []) (joinF fs []) id = trR (joinI xs fs [(id, e)] []) (joinF fs []) := by
  have hj := (okS_iff _ _).2 (h.join h1)
  have hin := h1.ix (id, e) (by simp)
  have hb : inB id 0 4 = true := inB_iff.2 ⟨hin.1, hin.2.1⟩
  have hl := lf_in hb
  have hs := (okS_iff _ _).2 h
  have ht : trL xs fs = [lsm xs fs 0, lsm xs fs 1, lsm xs fs 2, lsm xs fs 3] := by rw [trL, if_pos hs]
  have hok : tcOk (trL xs fs) (joinI xs fs [(id, e)] []) (joinF fs []) id = true := by
    rw [tcOk, hj, hb, ht]; rfl
  have key : (trL xs fs).set (lf id).toNat (lsm (joinI xs fs [(id, e)] []) (joinF fs []) (lf id)) = trL (joinI xs fs [(id, e)] []) (joinF fs []) := by
    rw [ht, trL, if_pos hj]
    have o := fun k hk => h.other_sum h1 (k := k) hk
    rcases (by omega : lf id = 0 ∨ lf id = 1 ∨ lf id = 2 ∨ lf id = 3) with q | q | q | q
    · rw [o 1 (by omega), o 2 (by omega), o 3 (by omega), q]; rfl
    · rw [o 0 (by omega), o 2 (by omega), o 3 (by omega), q]; rfl
    · rw [o 0 (by omega), o 1 (by omega), o 3 (by omega), q]; rfl
    · rw [o 0 (by omega), o 1 (by omega), o 2 (by omega), q]; rfl
  refine ⟨by rw [tcL, if_pos hok, key], ?_⟩
  rw [tcR, if_pos hok, key, trL, if_pos hj, trR, if_pos hj]
theorem OkS.differ {xs : List Itm} {fs : List Flr} (h : OkS xs fs) {id : Int} {e : Key} (h1 : OkS [(id, e)] []) :
    let d := dfL (trL xs fs) (trR xs fs) (trL (joinI xs fs [(id, e)] []) (joinF fs [])) (trR (joinI xs fs [(id, e)] []) (joinF fs []))
    d = [] ∨ d = [lf id] := by
  intro d
  have hj := (okS_iff _ _).2 (h.join h1)
  have hin := h1.ix (id, e) (by simp)
  have hl : lf id = _ ∧ 0 ≤ lf id ∧ lf id ≤ 3 := lf_in (inB_iff.2 ⟨hin.1, hin.2.1⟩)
  have hs := (okS_iff _ _).2 h
  have ht : trL xs fs = [lsm xs fs 0, lsm xs fs 1, lsm xs fs 2, lsm xs fs 3] := by rw [trL, if_pos hs]
  have hu : trL (joinI xs fs [(id, e)] []) (joinF fs []) = [lsm (joinI xs fs [(id, e)] []) (joinF fs []) 0, lsm (joinI xs fs [(id, e)] []) (joinF fs []) 1, lsm (joinI xs fs [(id, e)] []) (joinF fs []) 2, lsm (joinI xs fs [(id, e)] []) (joinF fs []) 3] := by rw [trL, if_pos hj]
  have hd : d = dfL (trL xs fs) (trR xs fs) (trL (joinI xs fs [(id, e)] []) (joinF fs [])) (trR (joinI xs fs [(id, e)] []) (joinF fs [])) := rfl
  clear_value d
  subst hd
  unfold dfL
  split
  · exact .inl rfl
  · have o := fun k hk => h.other_sum h1 (k := k) hk
    have z : ∀ k : Nat, k < 4 → lf id ≠ k → dfP (trL xs fs) (trL (joinI xs fs [(id, e)] []) (joinF fs [])) k = false := fun k h4 hk => by
      have ho := o k hk
      rw [dfP, ht, hu]
      rcases (by omega : k = 0 ∨ k = 1 ∨ k = 2 ∨ k = 3) with rfl | rfl | rfl | rfl <;> simp_all
    have z0 := z 0 (by omega); have z1 := z 1 (by omega); have z2 := z 2 (by omega); have z3 := z 3 (by omega)
    simp only [Int.cast_ofNat_Int] at z0 z1 z2 z3
    simp only [List.filter_cons, List.filter_nil]
    rcases (by omega : lf id = 0 ∨ lf id = 1 ∨ lf id = 2 ∨ lf id = 3) with q | q | q | q
    · rw [z1 (by omega), z2 (by omega), z3 (by omega), q]; simp only [Bool.false_eq_true, if_false]; split <;> simp
    · rw [z0 (by omega), z2 (by omega), z3 (by omega), q]; simp only [Bool.false_eq_true, if_false]; split <;> simp
    · rw [z0 (by omega), z1 (by omega), z3 (by omega), q]; simp only [Bool.false_eq_true, if_false]; split <;> simp
    · rw [z0 (by omega), z1 (by omega), z2 (by omega), q]; simp only [Bool.false_eq_true, if_false]; split <;> simp
end Go.Proofs.Ytjlocbimkfocnaa

namespace Go.Proofs.Ytjlocbimkfocnaa
open Go.RowKit

structure Mg where
  k : Int
  f : Int
  t : Int
  n : Int
  h : Int
  tl : List Int
  tr : Int
  ve : List Int
  le : List Int
  its : List Itm
  fls : List Flr
  ma : List Flr
/-- At most so many numbers, from 0 on to that one. -/
def nmOk (ns : List Int) (most : Nat) (hi : Int) : Bool := decide (ns.length ≤ most) && ns.all fun x => inB x 0 hi
def trOk (tl : List Int) (tr : Int) : Bool := if tl.length = 0 then tr == 0 else (tl.length == 4 && nmOk tl 4 1023 && inB tr 0 1023)
def ascF : Int → List Int → Bool
  | _, [] => true
  | last, x :: r => decide (last < x) && ascF x r
def asc (ns : List Int) : Bool := match ns with
  | [] => true
  | x :: r => ascF x r
def okM (m : Mg) : Bool := (inB m.k 0 5 && inB m.f 0 4 && inB m.t 0 4 && (m.f != m.t) && inB m.n 0 100000 && inB m.h 0 100000) && (trOk m.tl m.tr && nmOk m.ve 5 100000 && nmOk m.le 4 3 && okS m.its m.fls && gF (-1) m.ma) && asc m.le
/-- A list of numbers, and how many. -/
def lsB (ns : List Int) : List Int := putN ns.length ++ nums ns
def bodyM (m : Mg) : List Int := [82, 75] ++ nums [m.k, m.f, m.t, m.n, m.h] ++ lsB m.tl ++ putN m.tr ++ lsB m.ve ++ lsB m.le ++ (putN (sb m.its m.fls).length ++ sb m.its m.fls) ++ (putN m.ma.length ++ sbFs m.ma)
/-- The four bytes of a sum, the high one first. -/
def sumB (x : Int) : List Int := [x / 16777216, x / 65536 % 256, x / 256 % 256, x % 256]
def msB (m : Mg) : List Int := if okM m = true then bodyM m ++ sumB (crcOf (bodyM m)) else []

theorem lsB_bytes (ns : List Int) : ∀ z ∈ lsB ns, 0 ≤ z ∧ z ≤ 255 := by
  intro z hz
  rcases List.mem_append.1 hz with h | h
  · exact putN_bytes _ z h
  · exact nums_bytes ns z h
theorem sbFs_bytes (fs : List Flr) : ∀ z ∈ sbFs fs, 0 ≤ z ∧ z ≤ 255 := by
  intro z hz
  obtain ⟨f, _, h⟩ := List.mem_flatMap.1 hz
  exact nums_bytes _ z h
theorem bodyM_bytes (m : Mg) : ∀ z ∈ bodyM m, 0 ≤ z ∧ z ≤ 255 := by
  intro z hz
  unfold bodyM at hz
  simp only [List.mem_append] at hz
  rcases hz with ((((((h | h) | h) | h) | h) | h) | h | h) | h | h
  · simp at h; omega
  · exact nums_bytes _ z h
  · exact lsB_bytes _ z h
  · exact putN_bytes _ z h
  · exact lsB_bytes _ z h
  · exact lsB_bytes _ z h
  · exact putN_bytes _ z h
  · exact sb_bytes _ _ z h
  · exact putN_bytes _ z h
  · exact sbFs_bytes _ z h
theorem sumB_bytes {x : Int} (h0 : 0 ≤ x) (h1 : x ≤ 4294967295) : ∀ z ∈ sumB x, 0 ≤ z ∧ z ≤ 255 := by
  intro z hz
  simp only [sumB, List.mem_cons, List.not_mem_nil, or_false] at hz
  rcases hz with rfl | rfl | rfl | rfl <;> omega
theorem sumB_inj {x y : Int} (h0 : 0 ≤ x) (h1 : x ≤ 4294967295) (g0 : 0 ≤ y) (g1 : y ≤ 4294967295) (h : sumB x = sumB y) : x = y := by
  simp only [sumB, List.cons.injEq] at h
  omega
theorem msB_len_of (m : Mg) (h : (bodyM m).length ≤ 500 ∨ okM m = false) : (msB m).length ≤ 504 := by
  unfold msB
  split
  · rename_i q
    rcases h with h | h
    · simp [sumB]; omega
    · rw [q] at h; cases h
  · simp
theorem msB_bytes (m : Mg) : ∀ z ∈ msB m, 0 ≤ z ∧ z ≤ 255 := by
  intro z hz
  unfold msB at hz
  split at hz
  · rcases List.mem_append.1 hz with h | h
    · exact bodyM_bytes m z h
    · exact sumB_bytes (crcOf_nonneg _ (bodyM_bytes m)) (crcOf_range _ (bodyM_bytes m)) z h
  · simp at hz
theorem nmOk_iff {ns : List Int} {most : Nat} {hi : Int} : nmOk ns most hi = true ↔ ns.length ≤ most ∧ ∀ x ∈ ns, 0 ≤ x ∧ x ≤ hi := by
  simp [nmOk, inB_iff]
theorem lsB_len (ns : List Int) : (lsB ns).length ≤ 5 + ns.length * 5 := by
  have h1 := putN_length ns.length
  have h2 := nums_len ns
  simp only [lsB, List.length_append]
  omega
theorem trOk_len {tl : List Int} {tr : Int} (h : trOk tl tr = true) : tl.length ≤ 4 := by
  unfold trOk at h
  split at h
  · omega
  · simp only [Bool.and_eq_true, beq_iff_eq] at h
    omega
theorem gF_len {fs : List Flr} (h : gF (-1) fs = true) : fs.length ≤ 5 := by
  have := (gF_iff (-1) fs).1 h
  exact (OkS.len5 (xs := []) (fs := fs) ⟨.nil, this.1, fun _ h => by simp at h, fun x hx => by have := this.2 x hx; omega⟩).2
theorem bodyM_len {m : Mg} (h : okM m = true) : (bodyM m).length ≤ 500 := by
  simp only [okM, Bool.and_eq_true, okS_iff, nmOk_iff] at h
  obtain ⟨⟨_, ⟨⟨⟨h1, h2⟩, h3⟩, h4⟩, h5⟩, _⟩ := h
  have a1 := nums_len [m.k, m.f, m.t, m.n, m.h]
  have a2 := lsB_len m.tl
  have a3 := putN_length m.tr
  have a4 := lsB_len m.ve
  have a5 := lsB_len m.le
  have a6 := putN_length (sb m.its m.fls).length
  have a7 := sb_len h4
  have a8 := putN_length m.ma.length
  have a9 := sbFs_len m.ma
  have b1 := trOk_len h1
  have b2 := gF_len h5
  have b3 := h2.1
  have b4 := h3.1
  simp only [bodyM, List.length_append, List.length_cons, List.length_nil] at a1 ⊢
  omega
theorem msB_len (m : Mg) : (msB m).length ≤ 504 := by
  refine msB_len_of m ?_
  cases h : okM m
  · exact .inr rfl
  · exact .inl (bodyM_len h)
end Go.Proofs.Ytjlocbimkfocnaa

namespace Go.Proofs.Ytjlocbimkfocnaa
open Go.RowKit

def gnum : Nat → Int → Int → List Int → Int → Option (Int × Int)
  | 0, _, _, _, _ => none
  | _ + 1, _, _, [], _ => none
  | f + 1, u, n, d :: r, p => if d < 128 then (if 2147483647 < n + d * u ∨ (d = 0 ∧ 1 < u) then none else some (n + d * u, p + 1)) else gnum f (u * 128) (n + (d - 128) * u) r (p + 1)
def getN (xs : List Int) (p : Int) : Option (Int × Int) := if p < 0 then none else gnum 5 1 0 (xs.drop p.toNat) p
theorem gnum_nil (f : Nat) (u n p : Int) : gnum f u n [] p = none := by cases f <;> rfl
theorem gnum_end (f : Nat) (u n d p : Int) (r : List Int) (h : d < 128) (hc : ¬ (2147483647 < n + d * u ∨ (d = 0 ∧ 1 < u))) : gnum (f + 1) u n (d :: r) p = some (n + d * u, p + 1) := by
  simp only [gnum, h, if_true, hc, if_false]
theorem gnum_bad (f : Nat) (u n d p : Int) (r : List Int) (h : d < 128) (hc : 2147483647 < n + d * u ∨ (d = 0 ∧ 1 < u)) : gnum (f + 1) u n (d :: r) p = none := by
  simp only [gnum, h, if_true, hc]
theorem gnum_more (f : Nat) (u n d p : Int) (r : List Int) (h : ¬ d < 128) : gnum (f + 1) u n (d :: r) p = gnum f (u * 128) (n + (d - 128) * u) r (p + 1) := by
  simp only [gnum, h, if_false]
theorem drop_cons (xs : List Int) (q : Nat) (h : q < xs.length) : xs.drop q = xs.getD q 0 :: xs.drop (q + 1) := by
  rw [List.drop_eq_getElem_cons h]; simp [h]
end Go.Proofs.Ytjlocbimkfocnaa

namespace Go.Proofs.Ytjlocbimkfocnaa
open Go.RowKit

def getT (xs : List Int) (p : Int) : Option (List Int × Int) :=
  match getN xs p with
  | none => none
  | some (n, q) => if (xs.length : Int) - q < n then none else some ((xs.drop q.toNat).take n.toNat, q + n)
def tres : Option (List Int × Int) → Value
  | none => .tuple #[.string ⟨#[]⟩, .int .i64 0, .bool false]
  | some (l, q) => .tuple #[.string (strOfNums l), .int .i64 q, .bool true]
def Panics (e : Ending) : Prop := ∃ t pv, e = .panicked [{ v := .iface t pv, recovered := false }]

theorem gnum_bd (f : Nat) (u m r n q : Int) (l : List Int) (hu : 0 < u) (hm : 0 ≤ m) (hl : ∀ z ∈ l, 0 ≤ z ∧ z ≤ 255) (h : gnum f u m l r = some (n, q)) : 0 ≤ n ∧ n ≤ 2147483647 ∧ r < q ∧ q ≤ r + l.length := by
  induction f generalizing u m r l with
  | zero => simp [gnum] at h
  | succ f ih =>
    cases l with
    | nil => simp [gnum] at h
    | cons d l =>
      have hd := hl d (by simp)
      by_cases h1 : d < 128
      · by_cases h2 : 2147483647 < m + d * u ∨ (d = 0 ∧ 1 < u)
        · rw [gnum_bad _ _ _ _ _ _ h1 h2] at h; simp at h
        · rw [gnum_end _ _ _ _ _ _ h1 h2] at h
          simp at h
          have := Int.mul_nonneg hd.1 (Int.le_of_lt hu)
          simp only [List.length_cons]
          omega
      · rw [gnum_more _ _ _ _ _ _ h1] at h
        have := Int.mul_nonneg (show 0 ≤ d - 128 by omega) (Int.le_of_lt hu)
        have := ih (u * 128) (m + (d - 128) * u) (r + 1) l (by omega) (by omega) (fun z hz => hl z (by simp [hz])) h
        simp only [List.length_cons]
        omega
theorem getN_bd (xs : List Int) (p n q : Int) (hl : ∀ z ∈ xs, 0 ≤ z ∧ z ≤ 255) (h : getN xs p = some (n, q)) : 0 ≤ n ∧ n ≤ 2147483647 ∧ 0 < q ∧ q ≤ xs.length := by
  unfold getN at h
  split at h
  · simp at h
  · rename_i hp
    have := gnum_bd 5 1 0 p n q (xs.drop p.toNat) (by omega) (by omega) (fun z hz => hl z (List.mem_of_mem_drop hz)) h
    have hne : xs.drop p.toNat ≠ [] := by intro he; rw [he, gnum_nil] at h; simp at h
    have hlt : p.toNat < xs.length := by
      rcases Nat.lt_or_ge p.toNat xs.length with h' | h'
      · exact h'
      · exact absurd (List.drop_eq_nil_of_le h') hne
    simp only [List.length_drop] at this
    omega

theorem getT_some (xs : List Int) (p q : Int) (l : List Int) (h : getT xs p = some (l, q)) : ∃ n r, getN xs p = some (n, r) ∧ n ≤ (xs.length : Int) - r ∧ l = (xs.drop r.toNat).take n.toNat ∧ q = r + n := by
  unfold getT at h
  rcases hn : getN xs p with _ | ⟨n, r⟩
  · rw [hn] at h; simp at h
  · rw [hn] at h
    simp only at h
    split at h
    · simp at h
    · rename_i hb
      simp at h
      exact ⟨n, r, rfl, by omega, h.1.symm, h.2.symm⟩

end Go.Proofs.Ytjlocbimkfocnaa

namespace Go.Proofs.Ytjlocbimkfocnaa

theorem gnum_put (k f n : Nat) (u m r : Int) (post : List Int) (hk : n < 128 ^ (k + 1)) (hf : k < f) (h0 : n ≠ 0 ∨ u = 1) (hu : 0 < u) (hle : m + n * u ≤ 2147483647) :
    gnum f u m (putf k n ++ post) r = some (m + n * u, r + (putf k n).length) := by
  induction k generalizing f n u m r with
  | zero =>
    obtain ⟨f', rfl⟩ : ∃ f', f = f' + 1 := ⟨f - 1, by omega⟩
    have hn : (n : Int) < 128 := by simp at hk; omega
    show gnum (f' + 1) u m ((n : Int) :: post) r = _
    rw [gnum_end _ _ _ _ _ _ hn (by omega)]
    rfl
  | succ k ih =>
    obtain ⟨f', rfl⟩ : ∃ f', f = f' + 1 := ⟨f - 1, by omega⟩
    by_cases h : n < 128
    · rw [putf_small _ _ h]
      show gnum (f' + 1) u m ((n : Int) :: post) r = _
      rw [gnum_end _ _ _ _ _ _ (by omega) (by omega)]
      rfl
    · have e : putf (k + 1) n = ((n % 128 + 128 : Nat) : Int) :: putf k (n / 128) := by simp [putf, h]
      have hd : n / 128 < 128 ^ (k + 1) := by
        rw [Nat.pow_succ] at hk
        exact Nat.div_lt_of_lt_mul (by rw [Nat.mul_comm]; exact hk)
      have hsum : m + (((n % 128 + 128 : Nat) : Int) - 128) * u + ((n / 128 : Nat) : Int) * (u * 128) = m + n * u := by
        have h1 : (n : Int) = ((n % 128 : Nat) : Int) + 128 * ((n / 128 : Nat) : Int) := by omega
        have h2 : (((n % 128 + 128 : Nat) : Int) - 128) = ((n % 128 : Nat) : Int) := by omega
        rw [h2]
        conv => rhs; rw [h1]
        rw [Int.add_mul, Int.mul_comm u 128, ← Int.mul_assoc, Int.mul_comm ((n / 128 : Nat) : Int) 128, Int.add_assoc]
      rw [e, List.cons_append, gnum_more _ _ _ _ _ _ (by omega), ih f' (n / 128) (u * 128) _ (r + 1) hd (by omega) (.inl (by omega)) (by omega) (by rw [hsum]; exact hle), hsum, List.length_cons]
      congr 2
      omega

theorem getN_put (pre post : List Int) (n : Int) (h0 : 0 ≤ n) (h1 : n ≤ 2147483647) : getN (pre ++ putN n ++ post) pre.length = some (n, (pre.length : Int) + (putN n).length) := by
  have e : putN n = putf 4 n.toNat := by simp [putN, h0, h1]
  unfold getN
  rw [if_neg (by omega), List.append_assoc, Int.toNat_natCast, List.drop_left, e, gnum_put 4 5 n.toNat 1 0 pre.length post (by omega) (by omega) (.inr rfl) (by omega) (by omega)]
  congr 2
  omega

theorem getT_put (pre l : List Int) (hl : l.length ≤ 2147483647) : getT (pre ++ putT l) pre.length = some (l, ((pre ++ putT l).length : Int)) := by
  have h := getN_put pre l l.length (by omega) (by omega)
  have e : pre ++ putT l = pre ++ putN l.length ++ l := by unfold putT; rw [List.append_assoc]
  unfold getT
  rw [e, h]
  simp only
  have hlen : ((pre ++ putN l.length ++ l).length : Int) = (pre.length : Int) + (putN l.length).length + l.length := by simp; omega
  rw [if_neg (by rw [hlen]; omega), hlen]
  have hq : ((pre.length : Int) + ((putN l.length).length : Int)).toNat = (pre ++ putN l.length).length := by simp; omega
  rw [hq, List.drop_left, Int.toNat_natCast, List.take_length]

end Go.Proofs.Ytjlocbimkfocnaa

namespace Go.Proofs.Ytjlocbimkfocnaa
open Go.RowKit

def Rng (n : Int) : Prop := 0 ≤ n ∧ n ≤ 2147483647
theorem getN_at {b pre post : List Int} {n : Int} (h : b = pre ++ (putN n ++ post)) (hn : Rng n) : getN b pre.length = some (n, ((pre ++ putN n).length : Int)) := by
  rw [h, ← List.append_assoc, getN_put pre post n hn.1 hn.2, List.length_append]
  simp
theorem getT_mid {b pre post l : List Int} (h : b = pre ++ (putT l ++ post)) (hl : l.length ≤ 2147483647) : getT b pre.length = some (l, ((pre ++ putT l).length : Int)) := by
  have e : b = pre ++ (putN l.length ++ (l ++ post)) := by rw [h, putT]; simp
  have g := getN_at e ⟨by omega, by omega⟩
  unfold getT
  rw [g]
  simp only
  have h1 : (b.length : Int) = ((pre ++ putN l.length).length : Int) + (l.length + post.length) := by rw [e]; simp; omega
  rw [if_neg (by omega), Int.toNat_natCast]
  have h2 : b.drop (pre ++ putN l.length).length = l ++ post := by rw [e, ← List.append_assoc, List.drop_left]
  rw [Int.toNat_natCast, h2, List.take_left]
  congr 2
  simp [putT]; omega
theorem putN_inj {a b : Int} {x y : List Int} (ha : Rng a) (hb : Rng b) (h : putN a ++ x = putN b ++ y) : a = b ∧ x = y := by
  have g1 := getN_at (b := putN a ++ x) (pre := []) (post := x) rfl ha
  have g2 := getN_at (b := putN a ++ x) (pre := []) (post := y) h hb
  rw [g1] at g2
  simp only [Option.some.injEq, Prod.mk.injEq] at g2
  obtain ⟨rfl, -⟩ := g2
  exact ⟨rfl, List.append_cancel_left h⟩
theorem nums_inj : ∀ {us vs : List Int} {x y : List Int}, us.length = vs.length → (∀ z ∈ us, Rng z) → (∀ z ∈ vs, Rng z) → nums us ++ x = nums vs ++ y → us = vs ∧ x = y
  | [], [], _, _, _, _, _, h => ⟨rfl, h⟩
  | a :: us, b :: vs, x, y, hl, ha, hb, h => by
    rw [nums_cons, nums_cons, List.append_assoc, List.append_assoc] at h
    obtain ⟨rfl, q1⟩ := putN_inj (ha a (by simp)) (hb b (by simp)) h
    obtain ⟨rfl, q2⟩ := nums_inj (by simpa using hl) (fun z hz => ha z (by simp [hz])) (fun z hz => hb z (by simp [hz])) q1
    exact ⟨rfl, q2⟩
  | [], _ :: _, _, _, hl, _, _, _ => by simp at hl
  | _ :: _, [], _, _, hl, _, _, _ => by simp at hl
theorem len_rng {α : Type} {l : List α} (h : l.length ≤ 2147483647) : Rng (l.length : Int) := ⟨by omega, by omega⟩
theorem lsB_inj {us vs x y : List Int} (la : us.length ≤ 2147483647) (lb : vs.length ≤ 2147483647) (ha : ∀ z ∈ us, Rng z) (hb : ∀ z ∈ vs, Rng z) (h : lsB us ++ x = lsB vs ++ y) : us = vs ∧ x = y := by
  rw [lsB, lsB, List.append_assoc, List.append_assoc] at h
  obtain ⟨e, q1⟩ := putN_inj (len_rng la) (len_rng lb) h
  exact nums_inj (by omega) ha hb q1
theorem putT_inj {a b x y : List Int} (la : a.length ≤ 2147483647) (lb : b.length ≤ 2147483647) (h : putT a ++ x = putT b ++ y) : a = b ∧ x = y := by
  rw [putT, putT, List.append_assoc, List.append_assoc] at h
  obtain ⟨e, q1⟩ := putN_inj (len_rng la) (len_rng lb) h
  exact List.append_inj q1 (by omega)
theorem bl_inj {s t : ByteArray} (h : bl s = bl t) : s = t := by rw [← str_bl s, h, str_bl]
/-- The numbers of an item, of a floor, are numbers that can be put. -/
def RngI (x : Itm) : Prop := Rng x.1 ∧ Rng x.2.1 ∧ Rng x.2.2.1 ∧ Rng x.2.2.2.1 ∧ Rng x.2.2.2.2.1 ∧ x.2.2.2.2.2.size ≤ 2147483647
def RngF (x : Flr) : Prop := Rng x.1 ∧ Rng x.2
theorem sbI_inj {x y : Itm} {p q : List Int} (hx : RngI x) (hy : RngI y) (h : sbI x ++ p = sbI y ++ q) : x = y ∧ p = q := by
  obtain ⟨x1, x2, x3, x4, x5, x6⟩ := x
  obtain ⟨y1, y2, y3, y4, y5, y6⟩ := y
  obtain ⟨a1, a2, a3, a4, a5, a6⟩ := hx
  obtain ⟨b1, b2, b3, b4, b5, b6⟩ := hy
  rw [sbI, sbI, List.append_assoc, List.append_assoc] at h
  obtain ⟨e, q1⟩ := nums_inj (us := [x1, x2, x3, x4, x5]) (vs := [y1, y2, y3, y4, y5]) rfl (fun z hz => by simp at hz; rcases hz with rfl | rfl | rfl | rfl | rfl <;> assumption) (fun z hz => by simp at hz; rcases hz with rfl | rfl | rfl | rfl | rfl <;> assumption) h
  obtain ⟨e2, q2⟩ := putT_inj (by rw [bl_length]; exact a6) (by rw [bl_length]; exact b6) q1
  have e3 := bl_inj e2
  simp only [List.cons.injEq, and_true] at e
  simp only at e3
  exact ⟨by simp [e, e3], q2⟩
theorem sbIs_inj : ∀ {xs ys : List Itm} {p q : List Int}, xs.length = ys.length → (∀ x ∈ xs, RngI x) → (∀ x ∈ ys, RngI x) → sbIs xs ++ p = sbIs ys ++ q → xs = ys ∧ p = q
  | [], [], _, _, _, _, _, h => ⟨rfl, h⟩
  | x :: xs, y :: ys, p, q, hl, hx, hy, h => by
    rw [show sbIs (x :: xs) = sbI x ++ sbIs xs from rfl, show sbIs (y :: ys) = sbI y ++ sbIs ys from rfl, List.append_assoc, List.append_assoc] at h
    obtain ⟨rfl, q1⟩ := sbI_inj (hx x (by simp)) (hy y (by simp)) h
    obtain ⟨rfl, q2⟩ := sbIs_inj (by simpa using hl) (fun z hz => hx z (by simp [hz])) (fun z hz => hy z (by simp [hz])) q1
    exact ⟨rfl, q2⟩
  | [], _ :: _, _, _, hl, _, _, _ => by simp at hl
  | _ :: _, [], _, _, hl, _, _, _ => by simp at hl
theorem sbF_inj {x y : Flr} {p q : List Int} (hx : RngF x) (hy : RngF y) (h : sbF x ++ p = sbF y ++ q) : x = y ∧ p = q := by
  obtain ⟨x1, x2⟩ := x
  obtain ⟨y1, y2⟩ := y
  obtain ⟨a1, a2⟩ := hx
  obtain ⟨b1, b2⟩ := hy
  rw [sbF, sbF] at h
  obtain ⟨e, q1⟩ := nums_inj (us := [x1, x2]) (vs := [y1, y2]) rfl (fun z hz => by simp at hz; rcases hz with rfl | rfl <;> assumption) (fun z hz => by simp at hz; rcases hz with rfl | rfl <;> assumption) h
  simp only [List.cons.injEq, and_true] at e
  exact ⟨by simp [e], q1⟩
theorem sbFs_inj : ∀ {xs ys : List Flr} {p q : List Int}, xs.length = ys.length → (∀ x ∈ xs, RngF x) → (∀ x ∈ ys, RngF x) → sbFs xs ++ p = sbFs ys ++ q → xs = ys ∧ p = q
  | [], [], _, _, _, _, _, h => ⟨rfl, h⟩
  | x :: xs, y :: ys, p, q, hl, hx, hy, h => by
    rw [show sbFs (x :: xs) = sbF x ++ sbFs xs from rfl, show sbFs (y :: ys) = sbF y ++ sbFs ys from rfl, List.append_assoc, List.append_assoc] at h
    obtain ⟨rfl, q1⟩ := sbF_inj (hx x (by simp)) (hy y (by simp)) h
    obtain ⟨rfl, q2⟩ := sbFs_inj (by simpa using hl) (fun z hz => hx z (by simp [hz])) (fun z hz => hy z (by simp [hz])) q1
    exact ⟨rfl, q2⟩
  | [], _ :: _, _, _, hl, _, _, _ => by simp at hl
  | _ :: _, [], _, _, hl, _, _, _ => by simp at hl
theorem okE_rng {e : Key} (h : okE e.1 e.2.1 e.2.2.1 e.2.2.2.1 e.2.2.2.2 = true) : Rng e.1 ∧ Rng e.2.1 ∧ Rng e.2.2.1 ∧ Rng e.2.2.2.1 := by
  simp only [okE, Bool.and_eq_true, inB_iff] at h
  obtain ⟨⟨⟨⟨a1, a2⟩, a3⟩, a4⟩, _⟩ := h
  refine ⟨⟨by omega, by omega⟩, ⟨by omega, by omega⟩, ⟨by omega, by omega⟩, ⟨by omega, by omega⟩⟩
theorem OkS.rng {xs : List Itm} {fs : List Flr} (h : OkS xs fs) : (∀ x ∈ xs, RngI x) ∧ (∀ f ∈ fs, RngF f) := by
  refine ⟨fun x hx => ?_, fun f hf => ?_⟩
  · have a := h.ix x hx
    have b := okE_rng a.2.2.1
    have c := okE_size a.2.2.1
    exact ⟨⟨by omega, by omega⟩, b.1, b.2.1, b.2.2.1, b.2.2.2, by omega⟩
  · have a := h.jf f hf
    exact ⟨⟨by omega, by omega⟩, ⟨by omega, by omega⟩⟩
theorem sb_inj {xs ys : List Itm} {fs gs : List Flr} {p q : List Int} (hx : OkS xs fs) (hy : OkS ys gs) (h : sb xs fs ++ p = sb ys gs ++ q) : xs = ys ∧ fs = gs ∧ p = q := by
  have l1 := hx.len5
  have l2 := hy.len5
  simp only [sb, List.append_assoc] at h
  obtain ⟨e, q1⟩ := putN_inj (len_rng (l := xs) (by omega)) (len_rng (l := ys) (by omega)) h
  obtain ⟨rfl, q2⟩ := sbIs_inj (by omega) hx.rng.1 hy.rng.1 q1
  obtain ⟨e, q3⟩ := putN_inj (len_rng (l := fs) (by omega)) (len_rng (l := gs) (by omega)) q2
  obtain ⟨rfl, q4⟩ := sbFs_inj (by omega) hx.rng.2 hy.rng.2 q3
  exact ⟨rfl, rfl, q4⟩
theorem sb_one {xs ys : List Itm} {fs gs : List Flr} (hx : OkS xs fs) (hy : OkS ys gs) (h : sb xs fs = sb ys gs) : xs = ys ∧ fs = gs := by
  have := sb_inj (p := []) (q := []) hx hy (by rw [h])
  exact ⟨this.1, this.2.1⟩
theorem inB_rng {x a b : Int} (h : inB x a b = true) (ha : 0 ≤ a) (hb : b ≤ 2147483647) : Rng x := by
  have := inB_iff.1 h
  exact ⟨by omega, by omega⟩
theorem trOk_rng {tl : List Int} {tr : Int} (h : trOk tl tr = true) : (∀ z ∈ tl, Rng z) ∧ Rng tr := by
  unfold trOk at h
  split at h
  · rename_i e
    simp only [beq_iff_eq] at h
    rw [List.length_eq_zero_iff] at e
    subst e h
    exact ⟨fun z hz => by simp at hz, by omega, by omega⟩
  · simp only [Bool.and_eq_true, nmOk_iff] at h
    exact ⟨fun z hz => by have := h.1.2.2 z hz; exact ⟨by omega, by omega⟩, inB_rng h.2 (by omega) (by omega)⟩
/-- What is asked of a right message, taken apart. -/
structure OkM (m : Mg) : Prop where
  k : inB m.k 0 5 = true
  f : inB m.f 0 4 = true
  t : inB m.t 0 4 = true
  ne : (m.f != m.t) = true
  n : inB m.n 0 100000 = true
  h : inB m.h 0 100000 = true
  tr : trOk m.tl m.tr = true
  ve : nmOk m.ve 5 100000 = true
  le : nmOk m.le 4 3 = true
  st : OkS m.its m.fls
  ma : gF (-1) m.ma = true
  ac : asc m.le = true
theorem okM_iff (m : Mg) : okM m = true ↔ OkM m := by
  constructor
  · intro h
    simp only [okM, Bool.and_eq_true, okS_iff] at h
    obtain ⟨⟨⟨⟨⟨⟨⟨a1, a2⟩, a3⟩, a4⟩, a5⟩, a6⟩, ⟨⟨⟨b1, b2⟩, b3⟩, b4⟩, b5⟩, c⟩ := h
    exact ⟨a1, a2, a3, a4, a5, a6, b1, b2, b3, b4, b5, c⟩
  · intro h
    simp only [okM, Bool.and_eq_true, okS_iff]
    exact ⟨⟨⟨⟨⟨⟨⟨h.k, h.f⟩, h.t⟩, h.ne⟩, h.n⟩, h.h⟩, ⟨⟨⟨h.tr, h.ve⟩, h.le⟩, h.st⟩, h.ma⟩, h.ac⟩
theorem gF_rng {fs : List Flr} (h : gF (-1) fs = true) : ∀ f ∈ fs, RngF f := fun f hf => by
  have := ((gF_iff (-1) fs).1 h).2 f hf
  exact ⟨⟨by omega, by omega⟩, ⟨by omega, by omega⟩⟩
theorem bodyM_inj {m m' : Mg} (hm : OkM m) (hm' : OkM m') (h : bodyM m = bodyM m') : m = m' := by
  obtain ⟨k, f, t, n, hh, tl, tr, ve, le, its, fls, ma⟩ := m
  obtain ⟨k', f', t', n', hh', tl', tr', ve', le', its', fls', ma'⟩ := m'
  obtain ⟨a1, a2, a3, a4, a5, a6, a7, a8, a9, a10, a11, a12⟩ := hm
  obtain ⟨b1, b2, b3, b4, b5, b6, b7, b8, b9, b10, b11, b12⟩ := hm'
  simp only [bodyM, List.append_assoc] at h
  simp only at a1 a2 a3 a5 a6 a7 a8 a9 a10 a11 b1 b2 b3 b5 b6 b7 b8 b9 b10 b11
  have q0 := List.append_cancel_left h
  have r1 : ∀ z ∈ [k, f, t, n, hh], Rng z := fun z hz => by
    simp at hz
    rcases hz with rfl | rfl | rfl | rfl | rfl
    · exact inB_rng a1 (by omega) (by omega)
    · exact inB_rng a2 (by omega) (by omega)
    · exact inB_rng a3 (by omega) (by omega)
    · exact inB_rng a5 (by omega) (by omega)
    · exact inB_rng a6 (by omega) (by omega)
  have r2 : ∀ z ∈ [k', f', t', n', hh'], Rng z := fun z hz => by
    simp at hz
    rcases hz with rfl | rfl | rfl | rfl | rfl
    · exact inB_rng b1 (by omega) (by omega)
    · exact inB_rng b2 (by omega) (by omega)
    · exact inB_rng b3 (by omega) (by omega)
    · exact inB_rng b5 (by omega) (by omega)
    · exact inB_rng b6 (by omega) (by omega)
  obtain ⟨e, q1⟩ := nums_inj (us := [k, f, t, n, hh]) (vs := [k', f', t', n', hh']) rfl r1 r2 q0
  simp only [List.cons.injEq, and_true] at e
  obtain ⟨rfl, rfl, rfl, rfl, rfl⟩ := e
  have nr : ∀ {ns : List Int} {most : Nat} {hi : Int}, hi ≤ 2147483647 → nmOk ns most hi = true → ∀ z ∈ ns, Rng z := fun hi h z hz => by
    have := (nmOk_iff.1 h).2 z hz
    exact ⟨by omega, by omega⟩
  obtain ⟨rfl, q2⟩ := lsB_inj (by have := trOk_len a7; omega) (by have := trOk_len b7; omega) (trOk_rng a7).1 (trOk_rng b7).1 q1
  obtain ⟨rfl, q3⟩ := putN_inj (trOk_rng a7).2 (trOk_rng b7).2 q2
  obtain ⟨rfl, q4⟩ := lsB_inj (by have := (nmOk_iff.1 a8).1; omega) (by have := (nmOk_iff.1 b8).1; omega) (nr (by omega) a8) (nr (by omega) b8) q3
  obtain ⟨rfl, q5⟩ := lsB_inj (by have := (nmOk_iff.1 a9).1; omega) (by have := (nmOk_iff.1 b9).1; omega) (nr (by omega) a9) (nr (by omega) b9) q4
  obtain ⟨-, q6⟩ := putN_inj (len_rng (by have := sb_len a10; omega)) (len_rng (by have := sb_len b10; omega)) q5
  obtain ⟨rfl, rfl, q7⟩ := sb_inj a10 b10 q6
  obtain ⟨e, q8⟩ := putN_inj (len_rng (by have := gF_len a11; omega)) (len_rng (by have := gF_len b11; omega)) q7
  obtain ⟨rfl, -⟩ := sbFs_inj (p := []) (q := []) (by omega) (gF_rng a11) (gF_rng b11) (by simpa using q8)
  rfl
theorem sumB_len (x : Int) : (sumB x).length = 4 := rfl
theorem msB_inj {m m' : Mg} (hm : OkM m) (hm' : OkM m') (h : msB m = msB m') : m = m' := by
  rw [msB, msB, if_pos ((okM_iff m).2 hm), if_pos ((okM_iff m').2 hm')] at h
  exact bodyM_inj hm hm' (List.append_inj h (by have := congrArg List.length h; simp only [List.length_append, sumB_len] at this; omega)).1
/-- A right message's bytes with one byte that is another one are no message's. -/
theorem msB_spoilt {m m' : Mg} (hm : OkM m) (hm' : OkM m') {i : Nat} {z : Int} (hi : i < (msB m).length) (hne : (msB m)[i]? ≠ some z) : msB m' ≠ (msB m).set i z := by
  intro h
  have e : msB m = bodyM m ++ sumB (crcOf (bodyM m)) := by rw [msB, if_pos ((okM_iff m).2 hm)]
  have e' : msB m' = bodyM m' ++ sumB (crcOf (bodyM m')) := by rw [msB, if_pos ((okM_iff m').2 hm')]
  rw [e] at hi hne
  rw [e, e'] at h
  have hl : (bodyM m').length = (bodyM m).length := by
    have := congrArg List.length h
    simp only [List.length_append, List.length_set, sumB_len] at this
    omega
  have c0 := crcOf_nonneg _ (bodyM_bytes m)
  have c1 := crcOf_range _ (bodyM_bytes m)
  have d0 := crcOf_nonneg _ (bodyM_bytes m')
  have d1 := crcOf_range _ (bodyM_bytes m')
  by_cases hb : i < (bodyM m).length
  · rw [List.set_append_left _ _ hb] at h
    obtain ⟨h1, h2⟩ := List.append_inj h (by rw [List.length_set]; exact hl)
    have hs := sumB_inj d0 d1 c0 c1 h2
    rw [List.getElem?_append_left hb] at hne
    obtain ⟨y, hy⟩ : ∃ y, (bodyM m)[i]? = some y := ⟨_, List.getElem?_eq_getElem hb⟩
    rw [hy] at hne
    have hyz : y ≠ z := fun q => hne (by rw [q])
    have s1 : bodyM m = (bodyM m).take i ++ y :: (bodyM m).drop (i + 1) := by
      conv => lhs; rw [← List.take_append_drop i (bodyM m), List.drop_eq_getElem_cons hb]
      rw [(List.getElem?_eq_some_iff.1 hy).2]
    have s2 : (bodyM m).set i z = (bodyM m).take i ++ z :: (bodyM m).drop (i + 1) := by
      rw [List.set_eq_take_append_cons_drop, if_pos hb]
    have hby := bodyM_bytes m
    refine crcOf_ne ((bodyM m).take i) ((bodyM m).drop (i + 1)) y z ?_ ?_ hyz ?_
    · rw [← s1]; exact hby
    · rw [← s2, ← h1]; exact bodyM_bytes m'
    · rw [← s1, ← s2, ← h1, hs]
  · rw [List.set_append_right _ _ (by omega)] at h
    obtain ⟨h1, h2⟩ := List.append_inj h hl
    rw [h1] at h2
    rw [List.getElem?_append_right (by omega)] at hne
    apply hne
    have : i - (bodyM m).length < (sumB (crcOf (bodyM m))).length := by simp only [List.length_append] at hi; omega
    rw [h2, List.getElem?_set, if_pos rfl, if_pos this]

/-- The state of which these are the bytes. -/
noncomputable def sof (b : List Int) : Option (List Itm × List Flr) :=
  open Classical in if h : ∃ p : List Itm × List Flr, OkS p.1 p.2 ∧ sb p.1 p.2 = b then some h.choose else none
theorem sof_some {xs : List Itm} {fs : List Flr} {b : List Int} (hx : OkS xs fs) (e : sb xs fs = b) : sof b = some (xs, fs) := by
  have h : ∃ p : List Itm × List Flr, OkS p.1 p.2 ∧ sb p.1 p.2 = b := ⟨(xs, fs), hx, e⟩
  unfold sof
  rw [dif_pos h]
  have q := h.choose_spec
  have r := sb_one q.1 hx (q.2.trans e.symm)
  rw [show h.choose = (h.choose.1, h.choose.2) from rfl, r.1, r.2]
theorem sof_none {b : List Int} (h : ∀ xs fs, OkS xs fs → sb xs fs ≠ b) : sof b = none := by
  unfold sof
  rw [dif_neg]
  rintro ⟨p, h1, h2⟩
  exact h _ _ h1 h2
theorem sof_is {b : List Int} {xs : List Itm} {fs : List Flr} (h : sof b = some (xs, fs)) : OkS xs fs ∧ sb xs fs = b := by
  unfold sof at h
  split at h
  · rename_i q
    have r := q.choose_spec
    simp only [Option.some.injEq] at h
    rw [h] at r
    exact r
  · cases h
noncomputable def sofI (xs : List Int) : List Itm := ((sof xs).getD ([], [])).1
noncomputable def sofF (xs : List Int) : List Flr := ((sof xs).getD ([], [])).2
/-- The message of which these are the bytes. -/
noncomputable def mof (b : List Int) : Option Mg :=
  open Classical in if h : ∃ m : Mg, OkM m ∧ msB m = b then some h.choose else none
theorem mof_some {m : Mg} {b : List Int} (hm : OkM m) (e : msB m = b) : mof b = some m := by
  have h : ∃ m : Mg, OkM m ∧ msB m = b := ⟨m, hm, e⟩
  unfold mof
  rw [dif_pos h]
  have q := h.choose_spec
  rw [msB_inj q.1 hm (q.2.trans e.symm)]
theorem mof_none {b : List Int} (h : ∀ m, OkM m → msB m ≠ b) : mof b = none := by
  unfold mof
  rw [dif_neg]
  rintro ⟨m, h1, h2⟩
  exact h m h1 h2
theorem mof_is {b : List Int} {m : Mg} (h : mof b = some m) : OkM m ∧ msB m = b := by
  unfold mof at h
  split at h
  · rename_i q
    have r := q.choose_spec
    simp only [Option.some.injEq] at h
    rw [h] at r
    exact r
  · cases h
end Go.Proofs.Ytjlocbimkfocnaa

namespace Go.Proofs.Ytjlocbimkfocnaa
open Go.RowKit

/-- At place p of xs the bytes e stand, and behind them is place q. -/
structure Took (xs : List Int) (p : Int) (e : List Int) (q : Int) : Prop where
  lo : 0 ≤ p
  hi : q ≤ xs.length
  len : q = p + e.length
  at' : xs.drop p.toNat = e ++ xs.drop q.toNat
theorem Took.nil {xs : List Int} {p : Int} (h0 : 0 ≤ p) (h1 : p ≤ xs.length) : Took xs p [] p := ⟨h0, h1, by simp, rfl⟩
theorem Took.app {xs e f : List Int} {p q r : Int} (h : Took xs p e q) (k : Took xs q f r) : Took xs p (e ++ f) r := by
  refine ⟨h.lo, k.hi, ?_, ?_⟩
  · rw [k.len, h.len, List.length_append]; omega
  · rw [h.at', k.at', List.append_assoc]
theorem Took.split {xs e f : List Int} {p r : Int} (h : Took xs p (e ++ f) r) : Took xs p e (p + e.length) ∧ Took xs (p + e.length) f r := by
  have h0 := h.lo
  have h1 := h.hi
  have h2 := h.len
  have h3 := h.at'
  rw [List.length_append] at h2
  have e1 : xs.drop (p + e.length).toNat = f ++ xs.drop r.toNat := by
    have := congrArg (List.drop e.length) h3
    rw [List.drop_drop, List.append_assoc, List.drop_left] at this
    rw [show (p + (e.length : Int)).toNat = p.toNat + e.length by omega]
    exact this
  refine ⟨⟨h0, by omega, rfl, ?_⟩, ⟨by omega, h1, by omega, e1⟩⟩
  rw [e1, h3, List.append_assoc]
theorem Took.whole {xs e : List Int} (h : Took xs 0 e (xs.length : Int)) : e = xs := by
  have := h.at'
  simp at this
  exact this.symm
theorem Took.of_whole {xs : List Int} : Took xs 0 xs (xs.length : Int) := ⟨by omega, by omega, by omega, by simp⟩
theorem Took.pre {xs e : List Int} {p q : Int} (h : Took xs p e q) : xs = xs.take p.toNat ++ (e ++ xs.drop q.toNat) ∧ ((xs.take p.toNat).length : Int) = p ∧ q = ((xs.take p.toNat ++ e).length : Int) := by
  have h0 := h.lo
  have h1 := h.hi
  have h2 := h.len
  have hp : ((xs.take p.toNat).length : Int) = p := by simp; omega
  refine ⟨?_, hp, ?_⟩
  · rw [← h.at', List.take_append_drop]
  · rw [List.length_append]; omega

/-! ### Whatever number is read was put so -/
theorem gnum_canon : ∀ (f : Nat) (u m : Int) (l : List Int) (r n q : Int), 0 < u → (∀ z ∈ l, 0 ≤ z ∧ z ≤ 255) → gnum f u m l r = some (n, q) → ∃ t : Nat, n = m + t * u ∧ (t ≠ 0 ∨ ¬ 1 < u) ∧ ∃ post, l = putf (f - 1) t ++ post ∧ q = r + (putf (f - 1) t).length
  | 0, _, _, _, _, _, _, _, _, h => by simp [gnum] at h
  | f + 1, u, m, [], r, n, q, _, _, h => by simp [gnum] at h
  | f + 1, u, m, d :: l, r, n, q, hu, hl, h => by
    have hd := hl d (by simp)
    by_cases h128 : d < 128
    · by_cases hc : 2147483647 < m + d * u ∨ (d = 0 ∧ 1 < u)
      · rw [gnum_bad _ _ _ _ _ _ h128 hc] at h; cases h
      · rw [gnum_end _ _ _ _ _ _ h128 hc] at h
        simp only [Option.some.injEq, Prod.mk.injEq] at h
        obtain ⟨rfl, rfl⟩ := h
        obtain ⟨t, rfl⟩ := Int.eq_ofNat_of_zero_le hd.1
        refine ⟨t, rfl, ?_, l, ?_, ?_⟩
        · by_cases ht : t = 0
          · exact .inr (fun h1 => hc (.inr ⟨by omega, h1⟩))
          · exact .inl ht
        · rw [putf_small _ _ (by omega)]; rfl
        · rw [putf_small _ _ (by omega)]; rfl
    · rw [gnum_more _ _ _ _ _ _ h128] at h
      obtain ⟨t, h1, h2, post, h3, h4⟩ := gnum_canon f (u * 128) _ l (r + 1) n q (by omega) (fun z hz => hl z (by simp [hz])) h
      have ht : t ≠ 0 := h2.resolve_right (by omega)
      obtain ⟨k, rfl⟩ : ∃ k, f = k + 1 := by
        cases f with
        | zero => simp [gnum] at h
        | succ k => exact ⟨k, rfl⟩
      obtain ⟨c, hc⟩ := Int.eq_ofNat_of_zero_le (show 0 ≤ d - 128 by omega)
      have hd2 : d = ((c + 128 : Nat) : Int) := by omega
      have hc2 : c < 128 := by omega
      refine ⟨t * 128 + c, ?_, .inl (by omega), post, ?_, ?_⟩
      · rw [h1, hc]
        have : ((t * 128 + c : Nat) : Int) * u = (t : Int) * (u * 128) + (c : Int) * u := by
          rw [show ((t * 128 + c : Nat) : Int) = (t : Int) * 128 + c by omega, Int.add_mul, Int.mul_assoc, Int.mul_comm 128 u]
        rw [this]; omega
      · have e : putf (k + 1) (t * 128 + c) = d :: putf k t := by
          rw [putf, if_neg (by omega), show (t * 128 + c) % 128 = c by omega, show (t * 128 + c) / 128 = t by omega, hd2]
        show d :: l = putf (k + 1) (t * 128 + c) ++ post
        rw [e, h3]; rfl
      · have e : putf (k + 1) (t * 128 + c) = d :: putf k t := by
          rw [putf, if_neg (by omega), show (t * 128 + c) % 128 = c by omega, show (t * 128 + c) / 128 = t by omega, hd2]
        show q = r + (putf (k + 1) (t * 128 + c)).length
        rw [e, h4, List.length_cons]
        simp only [Nat.add_sub_cancel]
        omega
theorem getN_canon {xs : List Int} {p n q : Int} (hbd : ∀ z ∈ xs, 0 ≤ z ∧ z ≤ 255) (h : getN xs p = some (n, q)) : Took xs p (putN n) q ∧ Rng n := by
  have hb := getN_bd xs p n q hbd h
  have hp : ¬ p < 0 := by
    intro hp
    unfold getN at h
    rw [if_pos hp] at h
    cases h
  have h' := h
  unfold getN at h'
  rw [if_neg hp] at h'
  obtain ⟨t, h1, h2, post, h3, h4⟩ := gnum_canon 5 1 0 _ p n q (by omega) (fun z hz => hbd z (List.mem_of_mem_drop hz)) h'
  have hn : n = (t : Int) := by omega
  have e : putN n = putf 4 t := by
    rw [hn, putN, if_pos (by omega), Int.toNat_natCast]
  refine ⟨⟨by omega, hb.2.2.2, by rw [e]; exact h4, ?_⟩, ⟨by omega, by omega⟩⟩
  rw [e, h3]
  have : xs.drop q.toNat = post := by
    have e2 := congrArg (List.drop (putf 4 t).length) h3
    rw [List.drop_drop, List.drop_left] at e2
    rw [← e2]
    congr 1
    simp only [Nat.add_one_sub_one] at h4
    omega
  rw [this]

/-! ### The cursor -/
abbrev Cu := Int × Bool
/-- The cursor lies within the bytes. -/
def Win (xs : List Int) (c : Cu) : Prop := 0 ≤ c.1 ∧ c.1 ≤ xs.length
def riN (xs : List Int) (c : Cu) : Int × Cu := match getN xs c.1 with
  | some (n, q) => (n, (q, c.2))
  | none => (0, (0, true))
def riT (xs : List Int) (c : Cu) : List Int × Cu := match getT xs c.1 with
  | some (l, q) => (l, (q, c.2))
  | none => ([], (0, true))
/-- What a reader reads: of what is read whole the bytes stand there, and where they stand that is read. -/
structure Reads {α : Type} (xs : List Int) (rd : Cu → α × Cu) (enc : α → List Int) (P : α → Prop) : Prop where
  win : ∀ c, Win xs c → Win xs (rd c).2
  snd : ∀ c, Win xs c → (rd c).2.2 = false → c.2 = false ∧ P (rd c).1 ∧ Took xs c.1 (enc (rd c).1) (rd c).2.1
  cpl : ∀ p q v, P v → Took xs p (enc v) q → rd (p, false) = (v, (q, false))
theorem Reads.bad {α : Type} {xs : List Int} {rd : Cu → α × Cu} {enc : α → List Int} {P : α → Prop} (h : Reads xs rd enc P) {c : Cu} (hw : Win xs c) (hc : c.2 = true) : (rd c).2.2 = true := by
  cases e : (rd c).2.2
  · have := (h.snd c hw e).1
    rw [hc] at this
    cases this
  · rfl
theorem reads_num {xs : List Int} (hbd : ∀ z ∈ xs, 0 ≤ z ∧ z ≤ 255) : Reads xs (riN xs) putN Rng := by
  refine ⟨fun c hw => ?_, fun c hw h => ?_, fun p q v hv ht => ?_⟩
  · unfold riN
    split
    · rename_i n q e
      have := getN_bd _ _ _ _ hbd e
      exact ⟨by simp only; omega, by simp only; omega⟩
    · exact ⟨by simp, by simp⟩
  · unfold riN at h ⊢
    split at h
    · rename_i n q e
      have := getN_canon hbd e
      exact ⟨h, this.2, this.1⟩
    · cases h
  · obtain ⟨e1, e2, e3⟩ := ht.pre
    have := getN_at e1 hv
    rw [e2] at this
    unfold riN
    rw [show ((p, false) : Cu).1 = p from rfl, this, ← e3]
theorem getT_canon {xs l : List Int} {p q : Int} (hbd : ∀ z ∈ xs, 0 ≤ z ∧ z ≤ 255) (h : getT xs p = some (l, q)) : Took xs p (putT l) q ∧ l.length ≤ 2147483647 ∧ ∀ z ∈ l, 0 ≤ z ∧ z ≤ 255 := by
  obtain ⟨n, r, h1, h2, h3, h4⟩ := getT_some xs p q l h
  obtain ⟨t1, t2⟩ := getN_canon hbd h1
  have hb := getN_bd xs p n r hbd h1
  have hl : (l.length : Int) = n := by
    rw [h3]; simp; omega
  have t3 : Took xs r l q := ⟨by omega, by omega, by omega, by
    rw [h3, h4, show (r + n).toNat = r.toNat + n.toNat by omega, ← List.drop_drop, List.take_append_drop]⟩
  refine ⟨?_, by omega, fun z hz => hbd z (List.mem_of_mem_drop (List.mem_of_mem_take (by rw [h3] at hz; exact hz)))⟩
  unfold putT
  rw [hl]
  exact t1.app t3
theorem reads_text {xs : List Int} (hbd : ∀ z ∈ xs, 0 ≤ z ∧ z ≤ 255) : Reads xs (riT xs) putT (fun l => l.length ≤ 2147483647 ∧ ∀ z ∈ l, 0 ≤ z ∧ z ≤ 255) := by
  refine ⟨fun c hw => ?_, fun c hw h => ?_, fun p q v hv ht => ?_⟩
  · unfold riT
    split
    · rename_i n q e
      have h1 := (getT_canon hbd e).1
      have h2 := h1.hi
      have h3 := h1.lo
      have h4 := h1.len
      exact ⟨by simp only; omega, h2⟩
    · exact ⟨by simp, by simp⟩
  · unfold riT at h ⊢
    split at h
    · rename_i n q e
      have := getT_canon hbd e
      exact ⟨h, this.2, this.1⟩
    · cases h
  · obtain ⟨e1, e2, e3⟩ := ht.pre
    have := getT_mid e1 hv.1
    rw [e2] at this
    unfold riT
    rw [show ((p, false) : Cu).1 = p from rfl, this, ← e3]
/-- One thing, and another one behind it. -/
def riP {α β : Type} (f : Cu → α × Cu) (g : Cu → β × Cu) (c : Cu) : (α × β) × Cu := (((f c).1, (g (f c).2).1), (g (f c).2).2)
theorem Reads.pair {α β : Type} {xs : List Int} {f : Cu → α × Cu} {g : Cu → β × Cu} {ef : α → List Int} {eg : β → List Int} {P : α → Prop} {Q : β → Prop} (hf : Reads xs f ef P) (hg : Reads xs g eg Q) :
    Reads xs (riP f g) (fun v => ef v.1 ++ eg v.2) (fun v => P v.1 ∧ Q v.2) := by
  refine ⟨fun c hw => hg.win _ (hf.win _ hw), fun c hw h => ?_, fun p q v hv ht => ?_⟩
  · obtain ⟨a1, a2, a3⟩ := hg.snd _ (hf.win _ hw) h
    obtain ⟨b1, b2, b3⟩ := hf.snd _ hw a1
    exact ⟨b1, ⟨b2, a2⟩, b3.app a3⟩
  · obtain ⟨t1, t2⟩ := ht.split
    have e1 := hf.cpl _ _ _ hv.1 t1
    have e2 := hg.cpl _ _ _ hv.2 t2
    unfold riP
    rw [e1]
    simp only
    rw [e2]
theorem Reads.map {α β : Type} {xs : List Int} {f : Cu → α × Cu} {ef : α → List Int} {P : α → Prop} (hf : Reads xs f ef P) (m : α → β) (eb : β → List Int) (Q : β → Prop) (he : ∀ v, P v → eb (m v) = ef v ∧ Q (m v)) (hi : ∀ b, Q b → ∃ v, P v ∧ m v = b) :
    Reads xs (fun c => (m (f c).1, (f c).2)) eb Q := by
  refine ⟨fun c hw => hf.win _ hw, fun c hw h => ?_, fun p q v hv ht => ?_⟩
  · obtain ⟨b1, b2, b3⟩ := hf.snd _ hw h
    refine ⟨b1, (he _ b2).2, ?_⟩
    rw [(he _ b2).1]
    exact b3
  · obtain ⟨a, ha, rfl⟩ := hi v hv
    rw [(he _ ha).1] at ht
    have := hf.cpl _ _ _ ha ht
    rw [this]
/-- So many things, one behind the other, as long as all fits. -/
def rpt {α : Type} (one : Cu → α × Cu) : Nat → Cu → List α × Cu
  | 0, c => ([], c)
  | i + 1, c => if (rpt one i c).2.2 = true then rpt one i c else ((rpt one i c).1 ++ [(one (rpt one i c).2).1], (one (rpt one i c).2).2)
/-- A list: how many there are, and these. -/
def lsR {α : Type} (xs : List Int) (most : Nat) (one : Cu → α × Cu) (c : Cu) : List α × Cu :=
  if (most : Int) < (riN xs c).1 then ([], ((riN xs c).2.1, true)) else
    if (rpt one (riN xs c).1.toNat (riN xs c).2).2.2 = true then ([], ((rpt one (riN xs c).1.toNat (riN xs c).2).2.1, true)) else rpt one (riN xs c).1.toNat (riN xs c).2
theorem rpt_win {α : Type} {xs : List Int} {one : Cu → α × Cu} {enc : α → List Int} {P : α → Prop} (h : Reads xs one enc P) {c : Cu} (hw : Win xs c) : ∀ i, Win xs (rpt one i c).2
  | 0 => hw
  | i + 1 => by
    rw [rpt]
    split
    · exact rpt_win h hw i
    · exact h.win _ (rpt_win h hw i)
theorem rpt_len {α : Type} (one : Cu → α × Cu) (c : Cu) : ∀ i, (rpt one i c).1.length ≤ i ∧ ((rpt one i c).2.2 = false → (rpt one i c).1.length = i)
  | 0 => by simp [rpt]
  | i + 1 => by
    have ih := rpt_len one c i
    rw [rpt]
    split
    · rename_i h
      exact ⟨by omega, fun q => by rw [h] at q; cases q⟩
    · rename_i h
      have e := ih.2 (by simpa using h)
      simp only [List.length_append, List.length_cons, List.length_nil]
      exact ⟨by omega, fun _ => by omega⟩
theorem rpt_stop {α : Type} {one : Cu → α × Cu} {c : Cu} {i : Nat} (h : (rpt one i c).2.2 = true) : ∀ m, i ≤ m → rpt one m c = rpt one i c
  | 0, hm => by obtain rfl := Nat.le_zero.1 hm; rfl
  | m + 1, hm => by
    by_cases q : i = m + 1
    · rw [q]
    · have ih := rpt_stop h m (by omega)
      rw [rpt, ih, if_pos h]
theorem rpt_next {α : Type} {one : Cu → α × Cu} {c : Cu} {i : Nat} (h : (rpt one i c).2.2 = false) : rpt one (i + 1) c = ((rpt one i c).1 ++ [(one (rpt one i c).2).1], (one (rpt one i c).2).2) := by
  rw [rpt, if_neg (by rw [h]; simp)]
theorem rpt_snd {α : Type} {xs : List Int} {one : Cu → α × Cu} {enc : α → List Int} {P : α → Prop} (h : Reads xs one enc P) {c : Cu} (hw : Win xs c) : ∀ i, (rpt one i c).2.2 = false → c.2 = false ∧ (∀ x ∈ (rpt one i c).1, P x) ∧ Took xs c.1 ((rpt one i c).1.flatMap enc) (rpt one i c).2.1
  | 0, e => ⟨e, fun x hx => by simp [rpt] at hx, Took.nil hw.1 hw.2⟩
  | i + 1, e => by
    cases q : (rpt one i c).2.2
    · rw [rpt_next q] at e ⊢
      obtain ⟨a1, a2, a3⟩ := h.snd _ (rpt_win h hw i) e
      obtain ⟨b1, b2, b3⟩ := rpt_snd h hw i q
      refine ⟨b1, fun x hx => ?_, ?_⟩
      · rcases List.mem_append.1 hx with hx | hx
        · exact b2 x hx
        · rw [List.mem_singleton.1 hx]; exact a2
      · rw [List.flatMap_append, List.flatMap_cons, List.flatMap_nil, List.append_nil]
        exact b3.app a3
    · rw [rpt_stop q (i + 1) (by omega), q] at e
      cases e
theorem rpt_cpl {α : Type} {xs : List Int} {one : Cu → α × Cu} {enc : α → List Int} {P : α → Prop} (h : Reads xs one enc P) {p q : Int} {l : List α} (hl : ∀ x ∈ l, P x) (ht : Took xs p (l.flatMap enc) q) : ∀ i, i ≤ l.length → rpt one i (p, false) = (l.take i, (p + ((l.take i).flatMap enc).length, false))
  | 0, _ => by simp [rpt]
  | i + 1, hi => by
    have ih := rpt_cpl h hl ht i (by omega)
    obtain ⟨z, hz⟩ : ∃ z, l[i]? = some z := ⟨_, List.getElem?_eq_getElem (by omega)⟩
    have e : l = l.take i ++ (z :: l.drop (i + 1)) := by
      conv => lhs; rw [← List.take_append_drop i l, List.drop_eq_getElem_cons (by omega)]
      rw [(List.getElem?_eq_some_iff.1 hz).2]
    have t1 : Took xs p ((l.take i).flatMap enc ++ (enc z ++ (l.drop (i + 1)).flatMap enc)) q := by
      rw [e] at ht
      simpa [List.flatMap_append] using ht
    obtain ⟨-, t2⟩ := t1.split
    obtain ⟨t3, -⟩ := t2.split
    have e2 := h.cpl _ _ _ (hl z (List.mem_of_getElem? hz)) t3
    rw [rpt_next (by rw [ih]), ih]
    simp only
    rw [e2, List.take_add_one, hz]
    simp only [Option.toList_some, List.flatMap_append, List.flatMap_cons, List.flatMap_nil, List.append_nil, List.length_append]
    congr 2
    omega
theorem Reads.lsR {α : Type} {xs : List Int} {one : Cu → α × Cu} {enc : α → List Int} {P : α → Prop} (hbd : ∀ z ∈ xs, 0 ≤ z ∧ z ≤ 255) (h : Reads xs one enc P) (most : Nat) (hm : most ≤ 2147483647) :
    Reads xs (lsR xs most one) (fun l => putN l.length ++ l.flatMap enc) (fun l => l.length ≤ most ∧ ∀ x ∈ l, P x) := by
  have hN := reads_num hbd
  refine ⟨fun c hw => ?_, fun c hw e => ?_, fun p q l hl ht => ?_⟩
  · have w1 := hN.win c hw
    unfold Go.Proofs.Ytjlocbimkfocnaa.lsR
    split
    · exact w1
    · split
      · exact rpt_win h w1 _
      · exact rpt_win h w1 _
  · have w1 := hN.win c hw
    unfold Go.Proofs.Ytjlocbimkfocnaa.lsR at e ⊢
    by_cases q1 : (most : Int) < (riN xs c).1
    · rw [if_pos q1] at e; cases e
    · rw [if_neg q1] at e ⊢
      by_cases q2 : (rpt one (riN xs c).1.toNat (riN xs c).2).2.2 = true
      · rw [if_pos q2] at e; cases e
      · rw [if_neg q2] at e ⊢
        obtain ⟨a1, a2, a3⟩ := rpt_snd h w1 _ e
        obtain ⟨b1, b2, b3⟩ := hN.snd c hw a1
        have hl := (rpt_len one (riN xs c).2 (riN xs c).1.toNat).2 e
        have hr : ((rpt one (riN xs c).1.toNat (riN xs c).2).1.length : Int) = (riN xs c).1 := by rw [hl]; have := b2.1; omega
        refine ⟨b1, ⟨by omega, a2⟩, ?_⟩
        rw [hr]
        exact b3.app a3
  · obtain ⟨t1, t2⟩ := ht.split
    have e1 := hN.cpl _ _ _ (len_rng (l := l) (by omega)) t1
    have e2 := rpt_cpl h hl.2 t2 l.length (Nat.le_refl _)
    rw [List.take_length] at e2
    unfold Go.Proofs.Ytjlocbimkfocnaa.lsR
    rw [e1]
    simp only [Int.toNat_natCast]
    rw [if_neg (by omega), e2]
    simp only
    rw [if_neg (by simp)]
    congr 2
    have := t2.len
    omega
theorem lsR_len {α : Type} {xs : List Int} {most : Nat} {one : Cu → α × Cu} {c : Cu} : (lsR xs most one c).1.length ≤ most := by
  unfold lsR
  split
  · simp
  · split
    · simp
    · have := (rpt_len one (riN xs c).2 (riN xs c).1.toNat).1
      omega
end Go.Proofs.Ytjlocbimkfocnaa

namespace Go.Proofs.Ytjlocbimkfocnaa
open Go.RowKit

def riF (xs : List Int) : Cu → Flr × Cu := riP (riN xs) (riN xs)
def riE (xs : List Int) (c : Cu) : Key × Cu :=
  (((riN xs c).1, (riN xs (riN xs c).2).1, (riN xs (riN xs (riN xs c).2).2).1, (riN xs (riN xs (riN xs (riN xs c).2).2).2).1, strOfNums (riT xs (riN xs (riN xs (riN xs (riN xs c).2).2).2).2).1),
    (riT xs (riN xs (riN xs (riN xs (riN xs c).2).2).2).2).2)
def riI (xs : List Int) : Cu → Itm × Cu := riP (riN xs) (riE xs)
def riS (xs : List Int) : Cu → (List Itm × List Flr) × Cu := riP (lsR xs 5 (riI xs)) (lsR xs 5 (riF xs))
noncomputable def riPt (xs : List Int) (c : Cu) : (List Itm × List Flr) × Cu :=
  ((sof (riT xs c).1).getD ([], []), ((riT xs c).2.1, (riT xs c).2.2 || !(sof (riT xs c).1).isSome))
section
variable {xs : List Int} (hbd : ∀ z ∈ xs, 0 ≤ z ∧ z ≤ 255)
include hbd
theorem reads_flr : Reads xs (riF xs) sbF RngF := by
  have h := (reads_num hbd).pair (reads_num hbd)
  refine ⟨h.win, fun c hw e => ?_, fun p q v hv ht => ?_⟩
  · obtain ⟨a, b, d⟩ := h.snd c hw e
    refine ⟨a, b, ?_⟩
    rw [sbF, nums_cons, nums_one]
    exact d
  · rw [sbF, nums_cons, nums_one] at ht
    exact h.cpl p q v hv ht
/-- The bytes of an entry. -/
theorem reads_ent : Reads xs (riE xs) (fun e => nums [e.1, e.2.1, e.2.2.1, e.2.2.2.1] ++ putT (bl e.2.2.2.2)) (fun e => Rng e.1 ∧ Rng e.2.1 ∧ Rng e.2.2.1 ∧ Rng e.2.2.2.1 ∧ e.2.2.2.2.size ≤ 2147483647) := by
  have hN := reads_num hbd
  have h := hN.pair (hN.pair (hN.pair (hN.pair (reads_text hbd))))
  have k := h.map (fun v => ((v.1, v.2.1, v.2.2.1, v.2.2.2.1, strOfNums v.2.2.2.2) : Key)) (fun e => nums [e.1, e.2.1, e.2.2.1, e.2.2.2.1] ++ putT (bl e.2.2.2.2)) (fun e => Rng e.1 ∧ Rng e.2.1 ∧ Rng e.2.2.1 ∧ Rng e.2.2.2.1 ∧ e.2.2.2.2.size ≤ 2147483647)
    (fun v hv => by
      obtain ⟨a, b, c, d, l⟩ := v
      obtain ⟨h1, h2, h3, h4, h5, h6⟩ := hv
      simp only at h1 h2 h3 h4 h5 h6 ⊢
      rw [bl_str _ h6]
      refine ⟨by simp [nums], h1, h2, h3, h4, ?_⟩
      have := bl_length (strOfNums l)
      rw [bl_str _ h6] at this
      omega)
    (fun e he => by
      obtain ⟨a, b, c, d, s⟩ := e
      obtain ⟨h1, h2, h3, h4, h5⟩ := he
      exact ⟨(a, b, c, d, bl s), ⟨h1, h2, h3, h4, by rw [bl_length]; exact h5, bl_bytes s⟩, by simp only [str_bl]⟩)
  exact k
theorem reads_itm : Reads xs (riI xs) sbI RngI := by
  have h := (reads_num hbd).pair (reads_ent hbd)
  have e1 : ∀ v : Itm, putN v.1 ++ (nums [v.2.1, v.2.2.1, v.2.2.2.1, v.2.2.2.2.1] ++ putT (bl v.2.2.2.2.2)) = sbI v := fun v => by simp [sbI, nums]
  refine ⟨h.win, fun c hw e => ?_, fun p q v hv ht => ?_⟩
  · obtain ⟨a, b, d⟩ := h.snd c hw e
    refine ⟨a, b, ?_⟩
    rw [← e1]
    exact d
  · rw [← e1] at ht
    exact h.cpl p q v hv ht
theorem reads_sta : Reads xs (riS xs) (fun s => sb s.1 s.2) (fun s => (s.1.length ≤ 5 ∧ ∀ x ∈ s.1, RngI x) ∧ (s.2.length ≤ 5 ∧ ∀ f ∈ s.2, RngF f)) := by
  have h := (Reads.lsR hbd (reads_itm hbd) 5 (by omega)).pair (Reads.lsR hbd (reads_flr hbd) 5 (by omega))
  have e1 : ∀ s : List Itm × List Flr, (putN s.1.length ++ s.1.flatMap sbI) ++ (putN s.2.length ++ s.2.flatMap sbF) = sb s.1 s.2 := fun s => by simp only [sb, sbIs, sbFs, List.append_assoc]
  refine ⟨h.win, fun c hw e => ?_, fun p q v hv ht => ?_⟩
  · obtain ⟨a, b, d⟩ := h.snd c hw e
    refine ⟨a, b, ?_⟩
    rw [← e1]
    exact d
  · rw [← e1] at ht
    exact h.cpl p q v hv ht
theorem reads_part : Reads xs (riPt xs) (fun s => putT (sb s.1 s.2)) (fun s => OkS s.1 s.2) := by
  have h := reads_text hbd
  refine ⟨fun c hw => h.win c hw, fun c hw e => ?_, fun p q v hv ht => ?_⟩
  · simp only [riPt, Bool.or_eq_false_iff, Bool.not_eq_false'] at e
    obtain ⟨a, b, d⟩ := h.snd c hw e.1
    obtain ⟨s, hs⟩ := Option.isSome_iff_exists.1 e.2
    have q := sof_is (xs := s.1) (fs := s.2) hs
    refine ⟨a, ?_, ?_⟩
    · simp only [riPt, hs, Option.getD_some]; exact q.1
    · simp only [riPt, hs, Option.getD_some]
      rw [q.2]
      exact d
  · have e := h.cpl p q (sb v.1 v.2) ⟨by have := sb_len hv; omega, fun z hz => sb_bytes _ _ z hz⟩ ht
    have hs := sof_some hv rfl
    unfold riPt
    rw [e]
    simp only
    rw [hs]
    rfl
/-- What is read whole and right is the state of these bytes; else there is none. -/
theorem sof_rd : sof xs = if ((riS xs (0, false)).2.2 = false ∧ (riS xs (0, false)).2.1 = xs.length) ∧ okS (riS xs (0, false)).1.1 (riS xs (0, false)).1.2 = true then some (riS xs (0, false)).1 else none := by
  have h := reads_sta hbd
  split
  · rename_i e
    obtain ⟨a, b, d⟩ := h.snd (0, false) ⟨by simp, by simp⟩ e.1.1
    simp only at d
    rw [e.1.2] at d
    exact sof_some ((okS_iff _ _).1 e.2) d.whole
  · rename_i e
    refine sof_none fun ys gs ho q => e ?_
    have hl := ho.len5
    have k := h.cpl 0 (xs.length : Int) (ys, gs) ⟨⟨hl.1, ho.rng.1⟩, ⟨hl.2, ho.rng.2⟩⟩ (by simp only; rw [q]; exact Took.of_whole)
    rw [k]
    exact ⟨⟨rfl, rfl⟩, (okS_iff _ _).2 ho⟩
end
/-! ### A message -/
/-- The numbers of the head; the tree; lists; the part; the marks: as they stand behind the sign. -/
noncomputable def riM (xs : List Int) (c : Cu) : Mg × Cu :=
  let k := riN xs c; let f := riN xs k.2; let t := riN xs f.2; let n := riN xs t.2; let h := riN xs n.2
  let tl := lsR xs 4 (riN xs) h.2; let tr := riN xs tl.2; let ve := lsR xs 5 (riN xs) tr.2; let le := lsR xs 4 (riN xs) ve.2
  let s := riPt xs le.2; let ma := lsR xs 5 (riF xs) s.2
  (⟨k.1, f.1, t.1, n.1, h.1, tl.1, tr.1, ve.1, le.1, s.1.1, s.1.2, ma.1⟩, ma.2)
/-- What stands behind the sign. -/
def encM (m : Mg) : List Int := nums [m.k, m.f, m.t, m.n, m.h] ++ lsB m.tl ++ putN m.tr ++ lsB m.ve ++ lsB m.le ++ (putN (sb m.its m.fls).length ++ sb m.its m.fls) ++ (putN m.ma.length ++ sbFs m.ma)
theorem bodyM_enc (m : Mg) : bodyM m = [82, 75] ++ encM m := by simp only [bodyM, encM, List.append_assoc]
structure RngM (m : Mg) : Prop where
  k : Rng m.k
  f : Rng m.f
  t : Rng m.t
  n : Rng m.n
  h : Rng m.h
  tl : m.tl.length ≤ 4 ∧ ∀ z ∈ m.tl, Rng z
  tr : Rng m.tr
  ve : m.ve.length ≤ 5 ∧ ∀ z ∈ m.ve, Rng z
  le : m.le.length ≤ 4 ∧ ∀ z ∈ m.le, Rng z
  st : OkS m.its m.fls
  ma : m.ma.length ≤ 5 ∧ ∀ f ∈ m.ma, RngF f
theorem OkM.rng {m : Mg} (h : OkM m) : RngM m := by
  have nr : ∀ {ns : List Int} {most : Nat} {hi : Int}, hi ≤ 2147483647 → nmOk ns most hi = true → ∀ z ∈ ns, Rng z := fun hi h z hz => by
    have := (nmOk_iff.1 h).2 z hz
    exact ⟨by omega, by omega⟩
  exact ⟨inB_rng h.k (by omega) (by omega), inB_rng h.f (by omega) (by omega), inB_rng h.t (by omega) (by omega), inB_rng h.n (by omega) (by omega), inB_rng h.h (by omega) (by omega),
    ⟨trOk_len h.tr, (trOk_rng h.tr).1⟩, (trOk_rng h.tr).2, ⟨(nmOk_iff.1 h.ve).1, nr (by omega) h.ve⟩, ⟨(nmOk_iff.1 h.le).1, nr (by omega) h.le⟩, h.st, ⟨gF_len h.ma, gF_rng h.ma⟩⟩
theorem nums_flat (ns : List Int) : ns.flatMap putN = nums ns := rfl
section
variable {xs : List Int} (hbd : ∀ z ∈ xs, 0 ≤ z ∧ z ≤ 255)
include hbd
theorem reads_msg : Reads xs (riM xs) encM RngM := by
  have hN := reads_num hbd
  have hL4 := Reads.lsR hbd hN 4 (by omega)
  have hL5 := Reads.lsR hbd hN 5 (by omega)
  have hK := Reads.lsR hbd (reads_flr hbd) 5 (by omega)
  have h := hN.pair (hN.pair (hN.pair (hN.pair (hN.pair (hL4.pair (hN.pair (hL5.pair (hL4.pair ((reads_part hbd).pair hK)))))))))
  have k := h.map (fun v => (⟨v.1, v.2.1, v.2.2.1, v.2.2.2.1, v.2.2.2.2.1, v.2.2.2.2.2.1, v.2.2.2.2.2.2.1, v.2.2.2.2.2.2.2.1, v.2.2.2.2.2.2.2.2.1, v.2.2.2.2.2.2.2.2.2.1.1, v.2.2.2.2.2.2.2.2.2.1.2, v.2.2.2.2.2.2.2.2.2.2⟩ : Mg)) encM RngM
    (fun v hv => by
      obtain ⟨a, b, c, d, e, tl, tr, ve, le, s, ma⟩ := v
      obtain ⟨h1, h2, h3, h4, h5, h6, h7, h8, h9, h10, h11⟩ := hv
      refine ⟨?_, ⟨h1, h2, h3, h4, h5, h6, h7, h8, h9, h10, h11⟩⟩
      simp only [encM, lsB, nums_cons, putT, List.append_assoc]
      rfl)
    (fun m hm => ⟨(m.k, m.f, m.t, m.n, m.h, m.tl, m.tr, m.ve, m.le, (m.its, m.fls), m.ma), ⟨hm.k, hm.f, hm.t, hm.n, hm.h, hm.tl, hm.tr, hm.ve, hm.le, hm.st, hm.ma⟩, rfl⟩)
  exact k
end
/-- What stands between the sign and the seal, where both are right. -/
def bdy (b : List Int) : Option (List Int) := if 4 ≤ b.length ∧ b.drop (b.length - 4) = sumB (crcOf (b.take (b.length - 4))) ∧ [82, 75] <+: b.take (b.length - 4) then some ((b.take (b.length - 4)).drop 2) else none
theorem mof_none_of {b : List Int} (h : bdy b = none) : mof b = none := by
  refine mof_none fun m hm e => ?_
  rw [msB, if_pos ((okM_iff m).2 hm)] at e
  have hl : b.length = (bodyM m).length + 4 := by rw [← e, List.length_append, sumB_len]
  have e1 : b.take (b.length - 4) = bodyM m := by rw [hl, Nat.add_sub_cancel, ← e, List.take_left]
  have e2 : b.drop (b.length - 4) = sumB (crcOf (bodyM m)) := by rw [hl, Nat.add_sub_cancel, ← e, List.drop_left]
  unfold bdy at h
  rw [if_pos ⟨by omega, by rw [e1, e2], by rw [e1, bodyM_enc]; exact ⟨_, rfl⟩⟩] at h
  cases h
/-- What is read whole and right is the message of these bytes; else there is none. -/
theorem mof_rd {b xs : List Int} (hbd : ∀ z ∈ b, 0 ≤ z ∧ z ≤ 255) (h : bdy b = some xs) : mof b = if ((riM xs (0, false)).2.2 = false ∧ (riM xs (0, false)).2.1 = xs.length) ∧ okM (riM xs (0, false)).1 = true then some (riM xs (0, false)).1 else none := by
  unfold bdy at h
  split at h
  · rename_i hc
    obtain ⟨h4, hs, t, ht⟩ := hc
    simp only [Option.some.injEq] at h
    rw [← ht] at h
    have hx : t = xs := by simpa using h
    subst hx
    have hbx : ∀ z ∈ t, 0 ≤ z ∧ z ≤ 255 := fun z hz => hbd z (List.mem_of_mem_take (by rw [← ht]; exact List.mem_append_right _ hz))
    have hR := reads_msg hbx
    have hb : b = ([82, 75] ++ t) ++ sumB (crcOf ([82, 75] ++ t)) := by
      conv => lhs; rw [← List.take_append_drop (b.length - 4) b]
      rw [hs, ← ht]
    split
    · rename_i e
      obtain ⟨a, c, d⟩ := hR.snd (0, false) ⟨by simp, by simp⟩ e.1.1
      simp only at d
      rw [e.1.2] at d
      refine mof_some ((okM_iff _).1 e.2) ?_
      rw [msB, if_pos e.2, bodyM_enc, d.whole, ← hb]
    · rename_i e
      refine mof_none fun m hm q => e ?_
      rw [msB, if_pos ((okM_iff m).2 hm), hb] at q
      have q1 := (List.append_inj' q (by rw [sumB_len, sumB_len])).1
      rw [bodyM_enc] at q1
      have q2 := List.append_cancel_left q1
      have k := hR.cpl 0 (t.length : Int) m hm.rng (by rw [q2]; exact Took.of_whole)
      rw [k]
      exact ⟨⟨rfl, rfl⟩, (okM_iff m).2 hm⟩
  · cases h
end Go.Proofs.Ytjlocbimkfocnaa

namespace Go.Proofs.Ytjlocbimkfocnaa
open Go.RowKit

/-- A number is read at the cursor (a place, and whether something did not fit). -/
def rdN (xs : List Int) (c : Int × Bool) : Int × (Int × Bool) := if c.2 = true then (0, (c.1, true)) else match getN xs c.1 with
  | some (n, q) => (n, (q, false))
  | none => (0, (c.1, true))
theorem rdN_at {xs pre post : List Int} {n : Int} (h : xs = pre ++ (putN n ++ post)) (hn : Rng n) : rdN xs ((pre.length : Int), false) = (n, (((pre ++ putN n).length : Int), false)) := by
  unfold rdN
  rw [if_neg (by simp), getN_at h hn]
def rdI (xs : List Int) : Nat → Int × Bool → List Int × (Int × Bool)
  | 0, c => ([], c)
  | i + 1, c => if (rdI xs i c).2.2 = true then rdI xs i c else ((rdI xs i c).1 ++ [(rdN xs (rdI xs i c).2).1], (rdN xs (rdI xs i c).2).2)
theorem rdI_at {xs pre post ns : List Int} (h : xs = pre ++ (nums ns ++ post)) (hn : ∀ z ∈ ns, Rng z) : ∀ i, i ≤ ns.length → rdI xs i ((pre.length : Int), false) = (ns.take i, (((pre ++ nums (ns.take i)).length : Int), false))
  | 0, _ => by simp [rdI, nums]
  | i + 1, hi => by
    have ih := rdI_at h hn i (by omega)
    obtain ⟨z, hz⟩ : ∃ z, ns[i]? = some z := ⟨_, List.getElem?_eq_getElem (by omega)⟩
    have e : xs = (pre ++ nums (ns.take i)) ++ (putN z ++ (nums (ns.drop (i + 1)) ++ post)) := by
      rw [h]
      conv => lhs; rw [← List.take_append_drop i ns, List.drop_eq_getElem_cons (by omega)]
      rw [(List.getElem?_eq_some_iff.1 hz).2]
      simp [nums]
    rw [rdI, ih]
    rw [if_neg (by simp), rdN_at e (hn z (List.mem_of_getElem? hz)), nums_take hz, List.append_assoc]
    rw [List.take_add_one, hz]
    rfl
/-- A list of numbers is read, so many times as many as its head says. -/
def rdL (xs : List Int) (t : Nat) (c : Int × Bool) : List Int × (Int × Bool) := if 100 < (rdN xs c).1 then ([], ((rdN xs c).2.1, true)) else rdI xs ((rdN xs c).1.toNat * t) (rdN xs c).2
theorem rdL_at {xs pre post ns : List Int} {m t : Nat} (h : xs = pre ++ (putN (m : Int) ++ (nums ns ++ post))) (hm : m ≤ 100) (hl : ns.length = m * t) (hn : ∀ z ∈ ns, Rng z) :
    rdL xs t ((pre.length : Int), false) = (ns, (((pre ++ putN (m : Int) ++ nums ns).length : Int), false)) := by
  unfold rdL
  rw [rdN_at h ⟨by omega, by omega⟩, if_neg (by simp only; omega)]
  have e : xs = (pre ++ putN (m : Int)) ++ (nums ns ++ post) := by rw [h]; simp
  simp only [Int.toNat_natCast]
  rw [← hl, rdI_at e hn _ (Nat.le_refl _), List.take_length]
/-- An item is read. -/
def rdT (xs : List Int) (c : Int × Bool) : Option (Itm × (Int × Bool)) :=
  if (rdN xs (rdN xs (rdN xs (rdN xs (rdN xs c).2).2).2).2).2.2 = true then none else match getT xs (rdN xs (rdN xs (rdN xs (rdN xs (rdN xs c).2).2).2).2).2.1 with
  | none => none
  | some (l, q) => some (((rdN xs c).1, ((rdN xs (rdN xs c).2).1, (rdN xs (rdN xs (rdN xs c).2).2).1, (rdN xs (rdN xs (rdN xs (rdN xs c).2).2).2).1, (rdN xs (rdN xs (rdN xs (rdN xs (rdN xs c).2).2).2).2).1, strOfNums l)), (q, false))
theorem rdT_at {xs pre post : List Int} {x : Itm} (h : xs = pre ++ (sbI x ++ post)) (hx : RngI x) : rdT xs ((pre.length : Int), false) = some (x, (((pre ++ sbI x).length : Int), false)) := by
  obtain ⟨x1, x2, x3, x4, x5, x6⟩ := x
  obtain ⟨a1, a2, a3, a4, a5, a6⟩ := hx
  simp only at a1 a2 a3 a4 a5 a6
  have e : sbI (x1, (x2, x3, x4, x5, x6)) = putN x1 ++ (putN x2 ++ (putN x3 ++ (putN x4 ++ (putN x5 ++ putT (bl x6))))) := by simp [sbI, nums]
  rw [e] at h ⊢
  have h1 : xs = pre ++ (putN x1 ++ (putN x2 ++ (putN x3 ++ (putN x4 ++ (putN x5 ++ (putT (bl x6) ++ post)))))) := by rw [h]; simp
  have h2 : xs = (pre ++ putN x1) ++ (putN x2 ++ (putN x3 ++ (putN x4 ++ (putN x5 ++ (putT (bl x6) ++ post))))) := by rw [h]; simp
  have h3 : xs = (pre ++ putN x1 ++ putN x2) ++ (putN x3 ++ (putN x4 ++ (putN x5 ++ (putT (bl x6) ++ post)))) := by rw [h]; simp
  have h4 : xs = (pre ++ putN x1 ++ putN x2 ++ putN x3) ++ (putN x4 ++ (putN x5 ++ (putT (bl x6) ++ post))) := by rw [h]; simp
  have h5 : xs = (pre ++ putN x1 ++ putN x2 ++ putN x3 ++ putN x4) ++ (putN x5 ++ (putT (bl x6) ++ post)) := by rw [h]; simp
  have h6 : xs = (pre ++ putN x1 ++ putN x2 ++ putN x3 ++ putN x4 ++ putN x5) ++ (putT (bl x6) ++ post) := by rw [h]; simp
  have g1 := rdN_at h1 a1
  have g2 := rdN_at h2 a2
  have g3 := rdN_at h3 a3
  have g4 := rdN_at h4 a4
  have g5 := rdN_at h5 a5
  have g6 := getT_mid h6 (by rw [bl_length]; exact a6)
  unfold rdT
  rw [g1]; simp only
  rw [g2]; simp only
  rw [g3]; simp only
  rw [g4]; simp only
  rw [g5]; simp only
  rw [if_neg (by simp), g6]
  simp only [str_bl]
  simp
def rdIs (xs : List Int) : Nat → Int × Bool → Option (List Itm × (Int × Bool))
  | 0, c => some ([], c)
  | k + 1, c => match rdIs xs k c with
    | none => none
    | some (l, d) => match rdT xs d with
      | none => none
      | some (x, e) => some (l ++ [x], e)
theorem rdIs_at {xs pre post : List Int} {its : List Itm} (h : xs = pre ++ (sbIs its ++ post)) (hx : ∀ x ∈ its, RngI x) : ∀ k, k ≤ its.length → rdIs xs k ((pre.length : Int), false) = some (its.take k, (((pre ++ sbIs (its.take k)).length : Int), false))
  | 0, _ => by simp [rdIs, sbIs]
  | k + 1, hk => by
    have ih := rdIs_at h hx k (by omega)
    obtain ⟨z, hz⟩ : ∃ z, its[k]? = some z := ⟨_, List.getElem?_eq_getElem (by omega)⟩
    have e : xs = (pre ++ sbIs (its.take k)) ++ (sbI z ++ (sbIs (its.drop (k + 1)) ++ post)) := by
      rw [h]
      conv => lhs; rw [← List.take_append_drop k its, List.drop_eq_getElem_cons (by omega)]
      rw [(List.getElem?_eq_some_iff.1 hz).2]
      simp [sbIs]
    rw [rdIs, ih]
    simp only
    rw [rdT_at e (hx z (List.mem_of_getElem? hz))]
    simp only
    rw [sbIs_take hz, List.append_assoc, List.take_add_one, hz]
    rfl
theorem rdIs_down {xs : List Int} {c : Int × Bool} : ∀ {k m : Nat}, k ≤ m → rdIs xs k c = none → rdIs xs m c = none
  | 0, 0, _, e => e
  | k + 1, 0, h, _ => by omega
  | k, m + 1, h, e => by
    by_cases q : k = m + 1
    · rw [← q]; exact e
    · rw [rdIs, rdIs_down (k := k) (m := m) (by omega) e]
/-- The numbers of a list of pairs, and pairs out of numbers. -/
def flF (fs : List Flr) : List Int := fs.flatMap fun f => [f.1, f.2]
def prF2 : List Int → List Flr
  | a :: b :: r => (a, b) :: prF2 r
  | _ => []
theorem prF2_fl : ∀ fs : List Flr, prF2 (flF fs) = fs
  | [] => rfl
  | f :: r => by rw [show flF (f :: r) = f.1 :: f.2 :: flF r from rfl, prF2, prF2_fl r]
theorem prF2_at : ∀ {ns : List Int} {j : Nat} {x y : Int}, ns[2 * j]? = some x → ns[2 * j + 1]? = some y → (prF2 ns)[j]? = some (x, y)
  | a :: b :: r, 0, x, y, h1, h2 => by
    simp at h1 h2
    rw [prF2, h1, h2]; rfl
  | a :: b :: r, j + 1, x, y, h1, h2 => by
    rw [show 2 * (j + 1) = 2 * j + 1 + 1 by omega, List.getElem?_cons_succ, List.getElem?_cons_succ] at h1
    rw [show 2 * (j + 1) + 1 = (2 * j + 1) + 1 + 1 by omega, List.getElem?_cons_succ, List.getElem?_cons_succ] at h2
    rw [prF2, List.getElem?_cons_succ]
    exact prF2_at h1 h2
  | [], j, x, y, h1, _ => by simp at h1
  | [a], j, x, y, _, h2 => by simp at h2
theorem prF2_len : ∀ ns : List Int, (prF2 ns).length = ns.length / 2
  | [] => rfl
  | [a] => by simp [prF2]
  | a :: b :: r => by rw [prF2, List.length_cons, prF2_len r, List.length_cons, List.length_cons]; omega
theorem flF_len : ∀ fs : List Flr, (flF fs).length = fs.length * 2
  | [] => rfl
  | f :: r => by rw [show flF (f :: r) = f.1 :: f.2 :: flF r from rfl, List.length_cons, List.length_cons, flF_len r, List.length_cons]; omega
theorem sbFs_fl : ∀ fs : List Flr, sbFs fs = nums (flF fs)
  | [] => rfl
  | f :: r => by
    rw [show flF (f :: r) = f.1 :: f.2 :: flF r from rfl, nums_cons, nums_cons, ← sbFs_fl r, show sbFs (f :: r) = sbF f ++ sbFs r from rfl, sbF, nums_cons, nums_one, List.append_assoc]
theorem flF_rng {fs : List Flr} (h : ∀ f ∈ fs, RngF f) : ∀ z ∈ flF fs, Rng z := fun z hz => by
  obtain ⟨f, hf, hz⟩ := List.mem_flatMap.1 hz
  simp at hz
  rcases hz with rfl | rfl
  · exact (h f hf).1
  · exact (h f hf).2
/-- Right state's bytes are read as they were put. -/
theorem sb_reads {xs : List Int} {its : List Itm} {fls : List Flr} (ho : OkS its fls) (h : sb its fls = xs) :
    rdN xs (0, false) = ((its.length : Int), (((putN (its.length : Int)).length : Int), false)) ∧
    (∀ k, k ≤ its.length → rdIs xs k (((putN (its.length : Int)).length : Int), false) = some (its.take k, (((putN (its.length : Int) ++ sbIs (its.take k)).length : Int), false))) ∧
    rdL xs 2 (((putN (its.length : Int) ++ sbIs its).length : Int), false) = (flF fls, ((xs.length : Int), false)) := by
  have hl := ho.len5
  have hr := ho.rng
  have e : xs = putN (its.length : Int) ++ (sbIs its ++ (putN (fls.length : Int) ++ nums (flF fls))) := by rw [← h, sb, sbFs_fl]; simp
  refine ⟨?_, ?_, ?_⟩
  · have := rdN_at (pre := []) (xs := xs) (n := (its.length : Int)) (by rw [e]; rfl) ⟨by omega, by omega⟩
    simpa using this
  · exact rdIs_at e hr.1
  · have e2 : xs = (putN (its.length : Int) ++ sbIs its) ++ (putN (fls.length : Int) ++ (nums (flF fls) ++ [])) := by rw [e]; simp
    have := rdL_at (t := 2) e2 (by omega) (flF_len fls) (flF_rng hr.2)
    rw [this]
    congr 3
    rw [e2]; simp
end Go.Proofs.Ytjlocbimkfocnaa
