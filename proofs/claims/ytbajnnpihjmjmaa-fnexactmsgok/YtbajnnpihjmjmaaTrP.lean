/-
  The tree of sums as functions on lists: leaves, slices, bytes, sums. No program here, no statement is proved here.
-/
import Derived.Test.YtbajnnpihjmjmaaVwP
import Derived.Test.YtbajnnpihjmjmaaPutB
import Derived.Test.YtbajnnpihjmjmaaCrcP
namespace Go.Proofs.Ytbajnnpihjmjmaa
open Go.RowKit

/-- The leaf of a node. -/
def lf (id : Int) : Int := if inB id 0 4 = true then crcOf (putN id) % 4 else -1
theorem lf_in {id : Int} (h : inB id 0 4 = true) : lf id = crcOf (putN id) % 4 ∧ 0 ≤ lf id ∧ lf id ≤ 3 := by
  have e : lf id = crcOf (putN id) % 4 := by rw [lf, if_pos h]
  rw [e]
  refine ⟨rfl, by omega, by omega⟩
theorem lf_out {id : Int} (h : inB id 0 4 = false) : lf id = -1 := by rw [lf, h]; rfl
theorem lf_nn (id : Int) : decide (0 ≤ lf id) = inB id 0 4 := by
  cases h : inB id 0 4
  · rw [lf_out h]; rfl
  · have := lf_in h; simp; omega
theorem lf_range (id : Int) : -1 ≤ lf id ∧ lf id ≤ 3 := by
  cases h : inB id 0 4
  · rw [lf_out h]; omega
  · have := lf_in h; omega

/-- Whether a number stands in a list. -/
def hasN (ls : List Int) (x : Int) : Bool := ls.any fun y => y == x
theorem hasN_iff {ls : List Int} {x : Int} : hasN ls x = true ↔ x ∈ ls := by simp [hasN]
theorem hasN_one {k x : Int} : hasN [k] x = (k == x) := by simp [hasN]
/-- The part of a state that lies in some leaves. -/
def slI (ls : List Int) (xs : List Itm) : List Itm := xs.filter fun x => hasN ls (lf x.1)
def slF (ls : List Int) (fs : List Flr) : List Flr := fs.filter fun f => hasN ls (lf f.1)
theorem find_sl {α : Type} (p : Int → Bool) (id : Int) : ∀ xs : List (Int × α), (xs.filter fun x => p x.1).find? (fun x => x.1 == id) = if p id = true then xs.find? (fun x => x.1 == id) else none
  | [] => by simp
  | x :: r => by
    have ih := find_sl p id r
    by_cases hx : x.1 = id
    · subst hx
      by_cases hp : p x.1 = true
      · simp [hp]
      · rw [List.filter_cons, if_neg hp, ih, if_neg hp, if_neg hp]
    · have hn : (x.1 == id) = false := by simpa using hx
      by_cases hp : p x.1 = true
      · rw [List.filter_cons, if_pos hp, List.find?_cons, List.find?_cons, hn]; exact ih
      · rw [List.filter_cons, if_neg hp, List.find?_cons, hn]; exact ih
theorem ent_sl (ls : List Int) (xs : List Itm) (id : Int) : ent (slI ls xs) id = if hasN ls (lf id) = true then ent xs id else none := by
  unfold ent slI
  rw [find_sl (fun i => hasN ls (lf i)) id xs]
  split <;> rfl
theorem flo_sl (ls : List Int) (fs : List Flr) (id : Int) : flo (slF ls fs) id = if hasN ls (lf id) = true then flo fs id else 0 := by
  unfold flo slF
  rw [find_sl (fun i => hasN ls (lf i)) id fs]
  split <;> rfl
theorem OkS.slice {xs : List Itm} {fs : List Flr} (h : OkS xs fs) (ls : List Int) : OkS (slI ls xs) (slF ls fs) := by
  refine ⟨h.px.sublist List.filter_sublist, h.pf.sublist List.filter_sublist, fun x hx => ?_, fun f hf => h.jf f (List.mem_filter.1 hf).1⟩
  obtain ⟨m, hp⟩ := List.mem_filter.1 hx
  have := h.ix x m
  refine ⟨this.1, this.2.1, this.2.2.1, ?_⟩
  rw [flo_sl, if_pos hp]
  exact this.2.2.2
theorem slI_len (ls : List Int) (xs : List Itm) : (slI ls xs).length ≤ xs.length := List.length_filter_le _ _
theorem slF_len (ls : List Int) (fs : List Flr) : (slF ls fs).length ≤ fs.length := List.length_filter_le _ _
theorem slI_pos {ls : List Int} {xs : List Itm} {k : Nat} {x : Itm} (hx : xs[k]? = some x) (h : hasN ls (lf x.1) = true) : slI ls (xs.take (k + 1)) = slI ls (xs.take k) ++ [x] := by
  rw [slI, take_filter hx, if_pos h]; rfl
theorem slI_neg {ls : List Int} {xs : List Itm} {k : Nat} {x : Itm} (hx : xs[k]? = some x) (h : hasN ls (lf x.1) = false) : slI ls (xs.take (k + 1)) = slI ls (xs.take k) := by
  rw [slI, take_filter hx, if_neg (by simp [h]), List.append_nil]; rfl
theorem slF_pos {ls : List Int} {xs : List Flr} {k : Nat} {x : Flr} (hx : xs[k]? = some x) (h : hasN ls (lf x.1) = true) : slF ls (xs.take (k + 1)) = slF ls (xs.take k) ++ [x] := by
  rw [slF, take_filter hx, if_pos h]; rfl
theorem slF_neg {ls : List Int} {xs : List Flr} {k : Nat} {x : Flr} (hx : xs[k]? = some x) (h : hasN ls (lf x.1) = false) : slF ls (xs.take (k + 1)) = slF ls (xs.take k) := by
  rw [slF, take_filter hx, if_neg (by simp [h]), List.append_nil]; rfl
theorem slI_k {ls : List Int} {xs : List Itm} {k : Nat} : (slI ls (xs.take k)).length ≤ k := Nat.le_trans (slI_len _ _) (by simp; omega)
theorem slF_k {ls : List Int} {xs : List Flr} {k : Nat} : (slF ls (xs.take k)).length ≤ k := Nat.le_trans (slF_len _ _) (by simp; omega)
/-- What is sliced of a state: of one that is not right, nothing. -/
def scI (ok : Bool) (ls : List Int) (xs : List Itm) : List Itm := if ok = true then slI ls xs else []
def scF (ok : Bool) (ls : List Int) (fs : List Flr) : List Flr := if ok = true then slF ls fs else []
theorem scI_len (ok : Bool) (ls : List Int) (xs : List Itm) : (scI ok ls xs).length ≤ xs.length := by
  cases ok
  · simp [scI]
  · exact slI_len _ _
theorem scF_len (ok : Bool) (ls : List Int) (fs : List Flr) : (scF ok ls fs).length ≤ fs.length := by
  cases ok
  · simp [scF]
  · exact slF_len _ _

/-- Numbers as bytes, one behind the other; an item's bytes, a floor's, a state's. -/
def nums (ns : List Int) : List Int := ns.flatMap putN
theorem nums_nil : nums [] = [] := rfl
theorem nums_cons (n : Int) (ns : List Int) : nums (n :: ns) = putN n ++ nums ns := by simp [nums]
theorem nums_one (n : Int) : nums [n] = putN n := by simp [nums]
theorem nums_take {ns : List Int} {k : Nat} {n : Int} (h : ns[k]? = some n) : nums (ns.take (k + 1)) = nums (ns.take k) ++ putN n := by
  rw [nums, List.take_add_one, h, List.flatMap_append]; simp [nums]
theorem nums_len (ns : List Int) : (nums ns).length ≤ ns.length * 5 := by
  induction ns with
  | nil => simp [nums]
  | cons n r ih =>
    rw [nums_cons, List.length_append, List.length_cons]
    have := putN_length n
    omega
theorem nums_bytes (ns : List Int) : ∀ z ∈ nums ns, 0 ≤ z ∧ z ≤ 255 := by
  intro z hz
  obtain ⟨n, _, h⟩ := List.mem_flatMap.1 hz
  exact putN_bytes n z h
def sbI (x : Itm) : List Int := nums [x.1, x.2.1, x.2.2.1, x.2.2.2.1, x.2.2.2.2.1] ++ putT (bl x.2.2.2.2.2)
def sbF (f : Flr) : List Int := nums [f.1, f.2]
def sbIs (xs : List Itm) : List Int := xs.flatMap sbI
def sbFs (fs : List Flr) : List Int := fs.flatMap sbF
def sb (xs : List Itm) (fs : List Flr) : List Int := (putN xs.length ++ sbIs xs) ++ (putN fs.length ++ sbFs fs)
theorem sbIs_take {xs : List Itm} {k : Nat} {x : Itm} (h : xs[k]? = some x) : sbIs (xs.take (k + 1)) = sbIs (xs.take k) ++ sbI x := by
  rw [sbIs, List.take_add_one, h, List.flatMap_append]; simp [sbIs]
theorem sbFs_take {xs : List Flr} {k : Nat} {x : Flr} (h : xs[k]? = some x) : sbFs (xs.take (k + 1)) = sbFs (xs.take k) ++ sbF x := by
  rw [sbFs, List.take_add_one, h, List.flatMap_append]; simp [sbFs]
theorem putT_len (l : List Int) : (putT l).length ≤ 5 + l.length := by
  rw [putT, List.length_append]
  have := putN_length l.length
  omega
theorem sbI_bytes (x : Itm) : ∀ z ∈ sbI x, 0 ≤ z ∧ z ≤ 255 := by
  intro z hz
  rcases List.mem_append.1 hz with h | h
  · exact nums_bytes _ z h
  · exact putT_bytes _ (bl_bytes _) z h
theorem sb_bytes (xs : List Itm) (fs : List Flr) : ∀ z ∈ sb xs fs, 0 ≤ z ∧ z ≤ 255 := by
  intro z hz
  rcases List.mem_append.1 hz with h | h
  · rcases List.mem_append.1 h with h | h
    · exact putN_bytes _ z h
    · obtain ⟨x, _, h⟩ := List.mem_flatMap.1 h
      exact sbI_bytes x z h
  · rcases List.mem_append.1 h with h | h
    · exact putN_bytes _ z h
    · obtain ⟨x, _, h⟩ := List.mem_flatMap.1 h
      exact nums_bytes _ z h
theorem sbI_len {x : Itm} (h : x.2.2.2.2.2.size ≤ 8) : (sbI x).length ≤ 38 := by
  rw [sbI, List.length_append]
  have h1 := nums_len [x.1, x.2.1, x.2.2.1, x.2.2.2.1, x.2.2.2.2.1]
  have h2 := putT_len (bl x.2.2.2.2.2)
  rw [bl_length] at h2
  simp at h1
  omega
theorem sbIs_len : ∀ {xs : List Itm}, (∀ x ∈ xs, x.2.2.2.2.2.size ≤ 8) → (sbIs xs).length ≤ xs.length * 38
  | [], _ => by simp [sbIs]
  | x :: r, h => by
    have h1 := sbI_len (h x (by simp))
    have h2 := sbIs_len (xs := r) (fun y hy => h y (by simp [hy]))
    have e : sbIs (x :: r) = sbI x ++ sbIs r := by simp [sbIs]
    rw [e, List.length_append, List.length_cons]
    omega
theorem sbFs_len : ∀ fs : List Flr, (sbFs fs).length ≤ fs.length * 10
  | [] => by simp [sbFs]
  | x :: r => by
    have h2 := sbFs_len r
    have h1 := nums_len [x.1, x.2]
    have e : sbFs (x :: r) = sbF x ++ sbFs r := by simp [sbFs]
    rw [e, List.length_append, List.length_cons, sbF]
    simp at h1
    omega
theorem OkS.small {xs : List Itm} {fs : List Flr} (h : OkS xs fs) : ∀ x ∈ xs, x.2.2.2.2.2.size ≤ 8 := fun x hx => okE_size (h.ix x hx).2.2.1
theorem sb_len {xs : List Itm} {fs : List Flr} (h : OkS xs fs) : (sb xs fs).length ≤ 250 := by
  have h1 := h.len5
  have h2 := sbIs_len h.small
  have h3 := sbFs_len fs
  have h4 := putN_length xs.length
  have h5 := putN_length fs.length
  rw [sb, List.length_append, List.length_append, List.length_append]
  omega
def sbS (xs : List Itm) (fs : List Flr) : List Int := if okS xs fs = true then sb xs fs else []
theorem sbS_len (xs : List Itm) (fs : List Flr) : (sbS xs fs).length ≤ 250 := by
  unfold sbS; split
  · rename_i h; exact sb_len ((okS_iff _ _).1 h)
  · simp
theorem sbS_bytes (xs : List Itm) (fs : List Flr) : ∀ z ∈ sbS xs fs, 0 ≤ z ∧ z ≤ 255 := by
  unfold sbS; split
  · exact sb_bytes _ _
  · intro z hz; simp at hz

/-- The sum of a leaf, of a tree's leaves, a tree. -/
def lsm (xs : List Itm) (fs : List Flr) (k : Int) : Int := if (okS xs fs && inB k 0 3) = true then crcOf (sb (slI [k] xs) (slF [k] fs)) % 1024 else 0
def rt (ls : List Int) : Int := crcOf (nums ls) % 1024
def trL (xs : List Itm) (fs : List Flr) : List Int := if okS xs fs = true then [lsm xs fs 0, lsm xs fs 1, lsm xs fs 2, lsm xs fs 3] else []
def trR (xs : List Itm) (fs : List Flr) : Int := if okS xs fs = true then rt [lsm xs fs 0, lsm xs fs 1, lsm xs fs 2, lsm xs fs 3] else 0
theorem lsm_range (xs : List Itm) (fs : List Flr) (k : Int) : 0 ≤ lsm xs fs k ∧ lsm xs fs k < 1024 := by
  unfold lsm
  split
  · omega
  · omega
theorem rt_range (ls : List Int) : 0 ≤ rt ls ∧ rt ls < 1024 := by
  rw [rt]
  omega
theorem trR_range (xs : List Itm) (fs : List Flr) : 0 ≤ trR xs fs ∧ trR xs fs < 1024 := by
  unfold trR; split
  · exact rt_range _
  · omega
theorem trL_at {xs : List Itm} {fs : List Flr} (h : okS xs fs = true) {k : Nat} (hk : k < 4) : (trL xs fs)[k]? = some (lsm xs fs k) := by
  rw [trL, if_pos h]
  rcases (by omega : k = 0 ∨ k = 1 ∨ k = 2 ∨ k = 3) with rfl | rfl | rfl | rfl <;> rfl
theorem trL_len (xs : List Itm) (fs : List Flr) : (trL xs fs).length = if okS xs fs = true then 4 else 0 := by
  unfold trL; split <;> rfl

/-- A tree that is touched where a node turned. -/
def tcOk (ts : List Int) (xs : List Itm) (fs : List Flr) (id : Int) : Bool := okS xs fs && inB id 0 4 && (ts.length == 4)
def tcL (ts : List Int) (xs : List Itm) (fs : List Flr) (id : Int) : List Int := if tcOk ts xs fs id = true then ts.set (lf id).toNat (lsm xs fs (lf id)) else ts
def tcR (ts : List Int) (r : Int) (xs : List Itm) (fs : List Flr) (id : Int) : Int := if tcOk ts xs fs id = true then rt (ts.set (lf id).toNat (lsm xs fs (lf id))) else r
/-- Where two trees are not the same. -/
def dfP (ts us : List Int) (k : Int) : Bool := !(ts.length == 4) || !(us.length == 4) || (ts.getD k.toNat 0 != us.getD k.toNat 0)
def dfL (ts : List Int) (r : Int) (us : List Int) (q : Int) : List Int := if r = q then [] else ([0, 1, 2, 3] : List Int).filter (dfP ts us)

/-! ### What the laws say -/
theorem slI_all {xs : List Itm} {fs : List Flr} (h : OkS xs fs) : slI [0, 1, 2, 3] xs = xs ∧ slF [0, 1, 2, 3] fs = fs := by
  have key : ∀ id : Int, 0 ≤ id → id ≤ 4 → hasN [0, 1, 2, 3] (lf id) = true := fun id h0 h1 => by
    have := lf_in (inB_iff.2 ⟨h0, h1⟩)
    rw [hasN_iff]
    simp
    omega
  exact ⟨List.filter_eq_self.2 fun x hx => key x.1 (h.ix x hx).1 (h.ix x hx).2.1, List.filter_eq_self.2 fun f hf => key f.1 (h.jf f hf).1 (h.jf f hf).2.1⟩
theorem hasN_app (A B : List Int) (x : Int) : hasN (A ++ B) x = (hasN A x || hasN B x) := by simp [hasN]
theorem OkS.slice_join {xs : List Itm} {fs : List Flr} (h : OkS xs fs) (A B : List Int) : joinI (slI A xs) (slF A fs) (slI B xs) (slF B fs) = slI (A ++ B) xs ∧ joinF (slF A fs) (slF B fs) = slF (A ++ B) fs := by
  have hA := h.slice A
  have hB := h.slice B
  have nn := h.flo_nn
  have f2 : ∀ id, fl2 (slF A fs) (slF B fs) id = flo (slF (A ++ B) fs) id := fun id => by
    have := nn id
    rw [(hA.fl2_nn hB id).2.2, flo_sl, flo_sl, flo_sl, hasN_app]
    cases hasN A (lf id) <;> cases hasN B (lf id) <;> simp <;> omega
  refine (hA.join hB).ext (h.slice _) (fun id => ?_) (fun id => (join_flo hA hB id).trans (f2 id))
  rw [join_ent' hA hB, f2, ent_sl, ent_sl, ent_sl, flo_sl, hasN_app]
  have hk := h.keep_ent id (f := flo fs id) (Int.le_refl _)
  cases hasN A (lf id) <;> cases hasN B (lf id) <;> simp [jE_self, jE_none, hk]
  · rfl
  · rw [jE_comm, jE_none, hk]
/-- Joined with one node's item, the leaves of others stay as they were. -/
theorem OkS.other_leaf {xs : List Itm} {fs : List Flr} (h : OkS xs fs) {id : Int} {e : Key} (h1 : OkS [(id, e)] []) {k : Int} (hk : lf id ≠ k) : slI [k] (joinI xs fs [(id, e)] []) = slI [k] xs ∧ slF [k] (joinF fs []) = slF [k] fs := by
  have hj := h.join h1
  refine (hj.slice [k]).ext (h.slice [k]) (fun i => ?_) (fun i => ?_)
  · rw [ent_sl, ent_sl, hasN_one]
    by_cases hi : k = lf i
    · rw [if_pos (by simpa using hi), if_pos (by simpa using hi), join_ent' h h1]
      have hne : id ≠ i := fun q => hk (by rw [q]; exact hi.symm)
      have e0 : ent [(id, e)] i = none := by simp [ent, hne]
      have f0 := h.flo_nn i
      have e1 : fl2 fs [] i = flo fs i := by rw [(h.fl2_nn h1 i).2.2, flo_nil]; omega
      rw [e0, jE_none, e1, h.keep_ent i (Int.le_refl _)]
    · rw [if_neg (by simpa using hi), if_neg (by simpa using hi)]
  · rw [flo_sl, flo_sl, join_flo h h1]
    have f0 := h.flo_nn i
    have e1 : fl2 fs [] i = flo fs i := by rw [(h.fl2_nn h1 i).2.2, flo_nil]; omega
    rw [e1]
theorem OkS.other_sum {xs : List Itm} {fs : List Flr} (h : OkS xs fs) {id : Int} {e : Key} (h1 : OkS [(id, e)] []) {k : Int} (hk : lf id ≠ k) : lsm (joinI xs fs [(id, e)] []) (joinF fs []) k = lsm xs fs k := by
  obtain ⟨a, b⟩ := h.other_leaf h1 hk
  rw [lsm, lsm, a, b, (okS_iff _ _).2 h, (okS_iff _ _).2 (h.join h1)]
theorem OkS.touched {xs : List Itm} {fs : List Flr} (h : OkS xs fs) {id : Int} {e : Key} (h1 : OkS [(id, e)] []) :
    tcL (trL xs fs) (joinI xs fs [(id, e)] []) (joinF fs []) id = trL (joinI xs fs [(id, e)] []) (joinF fs []) ∧ tcR (trL xs fs) (trR xs fs) (joinI xs fs [(id, e)] []) (joinF fs []) id = trR (joinI xs fs [(id, e)] []) (joinF fs []) := by
  have hj := (okS_iff _ _).2 (h.join h1)
  have hin := h1.ix (id, e) (by simp)
  have hb : inB id 0 4 = true := inB_iff.2 ⟨hin.1, hin.2.1⟩
  have hl := lf_in hb
  have hs := (okS_iff _ _).2 h
  have ht : trL xs fs = [lsm xs fs 0, lsm xs fs 1, lsm xs fs 2, lsm xs fs 3] := by rw [trL, if_pos hs]
  have hok : tcOk (trL xs fs) (joinI xs fs [(id, e)] []) (joinF fs []) id = true := by
    rw [tcOk, hj, hb, ht]; rfl
  have key : (trL xs fs).set (lf id).toNat (lsm (joinI xs fs [(id, e)] []) (joinF fs []) (lf id)) = trL (joinI xs fs [(id, e)] []) (joinF fs []) := by
    rw [ht, trL, if_pos hj]
    have o := fun k hk => h.other_sum h1 (k := k) hk
    rcases (by omega : lf id = 0 ∨ lf id = 1 ∨ lf id = 2 ∨ lf id = 3) with q | q | q | q
    · rw [o 1 (by omega), o 2 (by omega), o 3 (by omega), q]; rfl
    · rw [o 0 (by omega), o 2 (by omega), o 3 (by omega), q]; rfl
    · rw [o 0 (by omega), o 1 (by omega), o 3 (by omega), q]; rfl
    · rw [o 0 (by omega), o 1 (by omega), o 2 (by omega), q]; rfl
  refine ⟨by rw [tcL, if_pos hok, key], ?_⟩
  rw [tcR, if_pos hok, key, trL, if_pos hj, trR, if_pos hj]
theorem OkS.differ {xs : List Itm} {fs : List Flr} (h : OkS xs fs) {id : Int} {e : Key} (h1 : OkS [(id, e)] []) :
    let d := dfL (trL xs fs) (trR xs fs) (trL (joinI xs fs [(id, e)] []) (joinF fs [])) (trR (joinI xs fs [(id, e)] []) (joinF fs []))
    d = [] ∨ d = [lf id] := by
  intro d
  have hj := (okS_iff _ _).2 (h.join h1)
  have hin := h1.ix (id, e) (by simp)
  have hl : lf id = _ ∧ 0 ≤ lf id ∧ lf id ≤ 3 := lf_in (inB_iff.2 ⟨hin.1, hin.2.1⟩)
  have hs := (okS_iff _ _).2 h
  have ht : trL xs fs = [lsm xs fs 0, lsm xs fs 1, lsm xs fs 2, lsm xs fs 3] := by rw [trL, if_pos hs]
  have hu : trL (joinI xs fs [(id, e)] []) (joinF fs []) = [lsm (joinI xs fs [(id, e)] []) (joinF fs []) 0, lsm (joinI xs fs [(id, e)] []) (joinF fs []) 1, lsm (joinI xs fs [(id, e)] []) (joinF fs []) 2, lsm (joinI xs fs [(id, e)] []) (joinF fs []) 3] := by rw [trL, if_pos hj]
  have hd : d = dfL (trL xs fs) (trR xs fs) (trL (joinI xs fs [(id, e)] []) (joinF fs [])) (trR (joinI xs fs [(id, e)] []) (joinF fs [])) := rfl
  clear_value d
  subst hd
  unfold dfL
  split
  · exact .inl rfl
  · have o := fun k hk => h.other_sum h1 (k := k) hk
    have z : ∀ k : Nat, k < 4 → lf id ≠ k → dfP (trL xs fs) (trL (joinI xs fs [(id, e)] []) (joinF fs [])) k = false := fun k h4 hk => by
      have ho := o k hk
      rw [dfP, ht, hu]
      rcases (by omega : k = 0 ∨ k = 1 ∨ k = 2 ∨ k = 3) with rfl | rfl | rfl | rfl <;> simp_all
    have z0 := z 0 (by omega); have z1 := z 1 (by omega); have z2 := z 2 (by omega); have z3 := z 3 (by omega)
    simp only [Int.cast_ofNat_Int] at z0 z1 z2 z3
    simp only [List.filter_cons, List.filter_nil]
    rcases (by omega : lf id = 0 ∨ lf id = 1 ∨ lf id = 2 ∨ lf id = 3) with q | q | q | q
    · rw [z1 (by omega), z2 (by omega), z3 (by omega), q]; simp only [Bool.false_eq_true, if_false]; split <;> simp
    · rw [z0 (by omega), z2 (by omega), z3 (by omega), q]; simp only [Bool.false_eq_true, if_false]; split <;> simp
    · rw [z0 (by omega), z1 (by omega), z3 (by omega), q]; simp only [Bool.false_eq_true, if_false]; split <;> simp
    · rw [z0 (by omega), z1 (by omega), z2 (by omega), q]; simp only [Bool.false_eq_true, if_false]; split <;> simp
end Go.Proofs.Ytbajnnpihjmjmaa
