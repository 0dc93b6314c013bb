/-
  A variable that a drawn statement lays at some time, and stores a tree of the call's own into. No program here, no statement is proved here.
  Trees that are touched or held against each other: the program's. No statement is proved here.
  Rows of numbers appended to one another, and copied. No statement is proved here.
  Trees that are copied, touched, or held against each other: the program's. No statement is proved here.
  Trees that are held against each other: the specification's Differ. No statement is proved here.
  Trees: the specification's TreeOf. No statement is proved here.
  Trees that are touched: the specification's and the program's. No statement is proved here.
  Trees that are touched: the program's. No statement is proved here.
-/
import Derived.Test.YtdpaocikmijioafTreL
import Derived.Test.YtdpaocikmijioafStBx
import Derived.Laws.CopyOwn
import Derived.Test.YtdpaocikmijioafIntS
import Derived.Laws.AppendOwnNone
import Derived.Laws.StructEq
namespace Go.Proofs.Ytdpaocikmijioaf
open Go.RowKit

abbrev TrN : Obj := .cells #[.slice none 0 0, .int .i64 0] 31
/-- The variable lies in block g, behind P, and is as it was laid. -/
structure BxT (P W : World) (g : Nat) : Prop where
  blk : W.heap[g]? = some TrN
  lt : g < W.heap.size
  ge : P.heap.size ≤ g
/-- The variable g, and where it lay ahead of the last call. -/
structure BfT (P V W : World) (g : Nat) : Prop where
  bx : BxT P W g
  lv : g < V.heap.size
theorem BxT.new {P W w1 : World} (b : Below (W.alloc TrN).heap.size (W.alloc TrN) w1) (h : P.heap.size ≤ W.heap.size) : BxT P w1 W.heap.size := ⟨(newblk b).1, (newblk b).2, h⟩
theorem BxT.newD {P W w1 : World} (b : Below (W.alloc TrN).drew.heap.size (W.alloc TrN).drew w1) (h : P.heap.size ≤ W.heap.size) : BxT P w1 W.heap.size := ⟨(newblkD b).1, (newblkD b).2, h⟩
theorem BxT.kept {P W w1 : World} {g : Nat} (M : Hid (BxT P W g)) (b : Below W.heap.size W w1) : BxT P w1 g := ⟨(b.block _ (unhide M).lt).trans (unhide M).blk, Nat.lt_of_lt_of_le (unhide M).lt b.size, (unhide M).ge⟩
theorem BfT.new {P W w1 : World} (b : Below (W.alloc TrN).heap.size (W.alloc TrN) w1) (h : P.heap.size ≤ W.heap.size) : BfT P (W.alloc TrN) w1 W.heap.size := ⟨BxT.new b h, by simp⟩
theorem BfT.kept {P W w1 : World} {g : Nat} (M : Hid (BxT P W g)) (b : Below W.heap.size W w1) : BfT P W w1 g := ⟨BxT.kept M b, (unhide M).lt⟩
theorem ksetT {P V W : World} {g : Nat} {v1 v2 : Value} (b : Below P.heap.size P W) (M : Hid (BfT P V W g)) : Below P.heap.size P ((W.setCell ⟨g, 0, none⟩ v1).setCell ⟨g, 1, none⟩ v2) := (b.setCell (p := ⟨g, 0, none⟩) (unhide M).bx.ge _).setCell (p := ⟨g, 1, none⟩) (unhide M).bx.ge _
theorem owT_of {E : TypeId} {base : Nat} {w : World} {v : Value} {ns : List Int} (o : Ow encN 1 E base w v ns) : OwT base w v ns := ⟨E, o⟩
/-- The variable holds the tree of the call's own. -/
structure FinT (P W : World) (g : Nat) (v : Value) (q : Int) (ns : List Int) : Prop where
  bel : Below P.heap.size P W
  ge : P.heap.size ≤ g
  lt : g < W.heap.size
  blk : W.heap[g]? = some (TreB v q)
  o1 : OwT P.heap.size W v ns
theorem FinT.set {P V W : World} {g : Nat} {v : Value} {q : Int} {ns : List Int} (b : Below P.heap.size P W) (h : P.heap.size ≤ V.heap.size) (M : Hid (BfT P V W g)) (o1 : Hid (OwT V.heap.size W v ns)) :
    FinT P ((W.setCell ⟨g, 0, none⟩ v).setCell ⟨g, 1, none⟩ (.int .i64 q)) g v q ns := by
  obtain ⟨⟨hb, hl, hg⟩, hv⟩ := unhide M
  obtain ⟨E, o⟩ := unhide o1
  refine ⟨(b.setCell (p := ⟨g, 0, none⟩) hg _).setCell (p := ⟨g, 1, none⟩) hg _, hg, by simpa using hl, blk_set2 hb _ _, E, ?_⟩
  exact Ow.base ((o.set ⟨g, 0, none⟩ hv _).set ⟨g, 1, none⟩ hv _) h
theorem FinT.new {P V W : World} {v : Value} {q : Int} {ns : List Int} (b : Below P.heap.size P W) (h : P.heap.size ≤ V.heap.size) (o1 : Hid (OwT V.heap.size W v ns)) :
    FinT P (W.alloc (TreB v q)) W.heap.size v q ns := by
  obtain ⟨E, o⟩ := unhide o1
  refine ⟨kal b, b.size, by simp, heap_alloc_new _ _, E, ?_⟩
  exact Ow.base (World.ownsRow.alloc o _) h
end Go.Proofs.Ytdpaocikmijioaf

namespace Go.Proofs.Ytdpaocikmijioaf
open Go.RowKit

/-- The sums of a whole tree, and whether it is one. -/
def sm : List Int → (Int × Int × Int × Int) × Bool
  | [a, b, c, d] => ((a, b, c, d), true)
  | _ => ((0, 0, 0, 0), false)
theorem sm_yes {ns : List Int} {a b c d : Int} (h : sm ns = ((a, b, c, d), true)) : ns = [a, b, c, d] := by
  match ns, h with
  | [a', b', c', d'], h => simp [sm] at h; obtain ⟨rfl, rfl, rfl, rfl⟩ := h; rfl
  | [], h => simp [sm] at h
  | [_], h => simp [sm] at h
  | [_, _], h => simp [sm] at h
  | [_, _, _], h => simp [sm] at h
  | _ :: _ :: _ :: _ :: _ :: _, h => simp [sm] at h
theorem sm_no {ns : List Int} {x : Int × Int × Int × Int} (h : sm ns = (x, false)) : ns.length ≠ 4 ∧ x = (0, 0, 0, 0) := by
  match ns, h with
  | [a', b', c', d'], h => simp [sm] at h
  | [], h => simp [sm] at h; exact ⟨by simp, h.symm⟩
  | [_], h => simp [sm] at h; exact ⟨by simp, h.symm⟩
  | [_, _], h => simp [sm] at h; exact ⟨by simp, h.symm⟩
  | [_, _, _], h => simp [sm] at h; exact ⟨by simp, h.symm⟩
  | _ :: _ :: _ :: _ :: _ :: _, h => simp [sm] at h; exact ⟨by simp, h.symm⟩
theorem sm_len (ns : List Int) : (sm ns).2 = (ns.length == 4) := by
  match ns with
  | [a', b', c', d'] => rfl
  | [] => rfl
  | [_] => rfl
  | [_, _] => rfl
  | [_, _, _] => rfl
  | _ :: _ :: _ :: _ :: _ :: _ => simp [sm]
theorem Try.sizeInt : (Try.prog.info? 3).map (·.size) = some 1 := by
  obtain ⟨i0, hi, hz0, hz1, hz2⟩ := info_parts Try.infoInt
  rw [hi]; simp [hz1]

theorem blkS4 {w : World} {g : Nat} {T : TypeId} {c0 c1 c2 c3 : Value} (h : w.heap[g]? = some (.cells #[c0, c1, c2, c3] T (0, 0))) :
    w.cell? ⟨g, 0, none⟩ = some c0 ∧ w.cell? ⟨g, 1, none⟩ = some c1 ∧ w.cell? ⟨g, 2, none⟩ = some c2 ∧ w.cell? ⟨g, 3, none⟩ = some c3 ∧ ∀ o, w.frozen? ⟨g, o, none⟩ = false := by
  simp [World.cell?, World.frozen?, h]
theorem copy_src {W : World} {b off c : Nat} {x0 x1 x2 x3 : Int} (h : RwN W (.slice (some ⟨b, off, none⟩) 4 c) [x0, x1, x2, x3]) : ∀ (j : Nat) (v : Value), ([.int .i64 x0, .int .i64 x1, .int .i64 x2, .int .i64 x3] : List Value)[j]? = some v → W.cell? ((⟨b, off, none⟩ : Addr).add j) = some v := by
  intro j v hj
  have hl : j < 4 := by have := (List.getElem?_eq_some_iff.1 hj).1; simpa using this
  obtain ⟨z, b', off', hz, hp, -, -, cz⟩ := h.atN hl
  simp only [Option.some.injEq, Addr.mk.injEq, and_true] at hp
  obtain ⟨rfl, rfl⟩ := hp
  have e : (⟨b, off, none⟩ : Addr).add j = ⟨b, off + j, none⟩ := by
    unfold Addr.add
    by_cases h0 : j = 0
    · subst h0; rfl
    · rw [if_neg h0]
  rw [e, cz]
  rcases (by omega : j = 0 ∨ j = 1 ∨ j = 2 ∨ j = 3) with rfl | rfl | rfl | rfl <;> (simp at hz hj; rw [← hz, ← hj])
theorem oneL4 (x0 x1 x2 x3 : Int) : ∀ u ∈ ([.int .i64 x0, .int .i64 x1, .int .i64 x2, .int .i64 x3] : List Value), u.oneCell' = true := by
  intro u hu
  simp at hu
  rcases hu with rfl | rfl | rfl | rfl <;> rfl
set_option maxHeartbeats 4000000 in
set_option maxRecDepth 100000 in
theorem isumsof_any (a : Option Addr) (n c : Nat) (ns : List Int) (q : Int) (x0 x1 x2 x3 : Int) (k : Bool) (hs : Hid (sm ns = ((x0, x1, x2, x3), k))) (w : World) (h : RwN w (.slice a n c) ns) (hn : n ≤ 140737488351232) :
    Calls Try.prog 44 #[.agg #[.slice a n c, .int .i64 q]] w fun e w' => e = .returned (.tuple #[.agg #[.int .i64 x0, .int .i64 x1, .int .i64 x2, .int .i64 x3], .bool k]) ∧ Below w.heap.size w w' := by
  have HR := hide h
  have HN := hide h.len.1
  clear h
  cases k
  · obtain ⟨h4, hx⟩ := sm_no (unhide hs)
    have hn4 : n ≠ 4 := by rw [unhide HN]; exact h4
    simp only [Prod.mk.injEq] at hx
    obtain ⟨rfl, rfl, rfl, rfl⟩ := hx
    have hd : ((n : Int) != 4) = true := by simp; omega
    clear h4 hs
    go_enter Try.func44, Try.ntmps44
    go_wp2
    exact bodyPost_ret (v := .tuple #[.agg #[.int .i64 0, .int .i64 0, .int .i64 0, .int .i64 0], .bool false]) (by simp [results, Try.results44, go_sem]) rfl ⟨rfl, (((Below.refl w.heap.size w).alloc (Nat.le_refl _) _).alloc (by simp) _).alloc (by simp <;> omega) _⟩
  · have hns := sm_yes (unhide hs)
    have hn4 : n = 4 := by rw [unhide HN, hns]; rfl
    subst hn4 hns
    clear hs HN
    go_enter Try.func44, Try.ntmps44
    go_wp2_with (at_builtin; fail)
    obtain ⟨V, hV⟩ : ∃ V, V = ((w.alloc (TreB (.slice a 4 c) q)).alloc (SumB 0 0 0 0)).alloc (SumB 0 0 0 0) := ⟨_, rfl⟩
    have bV : Below w.heap.size w V := by rw [hV]; exact (((Below.refl w.heap.size w).alloc (Nat.le_refl _) _).alloc (by simp) _).alloc (by simp <;> omega) _
    have KT : Hid (V.heap[w.heap.size]? = some (TreB (.slice a 4 c) q)) := hide (by rw [hV]; exact lowB3 w _ _ _)
    have KR : Hid (V.heap[w.heap.size + 1]? = some (SumB 0 0 0 0)) := hide (by rw [hV]; exact midB3 w _ _ _)
    have KO : Hid (V.heap[w.heap.size + 1 + 1]? = some (SumB 0 0 0 0)) := hide (by rw [hV]; exact newB3 w _ _ _)
    rw [← hV]
    clear hV
    have zV : w.heap.size + 1 + 1 < V.heap.size := (Array.getElem?_eq_some_iff.1 (unhide KO)).1
    have zT : w.heap.size < V.heap.size := by omega
    obtain ⟨t0, t1, -⟩ := blk_cells2 (unhide KT)
    have bD : Below V.heap.size V V.drew := (Below.refl _ _).drew
    obtain ⟨d, b, off, hz, rfl, hb, hcap, cz⟩ := ((unhide HR).later (bV.trans (bD.mono bV.size))).atN (i := 0) (by omega)
    have HSRC := hide (copy_src ((unhide HR).later (bV.trans (bD.mono bV.size))))
    have BV := hide bV
    clear hz cz bV bD
    go_region_law (refine step_copy_splice rfl (.tmp 10) (.tmp 12) 22 22 rfl 3 Try.underlying22 Try.sizeInt _ _ 4 4 4 c rfl rfl (w.heap.size + 1 + 1) 0 [.int .i64 0, .int .i64 0, .int .i64 0, .int .i64 0] 74 (unhide KO) [.int .i64 x0, .int .i64 x1, .int .i64 x2, .int .i64 x3] rfl (fun _ => ⟨rfl, _, rfl, unhide HSRC⟩) (Nat.le_refl _) (oneL4 x0 x1 x2 x3) (w.heap.size + 1 + 1) V.drew (Below.refl _ _) (Nat.le_refl _) ?_; intro w4 hg4 hb4; have G4 : Hid (w4.heap[w.heap.size + 1 + 1]? = some (SumB x0 x1 x2 x3)) := hg4; have B4 := hide hb4; clear hg4 hb4)
    all_goals
      have KR4 : Hid (w4.heap[w.heap.size + 1]? = some (SumB 0 0 0 0)) := hide (((unhide B4).block _ (by omega)).trans (unhide KR))
      have BL4 := hide (((unhide BV).trans ((Below.refl _ _).drew)).trans ((unhide B4).mono (by omega)))
      obtain ⟨o0, o1, o2, o3, -⟩ := blkS4 (unhide G4)
      obtain ⟨r0, r1, r2, r3, rf⟩ := blkS4 (unhide KR4)
      have z4 : w.heap.size + 1 + 1 < w4.heap.size := (Array.getElem?_eq_some_iff.1 (unhide G4)).1
      clear t0 t1
      go_wp2
      exact bodyPost_ret (v := .tuple #[.agg #[.int .i64 x0, .int .i64 x1, .int .i64 x2, .int .i64 x3], .bool true]) (by simp [results, Try.results44, go_sem, r0, r1, r2, r3]) rfl ⟨rfl, ((((unhide BL4).setCell (p := ⟨w.heap.size + 1, 0, none⟩) (by simp) _).setCell (p := ⟨w.heap.size + 1, 1, none⟩) (by simp) _).setCell (p := ⟨w.heap.size + 1, 2, none⟩) (by simp) _).setCell (p := ⟨w.heap.size + 1, 3, none⟩) (by simp) _⟩
end Go.Proofs.Ytdpaocikmijioaf

namespace Go.Proofs.Ytdpaocikmijioaf
open Go.RowKit

theorem wpList_appN {ops : Array Oper} {rest : List Oper} {o : Oper} {a : Act} {Q : Exit → Act → World → Prop} (w : World) (hgd : o.guard = none) (s x : Operand)
    (ho : o.op = .call { callee := .builtin .append, args := #[s, x], argTypes := #[22, 22] })
    (base : Nat) (v : Value) (xs : List Int) (hs : a.eval s = v) (hown : OwN base w v xs) (b : Option Addr) (m cap : Nat) (ys : List Int) (hx : a.eval x = .slice b m cap) (hu : RwN w (.slice b m cap) ys) (hnil : b = none → cap = 0) (hl : xs.length + ys.length ≤ 100000000) (hbase : base ≤ w.heap.size)
    (h : ∀ v' w', OwN base w' v' (xs ++ ys) → w.grownBy w' v.ownBlock → wpList Try.prog ops Q rest (a.put o.dst v') w') : wpList Try.prog ops Q (o :: rest) a w := by
  obtain ⟨i0, hi, hz0, hz1, hz2⟩ := info_parts Try.infoInt
  obtain ⟨hm, hcap⟩ := hu.len
  subst hm
  cases b with
  | none =>
    have hys : ys = [] := by
      cases ys with
      | nil => rfl
      | cons y r =>
        obtain ⟨z, b', off', _, hp, _⟩ := hu.atN (i := 0) (by simp)
        cases hp
    subst hys
    obtain rfl := hnil rfl
    exact wpList_append_own_none hgd s x 22 ho base 3 i0 1 Try.underlying22 hi v xs.length (xs.flatMap encN) hs hown hx (h v w (by simpa using hown) (World.grownBy.refl _ _))
  | some ad =>
    refine wpList_append_own w hgd s x 22 ho base 3 i0 (.int .i64 0) 1 8 Try.underlying22 hi hz0 hz1 hz2 rfl (by decide) v xs.length (xs.flatMap encN) hs hown ad ys.length cap (ys.flatMap encN) hx (by rw [flatN, List.length_map]; omega) ?_ ?_ (by unfold maxLen; omega) (by omega) hbase (fun v' w' o1 g1 _ => h v' w' ?_ g1)
    · intro j u hj
      rw [flatN] at hj
      have hj' : j < ys.length := by have := (List.getElem?_eq_some_iff.1 hj).1; simpa using this
      obtain ⟨z, b', off', hz, hp, _, _, cz⟩ := hu.atN hj'
      simp only [Option.some.injEq] at hp
      subst hp
      have e : (⟨b', off', none⟩ : Addr).add j = ⟨b', off' + j, none⟩ := by
        unfold Addr.add
        by_cases h0 : j = 0
        · subst h0; rfl
        · rw [if_neg h0]
      rw [e, cz]
      rw [List.getElem?_map, hz] at hj
      simpa using hj
    · intro u hu'
      rw [flatN] at hu'
      exact ints_oneCell _ _ u hu'
    · unfold OwN Ow
      rw [List.flatMap_append, List.length_append]
      exact o1
theorem Ow.nilok {E : TypeId} {base : Nat} {w : World} {a : Option Addr} {n c : Nat} {ns : List Int} (h : Ow encN 1 E base w (.slice a n c) ns) : a = none → c = 0 := by
  rintro rfl
  rcases h.2 with ⟨e, _⟩ | ⟨g, cap, cur, e, _⟩
  · simp at e; exact e.2
  · simp at e

theorem eqlnil {P : Program} (w : World) (t e : TypeId) (a : Option Addr) (n c : Nat) (h : P.underlying t = some (.slice e)) : (binOp .eql t (.slice a n c) (.slice none 0 0)).run P w = .ok (.bool a.isNone) w := by
  have h1 : ∀ d : Nat, (Op.equalIn (d + 1) t (.slice a n c) (.slice none 0 0)).run P w = .ok a.isNone w := fun d => by cases a <;> simp [Op.equalIn, run_underlying h]
  simp only [binOp]
  simp [Op.equal, Op.maxDepth, h1 9999]
theorem madeN {w : World} {g base : Nat} (hb : base ≤ g) (h : w.heap[g]? = some (.cells #[] 3 (0, 0))) : OwN base w (.slice (some ⟨g, 0, none⟩) 0 0) [] :=
  ⟨by simp, .inr ⟨g, 0, #[], rfl, hb, h, by simp, by simp⟩⟩
set_option maxHeartbeats 2000000 in
set_option maxRecDepth 100000 in
theorem iclone_any (a : Option Addr) (n c : Nat) (ns : List Int) (w : World) (hn : n ≤ 10000000) (hnil : a = none → c = 0) (h : RwN w (.slice a n c) ns) :
    Calls Try.prog 85 #[.slice a n c] w fun e w' => ∃ a1 c1, e = .returned (.slice a1 n c1) ∧ OwN w.heap.size w' (.slice a1 n c1) ns ∧ Below w.heap.size w w' := by
  have hN := h.len.1
  have HR := hide h
  cases a with
  | none =>
    have hns : ns = [] := by
      cases ns with
      | nil => rfl
      | cons y r =>
        obtain ⟨z, b', off', _, hp, _⟩ := h.atN (i := 0) (by rw [hN]; simp)
        cases hp
    subst hns
    obtain rfl : n = 0 := hN
    obtain rfl := hnil rfl
    have hcl : ∀ W, (binOp .eql 22 (.slice none 0 0) (.slice none 0 0)).run Try.prog W = .ok (.bool true) W := fun W => eqlnil W 22 3 none 0 0 Try.underlying22
    clear h HR
    go_enter Try.func85, Try.ntmps85
    go_wp2
    go_ret
    exact ⟨none, 0, rfl, World.ownsRow_nil _ _ _ _, Below.refl _ _⟩
  | some ad =>
    have hO : Hid (OwN w.heap.size (w.alloc (.cells #[] 3)) (.slice (some ⟨w.heap.size, 0, none⟩) 0 0) []) := hide (World.ownsRow_made _ #[] 0 (Nat.le_refl _) (by simp [maxLen]) rfl)
    have HL := hide hN
    have hcl : ∀ W, (binOp .eql 22 (.slice (some ad) n c) (.slice none 0 0)).run Try.prog W = .ok (.bool false) W := fun W => eqlnil W 22 3 (some ad) n c Try.underlying22
    clear h hN
    go_enter Try.func85, Try.ntmps85
    go_wp2_with (at_builtin; refine wpList_appN _ rfl _ _ rfl w.heap.size _ [] rfl (unhide hO) (some ad) n c ns rfl ((unhide HR).alloc _) (fun h => by cases h) (by have := unhide HL; simp; omega) (by simp) ?_; intro v' w' hV hG; have HV := hide hV; have HG := hide (((Below.refl w.heap.size w).alloc (Nat.le_refl _) _).grown hG (by simp) (fun k hk => ((unhide hO).lt k hk).1)); clear hV hG)
    go_ret
    have hv := unhide HV
    rw [List.nil_append] at hv
    obtain ⟨a1, c1, rfl⟩ := hv.form
    rw [← unhide HL] at hv ⊢
    exact ⟨a1, c1, rfl, hv, unhide HG⟩
end Go.Proofs.Ytdpaocikmijioaf

namespace Go.Proofs.Ytdpaocikmijioaf
open Go.RowKit

/-- While a tree is copied: the argument, the result's variable. -/
structure C10 (w W : World) (v : Value) (q : Int) : Prop where
  bel : Below w.heap.size w W
  ka : W.heap[w.heap.size]? = some (TreB v q)
  kr : W.heap[w.heap.size + 1]? = some (TreB (.slice none 0 0) 0)
theorem C10.lt {w W : World} {v : Value} {q : Int} (h : C10 w W v q) : w.heap.size + 1 < W.heap.size := (Array.getElem?_eq_some_iff.1 h.kr).1
theorem C10.later {w W Y : World} {v : Value} {q : Int} (h : C10 w W v q) (b : Below W.heap.size W Y) : C10 w Y v q := by
  have := h.lt
  exact ⟨h.bel.trans (b.mono h.bel.size), (b.block _ (by omega)).trans h.ka, (b.block _ h.lt).trans h.kr⟩
theorem C10.drewH {w W : World} {v : Value} {q : Int} (h : Hid (C10 w W v q)) : Hid (C10 w W.drew v q) := hide ((unhide h).later ((Below.refl _ _).drew))
theorem kC10 {w W : World} {v : Value} {q : Int} (h : Hid (C10 w W v q)) : Below w.heap.size w W ∧ W.cell? ⟨w.heap.size, 0, none⟩ = some v ∧ W.cell? ⟨w.heap.size, 1, none⟩ = some (.int .i64 q) := by
  obtain ⟨h0, h1, -⟩ := blk_cells2 (unhide h).ka
  exact ⟨(unhide h).bel, h0, h1⟩
theorem kC10s {w W : World} {v : Value} {q : Int} (h : Hid (C10 w W v q)) (x y : Value) : Below w.heap.size w ((W.setCell ⟨w.heap.size + 1, 0, none⟩ x).setCell ⟨w.heap.size + 1, 1, none⟩ y) ∧ ((W.setCell ⟨w.heap.size + 1, 0, none⟩ x).setCell ⟨w.heap.size + 1, 1, none⟩ y).cell? ⟨w.heap.size, 0, none⟩ = some v ∧ ((W.setCell ⟨w.heap.size + 1, 0, none⟩ x).setCell ⟨w.heap.size + 1, 1, none⟩ y).cell? ⟨w.heap.size, 1, none⟩ = some (.int .i64 q) := by
  obtain ⟨hb, h0, h1⟩ := kC10 h
  exact ⟨(hb.setCell (p := ⟨w.heap.size + 1, 0, none⟩) (by simp) _).setCell (p := ⟨w.heap.size + 1, 1, none⟩) (by simp) _, farT (by omega) h0, farT (by omega) h1⟩
theorem C10.new (w : World) (v : Value) (q : Int) : C10 w ((w.alloc (TreB v q)).alloc (TreB (.slice none 0 0) 0)) v q :=
  ⟨((Below.refl w.heap.size w).alloc (Nat.le_refl _) _).alloc (by simp) _, lowB2 w _ _, newB2 w _ _⟩
set_option maxHeartbeats 2000000 in
set_option maxRecDepth 100000 in
theorem itreecopy_any (a : Option Addr) (n c : Nat) (ns : List Int) (q : Int) (w : World) (hn : n ≤ 10000000) (hnil : a = none → c = 0) (h : RwN w (.slice a n c) ns) :
    Calls Try.prog 47 #[.agg #[.slice a n c, .int .i64 q]] w fun e w' => ∃ a1 c1, e = .returned (.agg #[.slice a1 n c1, .int .i64 q]) ∧ OwN w.heap.size w' (.slice a1 n c1) ns ∧ Below w.heap.size w w' := by
  have HR := hide h
  clear h
  go_enter Try.func47, Try.ntmps47
  go_wp2_with fail
  have CV0 := C10.new w (.slice a n c) q
  obtain ⟨V, hV⟩ : ∃ V, V = (w.alloc (TreB (.slice a n c) q)).alloc (TreB (.slice none 0 0) 0) := ⟨_, rfl⟩
  have CV : Hid (C10 w V (.slice a n c) q) := hide (by rw [hV]; exact CV0)
  rw [← hV]
  clear hV CV0
  have CD := C10.drewH CV
  have zV := (unhide CV).lt
  have zA : w.heap.size < V.heap.size := by omega
  go_region_held3 (fun W => Below w.heap.size w W ∧ W.cell? ⟨w.heap.size, 0, none⟩ = some (.slice a n c) ∧ W.cell? ⟨w.heap.size, 1, none⟩ = some (.int .i64 q))
    (first | (with_reducible exact kC10 CV) | (with_reducible exact kC10 CD) | (with_reducible exact kC10 CA) | (with_reducible exact kC10s CA _ _))
    (first | (go_at_call 85; refine (iclone_any a n c ns _ hn hnil ((unhide HR).later (unhide CD).bel)).mono ?_; rintro e w3 ⟨a1, c1, rfl, o1, b3⟩; have CA := hide ((unhide CD).later b3); have OI := hide (o1.base (base' := w.heap.size + 1 + 1) (unhide CD).lt); obtain ⟨p0, p1, pf⟩ := blk_cells2 (unhide CA).kr; have zB := (unhide CA).lt; clear o1 b3))
  all_goals go_wp2
  all_goals exact bodyPost_ret (v := .agg #[.slice a1 n c1, .int .i64 q]) (by simp [results, Try.results47, go_sem, p0, p1]) rfl ⟨a1, c1, rfl, Ow.base (((unhide OI).set ⟨w.heap.size + 1, 0, none⟩ (by simp) _).set ⟨w.heap.size + 1, 1, none⟩ (by simp) _) (by omega), (kC10s CA _ _).1⟩
end Go.Proofs.Ytdpaocikmijioaf

namespace Go.Proofs.Ytdpaocikmijioaf
open Go.RowKit

end Go.Proofs.Ytdpaocikmijioaf

namespace Go.Proofs.Ytdpaocikmijioaf
open Go.RowKit

/-- While a tree is made: the state, the result's variable, the tree, its leaves. -/
structure TQ4 (w X : World) (g : Nat) (v1 v2 : Value) (a1 : Option Addr) (n1 c1 : Nat) (ns : List Int) : Prop where
  bel : Below w.heap.size w X
  hg : w.heap.size + 1 < g
  ka : X.heap[w.heap.size]? = some (.cells #[v1, v2] 37 (0, 0))
  kr : X.heap[w.heap.size + 1]? = some (TreB (.slice none 0 0) 0)
  kt : X.heap[g]? = some (TreB (.slice a1 n1 c1) 0)
  ob : OwN (g + 1) X (.slice a1 n1 c1) ns
section
variable {w X Y : World} {g : Nat} {v1 v2 : Value} {a1 : Option Addr} {n1 c1 : Nat} {ns ms : List Int}
theorem TQ4.lt (h : TQ4 w X g v1 v2 a1 n1 c1 ns) : g < X.heap.size := (Array.getElem?_eq_some_iff.1 h.kt).1
theorem TQ4.later (h : TQ4 w X g v1 v2 a1 n1 c1 ns) (b : Below X.heap.size X Y) : TQ4 w Y g v1 v2 a1 n1 c1 ns := by
  have := h.lt; have := h.hg
  exact ⟨h.bel.trans (b.mono h.bel.size), h.hg, (b.block _ (by omega)).trans h.ka, (b.block _ (by omega)).trans h.kr, (b.block _ h.lt).trans h.kt, h.ob.later b⟩
theorem TQ4.drew (h : TQ4 w X g v1 v2 a1 n1 c1 ns) : TQ4 w X.drew g v1 v2 a1 n1 c1 ns := h.later ((Below.refl _ _).drew)
theorem TQ4.turn (h : TQ4 w X g v1 v2 a1 n1 c1 ns) (hG : X.grownBy Y (Value.slice a1 n1 c1).ownBlock) {k : Nat} (hk : k ≤ g) : Y.heap[k]? = X.heap[k]? :=
  hG.block k (by have := h.lt; omega) (fun q => by have := (World.ownsRow.lt h.ob k q.symm).1; omega)
theorem TQ4.app (h : TQ4 w X g v1 v2 a1 n1 c1 ns) {a' : Option Addr} {n' c' : Nat} (ho : OwN (g + 1) Y (.slice a' n' c') ms) (hG : X.grownBy Y (Value.slice a1 n1 c1).ownBlock) : TQ4 w (Y.setCell ⟨g, 0, none⟩ (.slice a' n' c')) g v1 v2 a' n' c' ms := by
  have hs := h.bel.size
  have hg := h.hg
  have t := fun k hk => h.turn hG (k := k) hk
  have bl : ∀ k, k < g → (Y.setCell ⟨g, 0, none⟩ (.slice a' n' c')).heap[k]? = X.heap[k]? := fun k hk => by
    rw [heap_setCell_other _ _ _ _ (by show k ≠ g; omega)]; exact t k (by omega)
  refine ⟨(h.bel.grown hG hs (fun k hk => by have := (World.ownsRow.lt h.ob k hk).1; omega)).setCell (p := ⟨g, 0, none⟩) (by simp; omega) _, hg, (bl _ (by omega)).trans h.ka, (bl _ (by omega)).trans h.kr, ?_, ho.set _ (by simp) _⟩
  exact heap_setCell_same _ _ _ _ _ _ ((t g (Nat.le_refl _)).trans h.kt)
end

end Go.Proofs.Ytdpaocikmijioaf

namespace Go.Proofs.Ytdpaocikmijioaf
open Go.RowKit

theorem step_appN {ops : Array Oper} {o : Oper} {a : Act} {K : Act → World → Prop} {Q : Exit → Act → World → Prop} {E : Prop} (w : World) (hgd : o.guard = none) (s x : Operand)
    (ho : o.op = .call { callee := .builtin .append, args := #[s, x], argTypes := #[22, 22] })
    (base : Nat) (v : Value) (xs : List Int) (hs : a.eval s = v) (hown : OwN base w v xs) (b : Option Addr) (m cap : Nat) (ys : List Int) (hx : a.eval x = .slice b m cap) (hu : RwN w (.slice b m cap) ys) (hnil : b = none → cap = 0) (hl : xs.length + ys.length ≤ 100000000) (hbase : base ≤ w.heap.size)
    (h : ∀ v' w', OwN base w' v' (xs ++ ys) → w.grownBy w' v.ownBlock → K (a.put o.dst v') w') : if Region.wanted o (yielded ops a.tmps) = true then Oper.wp Try.prog o a w K Q else E := by
  have hw : Region.wanted o (yielded ops a.tmps) = true := by simp [Region.wanted, hgd]
  rw [if_pos hw]
  obtain ⟨i0, hi, hz0, hz1, hz2⟩ := info_parts Try.infoInt
  obtain ⟨hm, hcap⟩ := hu.len
  subst hm
  cases b with
  | none =>
    have hys : ys = [] := by
      cases ys with
      | nil => rfl
      | cons y r =>
        obtain ⟨z, b', off', _, hp, _⟩ := hu.atN (i := 0) (by simp)
        cases hp
    subst hys
    obtain rfl := hnil rfl
    have hrun := run_append_owned_none (P := Try.prog) (w := w) base 22 o.type 3 i0 1 Try.underlying22 hi v xs.length (xs.flatMap encN) hown
    have hh := h v w (by simpa using hown) (World.grownBy.refl _ _)
    unfold Oper.wp
    simp [execOp, ho, resolve, invoke, builtin, hs, hx, hrun, Result.andThen]
    exact hh
  | some ad =>
    refine wp_append_own w s x 22 ho base 3 i0 (.int .i64 0) 1 8 Try.underlying22 hi hz0 hz1 hz2 rfl (by decide) v xs.length (xs.flatMap encN) hs hown ad ys.length cap (ys.flatMap encN) hx (by rw [flatN, List.length_map]; omega) ?_ ?_ (by unfold maxLen; omega) (by omega) hbase (fun v' w' o1 g1 _ => h v' w' ?_ g1)
    · intro j u hj
      rw [flatN] at hj
      have hj' : j < ys.length := by have := (List.getElem?_eq_some_iff.1 hj).1; simpa using this
      obtain ⟨z, b', off', hz, hp, _, _, cz⟩ := hu.atN hj'
      simp only [Option.some.injEq] at hp
      subst hp
      have e : (⟨b', off', none⟩ : Addr).add j = ⟨b', off' + j, none⟩ := by
        unfold Addr.add
        by_cases h0 : j = 0
        · subst h0; rfl
        · rw [if_neg h0]
      rw [e, cz]
      rw [List.getElem?_map, hz] at hj
      simpa using hj
    · intro u hu'
      rw [flatN] at hu'
      exact ints_oneCell _ _ u hu'
    · unfold OwN Ow
      rw [List.flatMap_append, List.length_append]
      exact o1

theorem Ow.formN {base : Nat} {w : World} {v : Value} {ns : List Int} {n : Nat} (h : OwN base w v ([] ++ ns)) (hl : n = ns.length) : ∃ a c, v = .slice a n c ∧ OwN base w (.slice a n c) ns := by
  rw [List.nil_append] at h
  obtain ⟨a, c, e⟩ := h.form
  subst hl
  exact ⟨a, c, e, e ▸ h⟩
set_option maxHeartbeats 4000000 in
set_option maxRecDepth 100000 in
theorem l6copy_any (a : Option Addr) (n c : Nat) (ns : List Int) (q : Int) (w : World) (hn : n ≤ 10000000) (hnil : a = none → c = 0) (h : RwN w (.slice a n c) ns) :
    Calls Try.prog 35 #[.agg #[.slice a n c, .int .i64 q]] w fun e w' => ∃ a1 c1, e = .returned (.agg #[.slice a1 n c1, .int .i64 q]) ∧ OwN w.heap.size w' (.slice a1 n c1) ns ∧ Below w.heap.size w w' := by
  have HR := hide h
  have HL := hide h.len.1
  clear h
  go_enter Try.func35, Try.ntmps35
  go_wp2_with fail
  have CV0 := C10.new w (.slice a n c) q
  obtain ⟨V, hV⟩ : ∃ V, V = (w.alloc (TreB (.slice a n c) q)).alloc (TreB (.slice none 0 0) 0) := ⟨_, rfl⟩
  have CV : Hid (C10 w V (.slice a n c) q) := hide (by rw [hV]; exact CV0)
  have zV : V.heap.size = w.heap.size + 1 + 1 := by rw [hV]; simp
  rw [← hV]
  clear hV CV0
  have CD := C10.drewH CV
  have zL := (unhide CV).lt
  have zA : w.heap.size < V.heap.size := by omega
  obtain ⟨t0, t1, -⟩ := blk_cells2 (unhide CV).ka
  obtain ⟨p0, p1, pf⟩ := blk_cells2 (unhide CV).kr
  have bE : Below V.drew.heap.size V.drew (V.drew.alloc (.cells #[] 3)) := (Below.refl _ _).alloc (Nat.le_refl _) _
  have CE := hide ((unhide CD).later bE)
  have OE : Hid (OwN (w.heap.size + 1 + 1) (V.drew.alloc (.cells #[] 3)) (.slice (some ⟨w.heap.size + 1 + 1, 0, none⟩) 0 0) []) := hide (madeN (Nat.le_refl _) (by rw [← zV]; exact newB1 V.drew _))
  have RE := hide ((unhide HR).later (unhide CE).bel)
  have hzE : w.heap.size + 1 + 1 ≤ (V.drew.alloc (.cells #[] 3)).heap.size := by have := (unhide CE).lt; omega
  have hl : ([] : List Int).length + ns.length ≤ 100000000 := by have := unhide HL; simp; omega
  clear bE
  go_region_law (refine step_appN (V.drew.alloc (.cells #[] 3)) rfl (.tmp 3) (.tmp 5) rfl (w.heap.size + 1 + 1) _ [] rfl (unhide OE) a n c ns rfl (unhide RE) hnil hl hzE ?_; intro v' w4 hO hG; obtain ⟨a8, c8, rfl, hO⟩ := Ow.formN hO (unhide HL); have O4 := hide hO; have B4 := hide ((unhide CE).bel.grown hG (unhide CE).bel.size (fun k hk => by have := (World.ownsRow.lt (unhide OE) _ hk).1; omega)); obtain ⟨t0, t1, -⟩ := blk_cells2 ((hG.block _ (by have := (unhide CE).lt; omega) (fun q => by have := (World.ownsRow.lt (unhide OE) _ q.symm).1; omega)).trans (unhide CE).ka); obtain ⟨p0, p1, pf⟩ := blk_cells2 ((hG.block _ (unhide CE).lt (fun q => by have := (World.ownsRow.lt (unhide OE) _ q.symm).1; omega)).trans (unhide CE).kr); have z4 := hG.size; clear hO hG)
  all_goals go_wp2
  all_goals exact bodyPost_ret (v := .agg #[.slice a8 n c8, .int .i64 q]) (by simp [results, Try.results35, go_sem, p0, p1]) rfl ⟨a8, c8, rfl, Ow.base (((unhide O4).set ⟨w.heap.size + 1, 0, none⟩ (by simp) _).set ⟨w.heap.size + 1, 1, none⟩ (by simp) _) (by omega), ((unhide B4).setCell (p := ⟨w.heap.size + 1, 0, none⟩) (by simp) _).setCell (p := ⟨w.heap.size + 1, 1, none⟩) (by simp) _⟩
/-- While a tree is touched: both arguments, the result's variable, the new tree, its leaves. -/
structure T6 (w X : World) (g : Nat) (v : Value) (q : Int) (v1 v2 : Value) (u : Value) (q1 : Int) (ns : List Int) : Prop where
  bel : Below w.heap.size w X
  hg : w.heap.size + 1 + 1 < g
  kt : X.heap[w.heap.size]? = some (TreB v q)
  ks : X.heap[w.heap.size + 1]? = some (.cells #[v1, v2] 37 (0, 0))
  kr : X.heap[w.heap.size + 1 + 1]? = some (TreB (.slice none 0 0) 0)
  ko : X.heap[g]? = some (TreB u q1)
  ob : OwN (w.heap.size + 1 + 1 + 1) X u ns
section
variable {w X Y : World} {g : Nat} {v : Value} {q q1 : Int} {v1 v2 u : Value} {ns ms : List Int}
theorem T6.lt (h : T6 w X g v q v1 v2 u q1 ns) : g < X.heap.size := (Array.getElem?_eq_some_iff.1 h.ko).1
theorem T6.later (h : T6 w X g v q v1 v2 u q1 ns) (b : Below X.heap.size X Y) : T6 w Y g v q v1 v2 u q1 ns := by
  have := h.lt; have := h.hg
  exact ⟨h.bel.trans (b.mono h.bel.size), h.hg, (b.block _ (by omega)).trans h.kt, (b.block _ (by omega)).trans h.ks, (b.block _ (by omega)).trans h.kr, (b.block _ h.lt).trans h.ko, h.ob.later b⟩
theorem T6.drewH (h : Hid (T6 w X g v q v1 v2 u q1 ns)) : Hid (T6 w X.drew g v q v1 v2 u q1 ns) := hide ((unhide h).later ((Below.refl _ _).drew))
theorem kT6 (h : Hid (T6 w X g v q v1 v2 u q1 ns)) : Below w.heap.size w X ∧ X.cell? ⟨g, 0, none⟩ = some u ∧ X.cell? ⟨g, 1, none⟩ = some (.int .i64 q1) ∧ X.cell? ⟨w.heap.size + 1, 0, none⟩ = some v1 ∧ X.cell? ⟨w.heap.size + 1, 1, none⟩ = some v2 := by
  obtain ⟨h0, h1, -⟩ := blk_cells2 (unhide h).ko
  obtain ⟨h2, h3, -⟩ := blk_cells2 (unhide h).ks
  exact ⟨(unhide h).bel, h0, h1, h2, h3⟩
/-- A number is stored into the leaves. -/
theorem T6.put {e n c k : Nat} (h : T6 w X g v q v1 v2 (.slice (some ⟨e, 0, none⟩) n c) q1 ns) (hn : n = ns.length) (z : Int) : T6 w (X.setCell ⟨e, k, none⟩ (.int .i64 z)) g v q v1 v2 (.slice (some ⟨e, 0, none⟩) n c) q1 (ns.set k z) := by
  have hl := (World.ownsRow.lt h.ob e rfl).1
  have hg := h.hg
  have hne : e ≠ g := fun q => own_ne h.ob h.ko (by decide) (by rw [← q]; rfl)
  subst hn
  have hst := (World.ownsRow.stored (show X.ownsRow (w.heap.size + 1 + 1 + 1) 3 1 (.slice (some ⟨e, 0, none⟩) ns.length c) ns.length (ns.flatMap encN) from h.ob) k (.int .i64 z)).1
  have o : ∀ b, b ≠ e → (X.setCell ⟨e, k, none⟩ (.int .i64 z)).heap[b]? = X.heap[b]? := fun b hb => heap_setCell_other _ _ _ _ (by show b ≠ e; exact hb)
  refine ⟨h.bel.setCell (p := ⟨e, k, none⟩) (by simp <;> omega) _, hg, (o _ (by omega)).trans h.kt, (o _ (by omega)).trans h.ks, (o _ (by omega)).trans h.kr, (o _ (Ne.symm hne)).trans h.ko, ?_⟩
  unfold OwN Ow
  rw [List.length_set, flatN, List.map_set, ← flatN]
  exact hst
end
theorem tc_no {ts : List Int} {xs : List Itm} {fs : List Flr} {id r : Int} {k1 k2 k3 : Bool} (h1 : okS xs fs = k1) (h2 : inB id 0 4 = k2) (h3 : (ts.length == 4) = k3) (h : (k1 && k2 && k3) = false) : tcL ts xs fs id = ts ∧ tcR ts r xs fs id = r := by
  have e : tcOk ts xs fs id = false := by rw [tcOk, h1, h2, h3, h]
  rw [tcL, tcR, e]; exact ⟨rfl, rfl⟩
theorem tc_yes {ts : List Int} {xs : List Itm} {fs : List Flr} {id r l z : Int} (h1 : okS xs fs = true) (h2 : inB id 0 4 = true) (h3 : (ts.length == 4) = true) (hl : lf id = l) (hz : lsm xs fs l = z) : tcL ts xs fs id = ts.set l.toNat z ∧ tcR ts r xs fs id = rt (ts.set l.toNat z) := by
  have e : tcOk ts xs fs id = true := by rw [tcOk, h1, h2, h3]; rfl
  rw [tcL, tcR, e, hl, hz]; exact ⟨rfl, rfl⟩
theorem fit_set {ns : List Int} (h : ∀ (k : Nat) (x : Int), ns[k]? = some x → -9223372036854775808 ≤ x ∧ x ≤ 9223372036854775807) (j : Nat) {z : Int} (hz : Fit64 z) : ∀ (k : Nat) (x : Int), (ns.set j z)[k]? = some x → -9223372036854775808 ≤ x ∧ x ≤ 9223372036854775807 := by
  intro k x hx
  rw [List.getElem?_set] at hx
  split at hx
  · split at hx
    · cases hx; exact hz
    · cases hx
  · exact h k x hx
theorem spat_touch {W : World} {g : Nat} {r : Int} {u : Value} (h : W.heap[g]? = some (TreB u r)) (r1 : Int) : (W.setCell ⟨g, 1, none⟩ (.int .i64 r1)).heap[g]? = some (TreB u r1) := heap_setCell_same _ _ _ _ _ _ h

theorem Ow.setne {α : Type} {enc : α → List Value} {k : Nat} {E : TypeId} {base : Nat} {w : World} {v : Value} {xs : List α} (h : Ow enc k E base w v xs) {g : Nat} (hne : v.ownBlock ≠ some g) (o : Nat) (u : Value) : Ow enc k E base (w.setCell ⟨g, o, none⟩ u) v xs := by
  refine ⟨h.1, ?_⟩
  rcases h.2 with hn | ⟨e, cap, cur, rfl, hg, hh, r⟩
  · exact .inl hn
  · refine .inr ⟨e, cap, cur, rfl, hg, ?_, r⟩
    rw [heap_setCell_other _ _ _ _ (by show e ≠ g; intro q; exact hne (by rw [← q]; rfl))]
    exact hh
theorem own_cell {base e n c : Nat} {W : World} {ns : List Int} (h : OwN base W (.slice (some ⟨e, 0, none⟩) n c) ns) (hn : n = ns.length) {k : Nat} (hk : k < n) : ∃ y, W.cell? ⟨e, k, none⟩ = some y ∧ W.frozen? ⟨e, k, none⟩ = false := by
  subst hn
  have h' : W.ownsRow base 3 1 (.slice (some ⟨e, 0, none⟩) ns.length c) ns.length (ns.flatMap encN) := h
  have hc := h'.cellAt k (by omega)
  rw [flatN] at hc
  exact ⟨_, hc.trans (List.getElem?_eq_getElem (by simpa using hk)), h'.frozenAt k⟩
set_option maxHeartbeats 8000000 in
set_option maxRecDepth 100000 in
theorem streetouch_any (a : Option Addr) (n c : Nat) (ns : List Int) (q : Int) (ai : Option Addr) (ni ci : Nat) (xs : List Itm) (af : Option Addr) (nf cf : Nat) (fs : List Flr) (id r : Int) (hr : Hid (tcR ns q xs fs id = r)) (w : World) (hn : n ≤ 10000000) (hnil : a = none → c = 0) (hfit : ∀ (k : Nat) (x : Int), ns[k]? = some x → -9223372036854775808 ≤ x ∧ x ≤ 9223372036854775807)
    (hni : ni ≤ 140737488351232) (hnf : nf ≤ 140737488351232) (h : RwN w (.slice a n c) ns) (hx : Rw encI 6 w (.slice ai ni ci) xs) (hf : Rw encF 2 w (.slice af nf cf) fs) :
    Calls Try.prog 10 #[.agg #[.slice a n c, .int .i64 q], .agg #[.slice ai ni ci, .slice af nf cf], .int .i64 id] w fun e w' => ∃ a1 c1, e = .returned (.agg #[.slice a1 n c1, .int .i64 r]) ∧ OwN w.heap.size w' (.slice a1 n c1) (tcL ns xs fs id) ∧ Below w.heap.size w w' := by
  obtain ⟨k1, HK1⟩ : ∃ k, Hid (okS xs fs = k) := ⟨_, hide rfl⟩
  obtain ⟨k2, HK2⟩ : ∃ k, Hid (inB id 0 4 = k) := ⟨_, hide rfl⟩
  have HR := hide h
  have HX := hide hx
  have HF := hide hf
  have HL := hide h.len.1
  have HFT := hide hfit
  clear h hx hf hfit
  go_enter Try.func10, Try.ntmps10
  go_wp2_with fail
  have bW : Below w.heap.size w (((w.alloc (TreB (.slice a n c) q)).alloc (.cells #[.slice ai ni ci, .slice af nf cf] 37)).alloc (TreB (.slice none 0 0) 0)) := (((Below.refl w.heap.size w).alloc (Nat.le_refl _) _).alloc (by simp) _).alloc (by simp <;> omega) _
  refine (l6copy_any a n c ns q _ hn hnil ((unhide HR).later bW)).mono ?_
  rintro e w1 ⟨a1, c1, rfl, o1, b1⟩
  have BL := hide (bW.trans (b1.mono (by simp <;> omega)))
  have KT := hide ((b1.block w.heap.size (by simp <;> omega)).trans (lowB3 w _ _ _))
  have KS := hide ((b1.block (w.heap.size + 1) (by simp)).trans (midB3 w _ _ _))
  have KR := hide ((b1.block (w.heap.size + 1 + 1) (by simp)).trans (newB3 w _ _ _))
  have O1 := hide (Ow.base (base' := w.heap.size + 1 + 1 + 1) o1 (by simp))
  have z1 : w.heap.size + 1 + 1 < w1.heap.size := (Array.getElem?_eq_some_iff.1 (unhide KR)).1
  clear bW b1 o1
  obtain ⟨s0, s1, -⟩ := blk_cells2 (unhide KS)
  have zS : w.heap.size + 1 < w1.heap.size := by omega
  go_wp2_with fail
  obtain ⟨W, hW⟩ : ∃ W, W = w1.alloc (TreB (.slice a1 n c1) q) := ⟨_, rfl⟩
  have bX : Below w1.heap.size w1 W := by rw [hW]; exact (Below.refl _ _).alloc (Nat.le_refl _) _
  have TW : Hid (T6 w W w1.heap.size (.slice a n c) q (.slice ai ni ci) (.slice af nf cf) (.slice a1 n c1) q ns) := hide ⟨(unhide BL).trans (bX.mono (unhide BL).size), z1, (bX.block _ (by omega)).trans (unhide KT), (bX.block _ (by omega)).trans (unhide KS), (bX.block _ z1).trans (unhide KR), by rw [hW]; exact newB1 w1 _, (unhide O1).later bX⟩
  rw [← hW]
  clear s0 s1 hW bX BL KT KS KR O1
  refine (sstateok_any ai ni ci xs af nf cf fs _ HK1 _ hni hnf ((unhide HX).later (unhide TW).bel) ((unhide HF).later (unhide TW).bel)).mono ?_
  rintro e w2 ⟨rfl, b2⟩
  have T2 := hide ((unhide TW).later b2)
  have z2 := (unhide T2).lt
  have zR2 : w.heap.size + 1 + 1 < w2.heap.size := by omega
  have zS2 : w.heap.size + 1 < w2.heap.size := by omega
  have zT2 : w.heap.size < w2.heap.size := by omega
  clear b2 TW
  obtain ⟨o0, o1, of⟩ := blk_cells2 (unhide T2).ko
  obtain ⟨r0, r1, rf⟩ := blk_cells2 (unhide T2).kr
  obtain ⟨t0, t1, -⟩ := blk_cells2 (unhide T2).kt
  cases k1
  · obtain ⟨e1, e2⟩ := tc_no (ts := ns) (r := q) (unhide HK1) (unhide HK2) rfl (by simp)
    obtain rfl : q = r := by rw [← unhide hr, e2]
    go_wp2
    exact bodyPost_ret (v := .agg #[.slice a1 n c1, .int .i64 q]) (by simp [results, Try.results10, go_sem, r0, r1]) rfl ⟨a1, c1, rfl, by rw [e1]; exact Ow.base (((unhide T2).ob.set ⟨w.heap.size + 1 + 1, 0, none⟩ (by simp) _).set ⟨w.heap.size + 1 + 1, 1, none⟩ (by simp) _) (by omega), ((unhide T2).bel.setCell (p := ⟨w.heap.size + 1 + 1, 0, none⟩) (by simp <;> omega) _).setCell (p := ⟨w.heap.size + 1 + 1, 1, none⟩) (by simp <;> omega) _⟩
  · go_wp2_with fail
    refine (l3node_any id k2 HK2 _).mono ?_
    rintro e _ ⟨rfl, rfl⟩
    cases k2
    · obtain ⟨e1, e2⟩ := tc_no (ts := ns) (r := q) (unhide HK1) (unhide HK2) rfl (by simp)
      obtain rfl : q = r := by rw [← unhide hr, e2]
      go_wp2
      exact bodyPost_ret (v := .agg #[.slice a1 n c1, .int .i64 q]) (by simp [results, Try.results10, go_sem, r0, r1]) rfl ⟨a1, c1, rfl, by rw [e1]; exact Ow.base (((unhide T2).ob.set ⟨w.heap.size + 1 + 1, 0, none⟩ (by simp) _).set ⟨w.heap.size + 1 + 1, 1, none⟩ (by simp) _) (by omega), ((unhide T2).bel.setCell (p := ⟨w.heap.size + 1 + 1, 0, none⟩) (by simp <;> omega) _).setCell (p := ⟨w.heap.size + 1 + 1, 1, none⟩) (by simp <;> omega) _⟩
    · by_cases h4 : n = 4
      · have h4' : (ns.length == 4) = true := by rw [← unhide HL, h4]; rfl
        subst h4
        obtain ⟨l, HLF⟩ : ∃ l, Hid (lf id = l) := ⟨_, hide rfl⟩
        obtain ⟨z, HZ⟩ : ∃ z, Hid (lsm xs fs l = z) := ⟨_, hide rfl⟩
        obtain ⟨e1, e2⟩ := tc_yes (ts := ns) (r := q) (unhide HK1) (unhide HK2) h4' (unhide HLF) (unhide HZ)
        have HE1 := hide e1
        have HE2 : Hid (rt (ns.set l.toNat z) = r) := hide (by rw [← unhide hr, e2])
        have hlr := lf_in (unhide HK2)
        rw [unhide HLF] at hlr
        obtain ⟨-, l0, l3⟩ := hlr
        have hzr := lsm_range xs fs l
        rw [unhide HZ] at hzr
        obtain ⟨e, rfl⟩ : ∃ e, a1 = some ⟨e, 0, none⟩ := by
          rcases (unhide T2).ob.2 with ⟨hh, _⟩ | ⟨g, cap, cur, hh, _⟩
          · simp at hh
          · simp at hh; exact ⟨g, hh.1⟩
        clear e1 e2 h4' hr o0 o1 of r0 r1 rf t0 t1
        obtain ⟨L, rfl⟩ : ∃ L : Nat, l = L := ⟨l.toNat, by omega⟩
        rw [Int.toNat_natCast] at HE1 HE2
        have hL : L < 4 := by omega
        have HL4 : Hid (4 = ns.length) := HL
        have hc4 : 4 ≤ c1 := ((unhide T2).ob.rw encN_len).len.2
        have hLi : (L : Int) < 4 := by omega
        obtain ⟨o0, o1, -⟩ := blk_cells2 (unhide T2).ko
        obtain ⟨t0, t1, -⟩ := blk_cells2 (unhide T2).kt
        go_upto_region 4 with fail
        clear o0 o1 t0 t1
        have TD := T6.drewH T2
        go_region_held3 (fun W => Below w.heap.size w W ∧ W.cell? ⟨w1.heap.size, 0, none⟩ = some (.slice (some ⟨e, 0, none⟩) 4 c1) ∧ W.cell? ⟨w1.heap.size, 1, none⟩ = some (.int .i64 q) ∧ W.cell? ⟨w.heap.size + 1, 0, none⟩ = some (.slice ai ni ci) ∧ W.cell? ⟨w.heap.size + 1, 1, none⟩ = some (.slice af nf cf))
          (first | (with_reducible exact kT6 T2) | (with_reducible exact kT6 TD) | (with_reducible exact kT6 TB) | (with_reducible exact kT6 TC) | (with_reducible exact kT6 TE) | (with_reducible exact kT6 TP))
          (first
            | (go_at_call 39; refine (sleaf_any id L HLF _).mono ?_; rintro e3 w3 ⟨rfl, b3⟩; (first | (with_reducible have TC := hide ((unhide TB).later b3)) | (with_reducible have TB := hide ((unhide TD).later b3))); clear b3)
            | (go_at_call 38; refine (sleafsum_any ai ni ci xs af nf cf fs L z HZ _ hni hnf ((unhide HX).later (unhide TC).bel) ((unhide HF).later (unhide TC).bel)).mono ?_; rintro e4 w4 ⟨rfl, b4⟩; have TE := hide ((unhide TC).later b4); have TP := hide ((unhide TE).put (k := L) (unhide HL4) z); obtain ⟨y, hy, hfz⟩ := own_cell (unhide TE).ob (unhide HL4) hL; have zE := (unhide TE).lt; clear b4))
        obtain ⟨X, hX⟩ : ∃ X, X = w4.setCell ⟨e, L, none⟩ (.int .i64 z) := ⟨_, rfl⟩
        have TX : Hid (T6 w X w1.heap.size (.slice a 4 c) q (.slice ai ni ci) (.slice af nf cf) (.slice (some ⟨e, 0, none⟩) 4 c1) q (ns.set L z)) := hide (by rw [hX]; exact unhide TP)
        rw [← hX]
        clear hX TP TE hy hfz
        obtain ⟨o0, o1, of⟩ := blk_cells2 (unhide TX).ko
        have zX := (unhide TX).lt
        go_wp2_with fail
        refine (l6root_any _ 4 c1 (ns.set L z) r HE2 _ (by omega) (fit_set (unhide HFT) L (by unfold Fit64; omega)) ((unhide TX).ob.rw encN_len)).mono ?_
        rintro e5 w5 ⟨rfl, b5⟩
        have T5 := hide ((unhide TX).later b5)
        have z5 := (unhide T5).lt
        clear o0 o1 of b5 TX
        obtain ⟨o0, o1, of⟩ := blk_cells2 (unhide T5).ko
        obtain ⟨r0, r1, rf⟩ := blk_cells2 (unhide T5).kr
        have zg := (unhide T5).hg
        have zr5 : w.heap.size + 1 + 1 < w5.heap.size := by omega
        have hne := own_ne (unhide T5).ob (unhide T5).ko (by decide)
        go_wp2
        exact bodyPost_ret (v := .agg #[.slice (some ⟨e, 0, none⟩) 4 c1, .int .i64 r]) (by simp [results, Try.results10, go_sem, r0, r1]) rfl ⟨_, c1, rfl, by rw [unhide HE1]; exact Ow.base (((Ow.setne (unhide T5).ob hne 1 _).set ⟨w.heap.size + 1 + 1, 0, none⟩ (by simp) _).set ⟨w.heap.size + 1 + 1, 1, none⟩ (by simp) _) (by omega), (((unhide T5).bel.setCell (p := ⟨w1.heap.size, 1, none⟩) (by simp <;> omega) _).setCell (p := ⟨w.heap.size + 1 + 1, 0, none⟩) (by simp <;> omega) _).setCell (p := ⟨w.heap.size + 1 + 1, 1, none⟩) (by simp <;> omega) _⟩
      · have h4' : (ns.length == 4) = false := by rw [← unhide HL]; simpa using h4
        have hd : ((n : Int) != 4) = true := by simp; omega
        obtain ⟨e1, e2⟩ := tc_no (ts := ns) (r := q) (unhide HK1) (unhide HK2) h4' rfl
        obtain rfl : q = r := by rw [← unhide hr, e2]
        go_wp2
        exact bodyPost_ret (v := .agg #[.slice a1 n c1, .int .i64 q]) (by simp [results, Try.results10, go_sem, r0, r1]) rfl ⟨a1, c1, rfl, by rw [e1]; exact Ow.base (((unhide T2).ob.set ⟨w.heap.size + 1 + 1, 0, none⟩ (by simp) _).set ⟨w.heap.size + 1 + 1, 1, none⟩ (by simp) _) (by omega), ((unhide T2).bel.setCell (p := ⟨w.heap.size + 1 + 1, 0, none⟩) (by simp <;> omega) _).setCell (p := ⟨w.heap.size + 1 + 1, 1, none⟩) (by simp <;> omega) _⟩
end Go.Proofs.Ytdpaocikmijioaf

namespace Go.Proofs.Ytdpaocikmijioaf
open Go.RowKit

set_option maxHeartbeats 8000000 in
set_option maxRecDepth 100000 in
theorem itreetouch_any (a : Option Addr) (n c : Nat) (ns : List Int) (q : Int) (ai : Option Addr) (ni ci : Nat) (xs : List Itm) (af : Option Addr) (nf cf : Nat) (fs : List Flr) (id r : Int) (hr : Hid (tcR ns q xs fs id = r)) (w : World) (hn : n ≤ 10000000) (hnil : a = none → c = 0) (hfit : ∀ (k : Nat) (x : Int), ns[k]? = some x → -9223372036854775808 ≤ x ∧ x ≤ 9223372036854775807)
    (hni : ni ≤ 140737488351232) (hnf : nf ≤ 140737488351232) (h : RwN w (.slice a n c) ns) (hx : Rw encI 6 w (.slice ai ni ci) xs) (hf : Rw encF 2 w (.slice af nf cf) fs) :
    Calls Try.prog 13 #[.agg #[.slice a n c, .int .i64 q], .agg #[.slice ai ni ci, .slice af nf cf], .int .i64 id] w fun e w' => ∃ a1 c1, e = .returned (.agg #[.slice a1 n c1, .int .i64 r]) ∧ OwT w.heap.size w' (.slice a1 n c1) (tcL ns xs fs id) ∧ Below w.heap.size w w' := by
  obtain ⟨k1, HK1⟩ : ∃ k, Hid (okS xs fs = k) := ⟨_, hide rfl⟩
  obtain ⟨k2, HK2⟩ : ∃ k, Hid (inB id 0 4 = k) := ⟨_, hide rfl⟩
  obtain ⟨⟨x0, x1, x2, x3⟩, k3, HS3⟩ : ∃ x k, sm ns = (x, k) := ⟨_, _, rfl⟩
  have HK3 : Hid ((ns.length == 4) = k3) := hide (by rw [← sm_len, HS3])
  replace HS3 := hide HS3
  have HR := hide h
  have HX := hide hx
  have HF := hide hf
  have HL := hide h.len.1
  have HFT := hide hfit
  clear h hx hf hfit
  go_enter Try.func13, Try.ntmps13
  go_wp2_with fail
  have bW : Below w.heap.size w (((w.alloc (TreB (.slice a n c) q)).alloc (.cells #[.slice ai ni ci, .slice af nf cf] 37)).alloc (TreB (.slice none 0 0) 0)) := (((Below.refl w.heap.size w).alloc (Nat.le_refl _) _).alloc (by simp) _).alloc (by simp <;> omega) _
  refine (isumsof_any a n c ns q x0 x1 x2 x3 k3 HS3 _ ((unhide HR).later bW) (by omega)).mono ?_
  rintro e w1 ⟨rfl, b1⟩
  have BL := hide (bW.trans (b1.mono (by simp <;> omega)))
  have KT := hide ((b1.block w.heap.size (by simp <;> omega)).trans (lowB3 w _ _ _))
  have KS := hide ((b1.block (w.heap.size + 1) (by simp)).trans (midB3 w _ _ _))
  have KR := hide ((b1.block (w.heap.size + 1 + 1) (by simp)).trans (newB3 w _ _ _))
  have z1 : w.heap.size + 1 + 1 < w1.heap.size := (Array.getElem?_eq_some_iff.1 (unhide KR)).1
  clear bW b1
  obtain ⟨s0, s1, -⟩ := blk_cells2 (unhide KS)
  have zS : w.heap.size + 1 < w1.heap.size := by omega
  go_wp2_with fail
  obtain ⟨W, hW⟩ : ∃ W, W = w1.alloc (SumB x0 x1 x2 x3) := ⟨_, rfl⟩
  have bX : Below w1.heap.size w1 W := by rw [hW]; exact (Below.refl _ _).alloc (Nat.le_refl _) _
  have BLW := hide ((unhide BL).trans (bX.mono (unhide BL).size))
  have TW := hide ((bX.block _ (by omega)).trans (unhide KT))
  have SW := hide ((bX.block _ zS).trans (unhide KS))
  have RW := hide ((bX.block _ z1).trans (unhide KR))
  have LW : Hid (W.heap[w1.heap.size]? = some (SumB x0 x1 x2 x3)) := hide (by rw [hW]; exact newB1 w1 _)
  rw [← hW]
  clear s0 s1 hW bX BL KT KS KR
  refine (istateok_any ai ni ci xs af nf cf fs _ HK1 _ hni hnf ((unhide HX).later (unhide BLW)) ((unhide HF).later (unhide BLW))).mono ?_
  rintro e w2 ⟨rfl, b2⟩
  have zW := (Array.getElem?_eq_some_iff.1 (unhide LW)).1
  have BL2 := hide ((unhide BLW).trans (b2.mono (unhide BLW).size))
  have KT2 := hide ((b2.block _ (by omega)).trans (unhide TW))
  have KS2 := hide ((b2.block _ (by omega)).trans (unhide SW))
  have KR2 := hide ((b2.block _ (by omega)).trans (unhide RW))
  have KL2 := hide ((b2.block _ zW).trans (unhide LW))
  have z2 := (Array.getElem?_eq_some_iff.1 (unhide KL2)).1
  have zR2 : w.heap.size + 1 + 1 < w2.heap.size := by omega
  have zS2 : w.heap.size + 1 < w2.heap.size := by omega
  have zT2 : w.heap.size < w2.heap.size := by omega
  have hw2 := (unhide BL2).size
  clear b2 BLW TW SW RW LW
  cases k1
  · obtain ⟨e1, e2⟩ := tc_no (ts := ns) (r := q) (unhide HK1) (unhide HK2) rfl (by simp)
    obtain rfl : q = r := by rw [← unhide hr, e2]
    obtain ⟨t0, t1, -⟩ := blk_cells2 (unhide KT2)
    go_wp2_with fail
    refine (itreecopy_any a n c ns q _ hn hnil ((unhide HR).later (unhide BL2))).mono ?_
    rintro e w3 ⟨a1, c1, rfl, o3, b3⟩
    have BL3 := hide ((unhide BL2).trans (b3.mono hw2))
    have O3 := hide (Ow.base (base' := w.heap.size + 1 + 1 + 1) o3 (by omega))
    have KR3 := hide ((b3.block _ zR2).trans (unhide KR2))
    have z3 : w.heap.size + 1 + 1 < w3.heap.size := (Array.getElem?_eq_some_iff.1 (unhide KR3)).1
    clear t0 t1 o3 b3
    obtain ⟨r0, r1, rf⟩ := blk_cells2 (unhide KR3)
    go_wp2
    exact bodyPost_ret (v := .agg #[.slice a1 n c1, .int .i64 q]) (by simp [results, Try.results13, go_sem, r0, r1]) rfl ⟨a1, c1, rfl, ⟨_, by rw [e1]; exact Ow.base (((unhide O3).set ⟨w.heap.size + 1 + 1, 0, none⟩ (by simp) _).set ⟨w.heap.size + 1 + 1, 1, none⟩ (by simp) _) (by omega)⟩, ((unhide BL3).setCell (p := ⟨w.heap.size + 1 + 1, 0, none⟩) (by simp <;> omega) _).setCell (p := ⟨w.heap.size + 1 + 1, 1, none⟩) (by simp <;> omega) _⟩
  · go_wp2_with fail
    refine (inode_any id k2 HK2 _).mono ?_
    rintro e _ ⟨rfl, rfl⟩
    cases k2
    · obtain ⟨e1, e2⟩ := tc_no (ts := ns) (r := q) (unhide HK1) (unhide HK2) rfl (by simp)
      obtain rfl : q = r := by rw [← unhide hr, e2]
      obtain ⟨t0, t1, -⟩ := blk_cells2 (unhide KT2)
      go_wp2_with fail
      refine (itreecopy_any a n c ns q _ hn hnil ((unhide HR).later (unhide BL2))).mono ?_
      rintro e w3 ⟨a1, c1, rfl, o3, b3⟩
      have BL3 := hide ((unhide BL2).trans (b3.mono hw2))
      have O3 := hide (Ow.base (base' := w.heap.size + 1 + 1 + 1) o3 (by omega))
      have KR3 := hide ((b3.block _ zR2).trans (unhide KR2))
      have z3 : w.heap.size + 1 + 1 < w3.heap.size := (Array.getElem?_eq_some_iff.1 (unhide KR3)).1
      clear t0 t1 o3 b3
      obtain ⟨r0, r1, rf⟩ := blk_cells2 (unhide KR3)
      go_wp2
      exact bodyPost_ret (v := .agg #[.slice a1 n c1, .int .i64 q]) (by simp [results, Try.results13, go_sem, r0, r1]) rfl ⟨a1, c1, rfl, ⟨_, by rw [e1]; exact Ow.base (((unhide O3).set ⟨w.heap.size + 1 + 1, 0, none⟩ (by simp) _).set ⟨w.heap.size + 1 + 1, 1, none⟩ (by simp) _) (by omega)⟩, ((unhide BL3).setCell (p := ⟨w.heap.size + 1 + 1, 0, none⟩) (by simp <;> omega) _).setCell (p := ⟨w.heap.size + 1 + 1, 1, none⟩) (by simp <;> omega) _⟩
    · cases k3
      · obtain ⟨e1, e2⟩ := tc_no (ts := ns) (r := q) (unhide HK1) (unhide HK2) (unhide HK3) rfl
        obtain rfl : q = r := by rw [← unhide hr, e2]
        obtain ⟨t0, t1, -⟩ := blk_cells2 (unhide KT2)
        go_wp2_with fail
        refine (itreecopy_any a n c ns q _ hn hnil ((unhide HR).later (unhide BL2))).mono ?_
        rintro e w3 ⟨a1, c1, rfl, o3, b3⟩
        have BL3 := hide ((unhide BL2).trans (b3.mono hw2))
        have O3 := hide (Ow.base (base' := w.heap.size + 1 + 1 + 1) o3 (by omega))
        have KR3 := hide ((b3.block _ zR2).trans (unhide KR2))
        have z3 : w.heap.size + 1 + 1 < w3.heap.size := (Array.getElem?_eq_some_iff.1 (unhide KR3)).1
        clear t0 t1 o3 b3
        obtain ⟨r0, r1, rf⟩ := blk_cells2 (unhide KR3)
        go_wp2
        exact bodyPost_ret (v := .agg #[.slice a1 n c1, .int .i64 q]) (by simp [results, Try.results13, go_sem, r0, r1]) rfl ⟨a1, c1, rfl, ⟨_, by rw [e1]; exact Ow.base (((unhide O3).set ⟨w.heap.size + 1 + 1, 0, none⟩ (by simp) _).set ⟨w.heap.size + 1 + 1, 1, none⟩ (by simp) _) (by omega)⟩, ((unhide BL3).setCell (p := ⟨w.heap.size + 1 + 1, 0, none⟩) (by simp <;> omega) _).setCell (p := ⟨w.heap.size + 1 + 1, 1, none⟩) (by simp <;> omega) _⟩
      · obtain rfl := sm_yes (unhide HS3)
        obtain rfl : n = 4 := unhide HL
        obtain ⟨l, HLF⟩ : ∃ l, Hid (lf id = l) := ⟨_, hide rfl⟩
        obtain ⟨z, HZ⟩ : ∃ z, Hid (lsm xs fs l = z) := ⟨_, hide rfl⟩
        obtain ⟨e1, e2⟩ := tc_yes (ts := [x0, x1, x2, x3]) (r := q) (unhide HK1) (unhide HK2) rfl (unhide HLF) (unhide HZ)
        have HE1 := hide e1
        have HE2 : Hid (rt (([x0, x1, x2, x3] : List Int).set l.toNat z) = r) := hide (by rw [← unhide hr, e2])
        have hlr := lf_in (unhide HK2)
        rw [unhide HLF] at hlr
        obtain ⟨-, l0, l3⟩ := hlr
        have hz : Fit64 z := by
          have h := lsm_range xs fs l
          rw [unhide HZ] at h
          unfold Fit64; omega
        have g0 : Fit64 x0 := unhide HFT 0 x0 rfl
        have g1 : Fit64 x1 := unhide HFT 1 x1 rfl
        have g2 : Fit64 x2 := unhide HFT 2 x2 rfl
        have g3 : Fit64 x3 := unhide HFT 3 x3 rfl
        clear e1 e2 hr HS3 HK3 HL HFT
        go_wp2_with fail
        refine (ileaf_any id l HLF _).mono ?_
        rintro e w3 ⟨rfl, b3⟩
        have BL3 := hide ((unhide BL2).trans (b3.mono hw2))
        have KS3 := hide ((b3.block _ zS2).trans (unhide KS2))
        have KR3 := hide ((b3.block _ zR2).trans (unhide KR2))
        have KL3 := hide ((b3.block _ z2).trans (unhide KL2))
        have z3 := (Array.getElem?_eq_some_iff.1 (unhide KL3)).1
        have hw3 := (unhide BL3).size
        have zS3 : w.heap.size + 1 < w3.heap.size := by omega
        have zR3 : w.heap.size + 1 + 1 < w3.heap.size := by omega
        clear b3 BL2 KT2 KS2 KR2 KL2
        obtain ⟨s0, s1, -⟩ := blk_cells2 (unhide KS3)
        go_wp2_with fail
        refine (ileafsum_any ai ni ci xs af nf cf fs l z HZ _ hni hnf ((unhide HX).later (unhide BL3)) ((unhide HF).later (unhide BL3))).mono ?_
        rintro e w4 ⟨rfl, b4⟩
        have BL4 := hide ((unhide BL3).trans (b4.mono hw3))
        have KR4 := hide ((b4.block _ zR3).trans (unhide KR3))
        have KL4 := hide ((b4.block _ z3).trans (unhide KL3))
        have z4 := (Array.getElem?_eq_some_iff.1 (unhide KL4)).1
        have hw4 := (unhide BL4).size
        clear b4 s0 s1 BL3 KS3 KR3 KL3 HLF HZ
        rcases (by omega : l = 0 ∨ l = 1 ∨ l = 2 ∨ l = 3) with rfl | rfl | rfl | rfl
        · skip
          obtain ⟨c0, c1', c2, c3, cf'⟩ := blkS4 (unhide KL4)
          have HRT : Hid (rt [z, x1, x2, x3] = r) := HE2
          go_wp2_with fail
          have KL5 : Hid ((w4.setCell ⟨w1.heap.size, 0, none⟩ (.int .i64 z)).heap[w1.heap.size]? = some (SumB z x1 x2 x3)) := hide (heap_setCell_same _ _ _ _ _ _ (unhide KL4))
          have BL5 := (unhide BL4).setCell (p := ⟨w1.heap.size, 0, none⟩) (by simp <;> omega) (.int .i64 z)
          have KR5 : (w4.setCell ⟨w1.heap.size, 0, none⟩ (.int .i64 z)).heap[w.heap.size + 1 + 1]? = some (TreB (.slice none 0 0) 0) := by rw [heap_setCell_other _ _ _ _ (by show w.heap.size + 1 + 1 ≠ w1.heap.size; omega)]; exact unhide KR4
          refine (itreewith_any z x1 x2 x3 r HRT _ hz g1 g2 g3).mono ?_
          rintro e w6 ⟨a1, q1, rfl, o6, b6⟩
          have y5 := BL5.size
          have BL6 := hide (BL5.trans (b6.mono y5))
          have KR6 := hide ((b6.block _ (by simp <;> omega)).trans KR5)
          have O6 := hide (Ow.base (base' := w.heap.size + 1 + 1 + 1) o6 (by simp <;> omega))
          have z6 : w.heap.size + 1 + 1 < w6.heap.size := (Array.getElem?_eq_some_iff.1 (unhide KR6)).1
          obtain ⟨r0, r1, rf⟩ := blk_cells2 (unhide KR6)
          clear o6 b6 BL5 KR5 c0 c1' c2 c3 cf'
          go_wp2
          exact bodyPost_ret (v := .agg #[.slice a1 4 q1, .int .i64 r]) (by simp [results, Try.results13, go_sem, r0, r1]) rfl ⟨a1, q1, rfl, ⟨_, by rw [unhide HE1]; exact Ow.base (((unhide O6).set ⟨w.heap.size + 1 + 1, 0, none⟩ (by simp) _).set ⟨w.heap.size + 1 + 1, 1, none⟩ (by simp) _) (by omega)⟩, ((unhide BL6).setCell (p := ⟨w.heap.size + 1 + 1, 0, none⟩) (by simp <;> omega) _).setCell (p := ⟨w.heap.size + 1 + 1, 1, none⟩) (by simp <;> omega) _⟩
        · skip
          obtain ⟨c0, c1', c2, c3, cf'⟩ := blkS4 (unhide KL4)
          have HRT : Hid (rt [x0, z, x2, x3] = r) := HE2
          go_wp2_with fail
          have KL5 : Hid ((w4.setCell ⟨w1.heap.size, 1, none⟩ (.int .i64 z)).heap[w1.heap.size]? = some (SumB x0 z x2 x3)) := hide (heap_setCell_same _ _ _ _ _ _ (unhide KL4))
          have BL5 := (unhide BL4).setCell (p := ⟨w1.heap.size, 1, none⟩) (by simp <;> omega) (.int .i64 z)
          have KR5 : (w4.setCell ⟨w1.heap.size, 1, none⟩ (.int .i64 z)).heap[w.heap.size + 1 + 1]? = some (TreB (.slice none 0 0) 0) := by rw [heap_setCell_other _ _ _ _ (by show w.heap.size + 1 + 1 ≠ w1.heap.size; omega)]; exact unhide KR4
          refine (itreewith_any x0 z x2 x3 r HRT _ g0 hz g2 g3).mono ?_
          rintro e w6 ⟨a1, q1, rfl, o6, b6⟩
          have y5 := BL5.size
          have BL6 := hide (BL5.trans (b6.mono y5))
          have KR6 := hide ((b6.block _ (by simp <;> omega)).trans KR5)
          have O6 := hide (Ow.base (base' := w.heap.size + 1 + 1 + 1) o6 (by simp <;> omega))
          have z6 : w.heap.size + 1 + 1 < w6.heap.size := (Array.getElem?_eq_some_iff.1 (unhide KR6)).1
          obtain ⟨r0, r1, rf⟩ := blk_cells2 (unhide KR6)
          clear o6 b6 BL5 KR5 c0 c1' c2 c3 cf'
          go_wp2
          exact bodyPost_ret (v := .agg #[.slice a1 4 q1, .int .i64 r]) (by simp [results, Try.results13, go_sem, r0, r1]) rfl ⟨a1, q1, rfl, ⟨_, by rw [unhide HE1]; exact Ow.base (((unhide O6).set ⟨w.heap.size + 1 + 1, 0, none⟩ (by simp) _).set ⟨w.heap.size + 1 + 1, 1, none⟩ (by simp) _) (by omega)⟩, ((unhide BL6).setCell (p := ⟨w.heap.size + 1 + 1, 0, none⟩) (by simp <;> omega) _).setCell (p := ⟨w.heap.size + 1 + 1, 1, none⟩) (by simp <;> omega) _⟩
        · skip
          obtain ⟨c0, c1', c2, c3, cf'⟩ := blkS4 (unhide KL4)
          have HRT : Hid (rt [x0, x1, z, x3] = r) := HE2
          go_wp2_with fail
          have KL5 : Hid ((w4.setCell ⟨w1.heap.size, 2, none⟩ (.int .i64 z)).heap[w1.heap.size]? = some (SumB x0 x1 z x3)) := hide (heap_setCell_same _ _ _ _ _ _ (unhide KL4))
          have BL5 := (unhide BL4).setCell (p := ⟨w1.heap.size, 2, none⟩) (by simp <;> omega) (.int .i64 z)
          have KR5 : (w4.setCell ⟨w1.heap.size, 2, none⟩ (.int .i64 z)).heap[w.heap.size + 1 + 1]? = some (TreB (.slice none 0 0) 0) := by rw [heap_setCell_other _ _ _ _ (by show w.heap.size + 1 + 1 ≠ w1.heap.size; omega)]; exact unhide KR4
          refine (itreewith_any x0 x1 z x3 r HRT _ g0 g1 hz g3).mono ?_
          rintro e w6 ⟨a1, q1, rfl, o6, b6⟩
          have y5 := BL5.size
          have BL6 := hide (BL5.trans (b6.mono y5))
          have KR6 := hide ((b6.block _ (by simp <;> omega)).trans KR5)
          have O6 := hide (Ow.base (base' := w.heap.size + 1 + 1 + 1) o6 (by simp <;> omega))
          have z6 : w.heap.size + 1 + 1 < w6.heap.size := (Array.getElem?_eq_some_iff.1 (unhide KR6)).1
          obtain ⟨r0, r1, rf⟩ := blk_cells2 (unhide KR6)
          clear o6 b6 BL5 KR5 c0 c1' c2 c3 cf'
          go_wp2
          exact bodyPost_ret (v := .agg #[.slice a1 4 q1, .int .i64 r]) (by simp [results, Try.results13, go_sem, r0, r1]) rfl ⟨a1, q1, rfl, ⟨_, by rw [unhide HE1]; exact Ow.base (((unhide O6).set ⟨w.heap.size + 1 + 1, 0, none⟩ (by simp) _).set ⟨w.heap.size + 1 + 1, 1, none⟩ (by simp) _) (by omega)⟩, ((unhide BL6).setCell (p := ⟨w.heap.size + 1 + 1, 0, none⟩) (by simp <;> omega) _).setCell (p := ⟨w.heap.size + 1 + 1, 1, none⟩) (by simp <;> omega) _⟩
        · skip
          obtain ⟨c0, c1', c2, c3, cf'⟩ := blkS4 (unhide KL4)
          have HRT : Hid (rt [x0, x1, x2, z] = r) := HE2
          go_wp2_with fail
          have KL5 : Hid ((w4.setCell ⟨w1.heap.size, 3, none⟩ (.int .i64 z)).heap[w1.heap.size]? = some (SumB x0 x1 x2 z)) := hide (heap_setCell_same _ _ _ _ _ _ (unhide KL4))
          have BL5 := (unhide BL4).setCell (p := ⟨w1.heap.size, 3, none⟩) (by simp <;> omega) (.int .i64 z)
          have KR5 : (w4.setCell ⟨w1.heap.size, 3, none⟩ (.int .i64 z)).heap[w.heap.size + 1 + 1]? = some (TreB (.slice none 0 0) 0) := by rw [heap_setCell_other _ _ _ _ (by show w.heap.size + 1 + 1 ≠ w1.heap.size; omega)]; exact unhide KR4
          refine (itreewith_any x0 x1 x2 z r HRT _ g0 g1 g2 hz).mono ?_
          rintro e w6 ⟨a1, q1, rfl, o6, b6⟩
          have y5 := BL5.size
          have BL6 := hide (BL5.trans (b6.mono y5))
          have KR6 := hide ((b6.block _ (by simp <;> omega)).trans KR5)
          have O6 := hide (Ow.base (base' := w.heap.size + 1 + 1 + 1) o6 (by simp <;> omega))
          have z6 : w.heap.size + 1 + 1 < w6.heap.size := (Array.getElem?_eq_some_iff.1 (unhide KR6)).1
          obtain ⟨r0, r1, rf⟩ := blk_cells2 (unhide KR6)
          clear o6 b6 BL5 KR5 c0 c1' c2 c3 cf'
          go_wp2
          exact bodyPost_ret (v := .agg #[.slice a1 4 q1, .int .i64 r]) (by simp [results, Try.results13, go_sem, r0, r1]) rfl ⟨a1, q1, rfl, ⟨_, by rw [unhide HE1]; exact Ow.base (((unhide O6).set ⟨w.heap.size + 1 + 1, 0, none⟩ (by simp) _).set ⟨w.heap.size + 1 + 1, 1, none⟩ (by simp) _) (by omega)⟩, ((unhide BL6).setCell (p := ⟨w.heap.size + 1 + 1, 0, none⟩) (by simp <;> omega) _).setCell (p := ⟨w.heap.size + 1 + 1, 1, none⟩) (by simp <;> omega) _⟩
end Go.Proofs.Ytdpaocikmijioaf
