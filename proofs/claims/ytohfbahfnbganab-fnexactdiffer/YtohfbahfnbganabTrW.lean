/-
  Trees that are copied, touched, or held against each other: the program's. No statement is proved here.
-/
import Derived.Test.YtohfbahfnbganabTrV
import Derived.Laws.AppendOwnNone
import Derived.Laws.StructEq
namespace Go.Proofs.Ytohfbahfnbganab
open Go.RowKit

theorem wpList_appN {ops : Array Oper} {rest : List Oper} {o : Oper} {a : Act} {Q : Exit → Act → World → Prop} (w : World) (hgd : o.guard = none) (s x : Operand)
    (ho : o.op = .call { callee := .builtin .append, args := #[s, x], argTypes := #[35, 35] })
    (base : Nat) (v : Value) (xs : List Int) (hs : a.eval s = v) (hown : OwN base w v xs) (b : Option Addr) (m cap : Nat) (ys : List Int) (hx : a.eval x = .slice b m cap) (hu : RwN w (.slice b m cap) ys) (hnil : b = none → cap = 0) (hl : xs.length + ys.length ≤ 100000000) (hbase : base ≤ w.heap.size)
    (h : ∀ v' w', OwN base w' v' (xs ++ ys) → w.grownBy w' v.ownBlock → wpList Try.prog ops Q rest (a.put o.dst v') w') : wpList Try.prog ops Q (o :: rest) a w := by
  obtain ⟨i0, hi, hz0, hz1, hz2⟩ := info_parts Try.infoInt
  obtain ⟨hm, hcap⟩ := hu.len
  subst hm
  cases b with
  | none =>
    have hys : ys = [] := by
      cases ys with
      | nil => rfl
      | cons y r =>
        obtain ⟨z, b', off', _, hp, _⟩ := hu.atN (i := 0) (by simp)
        cases hp
    subst hys
    obtain rfl := hnil rfl
    exact wpList_append_own_none hgd s x 35 ho base 3 i0 1 Try.underlying35 hi v xs.length (xs.flatMap encN) hs hown hx (h v w (by simpa using hown) (World.grownBy.refl _ _))
  | some ad =>
    refine wpList_append_own w hgd s x 35 ho base 3 i0 (.int .i64 0) 1 8 Try.underlying35 hi hz0 hz1 hz2 rfl (by decide) v xs.length (xs.flatMap encN) hs hown ad ys.length cap (ys.flatMap encN) hx (by rw [flatN, List.length_map]; omega) ?_ ?_ (by unfold maxLen; omega) (by omega) hbase (fun v' w' o1 g1 _ => h v' w' ?_ g1)
    · intro j u hj
      rw [flatN] at hj
      have hj' : j < ys.length := by have := (List.getElem?_eq_some_iff.1 hj).1; simpa using this
      obtain ⟨z, b', off', hz, hp, _, _, cz⟩ := hu.atN hj'
      simp only [Option.some.injEq] at hp
      subst hp
      have e : (⟨b', off', none⟩ : Addr).add j = ⟨b', off' + j, none⟩ := by
        unfold Addr.add
        by_cases h0 : j = 0
        · subst h0; rfl
        · rw [if_neg h0]
      rw [e, cz]
      rw [List.getElem?_map, hz] at hj
      simpa using hj
    · intro u hu'
      rw [flatN] at hu'
      exact ints_oneCell _ _ u hu'
    · unfold OwN Ow
      rw [List.flatMap_append, List.length_append]
      exact o1
theorem Ow.nilok {E : TypeId} {base : Nat} {w : World} {a : Option Addr} {n c : Nat} {ns : List Int} (h : Ow encN 1 E base w (.slice a n c) ns) : a = none → c = 0 := by
  rintro rfl
  rcases h.2 with ⟨e, _⟩ | ⟨g, cap, cur, e, _⟩
  · simp at e; exact e.2
  · simp at e

theorem eqlnil {P : Program} (w : World) (t e : TypeId) (a : Option Addr) (n c : Nat) (h : P.underlying t = some (.slice e)) : (binOp .eql t (.slice a n c) (.slice none 0 0)).run P w = .ok (.bool a.isNone) w := by
  have h1 : ∀ d : Nat, (Op.equalIn (d + 1) t (.slice a n c) (.slice none 0 0)).run P w = .ok a.isNone w := fun d => by cases a <;> simp [Op.equalIn, run_underlying h]
  simp only [binOp]
  simp [Op.equal, Op.maxDepth, h1 9999]
set_option maxHeartbeats 2000000 in
set_option maxRecDepth 100000 in
theorem iclone_any (a : Option Addr) (n c : Nat) (ns : List Int) (w : World) (hn : n ≤ 10000000) (hnil : a = none → c = 0) (h : RwN w (.slice a n c) ns) :
    Calls Try.prog 75 #[.slice a n c] w fun e w' => ∃ a1 c1, e = .returned (.slice a1 n c1) ∧ OwN w.heap.size w' (.slice a1 n c1) ns ∧ Below w.heap.size w w' := by
  have hN := h.len.1
  have HR := hide h
  cases a with
  | none =>
    have hns : ns = [] := by
      cases ns with
      | nil => rfl
      | cons y r =>
        obtain ⟨z, b', off', _, hp, _⟩ := h.atN (i := 0) (by rw [hN]; simp)
        cases hp
    subst hns
    obtain rfl : n = 0 := hN
    obtain rfl := hnil rfl
    have hcl : ∀ W, (binOp .eql 35 (.slice none 0 0) (.slice none 0 0)).run Try.prog W = .ok (.bool true) W := fun W => eqlnil W 35 3 none 0 0 Try.underlying35
    clear h HR
    go_enter Try.func75, Try.ntmps75
    go_wp2
    go_ret
    exact ⟨none, 0, rfl, World.ownsRow_nil _ _ _ _, Below.refl _ _⟩
  | some ad =>
    have hO : Hid (OwN w.heap.size (w.alloc (.cells #[] 3)) (.slice (some ⟨w.heap.size, 0, none⟩) 0 0) []) := hide (World.ownsRow_made _ #[] 0 (Nat.le_refl _) (by simp [maxLen]) rfl)
    have HL := hide hN
    have hcl : ∀ W, (binOp .eql 35 (.slice (some ad) n c) (.slice none 0 0)).run Try.prog W = .ok (.bool false) W := fun W => eqlnil W 35 3 (some ad) n c Try.underlying35
    clear h hN
    go_enter Try.func75, Try.ntmps75
    go_wp2_with (at_builtin; refine wpList_appN _ rfl _ _ rfl w.heap.size _ [] rfl (unhide hO) (some ad) n c ns rfl ((unhide HR).alloc _) (fun h => by cases h) (by have := unhide HL; simp; omega) (by simp) ?_; intro v' w' hV hG; have HV := hide hV; have HG := hide (((Below.refl w.heap.size w).alloc (Nat.le_refl _) _).grown hG (by simp) (fun k hk => ((unhide hO).lt k hk).1)); clear hV hG)
    go_ret
    have hv := unhide HV
    rw [List.nil_append] at hv
    obtain ⟨a1, c1, rfl⟩ := hv.form
    rw [← unhide HL] at hv ⊢
    exact ⟨a1, c1, rfl, hv, unhide HG⟩
/-- While a tree is copied: the argument, the result's variable. -/
structure C10 (w W : World) (v : Value) (q : Int) : Prop where
  bel : Below w.heap.size w W
  ka : W.heap[w.heap.size]? = some (TreB v q)
  kr : W.heap[w.heap.size + 1]? = some (TreB (.slice none 0 0) 0)
theorem C10.lt {w W : World} {v : Value} {q : Int} (h : C10 w W v q) : w.heap.size + 1 < W.heap.size := (Array.getElem?_eq_some_iff.1 h.kr).1
theorem C10.later {w W Y : World} {v : Value} {q : Int} (h : C10 w W v q) (b : Below W.heap.size W Y) : C10 w Y v q := by
  have := h.lt
  exact ⟨h.bel.trans (b.mono h.bel.size), (b.block _ (by omega)).trans h.ka, (b.block _ h.lt).trans h.kr⟩
theorem C10.drewH {w W : World} {v : Value} {q : Int} (h : Hid (C10 w W v q)) : Hid (C10 w W.drew v q) := hide ((unhide h).later ((Below.refl _ _).drew))
theorem kC10 {w W : World} {v : Value} {q : Int} (h : Hid (C10 w W v q)) : Below w.heap.size w W ∧ W.cell? ⟨w.heap.size, 0, none⟩ = some v ∧ W.cell? ⟨w.heap.size, 1, none⟩ = some (.int .i64 q) := by
  obtain ⟨h0, h1, -⟩ := blk_cells2 (unhide h).ka
  exact ⟨(unhide h).bel, h0, h1⟩
theorem kC10s {w W : World} {v : Value} {q : Int} (h : Hid (C10 w W v q)) (x y : Value) : Below w.heap.size w ((W.setCell ⟨w.heap.size + 1, 0, none⟩ x).setCell ⟨w.heap.size + 1, 1, none⟩ y) ∧ ((W.setCell ⟨w.heap.size + 1, 0, none⟩ x).setCell ⟨w.heap.size + 1, 1, none⟩ y).cell? ⟨w.heap.size, 0, none⟩ = some v ∧ ((W.setCell ⟨w.heap.size + 1, 0, none⟩ x).setCell ⟨w.heap.size + 1, 1, none⟩ y).cell? ⟨w.heap.size, 1, none⟩ = some (.int .i64 q) := by
  obtain ⟨hb, h0, h1⟩ := kC10 h
  exact ⟨(hb.setCell (p := ⟨w.heap.size + 1, 0, none⟩) (by simp) _).setCell (p := ⟨w.heap.size + 1, 1, none⟩) (by simp) _, farT (by omega) h0, farT (by omega) h1⟩
theorem C10.new (w : World) (v : Value) (q : Int) : C10 w ((w.alloc (TreB v q)).alloc (TreB (.slice none 0 0) 0)) v q :=
  ⟨((Below.refl w.heap.size w).alloc (Nat.le_refl _) _).alloc (by simp) _, lowB2 w _ _, newB2 w _ _⟩
set_option maxHeartbeats 2000000 in
set_option maxRecDepth 100000 in
theorem itreecopy_any (a : Option Addr) (n c : Nat) (ns : List Int) (q : Int) (w : World) (hn : n ≤ 10000000) (hnil : a = none → c = 0) (h : RwN w (.slice a n c) ns) :
    Calls Try.prog 54 #[.agg #[.slice a n c, .int .i64 q]] w fun e w' => ∃ a1 c1, e = .returned (.agg #[.slice a1 n c1, .int .i64 q]) ∧ OwN w.heap.size w' (.slice a1 n c1) ns ∧ Below w.heap.size w w' := by
  have HR := hide h
  clear h
  go_enter Try.func54, Try.ntmps54
  go_wp2_with fail
  have CV0 := C10.new w (.slice a n c) q
  obtain ⟨V, hV⟩ : ∃ V, V = (w.alloc (TreB (.slice a n c) q)).alloc (TreB (.slice none 0 0) 0) := ⟨_, rfl⟩
  have CV : Hid (C10 w V (.slice a n c) q) := hide (by rw [hV]; exact CV0)
  rw [← hV]
  clear hV CV0
  have CD := C10.drewH CV
  have zV := (unhide CV).lt
  have zA : w.heap.size < V.heap.size := by omega
  go_region_held3 (fun W => Below w.heap.size w W ∧ W.cell? ⟨w.heap.size, 0, none⟩ = some (.slice a n c) ∧ W.cell? ⟨w.heap.size, 1, none⟩ = some (.int .i64 q))
    (first | (with_reducible exact kC10 CV) | (with_reducible exact kC10 CD) | (with_reducible exact kC10 CA) | (with_reducible exact kC10s CA _ _))
    (first | (go_at_call 75; refine (iclone_any a n c ns _ hn hnil ((unhide HR).later (unhide CD).bel)).mono ?_; rintro e w3 ⟨a1, c1, rfl, o1, b3⟩; have CA := hide ((unhide CD).later b3); have OI := hide (o1.base (base' := w.heap.size + 1 + 1) (unhide CD).lt); obtain ⟨p0, p1, pf⟩ := blk_cells2 (unhide CA).kr; have zB := (unhide CA).lt; clear o1 b3))
  all_goals go_wp2
  all_goals exact bodyPost_ret (v := .agg #[.slice a1 n c1, .int .i64 q]) (by simp [results, Try.results54, go_sem, p0, p1]) rfl ⟨a1, c1, rfl, Ow.base (((unhide OI).set ⟨w.heap.size + 1, 0, none⟩ (by simp) _).set ⟨w.heap.size + 1, 1, none⟩ (by simp) _) (by omega), (kC10s CA _ _).1⟩
set_option maxHeartbeats 2000000 in
set_option maxRecDepth 100000 in
theorem ieveryleaf_any (w : World) :
    Calls Try.prog 56 #[] w fun e w' => ∃ a1 c1, e = .returned (.slice a1 4 c1) ∧ OwN w.heap.size w' (.slice a1 4 c1) [0, 1, 2, 3] ∧ Below w.heap.size w w' := by
  obtain ⟨i0, hi, hz0, hz1, hz2⟩ := info_parts Try.infoInt
  go_enter Try.func56, Try.ntmps56
  go_wp2
  go_loopw [1, 3] (fun v i wr => ∃ (k : Nat) (a1 : Option Addr) (c1 : Nat), k ≤ 4 ∧ i = .int .i64 k ∧ v = .slice a1 k c1 ∧ OwN w.heap.size wr (.slice a1 k c1) (([0, 1, 2, 3] : List Int).take k) ∧ Below w.heap.size w wr) (fun _ i _ => 4 - (intOf i).toNat)
  case atStart => exact ⟨0, none, 0, by omega, rfl, rfl, World.ownsRow_nil _ _ _ _, Below.refl _ _⟩
  case round =>
    obtain ⟨k, a1, c1, hk, rfl, rfl, hown, hbel⟩ := hrel
    have HO := hide hown
    have HB := hide hbel
    have hsz := hbel.size
    clear hown hbel
    by_cases hlt : k < 4
    · have hn1 : Hid (k = (([0, 1, 2, 3] : List Int).take k).length) := hide (by simp; omega)
      have HP : Hid (([0, 1, 2, 3] : List Int).take (k + 1) = ([0, 1, 2, 3] : List Int).take k ++ [(k : Int)]) := hide (by
        rcases (by omega : k = 0 ∨ k = 1 ∨ k = 2 ∨ k = 3) with rfl | rfl | rfl | rfl <;> rfl)
      go_wp2_with (first | (at_builtin; refine wpList_app1 encN_len (by omega) oneN 3 35 i0 _ 8 Try.underlying35 hi hz0 hz1 hz2 rfl (by omega) wr (k : Int) rfl _ _ rfl w.heap.size _ (([0, 1, 2, 3] : List Int).take k) k hn1 rfl (unhide HO) rfl (by omega) hsz ?_; intro a8 c8 w4 hO hG; have HO4 := hide hO; have HB4 := hide ((unhide HB).grown hG hsz (fun i q => (World.ownsRow.lt (unhide HO) i q).1)); clear hO hG))
      go_roundw
      case rel => exact ⟨k + 1, a8, c8, by omega, by go_num, rfl, by rw [unhide HP]; exact unhide HO4, unhide HB4⟩
      case measure => simp [intOf]; omega
    · obtain rfl : k = 4 := by omega
      go_wp2
      go_ret
      exact ⟨a1, c1, rfl, unhide HO, unhide HB⟩
theorem eqS_run (x0 x1 x2 x3 y0 y1 y2 y3 : Int) (W : World) : (Op.equalIn 10000 65 (.agg #[.int .i64 x0, .int .i64 x1, .int .i64 x2, .int .i64 x3]) (.agg #[.int .i64 y0, .int .i64 y1, .int .i64 y2, .int .i64 y3])).run Try.prog W = .ok (x0 == y0 && x1 == y1 && x2 == y2 && x3 == y3) W := by
  have u3 := Try.underlying3
  have a3 := Try.isAgg3
  have z3 := Try.sizeOf3
  rw [show (10000 : Nat) = 9999 + 1 from rfl, Op.equalIn]
  simp only [Sem.run_bind, run_underlying Try.underlying65, Result.andThen_ok]
  simp only [Std.Legacy.Range.forIn_eq_forIn_range', Std.Legacy.Range.size, Nat.sub_zero, Nat.add_sub_cancel, Nat.div_one, List.range'_succ, List.range'_zero, List.forIn_cons, List.forIn_nil]
  go_simp
  by_cases h1 : x0 = y0 <;> by_cases h2 : x1 = y1 <;> by_cases h3 : x2 = y2 <;> by_cases h4 : x3 = y3 <;> simp [h1, h2, h3, h4]
theorem df_no {ns ms : List Int} {q p : Int} (hqp : (q == p) = false) (h : (ns.length == 4) = false ∨ (ms.length == 4) = false) : dfL ns q ms p = [0, 1, 2, 3] := by
  have hne : q ≠ p := by simpa using hqp
  rw [dfL, if_neg hne]
  have : ∀ k, dfP ns ms k = true := fun k => by
    unfold dfP
    rcases h with h | h
    · rw [h]; rfl
    · rw [h]; cases (ns.length == 4) <;> rfl
  simp [this]
theorem df_four {x0 x1 x2 x3 y0 y1 y2 y3 q p : Int} (hqp : (q == p) = false) : dfL [x0, x1, x2, x3] q [y0, y1, y2, y3] p = ([0, 1, 2, 3] : List Int).filter (fun k => ([x0, x1, x2, x3] : List Int).getD k.toNat 0 != ([y0, y1, y2, y3] : List Int).getD k.toNat 0) := by
  have hne : q ≠ p := by simpa using hqp
  rw [dfL, if_neg hne]
  rfl
set_option maxHeartbeats 8000000 in
set_option maxRecDepth 100000 in
theorem idiffer_any (a : Option Addr) (n c : Nat) (ns : List Int) (q : Int) (b : Option Addr) (m d : Nat) (ms : List Int) (p : Int) (w : World) (hn : n ≤ 140737488351232) (hm : m ≤ 140737488351232) (h : RwN w (.slice a n c) ns) (h1 : RwN w (.slice b m d) ms) :
    Calls Try.prog 23 #[.agg #[.slice a n c, .int .i64 q], .agg #[.slice b m d, .int .i64 p]] w fun e w' => ∃ a1 n1 c1, e = .returned (.slice a1 n1 c1) ∧ OwN w.heap.size w' (.slice a1 n1 c1) (dfL ns q ms p) ∧ Below w.heap.size w w' := by
  obtain ⟨i0, hi, hz0, hz1, hz2⟩ := info_parts Try.infoInt
  have HR := hide h
  have HR1 := hide h1
  clear h h1
  rcases Bool.eq_false_or_eq_true (q == p) with hqp | hqp
  · have e0 : dfL ns q ms p = [] := by rw [dfL, if_pos (by simpa using hqp)]
    go_enter Try.func23, Try.ntmps23
    go_wp2
    go_ret
    exact ⟨none, 0, 0, rfl, by rw [e0]; exact World.ownsRow_nil _ _ _ _, ((Below.refl w.heap.size w).alloc (Nat.le_refl _) _).alloc (by simp) _⟩
  · obtain ⟨⟨x0, x1, x2, x3⟩, k1, HS1⟩ : ∃ x k, sm ns = (x, k) := ⟨_, _, rfl⟩
    obtain ⟨⟨y0, y1, y2, y3⟩, k2, HS2⟩ : ∃ x k, sm ms = (x, k) := ⟨_, _, rfl⟩
    have hk1 : Hid ((ns.length == 4) = k1) := hide (by rw [← sm_len, HS1])
    have hk2 : Hid ((ms.length == 4) = k2) := hide (by rw [← sm_len, HS2])
    replace HS1 := hide HS1
    replace HS2 := hide HS2
    go_enter Try.func23, Try.ntmps23
    go_wp2_with fail
    have bW : Below w.heap.size w ((w.alloc (TreB (.slice a n c) q)).alloc (TreB (.slice b m d) p)) := ((Below.refl w.heap.size w).alloc (Nat.le_refl _) _).alloc (by simp) _
    refine (isumsof_any a n c ns q x0 x1 x2 x3 k1 HS1 _ ((unhide HR).later bW) hn).mono ?_
    rintro e w1 ⟨rfl, b1⟩
    have BL1 := hide (bW.trans (b1.mono (by simp <;> omega)))
    have KB1 := hide ((b1.block (w.heap.size + 1) (by simp)).trans (newB2 w _ _))
    have z1 : w.heap.size + 1 < w1.heap.size := (Array.getElem?_eq_some_iff.1 (unhide KB1)).1
    obtain ⟨p0, p1, -⟩ := blk_cells2 (unhide KB1)
    clear bW b1
    go_wp2_with fail
    have bX : Below w1.heap.size w1 (w1.alloc (SumB x0 x1 x2 x3)) := (Below.refl _ _).alloc (Nat.le_refl _) _
    refine (isumsof_any b m d ms p y0 y1 y2 y3 k2 HS2 _ ((unhide HR1).later ((unhide BL1).trans (bX.mono (by omega)))) hm).mono ?_
    rintro e w2 ⟨rfl, b2⟩
    have BL2 := hide (((unhide BL1).trans (bX.mono (by omega))).trans (b2.mono (by simp <;> omega)))
    have KH2 := hide ((b2.block w1.heap.size (by simp)).trans (newB1 w1 _))
    have z2 : w1.heap.size < w2.heap.size := (Array.getElem?_eq_some_iff.1 (unhide KH2)).1
    have hw2 := (unhide BL2).size
    clear bX b2 p0 p1 KB1 BL1
    obtain ⟨W, hW⟩ : ∃ W, W = w2.alloc (SumB y0 y1 y2 y3) := ⟨_, rfl⟩
    have bW2 : Below w2.heap.size w2 W := by rw [hW]; exact (Below.refl _ _).alloc (Nat.le_refl _) _
    have BLW := hide ((unhide BL2).trans (bW2.mono hw2))
    have KH := hide ((bW2.block w1.heap.size z2).trans (unhide KH2))
    have KT : Hid (W.heap[w2.heap.size]? = some (SumB y0 y1 y2 y3)) := hide (by rw [hW]; exact newB1 w2 _)
    have zW : w2.heap.size < W.heap.size := (Array.getElem?_eq_some_iff.1 (unhide KT)).1
    have zH : w1.heap.size < W.heap.size := by omega
    have hwW := (unhide BLW).size
    obtain ⟨s0, s1, s2, s3, -⟩ := blkS4 (unhide KH2)
    have HW := hide hW
    clear hW bW2 BL2 KH2
    cases k1
    · have HD := hide (df_no (ms := ms) (ns := ns) hqp (.inl (unhide hk1)))
      clear s0 s1 s2 s3
      go_wp2_with fail
      rw [← unhide HW]
      refine (ieveryleaf_any _).mono ?_
      rintro e w3 ⟨a1, c1, rfl, o3, b3⟩
      have O3 := hide o3
      have B3 := hide ((unhide BLW).trans (b3.mono hwW))
      clear o3 b3
      go_wp2
      go_ret
      exact ⟨a1, 4, c1, rfl, by rw [unhide HD]; exact Ow.base (unhide O3) hwW, unhide B3⟩
    · cases k2
      · have HD := hide (df_no (ms := ms) (ns := ns) hqp (.inr (unhide hk2)))
        clear s0 s1 s2 s3
        go_wp2_with fail
        rw [← unhide HW]
        refine (ieveryleaf_any _).mono ?_
        rintro e w3 ⟨a1, c1, rfl, o3, b3⟩
        have O3 := hide o3
        have B3 := hide ((unhide BLW).trans (b3.mono hwW))
        clear o3 b3
        go_wp2
        go_ret
        exact ⟨a1, 4, c1, rfl, by rw [unhide HD]; exact Ow.base (unhide O3) hwW, unhide B3⟩
      · obtain rfl := sm_yes (unhide HS1)
        obtain rfl := sm_yes (unhide HS2)
        have HD : Hid (dfL [x0, x1, x2, x3] q [y0, y1, y2, y3] p = ([0, 1, 2, 3] : List Int).filter (fun k => ([x0, x1, x2, x3] : List Int).getD k.toNat 0 != ([y0, y1, y2, y3] : List Int).getD k.toNat 0)) := hide (df_four hqp)
        obtain ⟨kk, hkk⟩ : ∃ kk, (x0 == y0 && x1 == y1 && x2 == y2 && x3 == y3) = kk := ⟨_, rfl⟩
        have hEQ : ∀ W, (Op.equalIn 10000 65 (.agg #[.int .i64 x0, .int .i64 x1, .int .i64 x2, .int .i64 x3]) (.agg #[.int .i64 y0, .int .i64 y1, .int .i64 y2, .int .i64 y3])).run Try.prog W = .ok kk W := fun W => by rw [← hkk]; exact eqS_run x0 x1 x2 x3 y0 y1 y2 y3 W
        have HKK := hide hkk
        clear hkk
        cases kk
        rotate_left
        · have e0 : dfL [x0, x1, x2, x3] q [y0, y1, y2, y3] p = [] := by
            have hk := unhide HKK
            simp only [Bool.and_eq_true, beq_iff_eq] at hk
            obtain ⟨⟨⟨rfl, rfl⟩, rfl⟩, rfl⟩ := hk
            rw [unhide HD]; simp
          go_wp2
          go_ret
          exact ⟨none, 0, 0, rfl, by rw [e0]; exact World.ownsRow_nil _ _ _ _, by rw [← unhide HW]; exact unhide BLW⟩
        · go_wp2
          go_loopw [9, 36] (fun v i wr => ∃ (k : Nat) (a1 : Option Addr) (n1 c1 : Nat), k ≤ 4 ∧ i = .int .i64 k ∧ v = .slice a1 n1 c1 ∧ OwN (w2.heap.size + 1) wr (.slice a1 n1 c1) ((([0, 1, 2, 3] : List Int).take k).filter (fun k => ([x0, x1, x2, x3] : List Int).getD k.toNat 0 != ([y0, y1, y2, y3] : List Int).getD k.toNat 0)) ∧ Below w.heap.size w wr ∧ wr.heap[w1.heap.size]? = some (SumB x0 x1 x2 x3) ∧ wr.heap[w2.heap.size]? = some (SumB y0 y1 y2 y3)) (fun _ i _ => 4 - (intOf i).toNat)
          case atStart => exact ⟨0, none, 0, 0, by omega, rfl, rfl, World.ownsRow_nil _ _ _ _, by rw [← unhide HW]; exact unhide BLW, by rw [← unhide HW]; exact unhide KH, by rw [← unhide HW]; exact unhide KT⟩
          case round =>
            clear s0 s1 s2 s3 BLW KH KT HW
            obtain ⟨k, a1, n1, c1, hk, rfl, rfl, hown, hbel, hh, ht⟩ := hrel
            have HO := hide hown
            have HB := hide hbel
            have KH := hide hh
            have KT := hide ht
            have hsz := hbel.size
            have ltT : w2.heap.size < wr.heap.size := (Array.getElem?_eq_some_iff.1 ht).1
            have ltH : w1.heap.size < wr.heap.size := by omega
            have hn1 : Hid (n1 = ((([0, 1, 2, 3] : List Int).take k).filter (fun k => ([x0, x1, x2, x3] : List Int).getD k.toNat 0 != ([y0, y1, y2, y3] : List Int).getD k.toNat 0)).length) := hide (hown.rw encN_len).len.1
            have hn1l : n1 ≤ 4 := by
              have h1 := unhide hn1
              have h2 := List.length_filter_le (fun k : Int => ([x0, x1, x2, x3] : List Int).getD k.toNat 0 != ([y0, y1, y2, y3] : List Int).getD k.toNat 0) (([0, 1, 2, 3] : List Int).take k)
              have h3 : (([0, 1, 2, 3] : List Int).take k).length ≤ 4 := by simp; omega
              omega
            clear hown hbel
            by_cases hlt : k < 4
            · obtain ⟨x, b', off', hx, hp, -, -, cx⟩ := (rwS_blk (ns := [x0, x1, x2, x3]) hh).atN (i := k) hlt
              simp only [Option.some.injEq, Addr.mk.injEq, and_true] at hp
              obtain ⟨rfl, rfl⟩ := hp
              obtain ⟨y, b'', off'', hy, hp, -, -, cy⟩ := (rwS_blk (ns := [y0, y1, y2, y3]) ht).atN (i := k) hlt
              simp only [Option.some.injEq, Addr.mk.injEq, and_true] at hp
              obtain ⟨rfl, rfl⟩ := hp
              rw [Nat.zero_add] at cx cy
              have HQ : Hid (([x0, x1, x2, x3] : List Int).getD ((k : Int)).toNat 0 = x ∧ ([y0, y1, y2, y3] : List Int).getD ((k : Int)).toNat 0 = y) := hide ⟨by rw [Int.toNat_natCast, List.getD_eq_getElem?_getD, hx]; rfl, by rw [Int.toNat_natCast, List.getD_eq_getElem?_getD, hy]; rfl⟩
              have HK : Hid (([0, 1, 2, 3] : List Int)[k]? = some (k : Int)) := hide (by
                rcases (by omega : k = 0 ∨ k = 1 ∨ k = 2 ∨ k = 3) with rfl | rfl | rfl | rfl <;> rfl)
              clear hh ht hx hy
              rcases Bool.eq_false_or_eq_true (x != y) with he | he
              · have HP := hide (take_filter (p := fun k : Int => ([x0, x1, x2, x3] : List Int).getD k.toNat 0 != ([y0, y1, y2, y3] : List Int).getD k.toNat 0) (unhide HK))
                have HP2 : Hid ((([0, 1, 2, 3] : List Int).take (k + 1)).filter (fun k => ([x0, x1, x2, x3] : List Int).getD k.toNat 0 != ([y0, y1, y2, y3] : List Int).getD k.toNat 0) = (([0, 1, 2, 3] : List Int).take k).filter (fun k => ([x0, x1, x2, x3] : List Int).getD k.toNat 0 != ([y0, y1, y2, y3] : List Int).getD k.toNat 0) ++ [(k : Int)]) := hide (by rw [unhide HP, if_pos (by rw [(unhide HQ).1, (unhide HQ).2]; exact he)])
                clear HP
                go_wp2
                go_quiet (fail)
                obtain ⟨wn, hwn⟩ : ∃ x, x = wr.drewN nq := ⟨_, rfl⟩
                rw [← hwn]
                have bn : Below wr.heap.size wr wn := by rw [hwn]; exact below_drewN (Below.refl _ _) _
                have zn := bn.size
                have HOn := hide ((unhide HO).later bn)
                have HBn := hide ((unhide HB).trans (bn.mono hsz))
                have KHn := hide ((bn.block _ ltH).trans (unhide KH))
                have KTn := hide ((bn.block _ ltT).trans (unhide KT))
                clear hwn bn cx cy HO HB KH KT
                have hwn' : w2.heap.size + 1 ≤ wn.heap.size := by omega
                have hsn : w.heap.size ≤ wn.heap.size := by omega
                have ltTn : w2.heap.size < wn.heap.size := by omega
                have ltHn : w1.heap.size < wn.heap.size := by omega
                go_wp2_with (first | (at_builtin; refine wpList_app1 encN_len (by omega) oneN 3 35 i0 _ 8 Try.underlying35 hi hz0 hz1 hz2 rfl (by omega) wn (k : Int) rfl _ _ rfl (w2.heap.size + 1) _ _ n1 hn1 rfl (unhide HOn) rfl (by omega) hwn' ?_; intro a8 c8 w4 hO hG; have HO4 := hide hO; have HB4 := hide ((unhide HBn).grown hG hsn (fun i q => by have := (World.ownsRow.lt (unhide HOn) i q).1; omega)); have KH4 := hide ((hG.block _ ltHn (fun q => by have := (World.ownsRow.lt (unhide HOn) _ q.symm).1; omega)).trans (unhide KHn)); have KT4 := hide ((hG.block _ ltTn (fun q => by have := (World.ownsRow.lt (unhide HOn) _ q.symm).1; omega)).trans (unhide KTn)); clear hO hG))
                go_roundw
                case rel => exact ⟨k + 1, a8, n1 + 1, c8, by omega, by go_num, rfl, by rw [unhide HP2]; exact unhide HO4, unhide HB4, unhide KH4, unhide KT4⟩
                case measure => simp [intOf]; omega
              · have HP := hide (take_filter (p := fun k : Int => ([x0, x1, x2, x3] : List Int).getD k.toNat 0 != ([y0, y1, y2, y3] : List Int).getD k.toNat 0) (unhide HK))
                have HP2 : Hid ((([0, 1, 2, 3] : List Int).take (k + 1)).filter (fun k => ([x0, x1, x2, x3] : List Int).getD k.toNat 0 != ([y0, y1, y2, y3] : List Int).getD k.toNat 0) = (([0, 1, 2, 3] : List Int).take k).filter (fun k => ([x0, x1, x2, x3] : List Int).getD k.toNat 0 != ([y0, y1, y2, y3] : List Int).getD k.toNat 0)) := hide (by rw [unhide HP, if_neg (by rw [(unhide HQ).1, (unhide HQ).2, he]; simp), List.append_nil])
                clear HP
                go_wp2
                go_quiet (fail)
                obtain ⟨wn, hwn⟩ : ∃ x, x = wr.drewN nq := ⟨_, rfl⟩
                rw [← hwn]
                have bn : Below wr.heap.size wr wn := by rw [hwn]; exact below_drewN (Below.refl _ _) _
                have zn := bn.size
                have HOn := hide ((unhide HO).later bn)
                have HBn := hide ((unhide HB).trans (bn.mono hsz))
                have KHn := hide ((bn.block _ ltH).trans (unhide KH))
                have KTn := hide ((bn.block _ ltT).trans (unhide KT))
                clear hwn bn cx cy HO HB KH KT
                go_wp2
                go_roundw
                case rel => exact ⟨k + 1, a1, n1, c1, by omega, by go_num, rfl, by rw [unhide HP2]; exact unhide HOn, unhide HBn, unhide KHn, unhide KTn⟩
                case measure => simp [intOf]; omega
            · have HT : Hid ((([0, 1, 2, 3] : List Int).take k).filter (fun k => ([x0, x1, x2, x3] : List Int).getD k.toNat 0 != ([y0, y1, y2, y3] : List Int).getD k.toNat 0) = dfL [x0, x1, x2, x3] q [y0, y1, y2, y3] p) := hide (by rw [unhide HD, List.take_of_length_le (by simp; omega)])
              clear hh ht
              go_wp2
              go_ret
              exact ⟨a1, n1, c1, rfl, by rw [← unhide HT]; exact Ow.base (unhide HO) (by omega), unhide HB⟩
end Go.Proofs.Ytohfbahfnbganab
