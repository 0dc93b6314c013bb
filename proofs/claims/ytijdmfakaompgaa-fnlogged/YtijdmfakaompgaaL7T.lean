/-
  A log that is drawn: what lies in memory while it is made. No statement is proved here.
  spec.l7Right: some log of at most five changes; the cursor goes on, nothing else turns. No statement is proved here.
  spec.l7Draw: some log of at most six changes; the cursor goes on, nothing else turns. No statement is proved here.
  What the specification draws for a log: a log and a state; a log and a number. No statement is proved here.
-/
import Derived.Test.YtijdmfakaompgaaLgW
import Derived.Test.YtijdmfakaompgaaLgBx
import Derived.Test.YtijdmfakaompgaaL3D
import Derived.Deep.RegionWith
import Derived.Test.YtijdmfakaompgaaDrawB
namespace Go.Proofs.Ytijdmfakaompgaa
open Go.RowKit

/-- Few changes, each a small one. -/
def Sm7 (ss : List Sta) : Prop := ∀ s ∈ ss, s.1.length ≤ 6 ∧ s.2.length ≤ 6 ∧ Nine s.1
theorem Sm7.nil : Sm7 [] := fun _ h => by simp at h
theorem Sm7.tot : ∀ {ss : List Sta}, Sm7 ss → tot ss ≤ 12 * ss.length
  | [], _ => by simp [Go.Proofs.Ytijdmfakaompgaa.tot]
  | s :: r, h => by
    have h1 := h s (by simp)
    have h2 := Sm7.tot (ss := r) (fun t ht => h t (by simp [ht]))
    rw [Go.Proofs.Ytijdmfakaompgaa.tot, List.length_cons]; omega
theorem Sm7.sml {ss : List Sta} (h : Sm7 ss) : SmlS ss := fun _ s hs => nine_sml (h s (List.mem_of_getElem? hs)).2.2
theorem Sm7.snoc {ss : List Sta} {d : Sta} (h : Sm7 ss) (h1 : d.1.length ≤ 6 ∧ d.2.length ≤ 6 ∧ Nine d.1) : Sm7 (ss ++ [d]) := fun s hs => by
  rcases List.mem_append.1 hs with hs | hs
  · exact h s hs
  · simp at hs; subst hs; exact h1
theorem lad_sm {r : Bool} {c f : Int} {ss : List Sta} {d : Sta} {f1 : Int} {ss1 : List Sta} (h : lad r c f ss d = (f1, ss1)) (hs : Sm7 ss) (hd : d.1.length ≤ 6 ∧ d.2.length ≤ 6 ∧ Nine d.1) (hf : -1 ≤ f) : Sm7 ss1 ∧ ss1.length ≤ ss.length + 1 ∧ -1 ≤ f1 := by
  unfold lad at h
  split at h
  · split at h
    · simp only [Prod.mk.injEq] at h
      obtain ⟨rfl, rfl⟩ := h
      exact ⟨fun s hm => Sm7.snoc hs hd s (List.mem_of_mem_drop hm), by simp, by omega⟩
    · simp only [Prod.mk.injEq] at h
      obtain ⟨rfl, rfl⟩ := h
      exact ⟨Sm7.snoc hs hd, by simp, hf⟩
  · simp only [Prod.mk.injEq] at h
    obtain ⟨rfl, rfl⟩ := h
    exact ⟨hs, by omega, hf⟩
theorem OwW.otherT {base : Nat} {w w' : World} {v : Value} {ss : List Sta} {T : TypeId} {b : Option Nat} (h : OwW base w v ss) (hb : ∀ g, b = some g → ∃ cs fz, w.heap[g]? = some (.cells cs T fz)) (n1 : 32 ≠ T) (n2 : 76 ≠ T) (n3 : 79 ≠ T) (hg : w.grownBy w' b) : OwW base w' v ss := by
  obtain ⟨ps, h1, h2⟩ := h
  exact ⟨ps, Ow.otherT h1 hb n1 hg, h2.len, fun i p s hp hs => ⟨(h2.ins i p s hp hs).1.otherB hb n2 hg, (h2.ins i p s hp hs).2.otherB hb n3 hg⟩⟩
theorem int_of {cs : List Int} {c : Value} (h : c ∈ cs.map (Value.int .i64)) : ∃ q, q ∈ cs ∧ c = .int .i64 q := by
  obtain ⟨q, hq, e⟩ := List.mem_map.1 h
  exact ⟨q, hq, e.symm⟩

/-- While a log is drawn, ahead of its variable: the cursor g, the result in block z. -/
structure P7 (w X : World) (g : Nat) (v : Value) (xs : List Int) (z : Nat) : Prop where
  c0 : Cur w g v xs
  gr : w.grownBy X (some g)
  cu : Cur X g v xs
  hz : w.heap.size ≤ z
  k0 : X.heap[z]? = some LgZ0
/-- While a log is drawn: the cursor g, the result in block z, the log in block b. -/
structure R7 (w X : World) (g : Nat) (v : Value) (xs : List Int) (z b : Nat) (c f : Int) (u : Value) (ss : List Sta) (k : Nat) : Prop where
  p : P7 w X g v xs z
  hb : w.heap.size ≤ b
  zb : z ≠ b
  k1 : X.heap[b]? = some (LgO c f u)
  row : OwW w.heap.size X u ss
  lo : -1 ≤ f
  ln : ss.length ≤ k
  sm : Sm7 ss
variable {w X Y : World} {g : Nat} {v : Value} {xs : List Int} {z b : Nat} {c f : Int} {u : Value} {ss : List Sta} {k : Nat}
theorem P7.gl (h : P7 w X g v xs z) : g < w.heap.size := cur_lt h.c0
theorem P7.zl (h : P7 w X g v xs z) : z < X.heap.size := (Array.getElem?_eq_some_iff.1 h.k0).1
theorem P7.call (h : P7 w X g v xs z) (hc : Cur Y g v xs) (hg : X.grownBy Y (some g)) : P7 w Y g v xs z := by
  have := h.gl
  have hz := h.hz
  exact ⟨h.c0, grown_trans h.gr hg, hc, hz, blk_grown hg h.k0 (by omega)⟩
theorem P7.later (h : P7 w X g v xs z) (bl : Below X.heap.size X Y) : P7 w Y g v xs z :=
  ⟨h.c0, grown_later h.gr bl, h.cu.later bl (Nat.le_refl _), h.hz, (bl.block _ h.zl).trans h.k0⟩
theorem P7.far (h : P7 w X g v xs z) {q : Nat} (hw : w.heap.size ≤ q) (hg : X.grownBy Y (some q)) : Cur Y g v xs ∧ w.grownBy Y (some g) := by
  have := h.gl
  have G : w.grownBy Y (some g) := ⟨hg.os.trans h.gr.os, hg.tape.trans h.gr.tape, hg.output.trans h.gr.output, Nat.le_trans h.gr.size hg.size, fun k hk hr => (hg.block k (Nat.lt_of_lt_of_le hk h.gr.size) (by simp; omega)).trans (h.gr.block k hk hr)⟩
  exact ⟨cur_far h.c0 h.cu G (hg.block g (Nat.lt_of_lt_of_le h.gl h.gr.size) (by simp; omega)), G⟩
theorem P7.new (hc : Cur w g v xs) : P7 w (w.alloc LgZ0) g v xs w.heap.size := by
  have b : Below w.heap.size w (w.alloc LgZ0) := (Below.refl w.heap.size w).alloc (Nat.le_refl _) _
  exact ⟨hc, ⟨b.os, b.tape, b.output, b.size, fun k hk _ => b.block k hk⟩, hc.later b (Nat.le_refl _), Nat.le_refl _, heap_alloc_new _ _⟩
theorem R7.bl (h : R7 w X g v xs z b c f u ss k) : b < X.heap.size := (Array.getElem?_eq_some_iff.1 h.k1).1
theorem R7.of (h : P7 w X g v xs z) (hr : OwW w.heap.size X u ss) (lo : -1 ≤ f) (ln : ss.length ≤ k) (sm : Sm7 ss) : R7 w (X.alloc (LgO c f u)) g v xs z X.heap.size c f u ss k := by
  have b : Below X.heap.size X (X.alloc (LgO c f u)) := (Below.refl X.heap.size X).alloc (Nat.le_refl _) _
  have := h.zl
  exact ⟨h.later b, h.gr.size, by omega, heap_alloc_new _ _, hr.later b, lo, ln, sm⟩
theorem R7.call (h : R7 w X g v xs z b c f u ss k) (hc : Cur Y g v xs) (hg : X.grownBy Y (some g)) : R7 w Y g v xs z b c f u ss k := by
  have := h.p.gl
  have hb := h.hb
  obtain ⟨⟨i, q, hk, _⟩, _⟩ := h.p.cu
  exact ⟨h.p.call hc hg, hb, h.zb, blk_grown hg h.k1 (by omega), h.row.otherT (fun r e => by cases e; exact ⟨_, _, hk⟩) (by decide) (by decide) (by decide) hg, h.lo, h.ln, h.sm⟩
theorem R7.later (h : R7 w X g v xs z b c f u ss k) (bl : Below X.heap.size X Y) : R7 w Y g v xs z b c f u ss k :=
  ⟨h.p.later bl, h.hb, h.zb, (bl.block _ h.bl).trans h.k1, h.row.later bl, h.lo, h.ln, h.sm⟩
theorem grown_set3 (w : World) (g : Nat) (u0 u1 u2 : Value) : w.grownBy (((w.setCell ⟨g, 0, none⟩ u0).setCell ⟨g, 1, none⟩ u1).setCell ⟨g, 2, none⟩ u2) (some g) := grown_trans (grown_trans (grown_set1 _ _ _ _) (grown_set1 _ _ _ _)) (grown_set1 _ _ _ _)
theorem R7.put (h : R7 w X g v xs z b c f u ss k) {c1 f1 : Int} {u1 : Value} {ss1 : List Sta} {B k1 : Nat} (o1 : OwW B X u1 ss1) (hB : w.heap.size ≤ B) (lo : -1 ≤ f1) (ln : ss1.length ≤ k1) (sm : Sm7 ss1) :
    R7 w (((X.setCell ⟨b, 0, none⟩ (.int .i64 c1)).setCell ⟨b, 1, none⟩ (.int .i64 f1)).setCell ⟨b, 2, none⟩ u1) g v xs z b c1 f1 u1 ss1 k1 := by
  have hg := grown_set3 X b (.int .i64 c1) (.int .i64 f1) u1
  obtain ⟨cc, G⟩ := h.p.far h.hb hg
  exact ⟨⟨h.p.c0, G, cc, h.p.hz, blk_grown hg h.p.k0 h.zb⟩, h.hb, h.zb, blk_set3 h.k1 _ _ _, OwW.mono (OwW.log3 h.k1 _ _ _ o1) hB, lo, ln, sm⟩
/-- What is told of a drawn log. -/
structure D7 (w X : World) (g : Nat) (v : Value) (xs : List Int) (f : Int) (u : Value) (ss : List Sta) (k : Nat) : Prop where
  cu : Cur X g v xs
  gr : w.grownBy X (some g)
  row : OwW w.heap.size X u ss
  lo : -1 ≤ f
  ln : ss.length ≤ k
  sm : Sm7 ss
theorem R7.fin (h : R7 w X g v xs z b c f u ss k) : D7 w (((X.setCell ⟨z, 0, none⟩ (.int .i64 c)).setCell ⟨z, 1, none⟩ (.int .i64 f)).setCell ⟨z, 2, none⟩ u) g v xs f u ss k := by
  have hg := grown_set3 X z (.int .i64 c) (.int .i64 f) u
  obtain ⟨cc, G⟩ := h.p.far h.p.hz hg
  exact ⟨cc, G, OwW.log3 h.p.k0 _ _ _ h.row, h.lo, h.ln, h.sm⟩
end Go.Proofs.Ytijdmfakaompgaa

namespace Go.Proofs.Ytijdmfakaompgaa
open Go.RowKit

set_option maxHeartbeats 8000000 in
set_option maxRecDepth 100000 in
theorem l7right_any (g : Nat) (v : Value) (xs : List Int) (w : World) (hlen : xs.length ≤ 1048576) (hbd : ∀ z ∈ xs, 0 ≤ z ∧ z ≤ 255) (hc : Cur w g v xs) :
    Calls Try.prog 87 #[.pointer (some ⟨g, 0, none⟩)] w fun e w' => ∃ (c f : Int) (a : Option Addr) (n cap : Nat) (ss : List Sta), e = .returned (LgV c f (.slice a n cap)) ∧ D7 w w' g v xs f (.slice a n cap) ss 5 := by
  have HD := hide hbd
  have P0 := hide (P7.new hc)
  clear hbd hc
  go_enter Try.func87, Try.ntmps87
  go_wp2_with fail
  obtain ⟨V, hV⟩ : ∃ V, V = w.alloc LgZ0 := ⟨_, rfl⟩
  rw [← hV] at P0 ⊢
  have hzV : w.heap.size + 1 = V.heap.size := by rw [hV]; simp
  rw [hzV]
  clear hV
  have gl := (unhide P0).gl
  have PA := hide ((unhide P0).later ((Below.refl V.heap.size V).alloc (Nat.le_refl _) (.cells ([.int .i64 1, .int .i64 2, .int .i64 4, .int .i64 8] : List Value).toArray 3)))
  have SG := hide (seg_new V 3 [.int .i64 1, .int .i64 2, .int .i64 4, .int .i64 8] 4 rfl (by omega))
  refine (pickint_any g v xs (.slice (some ⟨V.heap.size, 0, none⟩) 4 4) [.int .i64 1, .int .i64 2, .int .i64 4, .int .i64 8] (V.alloc (.cells ([.int .i64 1, .int .i64 2, .int .i64 4, .int .i64 8] : List Value).toArray 3)) hlen (unhide HD) (unhide PA).cu (unhide SG) (ne_new (by omega) _ _) (by decide) (by decide)).mono ?_
  rintro e w1 ⟨⟨q, hq, rfl⟩, c1, g1⟩
  obtain ⟨c, hcc, rfl⟩ := int_of (cs := [1, 2, 4, 8]) hq
  have P1 := hide ((unhide PA).call c1 g1)
  clear hq c1 g1 PA P0 SG
  go_wp2_with fail
  have gl1 := (unhide P1).gr.size
  have PB := hide ((unhide P1).later ((Below.refl w1.heap.size w1).alloc (Nat.le_refl _) (.cells ([.int .i64 0, .int .i64 0, .int .i64 5, .int .i64 99990] : List Value).toArray 3)))
  have SG := hide (seg_new w1 3 [.int .i64 0, .int .i64 0, .int .i64 5, .int .i64 99990] 4 rfl (by omega))
  refine (pickint_any g v xs (.slice (some ⟨w1.heap.size, 0, none⟩) 4 4) [.int .i64 0, .int .i64 0, .int .i64 5, .int .i64 99990] (w1.alloc (.cells ([.int .i64 0, .int .i64 0, .int .i64 5, .int .i64 99990] : List Value).toArray 3)) hlen (unhide HD) (unhide PB).cu (unhide SG) (ne_new (by omega) _ _) (by decide) (by decide)).mono ?_
  rintro e w2 ⟨⟨q, hq, rfl⟩, c2, g2⟩
  obtain ⟨f, hf, rfl⟩ := int_of (cs := [0, 0, 5, 99990]) hq
  have hf0 : -1 ≤ f := by simp at hf; omega
  have P2 := hide ((unhide PB).call c2 g2)
  have R2 : Hid (R7 w (w2.alloc (LgO c f (.slice none 0 0))) g v xs w.heap.size w2.heap.size c f (.slice none 0 0) [] 0) := hide (R7.of (unhide P2) ⟨[], World.ownsRow_nil _ _ _ _, Wn.nil _ _⟩ hf0 (by simp) Sm7.nil)
  clear hq c2 g2 PB P1 SG P2 hf hcc
  go_wp2_with fail
  refine (below_any g v xs 6 _ hlen (unhide HD) (by omega) (by omega) (unhide R2).p.cu).mono ?_
  rintro e w3 ⟨⟨n, rfl, na, nb⟩, c3, g3⟩
  have R3' := hide ((unhide R2).call c3 g3)
  generalize hgb : w2.heap.size = b at *
  clear c3 g3 R2
  go_wp2
  go_loopw [5] (fun i wr => ∃ (k : Nat) (c f : Int) (a : Option Addr) (m cap : Nat) (ss : List Sta), (k : Int) ≤ n ∧ i = .int .i64 k ∧ R7 w wr g v xs w.heap.size b c f (.slice a m cap) ss k) (fun i _ => (n - intOf i).toNat)
  case atStart => exact ⟨0, c, f, none, 0, 0, [], by omega, rfl, unhide R3'⟩
  case round =>
    obtain ⟨k, c, f, a, m, cap, ss, hk1, rfl, hR⟩ := hrel
    have R2 := hide hR
    clear hR R3'
    by_cases hlt : (k : Int) < n
    · go_wp2_with fail
      refine (below_any g v xs 5 _ hlen (unhide HD) (by omega) (by omega) (unhide R2).p.cu).mono ?_
      rintro e w4 ⟨⟨id, rfl, ia, ib⟩, c4, g4⟩
      have R4 := hide ((unhide R2).call c4 g4)
      clear c4 g4 R2
      go_wp2_with fail
      refine (right_any g v xs _ hlen (unhide HD) (unhide R4).p.cu).mono ?_
      rintro e w5 ⟨⟨ai, ar, ab, av, ad, rfl, had⟩, c5, g5⟩
      have R5 := hide ((unhide R4).call c5 g5)
      have HN := hide had
      obtain ⟨ok, h0⟩ : ∃ ok, Hid (okS [(id, ((ai, ar, ab, av, ad) : Key))] [] = ok) := ⟨_, hide rfl⟩
      obtain ⟨m1, hm⟩ : ∃ m, Hid ((sgl ok id ((ai, ar, ab, av, ad) : Key)).length = m) := ⟨_, hide rfl⟩
      have hm1 := sgl_len (unhide hm)
      clear c5 g5 R4 had
      go_wp2_with fail
      refine (ssingle_any id ((ai, ar, ab, av, ad) : Key) ok h0 m1 hm w5).mono ?_
      rintro e w6 ⟨a5, c5, rfl, o5, b5⟩
      have R6 := hide ((unhide R5).later b5)
      have O5 := hide o5
      clear b5 o5 R5
      obtain ⟨p0, p1, p2, pf⟩ := blk_cells3 (unhide R6).k1
      have zb6 := (unhide R6).bl
      go_wp2_with fail
      obtain ⟨U, hU⟩ : ∃ U, U = w6.alloc (StB (.slice a5 m1 c5) (.slice none 0 0)) := ⟨_, rfl⟩
      have bU : Below w6.heap.size w6 U := by rw [hU]; exact (Below.refl _ _).alloc (Nat.le_refl _) _
      have RU := hide ((unhide R6).later bU)
      have OU := hide ((unhide O5).later bU)
      rw [← hU]
      clear hU bU R6 O5 p0 p1 p2 pf
      have em := (unhide RU).row.rw.len.1
      have ln := (unhide RU).ln
      have ht := (unhide RU).sm.tot
      obtain ⟨r, hr⟩ : ∃ r, lar c f ss (sgl ok id ((ai, ar, ab, av, ad) : Key), []) = r := ⟨_, rfl⟩
      obtain ⟨⟨f1, ss1⟩, hla⟩ : ∃ p, lad r c f ss (sgl ok id ((ai, ar, ab, av, ad) : Key), []) = p := ⟨_, rfl⟩
      obtain ⟨mm, hmm⟩ : ∃ m, m = ss1.length := ⟨_, rfl⟩
      obtain ⟨s1, s2, s3⟩ := lad_sm hla (unhide RU).sm ⟨by show (sgl ok id _).length ≤ 6; rw [unhide hm]; omega, by simp, nine_sgl (unhide HN)⟩ (unhide RU).lo
      have HM1 := hide hmm
      have HS1 := hide s1
      have hmk : ss1.length ≤ k + 1 := by omega
      clear s1 s2
      refine (slogadd_any c f a m cap ss a5 m1 c5 (sgl ok id ((ai, ar, ab, av, ad) : Key)) none 0 0 [] r (hide hr) f1 ss1 (hide hla) mm HM1 U (by omega) (by omega) (by omega) (by omega) (unhide RU).row.rw ((unhide OU).rw encI_len) Rw.nil).mono ?_
      rintro e w7 ⟨a7, c7, rfl, o7, b7⟩
      have R7' := hide ((unhide RU).later b7)
      have R8 := hide ((unhide R7').put (c1 := c) (f1 := f1) (k1 := k + 1) o7 (unhide RU).p.gr.size s3 hmk (unhide HS1))
      obtain ⟨p0, p1, p2, pf⟩ := blk_cells3 (unhide R7').k1
      have zb7 := (unhide R7').bl
      clear o7 b7 RU OU em ln ht R7' hr hla hmm
      go_wp2
      go_roundw
      case rel => exact ⟨k + 1, c, f1, a7, mm, c7, ss1, by omega, by go_num, unhide R8⟩
      case measure => simp [intOf]; omega
    · obtain ⟨p0, p1, p2, pf⟩ := blk_cells3 (unhide R2).k1
      obtain ⟨q0, q1, q2, qf⟩ := blk_cells3 (unhide R2).p.k0
      have zb := (unhide R2).bl
      have zz := (unhide R2).p.zl
      have F := hide (unhide R2).fin
      have hk5 : k ≤ 5 := by omega
      clear R2
      go_wp2
      exact bodyPost_ret (v := LgV c f (.slice a m cap)) (by simp [results, Try.results87, go_sem, q0, q1, q2]) rfl ⟨c, f, a, m, cap, rfl, ss, (unhide F).cu, (unhide F).gr, (unhide F).row, (unhide F).lo, Nat.le_trans (unhide F).ln hk5, (unhide F).sm⟩
end Go.Proofs.Ytijdmfakaompgaa

namespace Go.Proofs.Ytijdmfakaompgaa
open Go.RowKit

variable {w X Y : World} {g : Nat} {v : Value} {xs : List Int} {z b : Nat} {c f : Int} {u : Value} {ss : List Sta} {k : Nat}
theorem P7.grown (h : P7 w X g v xs z) {q : Option Nat} (hq : ∀ i, q = some i → w.heap.size ≤ i ∧ i ≠ z) (hg : X.grownBy Y q) : P7 w Y g v xs z := by
  cases q with
  | none => exact h.later ⟨hg.os, hg.tape, hg.output, hg.size, fun i hi => hg.block i hi (by simp)⟩
  | some i =>
    obtain ⟨h1, h2⟩ := hq i rfl
    obtain ⟨cc, G⟩ := h.far h1 hg
    exact ⟨h.c0, G, cc, h.hz, blk_grown hg h.k0 (Ne.symm h2)⟩
theorem R7.set0 (h : R7 w X g v xs z b c f u ss k) (c1 : Int) : R7 w (X.setCell ⟨b, 0, none⟩ (.int .i64 c1)) g v xs z b c1 f u ss k :=
  ⟨h.p.grown (q := some b) (fun i e => by cases e; exact ⟨h.hb, Ne.symm h.zb⟩) (grown_set1 X b 0 _), h.hb, h.zb, heap_setCell_same _ _ _ _ _ _ h.k1, h.row.log h.k1 0 _, h.lo, h.ln, h.sm⟩
theorem R7.set1 (h : R7 w X g v xs z b c f u ss k) (f1 : Int) (hf : -1 ≤ f1) : R7 w (X.setCell ⟨b, 1, none⟩ (.int .i64 f1)) g v xs z b c f1 u ss k :=
  ⟨h.p.grown (q := some b) (fun i e => by cases e; exact ⟨h.hb, Ne.symm h.zb⟩) (grown_set1 X b 1 _), h.hb, h.zb, heap_setCell_same _ _ _ _ _ _ h.k1, h.row.log h.k1 1 _, hf, h.ln, h.sm⟩
theorem R7.app (h : R7 w X g v xs z b c f u ss k) {ps : List Two} (row : OwV w.heap.size X u ps) (wn : Wn w.heap.size X ps ss) {p : Two} {s : Sta} (o5 : Wk7I w.heap.size X p.1 s.1) (o6 : Wk7F w.heap.size X p.2 s.2) (hs : s.1.length ≤ 6 ∧ s.2.length ≤ 6 ∧ Nine s.1) {O : Obj} {u1 : Value} (hO : OwV w.heap.size Y u1 (ps ++ [p])) (hG : (X.alloc O).grownBy Y u.ownBlock) :
    R7 w (Y.setCell ⟨b, 2, none⟩ u1) g v xs z b c f u1 (ss ++ [s]) (k + 1) ∧ Y.heap[b]? = some (LgO c f u) := by
  have al : Below X.heap.size X (X.alloc O) := (Below.refl _ _).alloc (Nat.le_refl _) O
  have row' := row.later al
  have ha := h.later al
  have kb : Y.heap[b]? = some (LgO c f u) := app_keep hG h.k1 (own_ne row h.k1 (by decide))
  have PY : P7 w Y g v xs z := ha.p.grown (fun i e => ⟨(World.ownsRow.lt row' _ e).1, fun e2 => own_ne row' ha.p.k0 (by decide) (by rw [e, e2])⟩) hG
  have OY : OwW w.heap.size Y u1 (ss ++ [s]) := ⟨ps ++ [p], hO, ((wn.snoc o5 o6).later al).otherS (OwV.blk row') hG⟩
  refine ⟨⟨PY.grown (q := some b) (fun i e => by cases e; exact ⟨h.hb, Ne.symm h.zb⟩) (grown_set1 Y b 2 _), h.hb, h.zb, heap_setCell_same _ _ _ _ _ _ kb, OY.log kb 2 _, h.lo, by have := h.ln; simp; omega, h.sm.snoc hs⟩, kb⟩
theorem R7.drewH (h : Hid (R7 w X g v xs z b c f u ss k)) : Hid (R7 w X.drew g v xs z b c f u ss k) := hide ((unhide h).later ((Below.refl _ _).drew))

set_option maxHeartbeats 8000000 in
set_option maxRecDepth 100000 in
theorem l7draw_any (g : Nat) (v : Value) (xs : List Int) (w : World) (hlen : xs.length ≤ 1048576) (hbd : ∀ z ∈ xs, 0 ≤ z ∧ z ≤ 255) (hc : Cur w g v xs) :
    Calls Try.prog 50 #[.pointer (some ⟨g, 0, none⟩)] w fun e w' => ∃ (c f : Int) (a : Option Addr) (n cap : Nat) (ss : List Sta), e = .returned (LgV c f (.slice a n cap)) ∧ D7 w w' g v xs f (.slice a n cap) ss 6 := by
  obtain ⟨i0, hi, hz0, hz1, hz2⟩ := info_parts Try.infoState
  have HD := hide hbd
  have P0 := hide (P7.new hc)
  clear hbd hc
  go_enter Try.func50, Try.ntmps50
  go_wp2_with fail
  refine (l7right_any g v xs _ hlen (unhide HD) (unhide P0).cu).mono ?_
  rintro e w1 ⟨c, f, a, n, cap, ss, rfl, hD⟩
  have P1 := hide ((unhide P0).call hD.cu hD.gr)
  have R1 : Hid (R7 w (w1.alloc (LgO c f (.slice a n cap))) g v xs w.heap.size w1.heap.size c f (.slice a n cap) ss 5) := hide (R7.of (unhide P1) (hD.row.mono (unhide P0).gr.size) hD.lo hD.ln hD.sm)
  generalize hb1 : w1.heap.size = b at *
  clear hD P0 P1
  go_wp2_with fail
  refine (below_any g v xs 12 _ hlen (unhide HD) (by omega) (by omega) (unhide R1).p.cu).mono ?_
  rintro e w2 ⟨⟨x, rfl, xa, xb⟩, c2, g2⟩
  have R2 := hide ((unhide R1).call c2 g2)
  clear c2 g2 R1
  have gl := (unhide R2).p.gl
  have gs := (unhide R2).p.gr.size
  obtain ⟨p0, p1, p2, pf⟩ := blk_cells3 (unhide R2).k1
  obtain ⟨q0, q1, q2, qf⟩ := blk_cells3 (unhide R2).p.k0
  have zb := (unhide R2).bl
  have zz := (unhide R2).p.zl
  by_cases x0 : x = 0
  · subst x0
    clear p0 p1 p2 pf q0 q1 q2 qf
    go_wp2_with fail
    have RA := hide ((unhide R2).later ((Below.refl w2.heap.size w2).alloc (Nat.le_refl _) (.cells ([.int .i64 0, .int .i64 9, .int .i64 1] : List Value).toArray 3)))
    have SG := hide (seg_new w2 3 [.int .i64 0, .int .i64 9, .int .i64 1] 3 rfl (by omega))
    refine (pickint_any g v xs (.slice (some ⟨w2.heap.size, 0, none⟩) 3 3) [.int .i64 0, .int .i64 9, .int .i64 1] (w2.alloc (.cells ([.int .i64 0, .int .i64 9, .int .i64 1] : List Value).toArray 3)) hlen (unhide HD) (unhide RA).p.cu (unhide SG) (ne_new (by omega) _ _) (by decide) (by decide)).mono ?_
    rintro e w3 ⟨⟨q, hq, rfl⟩, c3, g3⟩
    obtain ⟨cc, hcc, rfl⟩ := int_of (cs := [0, 9, 1]) hq
    have RB := hide ((unhide RA).call c3 g3)
    have RC := hide ((unhide RB).set0 cc)
    obtain ⟨p0, p1, p2, pf⟩ := blk_cells3 (unhide RB).k1
    have zb3 := (unhide RB).bl
    clear hq c3 g3 RA SG RB
    go_upto_region 9 with fail
    obtain ⟨Z, hZ⟩ : ∃ Z, Z = w3.setCell ⟨b, 0, none⟩ (.int .i64 cc) := ⟨_, rfl⟩
    rw [← hZ] at RC ⊢
    clear hZ
    obtain ⟨t0, t1, t2, tf⟩ := blk_cells3 (unhide RC).k1
    obtain ⟨q0, q1, q2, qf⟩ := blk_cells3 (unhide RC).p.k0
    have zbZ := (unhide RC).bl
    have zzZ := (unhide RC).p.zl
    have F := hide (unhide RC).fin
    go_wp2
    exact bodyPost_ret (v := LgV cc f (.slice a n cap)) (by simp [results, Try.results50, go_sem, q0, q1, q2]) rfl ⟨_, _, _, _, _, _, rfl, (unhide F).cu, (unhide F).gr, (unhide F).row, (unhide F).lo, Nat.le_trans (unhide F).ln (by decide), (unhide F).sm⟩
  have d0 : (x == 0) = false := by simpa using x0
  by_cases x1 : x = 1
  · subst x1
    clear p0 p1 p2 pf q0 q1 q2 qf
    go_wp2_with fail
    have RA := hide ((unhide R2).later ((Below.refl w2.heap.size w2).alloc (Nat.le_refl _) (.cells ([.int .i64 (-1), .int .i64 100000, .int .i64 9223372036854775807] : List Value).toArray 3)))
    have SG := hide (seg_new w2 3 [.int .i64 (-1), .int .i64 100000, .int .i64 9223372036854775807] 3 rfl (by omega))
    refine (pickint_any g v xs (.slice (some ⟨w2.heap.size, 0, none⟩) 3 3) [.int .i64 (-1), .int .i64 100000, .int .i64 9223372036854775807] (w2.alloc (.cells ([.int .i64 (-1), .int .i64 100000, .int .i64 9223372036854775807] : List Value).toArray 3)) hlen (unhide HD) (unhide RA).p.cu (unhide SG) (ne_new (by omega) _ _) (by decide) (by decide)).mono ?_
    rintro e w3 ⟨⟨q, hq, rfl⟩, c3, g3⟩
    obtain ⟨ff, hff, rfl⟩ := int_of (cs := [-1, 100000, 9223372036854775807]) hq
    have hf0 : -1 ≤ ff := by simp at hff; omega
    have RB := hide ((unhide RA).call c3 g3)
    have RC := hide ((unhide RB).set1 ff hf0)
    obtain ⟨p0, p1, p2, pf⟩ := blk_cells3 (unhide RB).k1
    have zb3 := (unhide RB).bl
    clear hq c3 g3 RA SG RB hff
    go_upto_region 9 with fail
    obtain ⟨Z, hZ⟩ : ∃ Z, Z = w3.setCell ⟨b, 1, none⟩ (.int .i64 ff) := ⟨_, rfl⟩
    rw [← hZ] at RC ⊢
    clear hZ
    obtain ⟨t0, t1, t2, tf⟩ := blk_cells3 (unhide RC).k1
    obtain ⟨q0, q1, q2, qf⟩ := blk_cells3 (unhide RC).p.k0
    have zbZ := (unhide RC).bl
    have zzZ := (unhide RC).p.zl
    have F := hide (unhide RC).fin
    go_wp2
    exact bodyPost_ret (v := LgV c ff (.slice a n cap)) (by simp [results, Try.results50, go_sem, q0, q1, q2]) rfl ⟨_, _, _, _, _, _, rfl, (unhide F).cu, (unhide F).gr, (unhide F).row, (unhide F).lo, Nat.le_trans (unhide F).ln (by decide), (unhide F).sm⟩
  have d1 : (x == 1) = false := by simpa using x1
  by_cases x2 : x = 2
  · subst x2
    clear q0 q1 q2 qf
    have RD := R7.drewH R2
    have em := (unhide R2).row.rw.len.1
    have ln := (unhide R2).ln
    have hn5 : n ≤ 5 := by omega
    clear em ln
    go_upto_region 8 with fail
    go_region_law (first
      | (go_simp; go_at_call 51; refine (l3draw_any g v xs _ hlen (unhide HD) (unhide RD).p.cu).mono ?_; rintro e w4 ⟨b1, m1, e1, b2, m2, e2, its, fls, rfl, hD3⟩; have R4 := hide ((unhide RD).call hD3.cu hD3.gr); have OI := hide (Ow.base (base' := w.heap.size) hD3.oi (unhide RD).p.gr.size); have OF := hide (Ow.base (base' := w.heap.size) hD3.of (unhide RD).p.gr.size); have SM := hide (And.intro hD3.li (And.intro hD3.lf hD3.ni)); obtain ⟨p0, p1, p2, pf⟩ := blk_cells3 (unhide R4).k1; have zb4 := (unhide R4).bl; clear hD3)
      | (obtain ⟨ps, hrow, hwn⟩ := (unhide R4).row; refine step_app7 encS_len (by omega) 32 24 i0 _ 48 Try.underlying24 hi hz0 hz1 hz2 rfl (by omega) (w4.alloc (.cells #[.slice b1 m1 e1, .slice b2 m2 e2] 32)) (.slice b1 m1 e1, .slice b2 m2 e2) (oneS _ rfl rfl) rfl _ _ rfl w.heap.size (.slice a n cap) ps n (hide (Ow.rw encS_len hrow).len.1) rfl (hrow.later ((Below.refl _ _).alloc (Nat.le_refl _) _)) w4.heap.size rfl (heap_alloc_new w4 _) (by omega) (by have := (unhide R4).p.gr.size; simp; omega) ?_; intro a7 c7 w6 hO hG; obtain ⟨r7, k7⟩ := (unhide R4).app hrow hwn (s := (its, fls)) (.inl (unhide OI)) (.inl (unhide OF)) (unhide SM) hO hG; obtain ⟨m0', m1', m2', mf'⟩ := blk_cells3 k7; have zb7 : b < w6.heap.size := (Array.getElem?_eq_some_iff.1 k7).1; have RC := hide r7; clear r7 k7 hO hG hrow hwn))
    all_goals
      clear p0 p1 p2 pf RD R4 OI OF SM R2
      go_upto_region 9 with fail
      obtain ⟨Z, hZ⟩ : ∃ Z, Z = w6.setCell ⟨b, 2, none⟩ (.slice a7 (n + 1) c7) := ⟨_, rfl⟩
      rw [← hZ] at RC ⊢
      clear hZ
      obtain ⟨t0, t1, t2, tf⟩ := blk_cells3 (unhide RC).k1
      obtain ⟨q0, q1, q2, qf⟩ := blk_cells3 (unhide RC).p.k0
      have zbZ := (unhide RC).bl
      have zzZ := (unhide RC).p.zl
      have F := hide (unhide RC).fin
      go_wp2
      exact bodyPost_ret (v := LgV c f (.slice a7 (n + 1) c7)) (by simp [results, Try.results50, go_sem, q0, q1, q2]) rfl ⟨_, _, _, _, _, _, rfl, (unhide F).cu, (unhide F).gr, (unhide F).row, (unhide F).lo, Nat.le_trans (unhide F).ln (by decide), (unhide F).sm⟩
  · have d2 : (x == 2) = false := by simpa using x2
    have F := hide (unhide R2).fin
    go_wp2
    exact bodyPost_ret (v := LgV c f (.slice a n cap)) (by simp [results, Try.results50, go_sem, q0, q1, q2]) rfl ⟨_, _, _, _, _, _, rfl, (unhide F).cu, (unhide F).gr, (unhide F).row, (unhide F).lo, Nat.le_trans (unhide F).ln (by decide), (unhide F).sm⟩
end Go.Proofs.Ytijdmfakaompgaa

namespace Go.Proofs.Ytijdmfakaompgaa
open Go.RowKit

theorem Wk7.low {α : Type} {enc : α → List Value} {k : Nat} {E : TypeId} {base : Nat} {w : World} {v : Value} {xs : List α} (h : Wk7 enc k E base w v xs) (p : Addr) (hp : p.block < base) (u : Value) : Wk7 enc k E base (w.setCell p u) v xs := h.imp (fun h => h.set p hp u) id
theorem OwW.low {base : Nat} {w : World} {v : Value} {ss : List Sta} (h : OwW base w v ss) (p : Addr) (hp : p.block < base) (u : Value) : OwW base (w.setCell p u) v ss := by
  obtain ⟨ps, h1, h2⟩ := h
  exact ⟨ps, Ow.set h1 p hp u, h2.len, fun i q s hq hs => ⟨(h2.ins i q s hq hs).1.low p hp u, (h2.ins i q s hq hs).2.low p hp u⟩⟩
theorem OwW.low3 {base : Nat} {w : World} {v : Value} {ss : List Sta} (h : OwW base w v ss) (z : Nat) (hz : z < base) (u0 u1 u2 : Value) : OwW base (((w.setCell ⟨z, 0, none⟩ u0).setCell ⟨z, 1, none⟩ u1).setCell ⟨z, 2, none⟩ u2) v ss := ((h.low ⟨z, 0, none⟩ hz _).low ⟨z, 1, none⟩ hz _).low ⟨z, 2, none⟩ hz _
theorem OwW.low2 {base : Nat} {w : World} {v : Value} {ss : List Sta} (h : OwW base w v ss) (z : Nat) (hz : z < base) (u0 u1 : Value) : OwW base ((w.setCell ⟨z, 0, none⟩ u0).setCell ⟨z, 1, none⟩ u1) v ss := (h.low ⟨z, 0, none⟩ hz _).low ⟨z, 1, none⟩ hz _
theorem Ow.low3 {α : Type} {enc : α → List Value} {k : Nat} {e : TypeId} {base : Nat} {w : World} {v : Value} {xs : List α} (h : Ow enc k e base w v xs) (z : Nat) (hz : z < base) (u0 u1 u2 : Value) : Ow enc k e base (((w.setCell ⟨z, 0, none⟩ u0).setCell ⟨z, 1, none⟩ u1).setCell ⟨z, 2, none⟩ u2) v xs := ((h.set ⟨z, 0, none⟩ hz _).set ⟨z, 1, none⟩ hz _).set ⟨z, 2, none⟩ hz _
theorem Ow.low2 {α : Type} {enc : α → List Value} {k : Nat} {e : TypeId} {base : Nat} {w : World} {v : Value} {xs : List α} (h : Ow enc k e base w v xs) (z : Nat) (hz : z < base) (u0 u1 : Value) : Ow enc k e base ((w.setCell ⟨z, 0, none⟩ u0).setCell ⟨z, 1, none⟩ u1) v xs := (h.set ⟨z, 0, none⟩ hz _).set ⟨z, 1, none⟩ hz _
theorem below_set2' {B : Nat} {w W : World} {g : Nat} {v0 v1 : Value} (hg : B ≤ g) (h : Below B w W) : Below B w ((W.setCell ⟨g, 0, none⟩ v0).setCell ⟨g, 1, none⟩ v1) := (h.setCell (p := ⟨g, 0, none⟩) hg _).setCell (p := ⟨g, 1, none⟩) hg _

/-- While a log is drawn ahead of something else: the cursor g, the results' blocks below it, the log's variable b. -/
structure T7 (w X : World) (B : Nat) (g : Nat) (v : Value) (xs : List Int) (b : Nat) (c f : Int) (u : Value) (ss : List Sta) : Prop where
  bel : Below w.heap.size w X
  cu : Cur X g v xs
  hB : w.heap.size ≤ B
  hg : B ≤ g
  gb : g < b
  kb : X.heap[b]? = some (LgO c f u)
  row : OwW B X u ss
  lo : -1 ≤ f
  ln : ss.length ≤ 6
  sm : Sm7 ss
variable {w X Y : World} {B : Nat} {g : Nat} {v : Value} {xs : List Int} {b : Nat} {c f : Int} {u : Value} {ss : List Sta}
theorem T7.bl (h : T7 w X B g v xs b c f u ss) : b < X.heap.size := (Array.getElem?_eq_some_iff.1 h.kb).1
theorem T7.later (h : T7 w X B g v xs b c f u ss) (bl : Below X.heap.size X Y) : T7 w Y B g v xs b c f u ss :=
  ⟨h.bel.trans (bl.mono h.bel.size), h.cu.later bl (Nat.le_refl _), h.hB, h.hg, h.gb, (bl.block _ h.bl).trans h.kb, h.row.later bl, h.lo, h.ln, h.sm⟩
theorem T7.call (h : T7 w X B g v xs b c f u ss) (hc : Cur Y g v xs) (hg : X.grownBy Y (some g)) : T7 w Y B g v xs b c f u ss := by
  obtain ⟨⟨i, q, hk, _⟩, _⟩ := h.cu
  have h1 := h.hB
  have h2 := h.hg
  have h3 := h.gb
  have hs := h.bel.size
  exact ⟨(Trn.of_grown hg).below h.bel hs (fun i e => by cases e; omega), hc, h1, h2, h3, blk_grown hg h.kb (by omega), h.row.otherT (fun r e => by cases e; exact ⟨_, _, hk⟩) (by decide) (by decide) (by decide) hg, h.lo, h.ln, h.sm⟩
theorem T7.drewH (h : Hid (T7 w X B g v xs b c f u ss)) : Hid (T7 w X.drew B g v xs b c f u ss) := hide ((unhide h).later ((Below.refl _ _).drew))
/-- A block below the cursor stays as it is. -/
theorem T7.z (h : T7 w X B g v xs b c f u ss) {q : Nat} {o : Obj} (hq : q < B) (hk : X.heap[q]? = some o) (hg : X.grownBy Y (some g)) : Y.heap[q]? = some o := by
  have := h.hg
  exact blk_grown hg hk (by omega)
theorem T7.of {w0 w1 w2 : World} (b1 : Below w.heap.size w w1) (h0 : w.heap.size ≤ B) (h1 : B ≤ g) (h2 : g < w1.heap.size) (hD : D7 w1 w2 g v xs f u ss 6) (_ : w0 = w0) : T7 w (w2.alloc (LgO c f u)) B g v xs w2.heap.size c f u ss := by
  have al : Below w2.heap.size w2 (w2.alloc (LgO c f u)) := (Below.refl _ _).alloc (Nat.le_refl _) _
  have b2 : Below w.heap.size w w2 := (Trn.of_grown hD.gr).below b1 b1.size (fun i e => by cases e; omega)
  have := hD.gr.size
  exact ⟨b2.trans (al.mono b2.size), hD.cu.later al (Nat.le_refl _), h0, h1, by omega, heap_alloc_new _ _, (hD.row.mono (by omega)).later al, hD.lo, hD.ln, hD.sm⟩

set_option maxHeartbeats 8000000 in
set_option maxRecDepth 100000 in
theorem drawlogadd_any (v : Value) (xs : List Int) (w : World) (hlen : xs.length ≤ 1048576) (hbd : ∀ z ∈ xs, 0 ≤ z ∧ z ≤ 255) (hv : Seg w v xs) :
    Calls Try.prog 18 #[v] w fun e w' => ∃ (c f : Int) (a : Option Addr) (n cap : Nat) (ss : List Sta) (a1 : Option Addr) (n1 c1 : Nat) (a2 : Option Addr) (n2 c2 : Nat) (its : List Itm) (fls : List Flr), e = .returned (.tuple #[LgV c f (.slice a n cap), .agg #[.slice a1 n1 c1, .slice a2 n2 c2]]) ∧ RwS w' (.slice a n cap) ss ∧ Rw encI 6 w' (.slice a1 n1 c1) its ∧ Rw encF 2 w' (.slice a2 n2 c2) fls ∧ ss.length ≤ 6 ∧ Sm7 ss ∧ its.length ≤ 6 ∧ fls.length ≤ 6 ∧ Nine its ∧ Below w.heap.size w w' := by
  have HD := hide hbd
  have HV := hide hv
  clear hbd hv
  have bV : Below w.heap.size w ((w.alloc LgZ0).alloc StZ) := ((Below.refl w.heap.size w).alloc (Nat.le_refl _) _).alloc (by simp) _
  have BV := hide bV
  have SV := hide ((unhide HV).below bV (Nat.le_refl _))
  clear bV
  go_enter Try.func18, Try.ntmps18
  go_wp2_with fail
  refine (new_any v xs _ hlen (unhide HD) (unhide SV)).mono ?_
  rintro e w1 ⟨rfl, c1, b1, s1⟩
  have k1 : w1.heap[w.heap.size]? = some LgZ0 := (b1.block _ (by simp; omega)).trans (lowB2 w _ _)
  have k2 : w1.heap[w.heap.size + 1]? = some StZ := (b1.block _ (by simp)).trans (newB2 w _ _)
  have hgs : ((w.alloc LgZ0).alloc StZ).heap.size = w.heap.size + 1 + 1 := by simp
  rw [hgs] at c1 s1 ⊢
  have B1 := hide ((unhide BV).trans (b1.mono (unhide BV).size))
  have C1 := hide c1
  have K1 := hide k1
  have K2 := hide k2
  clear b1 c1 k1 k2 BV SV hgs
  go_wp2_with fail
  refine (l7draw_any (w.heap.size + 1 + 1) v xs _ hlen (unhide HD) (unhide C1)).mono ?_
  rintro e w2 ⟨c, f, a, n, cap, ss, rfl, hD⟩
  have T2 : Hid (T7 w (w2.alloc (LgO c f (.slice a n cap))) (w.heap.size + 1 + 1) (w.heap.size + 1 + 1) v xs w2.heap.size c f (.slice a n cap) ss) := hide (T7.of (w0 := w) (unhide B1) (by omega) (Nat.le_refl _) (by omega) hD rfl)
  have kk1 : (w2.alloc (LgO c f (.slice a n cap))).heap[w.heap.size]? = some LgZ0 := (Below.heap_alloc _ _ _ (by have := hD.gr.size; omega)).trans (blk_grown hD.gr (unhide K1) (by omega))
  have kk2 : (w2.alloc (LgO c f (.slice a n cap))).heap[w.heap.size + 1]? = some StZ := (Below.heap_alloc _ _ _ (by have := hD.gr.size; omega)).trans (blk_grown hD.gr (unhide K2) (by omega))
  have KK1 := hide kk1
  have KK2 := hide kk2
  generalize hgb : w2.heap.size = b at *
  clear hD kk1 kk2 B1 C1 K1 K2
  go_upto_region 3 with fail
  obtain ⟨X, hX⟩ : ∃ X, X = w2.alloc (LgO c f (.slice a n cap)) := ⟨_, rfl⟩
  rw [← hX] at T2 KK1 KK2 ⊢
  clear hX
  obtain ⟨p0, p1, p2, pf⟩ := blk_cells3 (unhide T2).kb
  have zb := (unhide T2).bl
  have TD := T7.drewH T2
  go_region_law (go_simp; go_at_call 51; refine (l3draw_any (w.heap.size + 1 + 1) v xs _ hlen (unhide HD) (unhide TD).cu).mono ?_; rintro e w4 ⟨b1, m1, e1, b2, m2, e2, its, fls, rfl, hD3⟩; have T4 := hide ((unhide TD).call hD3.cu hD3.gr); have OI := hide (Ow.base (base' := w.heap.size + 1 + 1) hD3.oi (by have := (unhide TD).bl; have := (unhide TD).gb; omega)); have OF := hide (Ow.base (base' := w.heap.size + 1 + 1) hD3.of (by have := (unhide TD).bl; have := (unhide TD).gb; omega)); have SM := hide (And.intro hD3.li (And.intro hD3.lf hD3.ni)); obtain ⟨p0, p1, p2, pf⟩ := blk_cells3 (unhide T4).kb; obtain ⟨q0, q1, q2, qf⟩ := blk_cells3 ((unhide TD).z (by omega) (unhide KK1) hD3.gr); have k2x := (unhide TD).z (by omega) (unhide KK2) hD3.gr; obtain ⟨r0, r1, rf⟩ := blk_cells2 k2x; have zb4 := (unhide T4).bl; have gb4 := (unhide T4).gb; clear hD3 k2x)
  all_goals
    clear p0 p1 p2 pf
    go_wp2
    exact bodyPost_ret (v := .tuple #[LgV c f (.slice a n cap), .agg #[.slice b1 m1 e1, .slice b2 m2 e2]]) (by simp [results, Try.results18, go_sem, q0, q1, q2, r0, r1]) rfl ⟨c, f, a, n, cap, ss, b1, m1, e1, b2, m2, e2, its, fls, rfl, (((unhide T4).row.low3 w.heap.size (by omega) _ _ _).low2 (w.heap.size + 1) (by omega) _ _).rw, (((unhide OI).low3 w.heap.size (by omega) _ _ _).low2 (w.heap.size + 1) (by omega) _ _).rw encI_len, (((unhide OF).low3 w.heap.size (by omega) _ _ _).low2 (w.heap.size + 1) (by omega) _ _).rw encF_len, (unhide T4).ln, (unhide T4).sm, (unhide SM).1, (unhide SM).2.1, (unhide SM).2.2, below_set2' (by omega) (below_set3 (Nat.le_refl _) (unhide T4).bel)⟩

theorem kT7 (h : Hid (T7 w X B g v xs b c f u ss)) : X.cell? ⟨b, 0, none⟩ = some (.int .i64 c) ∧ X.cell? ⟨b, 1, none⟩ = some (.int .i64 f) ∧ X.cell? ⟨b, 2, none⟩ = some u := by
  obtain ⟨p0, p1, p2, -⟩ := blk_cells3 (unhide h).kb
  exact ⟨p0, p1, p2⟩
theorem T7.allocH (h : Hid (T7 w X B g v xs b c f u ss)) (o : Obj) : Hid (T7 w (X.alloc o) B g v xs b c f u ss) := hide ((unhide h).later ((Below.refl _ _).alloc (Nat.le_refl _) o))
theorem kT7s (h : Hid (T7 w X B g v xs b c f u ss)) (z : Nat) (hz : b ≠ z) (u0 u1 u2 : Value) : (((X.setCell ⟨z, 0, none⟩ u0).setCell ⟨z, 1, none⟩ u1).setCell ⟨z, 2, none⟩ u2).cell? ⟨b, 0, none⟩ = some (.int .i64 c) ∧ (((X.setCell ⟨z, 0, none⟩ u0).setCell ⟨z, 1, none⟩ u1).setCell ⟨z, 2, none⟩ u2).cell? ⟨b, 1, none⟩ = some (.int .i64 f) ∧ (((X.setCell ⟨z, 0, none⟩ u0).setCell ⟨z, 1, none⟩ u1).setCell ⟨z, 2, none⟩ u2).cell? ⟨b, 2, none⟩ = some u := by
  obtain ⟨p0, p1, p2, -⟩ := blk_cells3 (blk_at (h := z) (o := 2) (u := u2) (blk_at (h := z) (o := 1) (u := u1) (blk_at (h := z) (o := 0) (u := u0) (unhide h).kb hz) hz) hz)
  exact ⟨p0, p1, p2⟩
set_option maxHeartbeats 1000000 in
theorem in0_any (n q : Int) (h0 : Hid ((if n < 1000000 then n else 1000000) = q)) (w : World) : Calls Try.prog 73 #[.int .i64 n] w fun e w' => e = .returned (.int .i64 q) ∧ w = w' := by
  by_cases h : n < 1000000
  · have hd : decide (n < 1000000) = true := by simpa using h
    have hq := unhide h0
    rw [if_pos h] at hq
    subst hq
    go_enter Try.func73, Try.ntmps73
    go_wp2
    go_ret
    exact ⟨rfl, rfl⟩
  · have hd : decide (n < 1000000) = false := by simpa using h
    have hq := unhide h0
    rw [if_neg h] at hq
    subst hq
    go_enter Try.func73, Try.ntmps73
    go_wp2
    go_ret
    exact ⟨rfl, rfl⟩
theorem once7_any (g : Nat) (v : Value) (xs : List Int) (n : Int) (w : World) (hlen : xs.length ≤ 1048576) (hbd : ∀ z ∈ xs, 0 ≤ z ∧ z ≤ 255) (hn0 : 0 < n) (hn1 : n ≤ 4294967296) (hc : Cur w g v xs) :
    Calls Try.prog 71 #[.pointer (some ⟨g, 0, none⟩), .int .i64 n] w fun e w' => (∃ b : Bool, e = .returned (.bool b)) ∧ Cur w' g v xs ∧ w.grownBy w' (some g) := by
  have HD := hide hbd
  have HC := hide hc
  clear hbd hc
  go_enter Try.func71, Try.ntmps71
  go_wp2_with fail
  refine (below_any g v xs n _ hlen (unhide HD) hn0 hn1 (unhide HC)).mono ?_
  rintro e w1 ⟨⟨x, rfl, xa, xb⟩, c1, g1⟩
  have C1 := hide c1
  have G1 := hide g1
  clear c1 g1
  go_wp2
  go_ret
  exact ⟨⟨_, rfl⟩, unhide C1, unhide G1⟩

set_option maxHeartbeats 8000000 in
set_option maxRecDepth 100000 in
theorem l7two_any (v : Value) (xs : List Int) (w : World) (hlen : xs.length ≤ 1048576) (hbd : ∀ z ∈ xs, 0 ≤ z ∧ z ≤ 255) (hv : Seg w v xs) :
    Calls Try.prog 33 #[v] w fun e w' => ∃ (c f : Int) (a : Option Addr) (n cap : Nat) (ss : List Sta) (seq : Int), e = .returned (.tuple #[LgV c f (.slice a n cap), .int .i64 seq]) ∧ OwW w.heap.size w' (.slice a n cap) ss ∧ ss.length ≤ 6 ∧ Sm7 ss ∧ Below w.heap.size w w' := by
  have HD := hide hbd
  have HV := hide hv
  clear hbd hv
  have bV : Below w.heap.size w (w.alloc LgZ0) := (Below.refl w.heap.size w).alloc (Nat.le_refl _) _
  have BV := hide bV
  have SV := hide ((unhide HV).below bV (Nat.le_refl _))
  clear bV
  go_enter Try.func33, Try.ntmps33
  go_wp2_with fail
  refine (new_any v xs _ hlen (unhide HD) (unhide SV)).mono ?_
  rintro e w1 ⟨rfl, c1, b1, s1⟩
  have k1 : w1.heap[w.heap.size]? = some LgZ0 := (b1.block _ (by simp)).trans (heap_alloc_new w _)
  have hgs : (w.alloc LgZ0).heap.size = w.heap.size + 1 := by simp
  rw [hgs] at c1 s1 ⊢
  have B1 := hide ((unhide BV).trans (b1.mono (unhide BV).size))
  have C1 := hide c1
  have K1 := hide k1
  clear b1 c1 k1 BV SV hgs
  go_wp2_with fail
  refine (l7draw_any (w.heap.size + 1) v xs _ hlen (unhide HD) (unhide C1)).mono ?_
  rintro e w2 ⟨c, f, a, n, cap, ss, rfl, hD⟩
  have T2 : Hid (T7 w (w2.alloc (LgO c f (.slice a n cap))) (w.heap.size + 1) (w.heap.size + 1) v xs w2.heap.size c f (.slice a n cap) ss) := hide (T7.of (w0 := w) (unhide B1) (by omega) (Nat.le_refl _) (by omega) hD rfl)
  have kk1 : (w2.alloc (LgO c f (.slice a n cap))).heap[w.heap.size]? = some LgZ0 := (Below.heap_alloc _ _ _ (by have := hD.gr.size; omega)).trans (blk_grown hD.gr (unhide K1) (by omega))
  have KK1 := hide kk1
  have zs : w.heap.size + 1 < w2.heap.size := by have := hD.gr.size; omega
  generalize hgb : w2.heap.size = b at *
  clear hD kk1 B1 C1 K1
  go_wp2_with fail
  refine (once7_any (w.heap.size + 1) v xs 8 _ hlen (unhide HD) (by omega) (by omega) (unhide T2).cu).mono ?_
  rintro e w3 ⟨⟨qq, rfl⟩, c3, g3⟩
  have T3 := hide ((unhide T2).call c3 g3)
  have KZ := hide ((unhide T2).z (by omega) (unhide KK1) g3)
  have em : n ≤ 6 := by have := (unhide T2).row.rw.len.1; have := (unhide T2).ln; omega
  clear c3 g3 T2 KK1
  obtain ⟨p0, p1, p2, pf⟩ := blk_cells3 (unhide T3).kb
  obtain ⟨q0, q1, q2, qf⟩ := blk_cells3 (unhide KZ)
  have zb := (unhide T3).bl
  have zz : w.heap.size < w3.heap.size := (Array.getElem?_eq_some_iff.1 (unhide KZ)).1
  have TD := T7.drewH T3
  cases qq
  · obtain ⟨q, hq⟩ : ∃ q, (if f < 1000000 then f else 1000000) = q := ⟨_, rfl⟩
    have hf1 := (unhide T3).lo
    have hq1 : -1 ≤ q := by rw [← hq]; split <;> omega
    have hq2 : q ≤ 1000000 := by rw [← hq]; split <;> omega
    have HQ := hide hq
    have hw3 : IntKind.i64.wrap ((n : Int) + 3) = (n : Int) + 3 := by rw [IntKind.wrap_i64]; omega
    have hw1 : 0 < IntKind.i64.wrap ((n : Int) + 3) := by rw [hw3]; omega
    have hw2 : IntKind.i64.wrap ((n : Int) + 3) ≤ 4294967296 := by rw [hw3]; omega
    clear hq hw3
    go_upto_region 5 with fail
    clear p0 p1 p2 pf
    go_region_held3 (fun W => W.cell? ⟨b, 0, none⟩ = some (.int .i64 c) ∧ W.cell? ⟨b, 1, none⟩ = some (.int .i64 f) ∧ W.cell? ⟨b, 2, none⟩ = some (.slice a n cap))
      (first | (with_reducible exact kT7 T3) | (with_reducible exact kT7 TD) | (with_reducible exact kT7 T4) | (with_reducible exact kT7s T4 w.heap.size (by omega) _ _ _))
      (first
        | (go_at_call 73; refine (in0_any f q HQ _).mono ?_; rintro e w5 ⟨rfl, rfl⟩)
        | (go_at_call 74; refine (below_any (w.heap.size + 1) v xs (IntKind.i64.wrap ((n : Int) + 3)) _ hlen (unhide HD) hw1 hw2 (unhide TD).cu).mono ?_; rintro e w4 ⟨⟨y, rfl, ya, yb⟩, c4, g4⟩; have T4 := hide ((unhide TD).call c4 g4); obtain ⟨q0, q1, q2, qf⟩ := blk_cells3 ((unhide TD).z (by omega) (unhide KZ) g4); have zb4 := (unhide T4).bl; have gb4 := (unhide T4).gb; clear c4 g4))
    all_goals
      have hb4 : Below w.heap.size w _ := below_set3 (v0 := .int .i64 c) (v1 := .int .i64 f) (v2 := .slice a n cap) (Nat.le_refl _) (unhide T4).bel
      go_wp2
      exact bodyPost_ret (v := .tuple #[LgV c f (.slice a n cap), .int .i64 (IntKind.i64.wrap (IntKind.i64.wrap (q + y) - 1))]) (by simp [results, Try.results33, go_sem, q0, q1, q2]) rfl ⟨c, f, a, n, cap, ss, _, rfl, OwW.mono ((unhide T4).row.low3 w.heap.size (by omega) _ _ _) (by omega), (unhide T4).ln, (unhide T4).sm, hb4⟩
  · go_upto_region 4 with fail
    clear p0 p1 p2 pf
    have TA := T7.allocH TD (.cells ([.int .i64 (-1), .int .i64 9223372036854775807, .int .i64 0] : List Value).toArray 3)
    have SG := hide (seg_new w3.drew 3 [.int .i64 (-1), .int .i64 9223372036854775807, .int .i64 0] 3 rfl (by omega))
    have NE := hide (ne_new (g := w.heap.size + 1) (k := w3.drew.heap.size) (by show w.heap.size + 1 < w3.heap.size; have := (unhide T3).gb; omega) 3 3)
    go_region_held3 (fun W => W.cell? ⟨b, 0, none⟩ = some (.int .i64 c) ∧ W.cell? ⟨b, 1, none⟩ = some (.int .i64 f) ∧ W.cell? ⟨b, 2, none⟩ = some (.slice a n cap))
      (first | (with_reducible exact kT7 T3) | (with_reducible exact kT7 TD) | (with_reducible exact kT7 TA) | (with_reducible exact kT7 (T7.allocH T3 _)) | (with_reducible exact kT7 (T7.drewH (T7.allocH T3 _))) | (with_reducible exact kT7 T4) | (with_reducible exact kT7s T4 w.heap.size (by omega) _ _ _))
      (first
        | (go_at_call 72; refine (pickint_any (w.heap.size + 1) v xs (.slice (some ⟨w3.drew.heap.size, 0, none⟩) 3 3) [.int .i64 (-1), .int .i64 9223372036854775807, .int .i64 0] (w3.drew.alloc (.cells ([.int .i64 (-1), .int .i64 9223372036854775807, .int .i64 0] : List Value).toArray 3)) hlen (unhide HD) (unhide TA).cu (unhide SG) (unhide NE) (by decide) (by decide)).mono ?_; rintro e w4 ⟨⟨y, hy, rfl⟩, c4, g4⟩; obtain ⟨yy, -, rfl⟩ := int_of (cs := [-1, 9223372036854775807, 0]) hy; have T4 := hide ((unhide TA).call c4 g4); obtain ⟨q0, q1, q2, qf⟩ := blk_cells3 ((unhide TA).z (by omega) ((Below.heap_alloc _ _ _ (by show w.heap.size < w3.heap.size; omega)).trans (unhide KZ)) g4); have zb4 := (unhide T4).bl; have gb4 := (unhide T4).gb; clear c4 g4 hy))
    all_goals
      have hb4 : Below w.heap.size w _ := below_set3 (v0 := .int .i64 c) (v1 := .int .i64 f) (v2 := .slice a n cap) (Nat.le_refl _) (unhide T4).bel
      go_wp2
      exact bodyPost_ret (v := .tuple #[LgV c f (.slice a n cap), .int .i64 yy]) (by simp [results, Try.results33, go_sem, q0, q1, q2]) rfl ⟨c, f, a, n, cap, ss, _, rfl, OwW.mono ((unhide T4).row.low3 w.heap.size (by omega) _ _ _) (by omega), (unhide T4).ln, (unhide T4).sm, hb4⟩
set_option maxHeartbeats 4000000 in
set_option maxRecDepth 100000 in
theorem drawlogsince_any (v : Value) (xs : List Int) (w : World) (hlen : xs.length ≤ 1048576) (hbd : ∀ z ∈ xs, 0 ≤ z ∧ z ≤ 255) (hv : Seg w v xs) :
    Calls Try.prog 10 #[v] w fun e w' => ∃ (c f : Int) (a : Option Addr) (n cap : Nat) (ss : List Sta) (seq : Int), e = .returned (.tuple #[LgV c f (.slice a n cap), .int .i64 seq]) ∧ RwS w' (.slice a n cap) ss ∧ ss.length ≤ 6 ∧ Sm7 ss ∧ Below w.heap.size w w' := by
  have HD := hide hbd
  have bV : Below w.heap.size w (w.alloc LgZ0) := (Below.refl w.heap.size w).alloc (Nat.le_refl _) _
  have BV := hide bV
  have SV := hide (hv.below bV (Nat.le_refl _))
  clear bV hbd hv
  go_enter Try.func10, Try.ntmps10
  go_wp2_with fail
  refine (l7two_any v xs _ hlen (unhide HD) (unhide SV)).mono ?_
  rintro e w1 ⟨c, f, a, n, cap, ss, seq, rfl, o1, ln, sm, b1⟩
  have k1 : w1.heap[w.heap.size]? = some LgZ0 := (b1.block _ (by simp)).trans (heap_alloc_new w _)
  obtain ⟨q0, q1, q2, qf⟩ := blk_cells3 k1
  have zz : w.heap.size < w1.heap.size := (Array.getElem?_eq_some_iff.1 k1).1
  have B1 := hide ((unhide BV).trans (b1.mono (unhide BV).size))
  have O1 := hide (o1.mono (base' := w.heap.size + 1) (by simp))
  have LN := hide ln
  have SM := hide sm
  clear b1 o1 k1 ln sm
  go_wp2
  exact bodyPost_ret (v := .tuple #[LgV c f (.slice a n cap), .int .i64 seq]) (by simp [results, Try.results10, go_sem, q0, q1, q2]) rfl ⟨c, f, a, n, cap, ss, seq, rfl, ((unhide O1).low3 w.heap.size (by omega) _ _ _).rw, unhide LN, unhide SM, below_set3 (Nat.le_refl _) (unhide B1)⟩
end Go.Proofs.Ytijdmfakaompgaa
