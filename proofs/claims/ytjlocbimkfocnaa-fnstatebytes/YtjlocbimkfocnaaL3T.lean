/-
  A state that is drawn: what lies in memory while it is made. No statement is proved here.
  spec.l3Right: some state of at most five items and floors, with short texts; the cursor goes on, nothing else turns. No statement is proved here.
  A drawn state is changed: an item or a floor is appended, an item is written. No statement is proved here.
  spec.l3Draw: some state of at most six items and floors, with short texts; the cursor goes on, nothing else turns. No statement is proved here.
  spec.DrawStateOk, spec.DrawSingle: some state, some item, with short texts; nothing that was there turns. No statement is proved here.
-/
import Derived.Test.YtjlocbimkfocnaaSJoin2
import Derived.Test.YtjlocbimkfocnaaStSg
import Derived.Test.YtjlocbimkfocnaaStBx
import Derived.Test.YtjlocbimkfocnaaEntDraw
import Derived.Test.YtjlocbimkfocnaaVwP
import Derived.Deep.RegionWith
import Derived.Test.YtjlocbimkfocnaaApp2
import Derived.Deep.RegionLaw
namespace Go.Proofs.Ytjlocbimkfocnaa
open Go.RowKit

/-- Each text has at most nine bytes. -/
def Nine (xs : List Itm) : Prop := ∀ x ∈ xs, x.2.2.2.2.2.size ≤ 9
theorem nine_nil : Nine [] := fun _ h => by simp at h
theorem nine_one {id : Int} {e : Key} (h : e.2.2.2.2.size ≤ 9) : Nine [(id, e)] := fun x hx => by
  rw [List.mem_singleton] at hx
  subst hx
  exact h
theorem nine_sgl {ok : Bool} {id : Int} {e : Key} (h : e.2.2.2.2.size ≤ 9) : Nine (sgl ok id e) := by
  cases ok
  · exact nine_nil
  · exact nine_one h
theorem ent_mem {xs : List Itm} {id : Int} {e : Key} (h : ent xs id = some e) : ∃ i, (i, e) ∈ xs := by
  unfold ent at h
  cases hf : xs.find? (fun x => x.1 == id) with
  | none => rw [hf] at h; cases h
  | some y =>
    rw [hf] at h
    obtain ⟨i, e'⟩ := y
    simp at h
    subst h
    exact ⟨i, List.mem_of_find?_eq_some hf⟩
theorem nine_join {xs ys : List Itm} {fs gs : List Flr} (hx : Nine xs) (hy : Nine ys) : Nine (joinI xs fs ys gs) := by
  intro x hm
  have h := (mem_jI.1 hm).2.2.1
  rcases jE_ok h with h | h
  · obtain ⟨i, hi⟩ := ent_mem h; exact hx (i, x.2) hi
  · obtain ⟨i, hi⟩ := ent_mem h; exact hy (i, x.2) hi
theorem nine_sml {xs : List Itm} (h : Nine xs) : Sml xs := fun k x hk => by have := h x (List.mem_of_getElem? hk); omega

theorem grown_later {w X Y : World} {r : Option Nat} (h : w.grownBy X r) (b : Below X.heap.size X Y) : w.grownBy Y r :=
  ⟨b.os.trans h.os, b.tape.trans h.tape, b.output.trans h.output, Nat.le_trans h.size b.size, fun k hk hr => (b.block k (Nat.lt_of_lt_of_le hk h.size)).trans (h.block k hk hr)⟩
theorem grown_set2 (w : World) (b : Nat) (u1 u2 : Value) : w.grownBy ((w.setCell ⟨b, 0, none⟩ u1).setCell ⟨b, 1, none⟩ u2) (some b) := grown_trans (grown_set _ _ _ _) (grown_set _ _ _ _)
/-- A row of the call's own is not a variable of another type. -/
theorem Ow.other {α : Type} {enc : α → List Value} {k : Nat} {E T : TypeId} {base : Nat} {w w' : World} {v : Value} {xs : List α} {b : Nat} {cs : Array Value} {fz : Nat × Nat} (h : Ow enc k E base w v xs) (hb : w.heap[b]? = some (.cells cs T fz)) (hne : E ≠ T) (hg : w.grownBy w' (some b)) : Ow enc k E base w' v xs :=
  World.ownsRow.kept h hg (.inr (own_ne h hb hne))

/-- While a state is drawn: the cursor g, the result in block z, the state in block b. -/
structure R3 (m : Nat) (w X : World) (g : Nat) (v : Value) (xs : List Int) (z b : Nat) (v1 v2 : Value) (its : List Itm) (fls : List Flr) : Prop where
  c0 : Cur w g v xs
  gr : w.grownBy X (some g)
  cu : Cur X g v xs
  hz : w.heap.size ≤ z
  hb : w.heap.size ≤ b
  zb : z ≠ b
  k0 : X.heap[z]? = some (StB (.slice none 0 0) (.slice none 0 0))
  k1 : X.heap[b]? = some (StB v1 v2)
  oi : OwI w.heap.size X v1 its
  of : OwF w.heap.size X v2 fls
  li : its.length ≤ m
  lf : fls.length ≤ m
  ni : Nine its
variable {m : Nat} {w X Y : World} {g : Nat} {v : Value} {xs : List Int} {z b : Nat} {v1 v2 : Value} {its : List Itm} {fls : List Flr}
theorem R3.gl (h : R3 m w X g v xs z b v1 v2 its fls) : g < w.heap.size := cur_lt h.c0
theorem R3.zl (h : R3 m w X g v xs z b v1 v2 its fls) : z < X.heap.size := (Array.getElem?_eq_some_iff.1 h.k0).1
theorem R3.bl (h : R3 m w X g v xs z b v1 v2 its fls) : b < X.heap.size := (Array.getElem?_eq_some_iff.1 h.k1).1
theorem R3.call (h : R3 m w X g v xs z b v1 v2 its fls) (hc : Cur Y g v xs) (hg : X.grownBy Y (some g)) : R3 m w Y g v xs z b v1 v2 its fls := by
  have := h.gl
  have hz := h.hz
  have hb := h.hb
  obtain ⟨⟨i, q, hk, _⟩, _⟩ := h.cu
  exact ⟨h.c0, grown_trans h.gr hg, hc, hz, hb, h.zb, blk_grown hg h.k0 (by omega), blk_grown hg h.k1 (by omega), h.oi.other hk (by decide) hg, h.of.other hk (by decide) hg, h.li, h.lf, h.ni⟩
theorem R3.later (h : R3 m w X g v xs z b v1 v2 its fls) (bl : Below X.heap.size X Y) : R3 m w Y g v xs z b v1 v2 its fls :=
  ⟨h.c0, grown_later h.gr bl, h.cu.later bl (Nat.le_refl _), h.hz, h.hb, h.zb, (bl.block _ h.zl).trans h.k0, (bl.block _ h.bl).trans h.k1, h.oi.later bl, h.of.later bl, h.li, h.lf, h.ni⟩
theorem R3.drew (h : R3 m w X g v xs z b v1 v2 its fls) : R3 m w X.drew g v xs z b v1 v2 its fls := h.later (Below.refl _ _).drew
/-- A struct variable of this call is written: the cursor, and what is owned. -/
theorem R3.far (h : R3 m w X g v xs z b v1 v2 its fls) {q : Nat} (hw : w.heap.size ≤ q) (hg : X.grownBy Y (some q)) :
    Cur Y g v xs ∧ w.grownBy Y (some g) := by
  have := h.gl
  have G : w.grownBy Y (some g) := ⟨hg.os.trans h.gr.os, hg.tape.trans h.gr.tape, hg.output.trans h.gr.output, Nat.le_trans h.gr.size hg.size, fun k hk hr => (hg.block k (Nat.lt_of_lt_of_le hk h.gr.size) (by simp; omega)).trans (h.gr.block k hk hr)⟩
  exact ⟨cur_far h.c0 h.cu G (hg.block g (Nat.lt_of_lt_of_le h.gl h.gr.size) (by simp; omega)), G⟩
theorem R3.put (h : R3 m w X g v xs z b v1 v2 its fls) {u1 u2 : Value} {is' : List Itm} {fs' : List Flr} {B : Nat} (o1 : OwI B X u1 is') (o2 : OwF B X u2 fs') (hB : w.heap.size ≤ B) (li : is'.length ≤ m) (lf : fs'.length ≤ m) (ni : Nine is') :
    R3 m w ((X.setCell ⟨b, 0, none⟩ u1).setCell ⟨b, 1, none⟩ u2) g v xs z b u1 u2 is' fs' := by
  have hg := grown_set2 X b u1 u2
  obtain ⟨c, G⟩ := h.far h.hb hg
  exact ⟨h.c0, G, c, h.hz, h.hb, h.zb, blk_grown hg h.k0 h.zb, blk_set2 h.k1 _ _, Ow.base (o1.other h.k1 (by decide) hg) hB, Ow.base (o2.other h.k1 (by decide) hg) hB, li, lf, ni⟩
theorem own_oneF {w : World} {g base : Nat} (x : Flr) (hb : base ≤ g) (h : w.heap[g]? = some (.cells #[.int .i64 x.1, .int .i64 x.2] 67 (0, 0))) : OwF base w (.slice (some ⟨g, 0, none⟩) 1 1) [x] :=
  ⟨rfl, .inr ⟨g, 1, _, rfl, hb, h, Nat.le_refl _, by unfold maxLen; simp, rfl, rfl⟩⟩
/-- The two fields of the variable. -/
theorem kR (h : Hid (R3 m w X g v xs z b v1 v2 its fls)) : X.cell? ⟨b, 0, none⟩ = some v1 ∧ X.cell? ⟨b, 1, none⟩ = some v2 := by
  obtain ⟨p0, p1, _⟩ := blk_cells2 (unhide h).k1
  exact ⟨p0, p1⟩
theorem R3.allocH (h : Hid (R3 m w X g v xs z b v1 v2 its fls)) (o : Obj) : Hid (R3 m w (X.alloc o) g v xs z b v1 v2 its fls) := hide ((unhide h).later ((Below.refl _ _).alloc (Nat.le_refl _) o))
/-- What is told of a drawn state. -/
structure D3 (w X : World) (g : Nat) (v : Value) (xs : List Int) (v1 v2 : Value) (its : List Itm) (fls : List Flr) : Prop where
  cu : Cur X g v xs
  gr : w.grownBy X (some g)
  oi : OwI w.heap.size X v1 its
  of : OwF w.heap.size X v2 fls
  li : its.length ≤ 6
  lf : fls.length ≤ 6
  ni : Nine its
theorem R3.fin (h : R3 m w X g v xs z b v1 v2 its fls) (hm : m ≤ 6) : D3 w ((X.setCell ⟨z, 0, none⟩ v1).setCell ⟨z, 1, none⟩ v2) g v xs v1 v2 its fls := by
  have hg := grown_set2 X z v1 v2
  obtain ⟨c, G⟩ := h.far h.hz hg
  exact ⟨c, G, h.oi.other h.k0 (by decide) hg, h.of.other h.k0 (by decide) hg, by have := h.li; omega, by have := h.lf; omega, h.ni⟩
end Go.Proofs.Ytjlocbimkfocnaa

namespace Go.Proofs.Ytjlocbimkfocnaa
open Go.RowKit

theorem sgl_len {ok : Bool} {id : Int} {e : Key} {m : Nat} (h : (sgl ok id e).length = m) : m ≤ 1 := by
  cases ok <;> simp [sgl] at h <;> omega
theorem R3.new {w : World} {g : Nat} {v : Value} {xs : List Int} (hc : Cur w g v xs) : R3 5 w ((w.alloc (StB (.slice none 0 0) (.slice none 0 0))).alloc (StB (.slice none 0 0) (.slice none 0 0))) g v xs w.heap.size (w.heap.size + 1) (.slice none 0 0) (.slice none 0 0) [] [] := by
  have b : Below w.heap.size w ((w.alloc (StB (.slice none 0 0) (.slice none 0 0))).alloc (StB (.slice none 0 0) (.slice none 0 0))) := ((Below.refl w.heap.size w).alloc (Nat.le_refl _) _).alloc (by simp) _
  refine ⟨hc, ⟨b.os, b.tape, b.output, b.size, fun k hk _ => b.block k hk⟩, hc.later b (Nat.le_refl _), Nat.le_refl _, by omega, by omega, ?_, newB2 _ _ _, World.ownsRow_nil _ _ _ _, World.ownsRow_nil _ _ _ _, by simp, by simp, nine_nil⟩
  exact (Below.heap_alloc _ _ _ (by simp)).trans (heap_alloc_new _ _)

set_option maxHeartbeats 8000000 in
set_option maxRecDepth 100000 in
theorem l3right_any (g : Nat) (v : Value) (xs : List Int) (w : World) (hlen : xs.length ≤ 1048576) (hbd : ∀ z ∈ xs, 0 ≤ z ∧ z ≤ 255) (hc : Cur w g v xs) :
    Calls Try.prog 68 #[.pointer (some ⟨g, 0, none⟩)] w fun e w' => ∃ a1 n1 c1 a2 n2 c2 its fls, e = .returned (.agg #[.slice a1 n1 c1, .slice a2 n2 c2]) ∧ D3 w w' g v xs (.slice a1 n1 c1) (.slice a2 n2 c2) its fls ∧ its.length ≤ 5 ∧ fls.length ≤ 5 := by
  have HD := hide hbd
  have R0 := hide (R3.new hc)
  clear hbd hc
  go_enter Try.func68, Try.ntmps68
  go_wp2_with fail
  refine (below_any g v xs 7 _ hlen (unhide HD) (by omega) (by omega) (unhide R0).cu).mono ?_
  rintro e w1 ⟨⟨n, rfl, na, nb⟩, c1, g1⟩
  have R1 := hide ((unhide R0).call c1 g1)
  clear c1 g1 R0
  go_wp2
  go_loopw [5] (fun i wr => ∃ (k : Int) (a1 : Option Addr) (n1 c1 : Nat) (a2 : Option Addr) (n2 c2 : Nat) (its : List Itm) (fls : List Flr), 0 ≤ k ∧ k ≤ n ∧ i = .int .i64 k ∧ R3 5 w wr g v xs w.heap.size (w.heap.size + 1) (.slice a1 n1 c1) (.slice a2 n2 c2) its fls) (fun i _ => (n - intOf i).toNat)
  case atStart => exact ⟨0, none, 0, 0, none, 0, 0, [], [], by omega, by omega, rfl, unhide R1⟩
  case round =>
    obtain ⟨k, a1, n1, c1, a2, n2, c2, its, fls, hk0, hk1, rfl, hR⟩ := hrel
    have R2 := hide hR
    clear hR R1
    by_cases hlt : k < n
    · go_wp2_with fail
      refine (below_any g v xs 5 _ hlen (unhide HD) (by omega) (by omega) (unhide R2).cu).mono ?_
      rintro e w3 ⟨⟨id, rfl, ia, ib⟩, c3, g3⟩
      have R3' := hide ((unhide R2).call c3 g3)
      clear c3 g3 R2
      go_wp2_with fail
      refine (right_any g v xs _ hlen (unhide HD) (unhide R3').cu).mono ?_
      rintro e w4 ⟨⟨ai, ar, ab, av, ad, rfl, had⟩, c4, g4⟩
      have R4 := hide ((unhide R3').call c4 g4)
      have HN := hide had
      obtain ⟨ok, h0⟩ : ∃ ok, Hid (okS [(id, ((ai, ar, ab, av, ad) : Key))] [] = ok) := ⟨_, hide rfl⟩
      obtain ⟨m, hm⟩ : ∃ m, Hid ((sgl ok id ((ai, ar, ab, av, ad) : Key)).length = m) := ⟨_, hide rfl⟩
      have hm1 := sgl_len (unhide hm)
      clear c4 g4 R3' had
      go_wp2_with fail
      refine (ssingle_any id ((ai, ar, ab, av, ad) : Key) ok h0 m hm w4).mono ?_
      rintro e w5 ⟨a5, c5, rfl, o5, b5⟩
      have R5 := hide ((unhide R4).later b5)
      have O5 := hide o5
      clear b5 o5 R4
      go_upto_region 7 with fail
      obtain ⟨V, hV⟩ : ∃ V, V = w5.alloc (StB (.slice a5 m c5) (.slice none 0 0)) := ⟨_, rfl⟩
      have bV : Below w5.heap.size w5 V := by rw [hV]; exact (Below.refl _ _).alloc (Nat.le_refl _) _
      have RV := hide ((unhide R5).later bV)
      have OV := hide ((unhide O5).later bV)
      have KV : Hid (V.heap[w5.heap.size]? = some (StB (.slice a5 m c5) (.slice none 0 0))) := hide (by rw [hV]; exact heap_alloc_new _ _)
      obtain ⟨p0, p1, p2⟩ := blk_cells2 (unhide RV).k1
      obtain ⟨q0, q1, q2⟩ := blk_cells2 (unhide KV)
      rw [← hV]
      clear hV bV R5 O5
      go_wp2_with fail
      have e1 := ((unhide RV).oi.rw encI_len).len.1
      have e2 := ((unhide RV).of.rw encF_len).len.1
      have l1 := (unhide RV).li
      have l2 := (unhide RV).lf
      clear p0 p1 p2 q0 q1 q2
      refine (l3join_any a1 n1 c1 its a2 n2 c2 fls a5 m c5 (sgl ok id ((ai, ar, ab, av, ad) : Key)) none 0 0 [] V (by omega) (by omega) (by omega) (by omega) ((unhide RV).oi.rw encI_len) ((unhide RV).of.rw encF_len) ((unhide OV).rw encI_len) Rw.nil).mono ?_
      rintro e w6 ⟨a6, n6, c6, a7, n7, c7, rfl, o6, o7, b6⟩
      have R6 := hide ((unhide RV).later b6)
      have R7 := hide ((unhide R6).put o6 o7 (unhide RV).gr.size (jI_len _ _ _ _ 5) (jF_len _ _ 5) (nine_join (unhide RV).ni (nine_sgl (unhide HN))))
      obtain ⟨p0, p1, p2⟩ := blk_cells2 (unhide R6).k1
      clear o6 o7 b6 RV OV KV e1 e2 l1 l2 R6
      go_wp2
      go_roundw
      case rel => exact ⟨k + 1, a6, n6, c6, a7, n7, c7, _, _, by omega, by omega, by go_num, unhide R7⟩
      case measure => simp [intOf]; omega
    · go_wp2_with fail
      refine (below_any g v xs 3 _ hlen (unhide HD) (by omega) (by omega) (unhide R2).cu).mono ?_
      rintro e w3 ⟨⟨n', rfl, na', nb'⟩, c3, g3⟩
      have R3' := hide ((unhide R2).call c3 g3)
      clear c3 g3 R2
      go_wp2
      go_loopw [9] (fun i wr => ∃ (k : Int) (a1 : Option Addr) (n1 c1 : Nat) (a2 : Option Addr) (n2 c2 : Nat) (its : List Itm) (fls : List Flr), 0 ≤ k ∧ k ≤ n' ∧ i = .int .i64 k ∧ R3 5 w wr g v xs w.heap.size (w.heap.size + 1) (.slice a1 n1 c1) (.slice a2 n2 c2) its fls) (fun i _ => (n' - intOf i).toNat)
      case atStart => exact ⟨0, _, _, _, _, _, _, _, _, by omega, by omega, rfl, unhide R3'⟩
      case round =>
        clear R3'
        obtain ⟨k', a1, n1, c1, a2, n2, c2, its, fls, hk0', hk1', rfl, hR⟩ := hrel
        have R2 := hide hR
        clear hR
        by_cases hlt' : k' < n'
        · have RD := hide (unhide R2).drew
          have e1 := ((unhide R2).oi.rw encI_len).len.1
          have e2 := ((unhide R2).of.rw encF_len).len.1
          have l1 := (unhide R2).li
          have l2 := (unhide R2).lf
          obtain ⟨h1, h2⟩ : n1 ≤ 5 ∧ n2 ≤ 5 := by omega
          clear e1 e2 l1 l2
          go_upto_region 12 with fail
          obtain ⟨p0, p1, p2⟩ := blk_cells2 (unhide R2).k1
          go_region_with
            (first
              | (go_at_call_of 34 (Value.int IntKind.i64 5); refine (below_any g v xs 5 _ hlen (unhide HD) (by omega) (by omega) (unhide RD).cu).mono ?_; rintro e w3 ⟨⟨id, rfl, ia, ib⟩, c3, g3⟩; have RX := hide ((unhide RD).call c3 g3); obtain ⟨p0, p1, p2⟩ := blk_cells2 (unhide RX).k1; clear c3 g3)
              | (go_at_call_of 34 (Value.int IntKind.i64 2); refine (below_any g v xs 2 _ hlen (unhide HD) (by omega) (by omega) (unhide RX).cu).mono ?_; rintro e w4 ⟨⟨x, rfl, xa, xb⟩, c4, g4⟩; have RY := hide ((unhide RX).call c4 g4); have hbl := (unhide RY).bl; obtain ⟨p0, p1, p2⟩ := blk_cells2 (unhide RY).k1; clear c4 g4)
              | (go_at_call 105; refine (l3join_any a1 n1 c1 its a2 n2 c2 fls none 0 0 [] (some ⟨w4.heap.size, 0, none⟩) 1 1 [(id, IntKind.i64.wrap (1 + x))] _ (by omega) (by omega) (by omega) (by omega) ((unhide (R3.allocH RY _)).oi.rw encI_len) ((unhide (R3.allocH RY _)).of.rw encF_len) Rw.nil ((own_oneF (base := 0) (id, IntKind.i64.wrap (1 + x)) (Nat.zero_le _) (heap_alloc_new _ _)).rw encF_len)).mono ?_; rintro e w6 ⟨a6, n6, c6, a7, n7, c7, rfl, o6, o7, b6⟩; have RZ := hide ((unhide (R3.allocH RY _)).later b6); have RW := hide ((unhide RZ).put o6 o7 (unhide (R3.allocH RY _)).gr.size (jI_len _ _ _ _ 5) (jF_len _ _ 5) (nine_join (unhide RY).ni nine_nil)); obtain ⟨p0, p1, p2⟩ := blk_cells2 (unhide RZ).k1; clear o6 o7 b6))
          all_goals clear p0 p1 p2
          all_goals go_wp2
          all_goals go_roundw
          all_goals first | exact ⟨k' + 1, _, _, _, _, _, _, _, _, by omega, by omega, by go_num, unhide RW⟩ | (simp [intOf]; omega)
        · obtain ⟨p0, p1, p2⟩ := blk_cells2 (unhide R2).k1
          obtain ⟨q0, q1, q2⟩ := blk_cells2 (unhide R2).k0
          have F := hide ((unhide R2).fin (by omega))
          have l1 := hide (unhide R2).li
          have l2 := hide (unhide R2).lf
          clear R2
          go_wp2
          exact bodyPost_ret (v := .agg #[.slice a1 n1 c1, .slice a2 n2 c2]) (by simp [results, Try.results68, go_sem, q0, q1]) rfl ⟨a1, n1, c1, a2, n2, c2, rfl, its, fls, unhide F, unhide l1, unhide l2⟩
end Go.Proofs.Ytjlocbimkfocnaa

namespace Go.Proofs.Ytjlocbimkfocnaa
open Go.RowKit

/-- A call of a Go function at a step of a region that draws. -/
theorem step_call {P : Program} {ops : Array Oper} {o : Oper} {a : Act} {w : World} {K : Act → World → Prop} {Q : Exit → Act → World → Prop} {R : Prop} (hgd : o.guard = none) (f : FuncId) (args : Array Value) (hrun : (execOp a.eval o).run P w = .ok (.enter f args) w)
    (hc : Calls P f args w fun e w' => ∃ v, e = .returned v ∧ K (a.put o.dst v) w') : if Region.wanted o (yielded ops a.tmps) = true then Oper.wp P o a w K Q else R := by
  rw [if_pos (by simp [Region.wanted, hgd])]
  unfold Oper.wp
  rw [hrun, Oper.upon_enter]
  refine hc.mono fun e w'' hh => ?_
  obtain ⟨v, rfl, hh⟩ := hh
  exact hh

variable {m : Nat} {w X Y : World} {g : Nat} {v : Value} {xs : List Int} {z b : Nat} {v1 v2 : Value} {its : List Itm} {fls : List Flr}
theorem R3.turn (h : R3 m w X g v xs z b v1 v2 its fls) {row : Option Nat} (hg : X.grownBy Y row) (hr : ∀ q, row = some q → w.heap.size ≤ q ∧ q ≠ z ∧ q ≠ b) :
    w.grownBy Y (some g) ∧ Cur Y g v xs ∧ Y.heap[z]? = some (StB (.slice none 0 0) (.slice none 0 0)) ∧ Y.heap[b]? = some (StB v1 v2) := by
  have hgl := h.gl
  have hsz := h.gr.size
  have ng : ∀ k, k < w.heap.size → some k ≠ row := fun k hk q => by have := (hr k q.symm).1; omega
  have G : w.grownBy Y (some g) := ⟨hg.os.trans h.gr.os, hg.tape.trans h.gr.tape, hg.output.trans h.gr.output, Nat.le_trans h.gr.size hg.size, fun k hk hq => (hg.block k (by omega) (ng k hk)).trans (h.gr.block k hk hq)⟩
  exact ⟨G, cur_far h.c0 h.cu G (hg.block g (by omega) (ng g hgl)), (hg.block z h.zl (fun q => (hr z q.symm).2.1 rfl)).trans h.k0, (hg.block b h.bl (fun q => (hr b q.symm).2.2 rfl)).trans h.k1⟩
theorem R3.rowI (h : R3 m w X g v xs z b v1 v2 its fls) : ∀ q, v1.ownBlock = some q → w.heap.size ≤ q ∧ q ≠ z ∧ q ≠ b :=
  fun q e => ⟨(World.ownsRow.lt h.oi q e).1, fun k => own_ne h.oi h.k0 (by decide) (k ▸ e), fun k => own_ne h.oi h.k1 (by decide) (k ▸ e)⟩
theorem R3.rowF (h : R3 m w X g v xs z b v1 v2 its fls) : ∀ q, v2.ownBlock = some q → w.heap.size ≤ q ∧ q ≠ z ∧ q ≠ b :=
  fun q e => ⟨(World.ownsRow.lt h.of q e).1, fun k => own_ne h.of h.k0 (by decide) (k ▸ e), fun k => own_ne h.of h.k1 (by decide) (k ▸ e)⟩
/-- One field of the variable is written. -/
theorem far1 (c0 : Cur w g v xs) (hgl : g < w.heap.size) (hb : w.heap.size ≤ b) (G : w.grownBy Y (some g)) (c : Cur Y g v xs) (j : Nat) (u : Value) : w.grownBy (Y.setCell ⟨b, j, none⟩ u) (some g) ∧ Cur (Y.setCell ⟨b, j, none⟩ u) g v xs := by
  have G' : w.grownBy (Y.setCell ⟨b, j, none⟩ u) (some g) := grown_far G (a := ⟨b, j, none⟩) hb u
  exact ⟨G', cur_far c0 c G' (heap_setCell_other _ _ _ _ (by show g ≠ b; omega))⟩
theorem R3.appI {m' : Nat} (h : R3 m w X g v xs z b v1 v2 its fls) {u1 : Value} {is' : List Itm} (ho : OwI w.heap.size Y u1 is') (hg : X.grownBy Y v1.ownBlock) (hm : m ≤ m') (li : is'.length ≤ m') (ni : Nine is') :
    R3 m' w (Y.setCell ⟨b, 0, none⟩ u1) g v xs z b u1 v2 is' fls := by
  obtain ⟨G, c, k0, k1⟩ := h.turn hg h.rowI
  have of : OwF w.heap.size Y v2 fls := World.ownsRow.kept h.of hg (owns_apart h.of h.oi (by decide))
  have G2 := grown_set Y b 0 u1
  obtain ⟨G', c'⟩ := far1 h.c0 h.gl h.hb G c 0 u1
  exact ⟨h.c0, G', c', h.hz, h.hb, h.zb, blk_grown G2 k0 h.zb, heap_setCell_same _ _ _ _ _ _ k1, ho.other k1 (by decide) G2, of.other k1 (by decide) G2, li, Nat.le_trans h.lf hm, ni⟩
theorem R3.appF {m' : Nat} (h : R3 m w X g v xs z b v1 v2 its fls) {u2 : Value} {fs' : List Flr} (ho : OwF w.heap.size Y u2 fs') (hg : X.grownBy Y v2.ownBlock) (hm : m ≤ m') (lf : fs'.length ≤ m') :
    R3 m' w (Y.setCell ⟨b, 1, none⟩ u2) g v xs z b v1 u2 its fs' := by
  obtain ⟨G, c, k0, k1⟩ := h.turn hg h.rowF
  have oi : OwI w.heap.size Y v1 its := World.ownsRow.kept h.oi hg (owns_apart h.oi h.of (by decide))
  have G2 := grown_set Y b 1 u2
  obtain ⟨G', c'⟩ := far1 h.c0 h.gl h.hb G c 1 u2
  exact ⟨h.c0, G', c', h.hz, h.hb, h.zb, blk_grown G2 k0 h.zb, heap_setCell_same _ _ _ _ _ _ k1, oi.other k1 (by decide) G2, ho.other k1 (by decide) G2, Nat.le_trans h.li hm, lf, h.ni⟩
theorem R3.wrI {q n c : Nat} (h : R3 m w X g v xs z b (.slice (some ⟨q, 0, none⟩) n c) v2 its fls) {is' : List Itm} (ho : OwI w.heap.size Y (.slice (some ⟨q, 0, none⟩) n c) is') (hg : X.grownBy Y (some q)) (li : is'.length ≤ m) (ni : Nine is') :
    R3 m w Y g v xs z b (.slice (some ⟨q, 0, none⟩) n c) v2 is' fls := by
  obtain ⟨G, c, k0, k1⟩ := h.turn hg h.rowI
  exact ⟨h.c0, G, c, h.hz, h.hb, h.zb, k0, k1, ho, World.ownsRow.kept h.of hg (owns_apart h.of h.oi (by decide)), li, h.lf, ni⟩

theorem set_same {l : List Value} {j : Nat} {u : Value} (h : l[j]? = some u) : l.set j u = l := by
  refine List.ext_getElem? fun i => ?_
  rw [List.getElem?_set]
  split
  · subst_vars
    split
    · exact h.symm
    · rename_i hn; rw [List.getElem?_eq_none (by omega)]
  · rfl
theorem set_ent {i : Nat} {x : Itm} (hx : its[i]? = some x) (e : Key) : setL (its.flatMap encI) (i * 6 + 1) [.int .i64 e.1, .int .i64 e.2.1, .int .i64 e.2.2.1, .int .i64 e.2.2.2.1, .string e.2.2.2.2] = (its.set i (x.1, e)).flatMap encI := by
  have hi : i < its.length := (List.getElem?_eq_some_iff.1 hx).1
  rw [← setL_flat (by omega) encI_len its i hi (x.1, e)]
  have h0 := flat_at encI_len its i x 0 hx (by omega)
  show _ = setL ((its.flatMap encI).set (i * 6) (.int .i64 x.1)) (i * 6 + 1) [.int .i64 e.1, .int .i64 e.2.1, .int .i64 e.2.2.1, .int .i64 e.2.2.2.1, .string e.2.2.2.2]
  rw [set_same]
  exact h0
theorem OwI_ent {base q n c i : Nat} {x : Itm} (h : OwI base X (.slice (some ⟨q, 0, none⟩) n c) its) (hx : its[i]? = some x) (e : Key) :
    OwI base (setW X q (i * 6 + 1) [.int .i64 e.1, .int .i64 e.2.1, .int .i64 e.2.2.1, .int .i64 e.2.2.2.1, .string e.2.2.2.2]) (.slice (some ⟨q, 0, none⟩) n c) (its.set i (x.1, e)) ∧ X.grownBy (setW X q (i * 6 + 1) [.int .i64 e.1, .int .i64 e.2.1, .int .i64 e.2.2.1, .int .i64 e.2.2.2.1, .string e.2.2.2.2]) (some q) := by
  have hn : n = its.length := (h.rw encI_len).len.1
  subst hn
  obtain ⟨h1, h2⟩ := setW_own [.int .i64 e.1, .int .i64 e.2.1, .int .i64 e.2.2.1, .int .i64 e.2.2.2.1, .string e.2.2.2.2] h (i * 6 + 1)
  refine ⟨?_, h2⟩
  unfold OwI Ow
  rw [List.length_set, ← set_ent hx e]
  exact h1
theorem OwI_put {base q n c i : Nat} {x : Itm} (h : OwI base X (.slice (some ⟨q, 0, none⟩) n c) its) (hi : i < its.length) :
    OwI base (setW X q (i * 6) (encI x)) (.slice (some ⟨q, 0, none⟩) n c) (its.set i x) ∧ X.grownBy (setW X q (i * 6) (encI x)) (some q) := by
  have hn : n = its.length := (h.rw encI_len).len.1
  subst hn
  obtain ⟨h1, h2⟩ := setW_own (encI x) h (i * 6)
  refine ⟨?_, h2⟩
  unfold OwI Ow
  rw [List.length_set, ← setL_flat (by omega) encI_len its i hi x]
  exact h1
theorem nine_set {i : Nat} {x : Itm} (h : Nine its) (hx : x.2.2.2.2.2.size ≤ 9) : Nine (its.set i x) := fun y hy => by
  rcases List.mem_or_eq_of_mem_set hy with hy | rfl
  · exact h y hy
  · exact hx
theorem nine_app {x : Itm} (h : Nine its) (hx : x.2.2.2.2.2.size ≤ 9) : Nine (its ++ [x]) := fun y hy => by
  rw [List.mem_append, List.mem_singleton] at hy
  rcases hy with hy | rfl
  · exact h y hy
  · exact hx
theorem segv_grown {u : Value} {cs : List Value} (h : SegV X u cs) (hg : X.grownBy Y (some g)) (hne : ∀ a n c, u = .slice (some a) n c → a.block ≠ g) : SegV Y u cs := by
  obtain ⟨a, cap, rfl, hcap, h⟩ := h
  refine ⟨a, cap, rfl, hcap, ?_⟩
  rcases h with h | ⟨b, off, rfl, hlt, hc⟩
  · exact .inl h
  · have hb : b ≠ g := hne _ _ _ rfl
    exact .inr ⟨b, off, rfl, Nat.lt_of_lt_of_le hlt hg.size, fun i hi => (World.cell?_of_block (hg.block b hlt (by simpa using hb))).trans (hc i hi)⟩
theorem pick4 {c : Value} (h : c ∈ ([.int .i64 0, .int .i64 1, .int .i64 5, .int .i64 1001] : List Value)) : ∃ q, c = .int .i64 q := by
  simp only [List.mem_cons, List.not_mem_nil, or_false] at h
  rcases h with rfl | rfl | rfl | rfl
  all_goals exact ⟨_, rfl⟩
theorem items_cells {base q n c k : Nat} (h : OwI base X (.slice (some ⟨q, 0, none⟩) n c) its) (hk : k < n) :
    ∃ y0 y1 y2 y3 y4 y5, X.cell? ⟨q, k * 6, none⟩ = some y0 ∧ X.cell? ⟨q, k * 6 + 1, none⟩ = some y1 ∧ X.cell? ⟨q, k * 6 + 2, none⟩ = some y2 ∧ X.cell? ⟨q, k * 6 + 3, none⟩ = some y3 ∧ X.cell? ⟨q, k * 6 + 4, none⟩ = some y4 ∧ X.cell? ⟨q, k * 6 + 5, none⟩ = some y5 ∧ ∀ o, X.frozen? ⟨q, o, none⟩ = false := by
  have hn : n = its.length := (h.rw encI_len).len.1
  subst hn
  exact own_cells6 h hk
theorem at_some {n k : Nat} (hn : n = its.length) (hk : k < n) : ∃ x, its[k]? = some x := ⟨_, List.getElem?_eq_getElem (by omega)⟩
/-- The entry of item k is written. -/
theorem R3.ent {q n c k : Nat} (h : R3 m w X g v xs z b (.slice (some ⟨q, 0, none⟩) n c) v2 its fls) (hk : k < n) (e : Key) (he : e.2.2.2.2.size ≤ 9) :
    ∃ is', R3 m w (setW X q (k * 6 + 1) [.int .i64 e.1, .int .i64 e.2.1, .int .i64 e.2.2.1, .int .i64 e.2.2.2.1, .string e.2.2.2.2]) g v xs z b (.slice (some ⟨q, 0, none⟩) n c) v2 is' fls := by
  have hn : n = its.length := (h.oi.rw encI_len).len.1
  obtain ⟨x, hx⟩ := at_some hn hk
  obtain ⟨h1, h2⟩ := OwI_ent h.oi hx e
  exact ⟨_, h.wrI h1 h2 (by rw [List.length_set]; exact h.li) (nine_set h.ni he)⟩
/-- Item 0 is written over by item k. -/
theorem R3.itm {q n c : Nat} {x : Itm} (h : R3 m w X g v xs z b (.slice (some ⟨q, 0, none⟩) n c) v2 its fls) (hk : 0 < n) (hx : x ∈ its) :
    ∃ is', R3 m w (setW X q (0 * 6) (encI x)) g v xs z b (.slice (some ⟨q, 0, none⟩) n c) v2 is' fls := by
  have hn : n = its.length := (h.oi.rw encI_len).len.1
  obtain ⟨h1, h2⟩ := OwI_put (x := x) (i := 0) h.oi (by omega)
  exact ⟨_, h.wrI h1 h2 (by rw [List.length_set]; exact h.li) (nine_set h.ni (h.ni x hx))⟩
theorem R3.of_draw {O : Obj} (hO : O = StB (.slice none 0 0) (.slice none 0 0)) (hc : Cur w g v xs) (d : D3 (w.alloc O) X g v xs v1 v2 its fls) (l1 : its.length ≤ m) (l2 : fls.length ≤ m) : R3 m w (X.alloc (StB v1 v2)) g v xs w.heap.size X.heap.size v1 v2 its fls := by
  subst hO
  have hgl := cur_lt hc
  have hs := d.gr.size
  simp only [World.size_alloc] at hs
  have b0 : Below X.heap.size X (X.alloc (StB v1 v2)) := (Below.refl _ _).alloc (Nat.le_refl _) _
  refine ⟨hc, grown_later (grown_trans (grown_alloc w _ _) d.gr) b0, d.cu.later b0 (Nat.le_refl _), Nat.le_refl _, by omega, by omega, ?_, heap_alloc_new _ _, Ow.base (d.oi.later b0) (by simp), Ow.base (d.of.later b0) (by simp), l1, l2, d.ni⟩
  exact (b0.block _ (by omega)).trans (blk_grown d.gr (heap_alloc_new _ _) (by omega))
end Go.Proofs.Ytjlocbimkfocnaa

namespace Go.Proofs.Ytjlocbimkfocnaa
open Go.RowKit

set_option maxHeartbeats 8000000 in
set_option maxRecDepth 100000 in
theorem l3draw_any (g : Nat) (v : Value) (xs : List Int) (w : World) (hlen : xs.length ≤ 1048576) (hbd : ∀ z ∈ xs, 0 ≤ z ∧ z ≤ 255) (hc : Cur w g v xs) :
    Calls Try.prog 23 #[.pointer (some ⟨g, 0, none⟩)] w fun e w' => ∃ a1 n1 c1 a2 n2 c2 its fls, e = .returned (.agg #[.slice a1 n1 c1, .slice a2 n2 c2]) ∧ D3 w w' g v xs (.slice a1 n1 c1) (.slice a2 n2 c2) its fls := by
  obtain ⟨i0, hi, hz0, hz1, hz2⟩ := info_parts Try.infoItem
  obtain ⟨i1, gi, gz0, gz1, gz2⟩ := info_parts Try.infoFloor
  have HD := hide hbd
  have HC := hide hc
  have C0 := hide (cur_alloc hc (StB (.slice none 0 0) (.slice none 0 0)))
  clear hbd hc
  go_enter Try.func23, Try.ntmps23
  go_wp2_with fail
  refine (l3right_any g v xs _ hlen (unhide HD) (unhide C0)).mono ?_
  rintro e w1 ⟨a1, n1, c1, a2, n2, c2, its, fls, rfl, d, l1, l2⟩
  have R1 := hide (R3.of_draw rfl (unhide HC) d l1 l2)
  clear d l1 l2 C0
  go_wp2_with fail
  refine (below_any g v xs 14 _ hlen (unhide HD) (by omega) (by omega) (unhide R1).cu).mono ?_
  rintro e w2 ⟨⟨n, rfl, na, nb⟩, c2', g2⟩
  have R2 := hide ((unhide R1).call c2' g2)
  have RD := hide (unhide R2).drew
  have e1 := ((unhide R2).oi.rw encI_len).len.1
  have e2 := ((unhide R2).of.rw encF_len).len.1
  have l1 := (unhide R2).li
  have l2 := (unhide R2).lf
  obtain ⟨h1, h2⟩ : n1 ≤ 5 ∧ n2 ≤ 5 := by omega
  have E1 := hide e1
  have E2 := hide e2
  have hw2 := (unhide R2).gr.size
  have hbl2 := (unhide R2).bl
  clear e1 e2 l1 l2 c2' g2 R1
  obtain ⟨p0, p1, p2⟩ := blk_cells2 (unhide R2).k1
  by_cases h0 : n = 0
  · subst h0
    go_upto_region 4 with fail
    go_region_law (first
      | (go_simp; go_at_call_of 34 (Value.int IntKind.i64 7); refine (below_any g v xs 7 _ hlen (unhide HD) (by omega) (by omega) (unhide RD).cu).mono ?_; rintro e w3 ⟨⟨x3, rfl, x3a, x3b⟩, c3, g3⟩; have RX := hide ((unhide RD).call c3 g3); have zbRX := (unhide RX).bl; have zsRX := (unhide RX).gr.size; obtain ⟨p0, p1, p2⟩ := blk_cells2 (unhide RX).k1; clear c3 g3)
      | (go_simp; go_at_call 69; refine (draw_any g v xs _ hlen (unhide HD) (unhide RX).cu).mono ?_; rintro e w4 ⟨⟨ai, ar, ab, av, ad, rfl, had⟩, c4, g4⟩; have RY := hide ((unhide RX).call c4 g4); have HN := hide had; have zbRY := (unhide RY).bl; have zsRY := (unhide RY).gr.size; obtain ⟨p0, p1, p2⟩ := blk_cells2 (unhide RY).k1; clear c4 g4 had)
      | (refine step_app1 encI_len (by omega) oneI 64 24 i0 _ 56 Try.underlying24 hi hz0 hz1 hz2 rfl (by omega) w4 (IntKind.i64.wrap (x3 - 1), ((ai, ar, ab, av, ad) : Key)) rfl _ _ rfl w.heap.size _ its n1 E1 rfl (unhide RY).oi rfl (by omega) (by omega) ?_; intro a5 c5 w5 hO hG; have RZ := hide ((unhide RY).appI (m' := 6) hO hG (by omega) (by simp; have := (unhide RY).li; omega) (nine_app (unhide RY).ni (unhide HN))); obtain ⟨p0, p1, p2⟩ := blk_cells2 ((unhide RY).turn hG (unhide RY).rowI).2.2.2; clear hO hG))
    all_goals clear p0 p1 p2
    all_goals
      obtain ⟨s0, s1, s2⟩ := blk_cells2 (unhide RZ).k1
      obtain ⟨q0, q1, q2⟩ := blk_cells2 (unhide RZ).k0
      have F := hide ((unhide RZ).fin (by omega))
      clear RZ
      go_wp2
      exact bodyPost_ret (v := .agg #[(.slice a5 (n1 + 1) c5), (.slice a2 n2 c2)]) (by simp [results, Try.results23, go_sem, q0, q1]) rfl ⟨_, _, _, _, _, _, _, _, rfl, unhide F⟩
  have e0 : (n == 0) = false := by simpa using h0
  by_cases h1' : n = 1
  · subst h1'
    go_upto_region 6 with fail
    have SGA := hide (seg_new w2.drew 3 [.int .i64 0, .int .i64 1, .int .i64 5, .int .i64 1001] 4 rfl (by decide))
    have hgl : g < w2.heap.size := Nat.lt_of_lt_of_le (unhide R2).gl hw2
    have NE := hide (ne_new (k := w2.drew.heap.size) hgl 4 4)
    go_region_law (first
      | (go_simp; go_at_call 34; refine (below_any g v xs 7 w2.drew hlen (unhide HD) (by omega) (by omega) (unhide RD).cu).mono ?_; rintro e w3 ⟨⟨x3, rfl, xa, xb⟩, c3, g3⟩; have RX := hide ((unhide RD).call c3 g3); have zx : g < w3.heap.size := Nat.lt_of_lt_of_le (unhide RX).gl (unhide RX).gr.size; have zbX := (unhide RX).bl; have SGX := hide (seg_new w3 3 [.int .i64 0, .int .i64 1, .int .i64 5, .int .i64 1001] 4 rfl (by decide)); have RXA := hide (unhide (R3.allocH RX (.cells ([.int .i64 0, .int .i64 1, .int .i64 5, .int .i64 1001] : List Value).toArray 3))); have zs := (unhide RX).gr.size; obtain ⟨p0, p1, p2⟩ := blk_cells2 (unhide RX).k1; clear c3 g3)
      | (go_simp; go_at_call 34; refine (below_any g v xs 7 (w2.drew.alloc (.cells ([.int .i64 0, .int .i64 1, .int .i64 5, .int .i64 1001] : List Value).toArray 3)) hlen (unhide HD) (by omega) (by omega) (unhide (R3.allocH RD _)).cu).mono ?_; rintro e w3 ⟨⟨x3, rfl, xa, xb⟩, c3, g3⟩; have RXA := hide ((unhide (R3.allocH RD _)).call c3 g3); have SGY := hide (segv_grown (unhide SGA) g3 (unhide NE)); have zbX := (unhide RXA).bl; have zs := (unhide RXA).gr.size; obtain ⟨p0, p1, p2⟩ := blk_cells2 (unhide RXA).k1; clear c3 g3)
      | (go_simp; go_at_call 70; refine (pickint_any g v xs (.slice (some ⟨w2.drew.heap.size, 0, none⟩) 4 4) [.int .i64 0, .int .i64 1, .int .i64 5, .int .i64 1001] w3 hlen (unhide HD) (unhide RXA).cu (unhide SGY) (unhide NE) (by decide) (by decide)).mono ?_; rintro e w5 ⟨⟨c, hcm, rfl⟩, c5, g5⟩; obtain ⟨q, rfl⟩ := pick4 hcm; have RY := hide ((unhide RXA).call c5 g5); have zbY := (unhide RY).bl; have zsY := (unhide RY).gr.size; obtain ⟨p0, p1, p2⟩ := blk_cells2 (unhide RY).k1; clear c5 g5 hcm)
      | (go_simp; go_at_call 70; refine (pickint_any g v xs (.slice (some ⟨w3.heap.size, 0, none⟩) 4 4) [.int .i64 0, .int .i64 1, .int .i64 5, .int .i64 1001] (w3.alloc (.cells ([.int .i64 0, .int .i64 1, .int .i64 5, .int .i64 1001] : List Value).toArray 3)) hlen (unhide HD) (unhide RXA).cu (unhide SGX) (ne_new zx _ _) (by decide) (by decide)).mono ?_; rintro e w5 ⟨⟨c, hcm, rfl⟩, c5, g5⟩; obtain ⟨q, rfl⟩ := pick4 hcm; have RY := hide ((unhide RXA).call c5 g5); have zbY := (unhide RY).bl; have zsY := (unhide RY).gr.size; obtain ⟨p0, p1, p2⟩ := blk_cells2 (unhide RY).k1; clear c5 g5 hcm)
      | (refine step_app1 encF_len (by omega) oneF 67 25 i1 _ 16 Try.underlying25 gi gz0 gz1 gz2 rfl (by omega) w5 (IntKind.i64.wrap (x3 - 1), q) rfl _ _ rfl w.heap.size _ fls n2 E2 rfl (unhide RY).of rfl (by omega) (by omega) ?_; intro a5 c5 w6 hO hG; have RZ := hide ((unhide RY).appF (m' := 6) hO hG (by omega) (by simp; have := (unhide RY).lf; omega)); obtain ⟨p0, p1, p2⟩ := blk_cells2 ((unhide RY).turn hG (unhide RY).rowF).2.2.2; clear hO hG))
    all_goals clear p0 p1 p2
    all_goals
      obtain ⟨s0, s1, s2⟩ := blk_cells2 (unhide RZ).k1
      obtain ⟨q0, q1, q2⟩ := blk_cells2 (unhide RZ).k0
      have F := hide ((unhide RZ).fin (by omega))
      clear RZ
      go_wp2
      exact bodyPost_ret (v := .agg #[(.slice a1 n1 c1), (.slice a5 (n2 + 1) c5)]) (by simp [results, Try.results23, go_sem, q0, q1]) rfl ⟨_, _, _, _, _, _, _, _, rfl, unhide F⟩
  have e1 : (n == 1) = false := by simpa using h1'
  by_cases h2' : n = 2
  · subst h2'
    by_cases hp : 0 < n1
    · obtain ⟨q, cap, hq, hqb, hql⟩ := World.ownsRow.form (unhide R2).oi (by have := unhide E1; omega)
      simp only [Value.slice.injEq] at hq
      obtain ⟨rfl, -, rfl⟩ := hq
      have hd : decide (0 < (n1 : Int)) = true := by simp; omega
      go_upto_region 9 with fail
      go_region_law (first
        | (go_simp; go_at_call 34; refine (below_any g v xs (n1 : Int) _ hlen (unhide HD) (by omega) (by omega) (unhide RD).cu).mono ?_; rintro e w3 ⟨⟨x3, rfl, xa, xb⟩, c3, g3⟩; obtain ⟨k, rfl⟩ := Int.eq_ofNat_of_zero_le xa; have hk : k < n1 := (by omega); have RX := hide ((unhide RD).call c3 g3); have zbX := (unhide RX).bl; obtain ⟨p0, p1, p2⟩ := blk_cells2 (unhide RX).k1; clear c3 g3)
        | (go_simp; go_at_call 69; refine (draw_any g v xs _ hlen (unhide HD) (unhide RX).cu).mono ?_; rintro e w4 ⟨⟨ai, ar, ab, av, ad, rfl, had⟩, c4, g4⟩; have RY := hide ((unhide RX).call c4 g4); have RZ := hide ((unhide RY).ent hk ((ai, ar, ab, av, ad) : Key) had); obtain ⟨y0, y1, y2, y3, y4, y5, t0, t1, t2, t3, t4, t5, tf⟩ := items_cells (unhide RY).oi hk; have zbY := (unhide RY).bl; obtain ⟨p0, p1, p2⟩ := blk_cells2 (unhide RY).k1; clear c4 g4 had))
      all_goals clear p0 p1 p2 t0 t1 t2 t3 t4 t5 tf
      all_goals
        obtain ⟨wz, hwz⟩ : ∃ W, W = (((((w4.setCell ⟨q, k * 6 + 1, none⟩ (.int .i64 ai)).setCell ⟨q, k * 6 + 1 + 1, none⟩ (.int .i64 ar)).setCell ⟨q, k * 6 + 1 + 2, none⟩ (.int .i64 ab)).setCell ⟨q, k * 6 + 1 + 3, none⟩ (.int .i64 av)).setCell ⟨q, k * 6 + 1 + 4, none⟩ (.string ad)) := ⟨_, rfl⟩
        rw [← hwz]
        have rz : ∃ is', R3 5 w wz g v xs w.heap.size w1.heap.size (.slice (some ⟨q, 0, none⟩) n1 c1) (.slice a2 n2 c2) is' fls := by rw [hwz]; exact unhide RZ
        obtain ⟨is', rz'⟩ := rz
        have RW := hide rz'
        clear rz' RZ hwz
        obtain ⟨s0, s1, s2⟩ := blk_cells2 (unhide RW).k1
        obtain ⟨q0, q1, q2⟩ := blk_cells2 (unhide RW).k0
        have F := hide ((unhide RW).fin (by omega))
        clear RW
        go_wp2
        exact bodyPost_ret (v := .agg #[(.slice (some ⟨q, 0, none⟩) n1 c1), (.slice a2 n2 c2)]) (by simp [results, Try.results23, go_sem, q0, q1]) rfl ⟨_, _, _, _, _, _, _, _, rfl, unhide F⟩
    · have hd : decide (0 < (n1 : Int)) = false := by simp; omega
      obtain ⟨s0, s1, s2⟩ := blk_cells2 (unhide R2).k1
      obtain ⟨q0, q1, q2⟩ := blk_cells2 (unhide R2).k0
      have F := hide ((unhide R2).fin (by omega))
      clear R2
      go_wp2
      exact bodyPost_ret (v := .agg #[(.slice a1 n1 c1), (.slice a2 n2 c2)]) (by simp [results, Try.results23, go_sem, q0, q1]) rfl ⟨_, _, _, _, _, _, _, _, rfl, unhide F⟩
  have e2 : (n == 2) = false := by simpa using h2'
  by_cases h3' : n = 3
  · subst h3'
    by_cases hp : 1 < n1
    · obtain ⟨q, cap, hq, hqb, hql⟩ := World.ownsRow.form (unhide R2).oi (by have := unhide E1; omega)
      simp only [Value.slice.injEq] at hq
      obtain ⟨rfl, -, rfl⟩ := hq
      obtain ⟨x, b0, off, hx, ha, hb, hcap, hc⟩ := ((unhide R2).oi.rw encI_len).at hp
      simp only [Option.some.injEq, Addr.mk.injEq, and_true] at ha
      obtain ⟨rfl, rfl⟩ := ha
      have t0 : w2.cell? ⟨q, 6, none⟩ = some (.int .i64 x.1) := hc 0 (by omega)
      have t1 : w2.cell? ⟨q, 7, none⟩ = some (.int .i64 x.2.1) := hc 1 (by omega)
      have t2 : w2.cell? ⟨q, 8, none⟩ = some (.int .i64 x.2.2.1) := hc 2 (by omega)
      have t3 : w2.cell? ⟨q, 9, none⟩ = some (.int .i64 x.2.2.2.1) := hc 3 (by omega)
      have t4 : w2.cell? ⟨q, 10, none⟩ = some (.int .i64 x.2.2.2.2.1) := hc 4 (by omega)
      have t5 : w2.cell? ⟨q, 11, none⟩ = some (.string x.2.2.2.2.2) := hc 5 (by omega)
      obtain ⟨y0, y1, y2, y3, y4, y5, u0', u1', u2', u3', u4', u5', uf⟩ := items_cells (k := 0) (unhide R2).oi (by omega)
      have u0 : w2.cell? ⟨q, 0, none⟩ = some y0 := u0'
      have u1 : w2.cell? ⟨q, 1, none⟩ = some y1 := u1'
      have u2 : w2.cell? ⟨q, 2, none⟩ = some y2 := u2'
      have u3 : w2.cell? ⟨q, 3, none⟩ = some y3 := u3'
      have u4 : w2.cell? ⟨q, 4, none⟩ = some y4 := u4'
      have u5 : w2.cell? ⟨q, 5, none⟩ = some y5 := u5'
      obtain ⟨is0, rz0⟩ := (unhide R2).itm (by omega) (List.mem_of_getElem? hx)
      have RZ := hide (show ∃ is', R3 5 w (setW w2 q (0 * 6) (encI x)).drew g v xs w.heap.size w1.heap.size (.slice (some ⟨q, 0, none⟩) n1 c1) (.slice a2 n2 c2) is' fls from ⟨is0, rz0.drew⟩)
      clear u0' u1' u2' u3' u4' u5' hc hx rz0
      have hd : decide (1 < (n1 : Int)) = true := by simp; omega
      go_upto_region 12 with fail
      go_region
      all_goals clear p0 p1 p2 t0 t1 t2 t3 t4 t5 u0 u1 u2 u3 u4 u5 uf
      all_goals
        obtain ⟨wz, hwz⟩ : ∃ W, W = ((((((w2.setCell ⟨q, 0, none⟩ (.int .i64 x.1)).setCell ⟨q, 1, none⟩ (.int .i64 x.2.1)).setCell ⟨q, 2, none⟩ (.int .i64 x.2.2.1)).setCell ⟨q, 3, none⟩ (.int .i64 x.2.2.2.1)).setCell ⟨q, 4, none⟩ (.int .i64 x.2.2.2.2.1)).setCell ⟨q, 5, none⟩ (.string x.2.2.2.2.2)).drew := ⟨_, rfl⟩
        rw [← hwz]
        have rz : ∃ is', R3 5 w wz g v xs w.heap.size w1.heap.size (.slice (some ⟨q, 0, none⟩) n1 c1) (.slice a2 n2 c2) is' fls := by rw [hwz]; exact unhide RZ
        obtain ⟨is', rz'⟩ := rz
        have RW := hide rz'
        clear rz' RZ hwz
        obtain ⟨s0, s1, s2⟩ := blk_cells2 (unhide RW).k1
        obtain ⟨q0, q1, q2⟩ := blk_cells2 (unhide RW).k0
        have F := hide ((unhide RW).fin (by omega))
        clear RW
        go_wp2
        exact bodyPost_ret (v := .agg #[(.slice (some ⟨q, 0, none⟩) n1 c1), (.slice a2 n2 c2)]) (by simp [results, Try.results23, go_sem, q0, q1]) rfl ⟨_, _, _, _, _, _, _, _, rfl, unhide F⟩
    · have hd : decide (1 < (n1 : Int)) = false := by simp; omega
      obtain ⟨s0, s1, s2⟩ := blk_cells2 (unhide R2).k1
      obtain ⟨q0, q1, q2⟩ := blk_cells2 (unhide R2).k0
      have F := hide ((unhide R2).fin (by omega))
      clear R2
      go_wp2
      exact bodyPost_ret (v := .agg #[(.slice a1 n1 c1), (.slice a2 n2 c2)]) (by simp [results, Try.results23, go_sem, q0, q1]) rfl ⟨_, _, _, _, _, _, _, _, rfl, unhide F⟩
  have e3 : (n == 3) = false := by simpa using h3'
  clear p0 p1 p2
  obtain ⟨s0, s1, s2⟩ := blk_cells2 (unhide R2).k1
  obtain ⟨q0, q1, q2⟩ := blk_cells2 (unhide R2).k0
  have F := hide ((unhide R2).fin (by omega))
  clear R2
  go_wp2
  exact bodyPost_ret (v := .agg #[(.slice a1 n1 c1), (.slice a2 n2 c2)]) (by simp [results, Try.results23, go_sem, q0, q1]) rfl ⟨_, _, _, _, _, _, _, _, rfl, unhide F⟩
end Go.Proofs.Ytjlocbimkfocnaa

namespace Go.Proofs.Ytjlocbimkfocnaa
open Go.RowKit

variable {w X Y : World} {b : Nat} {v1 v2 : Value} {its : List Itm} {fls : List Flr}
/-- A state that was drawn from a code. -/
structure T3 (w X : World) (v1 v2 : Value) (its : List Itm) (fls : List Flr) : Prop where
  bel : Below w.heap.size w X
  oi : OwI w.heap.size X v1 its
  of : OwF w.heap.size X v2 fls
  li : its.length ≤ 6
  lf : fls.length ≤ 6
  ni : Nine its
/-- A variable of the law that holds a state. -/
structure V3 (w X : World) (b : Nat) (v1 v2 : Value) (its : List Itm) (fls : List Flr) : Prop where
  ge : w.heap.size ≤ b
  k1 : X.heap[b]? = some (StB v1 v2)
  oi : OwI w.heap.size X v1 its
  of : OwF w.heap.size X v2 fls
theorem V3.lt (h : V3 w X b v1 v2 its fls) : b < X.heap.size := (Array.getElem?_eq_some_iff.1 h.k1).1
theorem V3.later (h : V3 w X b v1 v2 its fls) (bl : Below X.heap.size X Y) : V3 w Y b v1 v2 its fls := ⟨h.ge, (bl.block _ h.lt).trans h.k1, h.oi.later bl, h.of.later bl⟩
theorem V3.alloc (h : V3 w X b v1 v2 its fls) (o : Obj) : V3 w (X.alloc o) b v1 v2 its fls := h.later ((Below.refl _ _).alloc (Nat.le_refl _) o)
theorem V3.new {B : Nat} (hb : w.heap.size ≤ X.heap.size) (hB : w.heap.size ≤ B) (o1 : OwI B X v1 its) (o2 : OwF B X v2 fls) : V3 w (X.alloc (StB v1 v2)) X.heap.size v1 v2 its fls :=
  have bl : Below X.heap.size X (X.alloc (StB v1 v2)) := (Below.refl _ _).alloc (Nat.le_refl _) _
  ⟨hb, heap_alloc_new _ _, Ow.base (o1.later bl) hB, Ow.base (o2.later bl) hB⟩
theorem V3.put (h : V3 w X b v1 v2 its fls) {B : Nat} {u1 u2 : Value} {is' : List Itm} {fs' : List Flr} (hB : w.heap.size ≤ B) (o1 : OwI B X u1 is') (o2 : OwF B X u2 fs') : V3 w ((X.setCell ⟨b, 0, none⟩ u1).setCell ⟨b, 1, none⟩ u2) b u1 u2 is' fs' :=
  have hg := grown_set2 X b u1 u2
  ⟨h.ge, blk_set2 h.k1 _ _, Ow.base (o1.other h.k1 (by decide) hg) hB, Ow.base (o2.other h.k1 (by decide) hg) hB⟩
theorem V3.aside (h : V3 w X b v1 v2 its fls) {b2 : Nat} {y1 y2 u1 u2 : Value} (h2 : X.heap[b2]? = some (StB y1 y2)) (hne : b ≠ b2) : V3 w ((X.setCell ⟨b2, 0, none⟩ u1).setCell ⟨b2, 1, none⟩ u2) b v1 v2 its fls :=
  have hg := grown_set2 X b2 u1 u2
  ⟨h.ge, blk_grown hg h.k1 hne, h.oi.other h2 (by decide) hg, h.of.other h2 (by decide) hg⟩
theorem V3.bel (h : V3 w X b v1 v2 its fls) (bl : Below w.heap.size w X) (u1 u2 : Value) : Below w.heap.size w ((X.setCell ⟨b, 0, none⟩ u1).setCell ⟨b, 1, none⟩ u2) := (bl.setCell (p := ⟨b, 0, none⟩) h.ge _).setCell (p := ⟨b, 1, none⟩) h.ge _
theorem V3.cells (h : V3 w X b v1 v2 its fls) : X.cell? ⟨b, 0, none⟩ = some v1 ∧ X.cell? ⟨b, 1, none⟩ = some v2 := by
  obtain ⟨p0, p1, _⟩ := blk_cells2 h.k1
  exact ⟨p0, p1⟩
theorem V3.len {a1 : Option Addr} {n1 c1 : Nat} {a2 : Option Addr} {n2 c2 : Nat} (h : V3 w X b (.slice a1 n1 c1) (.slice a2 n2 c2) its fls) : n1 = its.length ∧ n2 = fls.length := ⟨(h.oi.rw encI_len).len.1, (h.of.rw encF_len).len.1⟩

theorem keep8 {P W : World} {b q o0 o1 o2 o3 o4 o5 : Nat} {v1 v2 y0 y1 y2 y3 y4 y5 : Value} (hb : b < P.heap.size) (hq : q < P.heap.size)
    (h : Hid (P.cell? ⟨b, 0, none⟩ = some v1 ∧ P.cell? ⟨b, 1, none⟩ = some v2 ∧ P.cell? ⟨q, o0, none⟩ = some y0 ∧ P.cell? ⟨q, o1, none⟩ = some y1 ∧ P.cell? ⟨q, o2, none⟩ = some y2 ∧ P.cell? ⟨q, o3, none⟩ = some y3 ∧ P.cell? ⟨q, o4, none⟩ = some y4 ∧ P.cell? ⟨q, o5, none⟩ = some y5)) (bl : Below P.heap.size P W) :
    Below P.heap.size P W ∧ W.cell? ⟨b, 0, none⟩ = some v1 ∧ W.cell? ⟨b, 1, none⟩ = some v2 ∧ W.cell? ⟨q, o0, none⟩ = some y0 ∧ W.cell? ⟨q, o1, none⟩ = some y1 ∧ W.cell? ⟨q, o2, none⟩ = some y2 ∧ W.cell? ⟨q, o3, none⟩ = some y3 ∧ W.cell? ⟨q, o4, none⟩ = some y4 ∧ W.cell? ⟨q, o5, none⟩ = some y5 := by
  obtain ⟨c0, c1, c2, c3, c4, c5, c6, c7⟩ := unhide h
  exact ⟨bl, kc bl hb c0, kc bl hb c1, kc bl hq c2, kc bl hq c3, kc bl hq c4, kc bl hq c5, kc bl hq c6, kc bl hq c7⟩
theorem Bf.newD {P W w1 : World} (b : Below (W.alloc StZ).drew.heap.size (W.alloc StZ).drew w1) (h : P.heap.size ≤ W.heap.size) : Bf P (W.alloc StZ).drew w1 W.heap.size := ⟨Bx.newD b h, by show W.heap.size < (W.alloc StZ).heap.size; simp⟩
theorem own_nilF (w : World) (base : Nat) : Hid (OwF base w (.slice none 0 0) []) := hide (World.ownsRow_nil w base _ _)
theorem size_allocD (W : World) (o : Obj) : W.heap.size ≤ (W.alloc o).drew.heap.size := by show W.heap.size ≤ (W.alloc o).heap.size; simp
/-- The cursor was made behind the variables of the call; the state was drawn; it is stored into the result. -/
theorem T3.of_draw {w1 w2 : World} {g : Nat} {v : Value} {xs : List Int} (h01 : Below w.heap.size w w1) (hg : w.heap.size ≤ g) (d : D3 w1 w2 g v xs v1 v2 its fls) : T3 w w2 v1 v2 its fls :=
  ⟨h01.grown d.gr h01.size (fun q hq => by simp at hq; omega), Ow.base d.oi h01.size, Ow.base d.of h01.size, d.li, d.lf, d.ni⟩

end Go.Proofs.Ytjlocbimkfocnaa
