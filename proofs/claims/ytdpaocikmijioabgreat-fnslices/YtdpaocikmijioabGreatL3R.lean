/-
  spec.l3Right: some state of at most five items and floors, with short texts; the cursor goes on, nothing else turns. No statement is proved here.
-/
import Derived.Test.YtdpaocikmijioabGreatL3P
import Derived.Deep.RegionWith
namespace Go.Proofs.YtdpaocikmijioabGreat
open Go.RowKit

theorem sgl_len {ok : Bool} {id : Int} {e : Key} {m : Nat} (h : (sgl ok id e).length = m) : m ≤ 1 := by
  cases ok <;> simp [sgl] at h <;> omega
theorem R3.new {w : World} {g : Nat} {v : Value} {xs : List Int} (hc : Cur w g v xs) : R3 5 w ((w.alloc (StB (.slice none 0 0) (.slice none 0 0))).alloc (StB (.slice none 0 0) (.slice none 0 0))) g v xs w.heap.size (w.heap.size + 1) (.slice none 0 0) (.slice none 0 0) [] [] := by
  have b : Below w.heap.size w ((w.alloc (StB (.slice none 0 0) (.slice none 0 0))).alloc (StB (.slice none 0 0) (.slice none 0 0))) := ((Below.refl w.heap.size w).alloc (Nat.le_refl _) _).alloc (by simp) _
  refine ⟨hc, ⟨b.os, b.tape, b.output, b.size, fun k hk _ => b.block k hk⟩, hc.later b (Nat.le_refl _), Nat.le_refl _, by omega, by omega, ?_, newB2 _ _ _, World.ownsRow_nil _ _ _ _, World.ownsRow_nil _ _ _ _, by simp, by simp, nine_nil⟩
  exact (Below.heap_alloc _ _ _ (by simp)).trans (heap_alloc_new _ _)

set_option maxHeartbeats 8000000 in
set_option maxRecDepth 100000 in
theorem l3right_any (g : Nat) (v : Value) (xs : List Int) (w : World) (hlen : xs.length ≤ 1048576) (hbd : ∀ z ∈ xs, 0 ≤ z ∧ z ≤ 255) (hc : Cur w g v xs) :
    Calls Tryz.prog 94 #[.pointer (some ⟨g, 0, none⟩)] w fun e w' => ∃ a1 n1 c1 a2 n2 c2 its fls, e = .returned (.agg #[.slice a1 n1 c1, .slice a2 n2 c2]) ∧ D3 w w' g v xs (.slice a1 n1 c1) (.slice a2 n2 c2) its fls ∧ its.length ≤ 5 ∧ fls.length ≤ 5 := by
  have HD := hide hbd
  have R0 := hide (R3.new hc)
  clear hbd hc
  go_enter Tryz.func94, Tryz.ntmps94
  go_wp2_with fail
  refine (below_any g v xs 7 _ hlen (unhide HD) (by omega) (by omega) (unhide R0).cu).mono ?_
  rintro e w1 ⟨⟨n, rfl, na, nb⟩, c1, g1⟩
  have R1 := hide ((unhide R0).call c1 g1)
  clear c1 g1 R0
  go_wp2
  go_loopw [5] (fun i wr => ∃ (k : Int) (a1 : Option Addr) (n1 c1 : Nat) (a2 : Option Addr) (n2 c2 : Nat) (its : List Itm) (fls : List Flr), 0 ≤ k ∧ k ≤ n ∧ i = .int .i64 k ∧ R3 5 w wr g v xs w.heap.size (w.heap.size + 1) (.slice a1 n1 c1) (.slice a2 n2 c2) its fls) (fun i _ => (n - intOf i).toNat)
  case atStart => exact ⟨0, none, 0, 0, none, 0, 0, [], [], by omega, by omega, rfl, unhide R1⟩
  case round =>
    obtain ⟨k, a1, n1, c1, a2, n2, c2, its, fls, hk0, hk1, rfl, hR⟩ := hrel
    have R2 := hide hR
    clear hR R1
    by_cases hlt : k < n
    · go_wp2_with fail
      refine (below_any g v xs 5 _ hlen (unhide HD) (by omega) (by omega) (unhide R2).cu).mono ?_
      rintro e w3 ⟨⟨id, rfl, ia, ib⟩, c3, g3⟩
      have R3' := hide ((unhide R2).call c3 g3)
      clear c3 g3 R2
      go_wp2_with fail
      refine (right_any g v xs _ hlen (unhide HD) (unhide R3').cu).mono ?_
      rintro e w4 ⟨⟨ai, ar, ab, av, ad, rfl, had⟩, c4, g4⟩
      have R4 := hide ((unhide R3').call c4 g4)
      have HN := hide had
      obtain ⟨ok, h0⟩ : ∃ ok, Hid (okS [(id, ((ai, ar, ab, av, ad) : Key))] [] = ok) := ⟨_, hide rfl⟩
      obtain ⟨m, hm⟩ : ∃ m, Hid ((sgl ok id ((ai, ar, ab, av, ad) : Key)).length = m) := ⟨_, hide rfl⟩
      have hm1 := sgl_len (unhide hm)
      clear c4 g4 R3' had
      go_wp2_with fail
      refine (ssingle_any id ((ai, ar, ab, av, ad) : Key) ok h0 m hm w4).mono ?_
      rintro e w5 ⟨a5, c5, rfl, o5, b5⟩
      have R5 := hide ((unhide R4).later b5)
      have O5 := hide o5
      clear b5 o5 R4
      go_upto_region 7 with fail
      obtain ⟨V, hV⟩ : ∃ V, V = w5.alloc (StB (.slice a5 m c5) (.slice none 0 0)) := ⟨_, rfl⟩
      have bV : Below w5.heap.size w5 V := by rw [hV]; exact (Below.refl _ _).alloc (Nat.le_refl _) _
      have RV := hide ((unhide R5).later bV)
      have OV := hide ((unhide O5).later bV)
      have KV : Hid (V.heap[w5.heap.size]? = some (StB (.slice a5 m c5) (.slice none 0 0))) := hide (by rw [hV]; exact heap_alloc_new _ _)
      obtain ⟨p0, p1, p2⟩ := blk_cells2 (unhide RV).k1
      obtain ⟨q0, q1, q2⟩ := blk_cells2 (unhide KV)
      rw [← hV]
      clear hV bV R5 O5
      go_wp2_with fail
      have e1 := ((unhide RV).oi.rw encI_len).len.1
      have e2 := ((unhide RV).of.rw encF_len).len.1
      have l1 := (unhide RV).li
      have l2 := (unhide RV).lf
      clear p0 p1 p2 q0 q1 q2
      refine (l3join_any a1 n1 c1 its a2 n2 c2 fls a5 m c5 (sgl ok id ((ai, ar, ab, av, ad) : Key)) none 0 0 [] V (by omega) (by omega) (by omega) (by omega) ((unhide RV).oi.rw encI_len) ((unhide RV).of.rw encF_len) ((unhide OV).rw encI_len) Rw.nil).mono ?_
      rintro e w6 ⟨a6, n6, c6, a7, n7, c7, rfl, o6, o7, b6⟩
      have R6 := hide ((unhide RV).later b6)
      have R7 := hide ((unhide R6).put o6 o7 (unhide RV).gr.size (jI_len _ _ _ _ 5) (jF_len _ _ 5) (nine_join (unhide RV).ni (nine_sgl (unhide HN))))
      obtain ⟨p0, p1, p2⟩ := blk_cells2 (unhide R6).k1
      clear o6 o7 b6 RV OV KV e1 e2 l1 l2 R6
      go_wp2
      go_roundw
      case rel => exact ⟨k + 1, a6, n6, c6, a7, n7, c7, _, _, by omega, by omega, by go_num, unhide R7⟩
      case measure => simp [intOf]; omega
    · go_wp2_with fail
      refine (below_any g v xs 3 _ hlen (unhide HD) (by omega) (by omega) (unhide R2).cu).mono ?_
      rintro e w3 ⟨⟨n', rfl, na', nb'⟩, c3, g3⟩
      have R3' := hide ((unhide R2).call c3 g3)
      clear c3 g3 R2
      go_wp2
      go_loopw [9] (fun i wr => ∃ (k : Int) (a1 : Option Addr) (n1 c1 : Nat) (a2 : Option Addr) (n2 c2 : Nat) (its : List Itm) (fls : List Flr), 0 ≤ k ∧ k ≤ n' ∧ i = .int .i64 k ∧ R3 5 w wr g v xs w.heap.size (w.heap.size + 1) (.slice a1 n1 c1) (.slice a2 n2 c2) its fls) (fun i _ => (n' - intOf i).toNat)
      case atStart => exact ⟨0, _, _, _, _, _, _, _, _, by omega, by omega, rfl, unhide R3'⟩
      case round =>
        clear R3'
        obtain ⟨k', a1, n1, c1, a2, n2, c2, its, fls, hk0', hk1', rfl, hR⟩ := hrel
        have R2 := hide hR
        clear hR
        by_cases hlt' : k' < n'
        · have RD := hide (unhide R2).drew
          have e1 := ((unhide R2).oi.rw encI_len).len.1
          have e2 := ((unhide R2).of.rw encF_len).len.1
          have l1 := (unhide R2).li
          have l2 := (unhide R2).lf
          obtain ⟨h1, h2⟩ : n1 ≤ 5 ∧ n2 ≤ 5 := by omega
          clear e1 e2 l1 l2
          go_upto_region 12 with fail
          obtain ⟨p0, p1, p2⟩ := blk_cells2 (unhide R2).k1
          go_region_with
            (first
              | (go_at_call_of 70 (Value.int IntKind.i64 5); refine (below_any g v xs 5 _ hlen (unhide HD) (by omega) (by omega) (unhide RD).cu).mono ?_; rintro e w3 ⟨⟨id, rfl, ia, ib⟩, c3, g3⟩; have RX := hide ((unhide RD).call c3 g3); obtain ⟨p0, p1, p2⟩ := blk_cells2 (unhide RX).k1; clear c3 g3)
              | (go_at_call_of 70 (Value.int IntKind.i64 2); refine (below_any g v xs 2 _ hlen (unhide HD) (by omega) (by omega) (unhide RX).cu).mono ?_; rintro e w4 ⟨⟨x, rfl, xa, xb⟩, c4, g4⟩; have RY := hide ((unhide RX).call c4 g4); have hbl := (unhide RY).bl; obtain ⟨p0, p1, p2⟩ := blk_cells2 (unhide RY).k1; clear c4 g4)
              | (go_at_call 101; refine (l3join_any a1 n1 c1 its a2 n2 c2 fls none 0 0 [] (some ⟨w4.heap.size, 0, none⟩) 1 1 [(id, IntKind.i64.wrap (1 + x))] _ (by omega) (by omega) (by omega) (by omega) ((unhide (R3.allocH RY _)).oi.rw encI_len) ((unhide (R3.allocH RY _)).of.rw encF_len) Rw.nil ((own_oneF (base := 0) (id, IntKind.i64.wrap (1 + x)) (Nat.zero_le _) (heap_alloc_new _ _)).rw encF_len)).mono ?_; rintro e w6 ⟨a6, n6, c6, a7, n7, c7, rfl, o6, o7, b6⟩; have RZ := hide ((unhide (R3.allocH RY _)).later b6); have RW := hide ((unhide RZ).put o6 o7 (unhide (R3.allocH RY _)).gr.size (jI_len _ _ _ _ 5) (jF_len _ _ 5) (nine_join (unhide RY).ni nine_nil)); obtain ⟨p0, p1, p2⟩ := blk_cells2 (unhide RZ).k1; clear o6 o7 b6))
          all_goals clear p0 p1 p2
          all_goals go_wp2
          all_goals go_roundw
          all_goals first | exact ⟨k' + 1, _, _, _, _, _, _, _, _, by omega, by omega, by go_num, unhide RW⟩ | (simp [intOf]; omega)
        · obtain ⟨p0, p1, p2⟩ := blk_cells2 (unhide R2).k1
          obtain ⟨q0, q1, q2⟩ := blk_cells2 (unhide R2).k0
          have F := hide ((unhide R2).fin (by omega))
          have l1 := hide (unhide R2).li
          have l2 := hide (unhide R2).lf
          clear R2
          go_wp2
          exact bodyPost_ret (v := .agg #[.slice a1 n1 c1, .slice a2 n2 c2]) (by simp [results, Tryz.results94, go_sem, q0, q1]) rfl ⟨a1, n1, c1, a2, n2, c2, rfl, its, fls, unhide F, unhide l1, unhide l2⟩
end Go.Proofs.YtdpaocikmijioabGreat
