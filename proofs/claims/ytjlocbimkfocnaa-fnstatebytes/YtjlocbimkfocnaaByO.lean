/-
  The laws' helpers on rows of bytes, said of rows that the call itself owns. No statement is proved here.
-/
import Derived.Test.YtjlocbimkfocnaaTrBS
import Derived.Test.YtjlocbimkfocnaaMarks
namespace Go.Proofs.Ytjlocbimkfocnaa
open Go.RowKit

def encB (z : Int) : List Value := [.int .u8 z]
theorem encB_len (n : Int) : (encB n).length = 1 := rfl
theorem flatB (xs : List Int) : xs.flatMap encB = xs.map (Value.int .u8) := by
  induction xs with
  | nil => rfl
  | cons x r ih => rw [List.flatMap_cons, ih]; rfl
abbrev OwY (base : Nat) (w : World) (v : Value) (bs : List Int) : Prop := Ow encB 1 5 base w v bs
theorem owY_iff {w : World} {base : Nat} {v : Value} {bs : List Int} : OwY base w v bs ↔ OwB base w v bs := by
  unfold OwY OwB Ow; rw [flatB]
theorem owY_seg {w : World} {base : Nat} {v : Value} {bs : List Int} (h : OwY base w v bs) : Seg w v bs := seg_of_owns (owY_iff.1 h)
set_option maxHeartbeats 1000000 in
set_option maxRecDepth 100000 in
theorem markG_any (B : Nat) (v : Value) (xs : List Int) (k : Int) (n : Nat) (w : World) (hlen : n ≤ 140737488351232) (hk0 : 0 ≤ k) (hk1 : k ≤ 1000) (hv : w.ownsRow B 5 1 v n (xs.map (Value.int .u8))) :
    Calls Try.prog 21 #[v, .int .i64 k] w fun e w' => e = .returned (.int .i64 (k + n)) ∧ w'.ownsRow B 5 1 v n ((markL k n).map (Value.int .u8)) ∧ w.grownBy w' v.ownBlock := by
  have hn : n = xs.length := by have := hv.1; simp at this; omega
  subst hn
  have HV := hide hv
  rcases hv.2 with ⟨rfl, h0⟩ | ⟨g, cap, cur, rfl, hb, hg, hnc, hcm, hcs, htake⟩
  · have hx : xs = [] := List.eq_nil_of_length_eq_zero h0
    subst hx
    clear hv h0
    go_enter Try.func21, Try.ntmps21
    go_wp2
    go_loop [1, 5] (fun q i => i = .int .i64 0 ∧ q = .int .i64 k) (fun _ i => 0)
    case atStart => exact ⟨rfl, rfl⟩
    case round =>
      obtain ⟨rfl, rfl⟩ := hrel
      go_wp2
      go_ret
      exact ⟨ret_int (by simp), (unhide HV : w.ownsRow B 5 1 (.slice none 0 0) 0 []), World.grownBy.refl _ _⟩
  · clear hv hg hnc hcm hcs htake
    go_enter Try.func21, Try.ntmps21
    go_wp2
    go_loopw [1, 5] (fun q i wr => ∃ j : Nat, j ≤ xs.length ∧ i = .int .i64 j ∧ q = .int .i64 (k + j) ∧ wr.ownsRow B 5 1 (.slice (some ⟨g, 0, none⟩) xs.length cap) xs.length ((markL k j ++ xs.drop j).map (Value.int .u8)) ∧ w.grownBy wr (some g)) (fun _ i _ => xs.length - (intOf i).toNat)
    case atStart => exact ⟨0, Nat.zero_le _, rfl, by simp, by simpa [markL] using unhide HV, World.grownBy.refl _ _⟩
    case round =>
      obtain ⟨j, hj, rfl, rfl, hown, hbel⟩ := hrel
      by_cases hlt : j < xs.length
      · have hst := mark_set k xs j hlt
        have hfz := hown.frozenAt j
        have hcy := hown.cellAt j (by omega)
        have hex : ∃ y, wr.cell? ⟨g, j, none⟩ = some y := by
          rw [hcy]
          exact ⟨_, List.getElem?_eq_getElem (by simp [markL_length]; omega)⟩
        obtain ⟨y, hy⟩ := hex
        have R1 := (hown.stored j (.int .u8 ((k + j) % 256))).1
        rw [hst] at R1
        have R2 := grown_on hbel (hown.stored j (.int .u8 ((k + j) % 256))).2
        have HR1 := hide R1
        have HR2 := hide R2
        clear hst hcy R1 R2 hown hbel
        go_wp2
        go_roundw
        case rel => exact ⟨j + 1, by omega, by go_num, by go_num, HR1.out, HR2.out⟩
        case measure => simp [intOf]; omega
      · have hkl : j = xs.length := by omega
        subst hkl
        go_wp2
        go_ret
        exact ⟨rfl, by simpa using hown, hbel⟩
theorem Seg.later {w w' : World} {v : Value} {xs : List Int} (h : Seg w v xs) (hb : Below w.heap.size w w') : Seg w' v xs := h.below hb (Nat.le_refl _)
theorem eqbytes_v (v u : Value) (xs : List Int) (w : World) (hlen : xs.length ≤ 140737488351232) (hv : Seg w v xs) (hu : Seg w u xs) :
    Calls Try.prog 18 #[v, u] w fun e w' => e = .returned (.bool true) ∧ Below w.heap.size w w' := by
  refine (eqbytes_same v u xs w hlen hv hu).mono ?_
  rintro e w1 ⟨rfl, b⟩
  exact ⟨rfl, b _⟩
theorem markbytes_v (base : Nat) (v : Value) (n : Nat) (bs : List Int) (hb : Hid (bs.length = n)) (w : World) (hn : n ≤ 140737488351232) (h : OwY base w v bs) :
    Calls Try.prog 21 #[v, .int .i64 1] w fun e w' => e = .returned (.int .i64 (1 + n)) ∧ OwY base w' v (markL 1 n) ∧ w.grownBy w' v.ownBlock := by
  obtain rfl := unhide hb
  refine (markG_any base v bs 1 bs.length w hn (by omega) (by omega) (owY_iff.1 h)).mono ?_
  rintro e w1 ⟨rfl, o, b⟩
  exact ⟨rfl, owY_iff.2 (by unfold OwB; rw [markL_length]; exact o), b⟩
theorem heldbytes_v (v : Value) (n : Nat) (w : World) (hn : n ≤ 140737488351232) (h : Seg w v (markL 1 n)) :
    Calls Try.prog 22 #[v, .int .i64 1] w fun e w' => e = .returned (.int .i64 (1 + n)) ∧ Below w.heap.size w w' := by
  refine (held_any v 1 n w hn (by omega) (by omega) h).mono ?_
  rintro e _ ⟨rfl, rfl⟩
  exact ⟨rfl, Below.refl _ _⟩
end Go.Proofs.Ytjlocbimkfocnaa
