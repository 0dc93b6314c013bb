/-
  Trees that are touched or held against each other: the program's. No statement is proved here.
-/
import Derived.Test.YtjlocbimkfocnaaGreatTrA
import Derived.Laws.CopyOwn
namespace Go.Proofs.YtjlocbimkfocnaaGreat
open Go.RowKit

/-- The sums of a whole tree, and whether it is one. -/
def sm : List Int → (Int × Int × Int × Int) × Bool
  | [a, b, c, d] => ((a, b, c, d), true)
  | _ => ((0, 0, 0, 0), false)
theorem sm_yes {ns : List Int} {a b c d : Int} (h : sm ns = ((a, b, c, d), true)) : ns = [a, b, c, d] := by
  match ns, h with
  | [a', b', c', d'], h => simp [sm] at h; obtain ⟨rfl, rfl, rfl, rfl⟩ := h; rfl
  | [], h => simp [sm] at h
  | [_], h => simp [sm] at h
  | [_, _], h => simp [sm] at h
  | [_, _, _], h => simp [sm] at h
  | _ :: _ :: _ :: _ :: _ :: _, h => simp [sm] at h
theorem sm_no {ns : List Int} {x : Int × Int × Int × Int} (h : sm ns = (x, false)) : ns.length ≠ 4 ∧ x = (0, 0, 0, 0) := by
  match ns, h with
  | [a', b', c', d'], h => simp [sm] at h
  | [], h => simp [sm] at h; exact ⟨by simp, h.symm⟩
  | [_], h => simp [sm] at h; exact ⟨by simp, h.symm⟩
  | [_, _], h => simp [sm] at h; exact ⟨by simp, h.symm⟩
  | [_, _, _], h => simp [sm] at h; exact ⟨by simp, h.symm⟩
  | _ :: _ :: _ :: _ :: _ :: _, h => simp [sm] at h; exact ⟨by simp, h.symm⟩
theorem sm_len (ns : List Int) : (sm ns).2 = (ns.length == 4) := by
  match ns with
  | [a', b', c', d'] => rfl
  | [] => rfl
  | [_] => rfl
  | [_, _] => rfl
  | [_, _, _] => rfl
  | _ :: _ :: _ :: _ :: _ :: _ => simp [sm]
theorem Tryz.sizeInt : (Tryz.prog.info? 3).map (·.size) = some 1 := by
  obtain ⟨i0, hi, hz0, hz1, hz2⟩ := info_parts Tryz.infoInt
  rw [hi]; simp [hz1]

theorem blkS4 {w : World} {g : Nat} {T : TypeId} {c0 c1 c2 c3 : Value} (h : w.heap[g]? = some (.cells #[c0, c1, c2, c3] T (0, 0))) :
    w.cell? ⟨g, 0, none⟩ = some c0 ∧ w.cell? ⟨g, 1, none⟩ = some c1 ∧ w.cell? ⟨g, 2, none⟩ = some c2 ∧ w.cell? ⟨g, 3, none⟩ = some c3 ∧ ∀ o, w.frozen? ⟨g, o, none⟩ = false := by
  simp [World.cell?, World.frozen?, h]
theorem copy_src {W : World} {b off c : Nat} {x0 x1 x2 x3 : Int} (h : RwN W (.slice (some ⟨b, off, none⟩) 4 c) [x0, x1, x2, x3]) : ∀ (j : Nat) (v : Value), ([.int .i64 x0, .int .i64 x1, .int .i64 x2, .int .i64 x3] : List Value)[j]? = some v → W.cell? ((⟨b, off, none⟩ : Addr).add j) = some v := by
  intro j v hj
  have hl : j < 4 := by have := (List.getElem?_eq_some_iff.1 hj).1; simpa using this
  obtain ⟨z, b', off', hz, hp, -, -, cz⟩ := h.atN hl
  simp only [Option.some.injEq, Addr.mk.injEq, and_true] at hp
  obtain ⟨rfl, rfl⟩ := hp
  have e : (⟨b, off, none⟩ : Addr).add j = ⟨b, off + j, none⟩ := by
    unfold Addr.add
    by_cases h0 : j = 0
    · subst h0; rfl
    · rw [if_neg h0]
  rw [e, cz]
  rcases (by omega : j = 0 ∨ j = 1 ∨ j = 2 ∨ j = 3) with rfl | rfl | rfl | rfl <;> (simp at hz hj; rw [← hz, ← hj])
theorem oneL4 (x0 x1 x2 x3 : Int) : ∀ u ∈ ([.int .i64 x0, .int .i64 x1, .int .i64 x2, .int .i64 x3] : List Value), u.oneCell' = true := by
  intro u hu
  simp at hu
  rcases hu with rfl | rfl | rfl | rfl <;> rfl
set_option maxHeartbeats 4000000 in
set_option maxRecDepth 100000 in
theorem isumsof_any (a : Option Addr) (n c : Nat) (ns : List Int) (q : Int) (x0 x1 x2 x3 : Int) (k : Bool) (hs : Hid (sm ns = ((x0, x1, x2, x3), k))) (w : World) (h : RwN w (.slice a n c) ns) (hn : n ≤ 140737488351232) :
    Calls Tryz.prog 92 #[.agg #[.slice a n c, .int .i64 q]] w fun e w' => e = .returned (.tuple #[.agg #[.int .i64 x0, .int .i64 x1, .int .i64 x2, .int .i64 x3], .bool k]) ∧ Below w.heap.size w w' := by
  have HR := hide h
  have HN := hide h.len.1
  clear h
  cases k
  · obtain ⟨h4, hx⟩ := sm_no (unhide hs)
    have hn4 : n ≠ 4 := by rw [unhide HN]; exact h4
    simp only [Prod.mk.injEq] at hx
    obtain ⟨rfl, rfl, rfl, rfl⟩ := hx
    have hd : ((n : Int) != 4) = true := by simp; omega
    clear h4 hs
    go_enter Tryz.func92, Tryz.ntmps92
    go_wp2
    exact bodyPost_ret (v := .tuple #[.agg #[.int .i64 0, .int .i64 0, .int .i64 0, .int .i64 0], .bool false]) (by simp [results, Tryz.results92, go_sem]) rfl ⟨rfl, (((Below.refl w.heap.size w).alloc (Nat.le_refl _) _).alloc (by simp) _).alloc (by simp <;> omega) _⟩
  · have hns := sm_yes (unhide hs)
    have hn4 : n = 4 := by rw [unhide HN, hns]; rfl
    subst hn4 hns
    clear hs HN
    go_enter Tryz.func92, Tryz.ntmps92
    go_wp2_with (at_builtin; fail)
    obtain ⟨V, hV⟩ : ∃ V, V = ((w.alloc (TreB (.slice a 4 c) q)).alloc (SumB 0 0 0 0)).alloc (SumB 0 0 0 0) := ⟨_, rfl⟩
    have bV : Below w.heap.size w V := by rw [hV]; exact (((Below.refl w.heap.size w).alloc (Nat.le_refl _) _).alloc (by simp) _).alloc (by simp <;> omega) _
    have KT : Hid (V.heap[w.heap.size]? = some (TreB (.slice a 4 c) q)) := hide (by rw [hV]; exact lowB3 w _ _ _)
    have KR : Hid (V.heap[w.heap.size + 1]? = some (SumB 0 0 0 0)) := hide (by rw [hV]; exact midB3 w _ _ _)
    have KO : Hid (V.heap[w.heap.size + 1 + 1]? = some (SumB 0 0 0 0)) := hide (by rw [hV]; exact newB3 w _ _ _)
    rw [← hV]
    clear hV
    have zV : w.heap.size + 1 + 1 < V.heap.size := (Array.getElem?_eq_some_iff.1 (unhide KO)).1
    have zT : w.heap.size < V.heap.size := by omega
    obtain ⟨t0, t1, -⟩ := blk_cells2 (unhide KT)
    have bD : Below V.heap.size V V.drew := (Below.refl _ _).drew
    obtain ⟨d, b, off, hz, rfl, hb, hcap, cz⟩ := ((unhide HR).later (bV.trans (bD.mono bV.size))).atN (i := 0) (by omega)
    have HSRC := hide (copy_src ((unhide HR).later (bV.trans (bD.mono bV.size))))
    have BV := hide bV
    clear hz cz bV bD
    go_region_law (refine step_copy_splice rfl (.tmp 10) (.tmp 12) 24 24 rfl 3 Tryz.underlying24 Tryz.sizeInt _ _ 4 4 4 c rfl rfl (w.heap.size + 1 + 1) 0 [.int .i64 0, .int .i64 0, .int .i64 0, .int .i64 0] 118 (unhide KO) [.int .i64 x0, .int .i64 x1, .int .i64 x2, .int .i64 x3] rfl (fun _ => ⟨rfl, _, rfl, unhide HSRC⟩) (Nat.le_refl _) (oneL4 x0 x1 x2 x3) (w.heap.size + 1 + 1) V.drew (Below.refl _ _) (Nat.le_refl _) ?_; intro w4 hg4 hb4; have G4 : Hid (w4.heap[w.heap.size + 1 + 1]? = some (SumB x0 x1 x2 x3)) := hg4; have B4 := hide hb4; clear hg4 hb4)
    all_goals
      have KR4 : Hid (w4.heap[w.heap.size + 1]? = some (SumB 0 0 0 0)) := hide (((unhide B4).block _ (by omega)).trans (unhide KR))
      have BL4 := hide (((unhide BV).trans ((Below.refl _ _).drew)).trans ((unhide B4).mono (by omega)))
      obtain ⟨o0, o1, o2, o3, -⟩ := blkS4 (unhide G4)
      obtain ⟨r0, r1, r2, r3, rf⟩ := blkS4 (unhide KR4)
      have z4 : w.heap.size + 1 + 1 < w4.heap.size := (Array.getElem?_eq_some_iff.1 (unhide G4)).1
      clear t0 t1
      go_wp2
      exact bodyPost_ret (v := .tuple #[.agg #[.int .i64 x0, .int .i64 x1, .int .i64 x2, .int .i64 x3], .bool true]) (by simp [results, Tryz.results92, go_sem, r0, r1, r2, r3]) rfl ⟨rfl, ((((unhide BL4).setCell (p := ⟨w.heap.size + 1, 0, none⟩) (by simp) _).setCell (p := ⟨w.heap.size + 1, 1, none⟩) (by simp) _).setCell (p := ⟨w.heap.size + 1, 2, none⟩) (by simp) _).setCell (p := ⟨w.heap.size + 1, 3, none⟩) (by simp) _⟩
end Go.Proofs.YtjlocbimkfocnaaGreat
