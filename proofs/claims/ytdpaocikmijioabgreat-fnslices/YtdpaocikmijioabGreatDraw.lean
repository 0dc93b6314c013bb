/-
  The cursor of the draws: what it draws is within its bounds, and nothing turns but the cursor itself. No statement is proved here.
-/
import Derived.Test.YtdpaocikmijioabGreatBase
import Derived.WalkLawsBesides
import Derived.BigQuiet
import Derived.Deep.QuietTactic
namespace Go.Proofs.YtdpaocikmijioabGreat
open Go.RowKit

/-- The cursor at block g: over the bytes xs that the slice value v holds. -/
def Cur (w : World) (g : Nat) (v : Value) (xs : List Int) : Prop :=
  (∃ (i : Nat) (h : Int), w.heap[g]? = some (.cells #[v, .int .i64 i, .int .i64 h] 117 (0, 0)) ∧ i ≤ xs.length) ∧ Seg w v xs ∧ (xs = [] ∨ ∀ a n c, v = .slice (some a) n c → a.block ≠ g)

theorem and_255 (a : Int) : 0 ≤ bits BinOp.and IntKind.i64 a 255 ∧ bits BinOp.and IntKind.i64 a 255 ≤ 255 := by
  have e : bits BinOp.and IntKind.i64 a 255 = IntKind.i64.wrap (((BitVec.ofInt 64 a).toNat &&& 255 : Nat) : Int) := by
    show IntKind.i64.wrap ((BitVec.ofInt 64 a &&& BitVec.ofInt 64 255).toNat : Int) = _
    rw [BitVec.toNat_and]
    rfl
  have h : (BitVec.ofInt 64 a).toNat &&& 255 ≤ 255 := Nat.and_le_right
  rw [e, IntKind.wrap_i64]
  omega

theorem cell_at {w : World} {g : Nat} {c : Array Value} {T : TypeId} (h : w.heap[g]? = some (.cells c T (0, 0))) (j : Nat) : w.cell? ⟨g, j, none⟩ = c[j]? := by simp [World.cell?, h]
theorem free_at {w : World} {g : Nat} {c : Array Value} {T : TypeId} (h : w.heap[g]? = some (.cells c T (0, 0))) (j : Nat) : w.frozen? ⟨g, j, none⟩ = false := by simp [World.frozen?, h]

theorem Seg.grown {w w' : World} {v : Value} {xs : List Int} {g : Nat} (h : Seg w v xs) (hg : w.grownBy w' (some g)) (hne : xs = [] ∨ ∀ a n c, v = .slice (some a) n c → a.block ≠ g) : Seg w' v xs := by
  obtain ⟨a, cap, rfl, hcap, h⟩ := h
  refine ⟨a, cap, rfl, hcap, ?_⟩
  rcases h with h | ⟨b, off, rfl, hlt, hc⟩
  · exact .inl h
  · rcases hne with hne | hne
    · exact .inl hne
    have hb : b ≠ g := hne _ _ _ rfl
    exact .inr ⟨b, off, rfl, Nat.lt_of_lt_of_le hlt hg.size, fun i hi => (World.cell?_of_block (hg.block b hlt (by simpa using hb))).trans (hc i hi)⟩
theorem grown_set (w : World) (g j : Nat) (u : Value) : w.grownBy (w.setCell ⟨g, j, none⟩ u) (some g) :=
  ⟨rfl, rfl, rfl, by simp, fun k _ hk => heap_setCell_other w ⟨g, j, none⟩ k u (fun e => hk (by simp [e]))⟩
theorem grown_drewN {w w' : World} {r : Option Nat} (h : w.grownBy w' r) (n : Nat) : w.grownBy (w'.drewN n) r := ⟨h.os, h.tape, h.output, h.size, h.block⟩
theorem grown_trans {w w1 w2 : World} {r : Option Nat} (h : w.grownBy w1 r) (h' : w1.grownBy w2 r) : w.grownBy w2 r :=
  ⟨h'.os.trans h.os, h'.tape.trans h.tape, h'.output.trans h.output, Nat.le_trans h.size h'.size, fun k hk hr => (h'.block k (Nat.lt_of_lt_of_le hk h.size) hr).trans (h.block k hk hr)⟩

set_option maxHeartbeats 2000000 in
set_option maxRecDepth 100000 in
theorem byte_any (g : Nat) (v : Value) (xs : List Int) (w : World) (hlen : xs.length ≤ 1048576) (hbd : ∀ z ∈ xs, 0 ≤ z ∧ z ≤ 255) (hc : Cur w g v xs) :
    Calls Tryz.prog 102 #[.pointer (some ⟨g, 0, none⟩)] w fun e w' => (∃ x, e = .returned (.int .i64 x) ∧ 0 ≤ x ∧ x ≤ 255) ∧ Cur w' g v xs ∧ w.grownBy w' (some g) := by
  obtain ⟨⟨i, h, hg, hi⟩, hs, hne⟩ := hc
  have c0 : w.cell? ⟨g, 0, none⟩ = some v := cell_at hg 0
  have c1 : w.cell? ⟨g, 1, none⟩ = some (.int .i64 i) := cell_at hg 1
  have c2 : w.cell? ⟨g, 2, none⟩ = some (.int .i64 h) := cell_at hg 2
  have f1 := free_at hg 1
  have f2 := free_at hg 2
  have HG := hide hg
  have HS := hide hs
  obtain ⟨a, cap, rfl, hcap, hr⟩ := hs
  have HN := hide hne
  have HD := hide hbd
  clear hg hne hbd
  by_cases hlt : i < xs.length
  · rcases hr with hr | ⟨b, off, rfl, hbw, hc⟩
    · subst hr; simp at hlt
    · have hcx := hc i hlt
      have hb : ¬ b = g := by
        rcases unhide HN with hn | hn
        · subst hn; simp at hlt
        · exact hn _ _ _ rfl
      have hzb := unhide HD (xs.getD i 0) (by simp [hlt])
      generalize hz : xs.getD i 0 = z at hcx hzb
      have hdl : decide ((i : Int) < (xs.length : Int)) = true := by simp; omega
      clear hc hz
      go_enter Tryz.func102, Tryz.ntmps102
      go_wp2
      go_quiet (fail)
      go_wp2
      go_quiet (fail)
      go_wp2
      go_quiet (fail)
      go_wp2
      go_ret
      refine ⟨⟨_, rfl, and_255 _⟩, ?_⟩
      generalize wrap64 (wrap64 (h * 6364136223846793005) + 1442695040888963407) = h'
      have hgr := grown_drewN (grown_set w g 2 (.int .i64 h'))
      have hgr2 := fun n => grown_trans (hgr n) (grown_set _ g 1 (.int .i64 ((i : Int) + 1)))
      refine ⟨⟨⟨i + 1, h', ?_, by omega⟩, (unhide HS).grown (hgr2 _) (unhide HN), unhide HN⟩, hgr2 _⟩
      exact heap_setCell_same _ g 1 _ _ _ (heap_setCell_same w g 2 _ _ _ (unhide HG))
  · have hdl : decide ((i : Int) < (xs.length : Int)) = false := by simp; omega
    clear hr
    go_enter Tryz.func102, Tryz.ntmps102
    go_wp2
    go_quiet (fail)
    go_wp2
    go_quiet (fail)
    go_wp2
    go_ret
    refine ⟨⟨_, rfl, and_255 _⟩, ?_⟩
    generalize wrap64 (wrap64 (h * 6364136223846793005) + 1442695040888963407) = h'
    have hgr := grown_set w g 2 (.int .i64 h')
    refine ⟨⟨⟨i, h', ?_, hi⟩, (unhide HS).grown (grown_drewN (grown_drewN hgr _) _) (unhide HN), unhide HN⟩, grown_drewN (grown_drewN hgr _) _⟩
    exact heap_setCell_same w g 2 _ _ _ (unhide HG)

set_option maxHeartbeats 2000000 in
set_option maxRecDepth 100000 in
theorem below_any (g : Nat) (v : Value) (xs : List Int) (n : Int) (w : World) (hlen : xs.length ≤ 1048576) (hbd : ∀ z ∈ xs, 0 ≤ z ∧ z ≤ 255) (hn0 : 0 < n) (hn1 : n ≤ 4294967296) (hc : Cur w g v xs) :
    Calls Tryz.prog 70 #[.pointer (some ⟨g, 0, none⟩), .int .i64 n] w fun e w' => (∃ x, e = .returned (.int .i64 x) ∧ 0 ≤ x ∧ x < n) ∧ Cur w' g v xs ∧ w.grownBy w' (some g) := by
  have HC := hide hc
  have HD := hide hbd
  clear hc hbd
  by_cases hs : n ≤ 256
  · go_enter Tryz.func70, Tryz.ntmps70
    go_wp2_with fail
    refine (byte_any g v xs _ hlen (unhide HD) (unhide HC)).mono ?_
    rintro e w1 ⟨⟨x, rfl, hx0, hx1⟩, c1, g1⟩
    have C1 := hide c1
    have G1 := hide g1
    clear c1 g1
    go_wp2
    go_ret
    exact ⟨⟨_, rfl, Int.emod_nonneg _ (by omega), Int.emod_lt_of_pos _ hn0⟩, unhide C1, unhide G1⟩
  · go_enter Tryz.func70, Tryz.ntmps70
    go_wp2_with fail
    refine (byte_any g v xs _ hlen (unhide HD) (unhide HC)).mono ?_
    rintro e w1 ⟨⟨x, rfl, hx0, hx1⟩, c1, g1⟩
    have C1 := hide c1
    have G1 := hide g1
    clear c1 g1
    go_wp2_with fail
    refine (byte_any g v xs _ hlen (unhide HD) (unhide C1)).mono ?_
    rintro e w2 ⟨⟨y, rfl, hy0, hy1⟩, c2, g2⟩
    have C2 := hide c2
    have G2 := hide (grown_trans (unhide G1) g2)
    clear c2 g2
    go_wp2_with fail
    refine (byte_any g v xs _ hlen (unhide HD) (unhide C2)).mono ?_
    rintro e w3 ⟨⟨z, rfl, hz0, hz1⟩, c3, g3⟩
    have C3 := hide c3
    have G3 := hide (grown_trans (unhide G2) g3)
    clear c3 g3
    go_wp2_with fail
    refine (byte_any g v xs _ hlen (unhide HD) (unhide C3)).mono ?_
    rintro e w4 ⟨⟨t, rfl, ht0, ht1⟩, c4, g4⟩
    have C4 := hide c4
    have G4 := hide (grown_trans (unhide G3) g4)
    clear c4 g4
    go_wp2
    go_ret
    exact ⟨⟨_, rfl, Int.emod_nonneg _ (by omega), Int.emod_lt_of_pos _ hn0⟩, unhide C4, unhide G4⟩

set_option maxHeartbeats 2000000 in
set_option maxRecDepth 100000 in
theorem new_any (v : Value) (xs : List Int) (w : World) (hlen : xs.length ≤ 1048576) (hbd : ∀ z ∈ xs, 0 ≤ z ∧ z ≤ 255) (hv : Seg w v xs) :
    Calls Tryz.prog 55 #[v] w fun e w' => e = .returned (.pointer (some ⟨w.heap.size, 0, none⟩)) ∧ Cur w' w.heap.size v xs ∧ Below w.heap.size w w' ∧ w'.heap.size = w.heap.size + 1 := by
  have HS := hide hv
  obtain ⟨a, cap, rfl, hcap, hr⟩ := hv
  have HN := hide (show xs = [] ∨ ∀ b n c, Value.slice a xs.length cap = .slice (some b) n c → b.block ≠ w.heap.size from by
    rcases hr with hr | ⟨b', off, he', hlt, _⟩
    · exact .inl hr
    · right
      intro b n c he
      simp only [Value.slice.injEq] at he
      rw [he'] at he
      have := he.1
      simp only [Option.some.injEq] at this
      rw [← this]
      show b' ≠ _
      omega)
  have HD := hide hbd
  clear hbd
  rcases hr with hr | ⟨b, off, rfl, hbw, hc⟩
  · subst hr
    go_enter Tryz.func55, Tryz.ntmps55
    go_wp2
    go_loop [3, 4] (fun q i => ∃ (h : Int), i = .int .i64 0 ∧ q = .int .i64 h) (fun _ i => 0)
    case atStart => exact ⟨_, rfl, rfl⟩
    case round =>
      obtain ⟨h, rfl, rfl⟩ := hrel
      go_wp2
      go_ret
      have e1 : (w.alloc (.cells #[.slice a 0 cap, .int .i64 0, .int .i64 h] 117)).heap[w.heap.size]? = some (.cells #[.slice a 0 cap, .int .i64 0, .int .i64 h] 117 (0, 0)) := heap_alloc_new w _
      have b1 : Below w.heap.size w (w.alloc (.cells #[.slice a 0 cap, .int .i64 0, .int .i64 h] 117)) := (Below.refl _ _).alloc (Nat.le_refl _) _
      exact ⟨rfl, ⟨⟨0, h, e1, Nat.zero_le _⟩, (unhide HS).below b1 (Nat.le_refl _), .inl rfl⟩, b1, by simp⟩
  · have HC := hide hc
    clear hc
    go_enter Tryz.func55, Tryz.ntmps55
    go_wp2
    go_loop [3, 4] (fun q i => ∃ (k : Nat) (h : Int), k ≤ xs.length ∧ i = .int .i64 k ∧ q = .int .i64 h) (fun _ i => xs.length - (intOf i).toNat)
    case atStart => exact ⟨0, _, Nat.zero_le _, rfl, rfl⟩
    case round =>
      obtain ⟨k, h, hk, rfl, rfl⟩ := hrel
      by_cases hl1 : k < xs.length
      · have hd1 : decide ((k : Int) < (xs.length : Int)) = true := by simp; omega
        by_cases hl2 : k < 4000
        · have hcx := unhide HC k hl1
          have hzb := unhide HD (xs.getD k 0) (by simp [hl1])
          generalize hz : xs.getD k 0 = z at hcx hzb
          have hd2 : decide ((k : Int) < 4000) = true := by simp; omega
          clear hz
          go_wp2
          go_round
          case rel => exact ⟨k + 1, _, by omega, by go_num, rfl⟩
          case measure => simp [intOf]; omega
        · have hd2 : decide ((k : Int) < 4000) = false := by simp; omega
          go_wp2
          go_ret
          have e1 : (w.alloc (.cells #[.slice (some ⟨b, off, none⟩) xs.length cap, .int .i64 0, .int .i64 h] 117)).heap[w.heap.size]? = some (.cells #[.slice (some ⟨b, off, none⟩) xs.length cap, .int .i64 0, .int .i64 h] 117 (0, 0)) := heap_alloc_new w _
          have b1 : Below w.heap.size w (w.alloc (.cells #[.slice (some ⟨b, off, none⟩) xs.length cap, .int .i64 0, .int .i64 h] 117)) := (Below.refl _ _).alloc (Nat.le_refl _) _
          exact ⟨rfl, ⟨⟨0, h, e1, Nat.zero_le _⟩, (unhide HS).below b1 (Nat.le_refl _), unhide HN⟩, b1, by simp⟩
      · have hd1 : decide ((k : Int) < (xs.length : Int)) = false := by simp; omega
        go_wp2
        go_ret
        have e1 : (w.alloc (.cells #[.slice (some ⟨b, off, none⟩) xs.length cap, .int .i64 0, .int .i64 h] 117)).heap[w.heap.size]? = some (.cells #[.slice (some ⟨b, off, none⟩) xs.length cap, .int .i64 0, .int .i64 h] 117 (0, 0)) := heap_alloc_new w _
        have b1 : Below w.heap.size w (w.alloc (.cells #[.slice (some ⟨b, off, none⟩) xs.length cap, .int .i64 0, .int .i64 h] 117)) := (Below.refl _ _).alloc (Nat.le_refl _) _
        exact ⟨rfl, ⟨⟨0, h, e1, Nat.zero_le _⟩, (unhide HS).below b1 (Nat.le_refl _), unhide HN⟩, b1, by simp⟩

set_option maxHeartbeats 2000000 in
set_option maxRecDepth 100000 in
theorem pickint_any (g : Nat) (v : Value) (xs : List Int) (u : Value) (cs : List Value) (w : World) (hlen : xs.length ≤ 1048576) (hbd : ∀ z ∈ xs, 0 ≤ z ∧ z ≤ 255) (hc : Cur w g v xs) (hu : SegV w u cs) (hne : ∀ a n c, u = .slice (some a) n c → a.block ≠ g) (h0 : 0 < cs.length) (h1 : cs.length ≤ 1000) :
    Calls Tryz.prog 95 #[.pointer (some ⟨g, 0, none⟩), u] w fun e w' => (∃ c, c ∈ cs ∧ e = .returned c) ∧ Cur w' g v xs ∧ w.grownBy w' (some g) := by
  obtain ⟨a, cap, rfl, hcap, hr⟩ := hu
  rcases hr with hr | ⟨b, off, rfl, hbw, hcell⟩
  · subst hr; simp at h0
  · have HE := hide hcell
    have hbg : b ≠ g := hne _ _ _ rfl
    have HC := hide hc
    have HD := hide hbd
    clear hcell hne hc hbd
    go_enter Tryz.func95, Tryz.ntmps95
    go_wp2_with fail
    refine (below_any g v xs _ _ hlen (unhide HD) (by omega) (by omega) (unhide HC)).mono ?_
    rintro e w1 ⟨⟨x, rfl, hx0, hx1⟩, c1, g1⟩
    have C1 := hide c1
    have G1 := hide g1
    obtain ⟨j, rfl⟩ := Int.eq_ofNat_of_zero_le hx0
    have hj : j < cs.length := by omega
    have hcx : w1.cell? ⟨b, off + j, none⟩ = some cs[j] := by
      rw [World.cell?_of_block (w := w) (a := ⟨b, off + j, none⟩) (g1.block b hbw (by simpa using hbg)), unhide HE j hj, List.getElem?_eq_getElem hj]
    have HM := hide (List.getElem_mem hj)
    generalize hz : cs[j] = z at hcx HM
    clear c1 g1 hz
    go_wp2
    go_ret
    exact ⟨⟨z, unhide HM, rfl⟩, unhide C1, unhide G1⟩

set_option maxHeartbeats 2000000 in
set_option maxRecDepth 100000 in
theorem pick_any (g : Nat) (v : Value) (xs : List Int) (u : Value) (cs : List Value) (w : World) (hlen : xs.length ≤ 1048576) (hbd : ∀ z ∈ xs, 0 ≤ z ∧ z ≤ 255) (hc : Cur w g v xs) (hu : SegV w u cs) (hne : ∀ a n c, u = .slice (some a) n c → a.block ≠ g) (h0 : 0 < cs.length) (h1 : cs.length ≤ 1000) :
    Calls Tryz.prog 119 #[.pointer (some ⟨g, 0, none⟩), u] w fun e w' => (∃ c, c ∈ cs ∧ e = .returned c) ∧ Cur w' g v xs ∧ w.grownBy w' (some g) := by
  obtain ⟨a, cap, rfl, hcap, hr⟩ := hu
  rcases hr with hr | ⟨b, off, rfl, hbw, hcell⟩
  · subst hr; simp at h0
  · have HE := hide hcell
    have hbg : b ≠ g := hne _ _ _ rfl
    have HC := hide hc
    have HD := hide hbd
    clear hcell hne hc hbd
    go_enter Tryz.func119, Tryz.ntmps119
    go_wp2_with fail
    refine (below_any g v xs _ _ hlen (unhide HD) (by omega) (by omega) (unhide HC)).mono ?_
    rintro e w1 ⟨⟨x, rfl, hx0, hx1⟩, c1, g1⟩
    have C1 := hide c1
    have G1 := hide g1
    obtain ⟨j, rfl⟩ := Int.eq_ofNat_of_zero_le hx0
    have hj : j < cs.length := by omega
    have hcx : w1.cell? ⟨b, off + j, none⟩ = some cs[j] := by
      rw [World.cell?_of_block (w := w) (a := ⟨b, off + j, none⟩) (g1.block b hbw (by simpa using hbg)), unhide HE j hj, List.getElem?_eq_getElem hj]
    have HM := hide (List.getElem_mem hj)
    generalize hz : cs[j] = z at hcx HM
    clear c1 g1 hz
    go_wp2
    go_ret
    exact ⟨⟨z, unhide HM, rfl⟩, unhide C1, unhide G1⟩
end Go.Proofs.YtdpaocikmijioabGreat
