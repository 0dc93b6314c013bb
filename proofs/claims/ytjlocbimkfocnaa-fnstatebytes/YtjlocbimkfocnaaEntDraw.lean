/-
  The cursor of the draws: what it draws is within its bounds, and nothing turns but the cursor itself. No statement is proved here.
  Small helpers of the draws. No statement is proved here.
  The draws of chapter 2: what is drawn are entries, with a text of at most nine bytes; nothing that was there turns but the cursor. No statement is proved here.
-/
import Derived.Test.YtjlocbimkfocnaaDrP
import Derived.WalkLawsBesides
import Derived.BigQuiet
import Derived.Deep.QuietTactic
import Derived.Test.YtjlocbimkfocnaaEntMx
namespace Go.Proofs.Ytjlocbimkfocnaa
open Go.RowKit

/-- The cursor at block g: over the bytes xs that the slice value v holds. -/
def Cur (w : World) (g : Nat) (v : Value) (xs : List Int) : Prop :=
  (∃ (i : Nat) (h : Int), w.heap[g]? = some (.cells #[v, .int .i64 i, .int .i64 h] 109 (0, 0)) ∧ i ≤ xs.length) ∧ Seg w v xs ∧ (xs = [] ∨ ∀ a n c, v = .slice (some a) n c → a.block ≠ g)

theorem and_255 (a : Int) : 0 ≤ bits BinOp.and IntKind.i64 a 255 ∧ bits BinOp.and IntKind.i64 a 255 ≤ 255 := by
  have e : bits BinOp.and IntKind.i64 a 255 = IntKind.i64.wrap (((BitVec.ofInt 64 a).toNat &&& 255 : Nat) : Int) := by
    show IntKind.i64.wrap ((BitVec.ofInt 64 a &&& BitVec.ofInt 64 255).toNat : Int) = _
    rw [BitVec.toNat_and]
    rfl
  have h : (BitVec.ofInt 64 a).toNat &&& 255 ≤ 255 := Nat.and_le_right
  rw [e, IntKind.wrap_i64]
  omega


set_option maxHeartbeats 2000000 in
set_option maxRecDepth 100000 in
theorem byte_any (g : Nat) (v : Value) (xs : List Int) (w : World) (hlen : xs.length ≤ 1048576) (hbd : ∀ z ∈ xs, 0 ≤ z ∧ z ≤ 255) (hc : Cur w g v xs) :
    Calls Try.prog 35 #[.pointer (some ⟨g, 0, none⟩)] w fun e w' => (∃ x, e = .returned (.int .i64 x) ∧ 0 ≤ x ∧ x ≤ 255) ∧ Cur w' g v xs ∧ w.grownBy w' (some g) := by
  obtain ⟨⟨i, h, hg, hi⟩, hs, hne⟩ := hc
  have c0 : w.cell? ⟨g, 0, none⟩ = some v := cell_at hg 0
  have c1 : w.cell? ⟨g, 1, none⟩ = some (.int .i64 i) := cell_at hg 1
  have c2 : w.cell? ⟨g, 2, none⟩ = some (.int .i64 h) := cell_at hg 2
  have f1 := free_at hg 1
  have f2 := free_at hg 2
  have HG := hide hg
  have HS := hide hs
  obtain ⟨a, cap, rfl, hcap, hr⟩ := hs
  have HN := hide hne
  have HD := hide hbd
  clear hg hne hbd
  by_cases hlt : i < xs.length
  · rcases hr with hr | ⟨b, off, rfl, hbw, hc⟩
    · subst hr; simp at hlt
    · have hcx := hc i hlt
      have hb : ¬ b = g := by
        rcases unhide HN with hn | hn
        · subst hn; simp at hlt
        · exact hn _ _ _ rfl
      have hzb := unhide HD (xs.getD i 0) (by simp [hlt])
      generalize hz : xs.getD i 0 = z at hcx hzb
      have hdl : decide ((i : Int) < (xs.length : Int)) = true := by simp; omega
      clear hc hz
      go_enter Try.func35, Try.ntmps35
      go_wp2
      go_quiet (fail)
      go_wp2
      go_quiet (fail)
      go_wp2
      go_quiet (fail)
      go_wp2
      go_ret
      refine ⟨⟨_, rfl, and_255 _⟩, ?_⟩
      generalize wrap64 (wrap64 (h * 6364136223846793005) + 1442695040888963407) = h'
      have hgr := grown_drewN (grown_set w g 2 (.int .i64 h'))
      have hgr2 := fun n => grown_trans (hgr n) (grown_set _ g 1 (.int .i64 ((i : Int) + 1)))
      refine ⟨⟨⟨i + 1, h', ?_, by omega⟩, (unhide HS).grown (hgr2 _) (unhide HN), unhide HN⟩, hgr2 _⟩
      exact heap_setCell_same _ g 1 _ _ _ (heap_setCell_same w g 2 _ _ _ (unhide HG))
  · have hdl : decide ((i : Int) < (xs.length : Int)) = false := by simp; omega
    clear hr
    go_enter Try.func35, Try.ntmps35
    go_wp2
    go_quiet (fail)
    go_wp2
    go_quiet (fail)
    go_wp2
    go_ret
    refine ⟨⟨_, rfl, and_255 _⟩, ?_⟩
    generalize wrap64 (wrap64 (h * 6364136223846793005) + 1442695040888963407) = h'
    have hgr := grown_set w g 2 (.int .i64 h')
    refine ⟨⟨⟨i, h', ?_, hi⟩, (unhide HS).grown (grown_drewN (grown_drewN hgr _) _) (unhide HN), unhide HN⟩, grown_drewN (grown_drewN hgr _) _⟩
    exact heap_setCell_same w g 2 _ _ _ (unhide HG)

set_option maxHeartbeats 2000000 in
set_option maxRecDepth 100000 in
theorem below_any (g : Nat) (v : Value) (xs : List Int) (n : Int) (w : World) (hlen : xs.length ≤ 1048576) (hbd : ∀ z ∈ xs, 0 ≤ z ∧ z ≤ 255) (hn0 : 0 < n) (hn1 : n ≤ 4294967296) (hc : Cur w g v xs) :
    Calls Try.prog 34 #[.pointer (some ⟨g, 0, none⟩), .int .i64 n] w fun e w' => (∃ x, e = .returned (.int .i64 x) ∧ 0 ≤ x ∧ x < n) ∧ Cur w' g v xs ∧ w.grownBy w' (some g) := by
  have HC := hide hc
  have HD := hide hbd
  clear hc hbd
  by_cases hs : n ≤ 256
  · go_enter Try.func34, Try.ntmps34
    go_wp2_with fail
    refine (byte_any g v xs _ hlen (unhide HD) (unhide HC)).mono ?_
    rintro e w1 ⟨⟨x, rfl, hx0, hx1⟩, c1, g1⟩
    have C1 := hide c1
    have G1 := hide g1
    clear c1 g1
    go_wp2
    go_ret
    exact ⟨⟨_, rfl, Int.emod_nonneg _ (by omega), Int.emod_lt_of_pos _ hn0⟩, unhide C1, unhide G1⟩
  · go_enter Try.func34, Try.ntmps34
    go_wp2_with fail
    refine (byte_any g v xs _ hlen (unhide HD) (unhide HC)).mono ?_
    rintro e w1 ⟨⟨x, rfl, hx0, hx1⟩, c1, g1⟩
    have C1 := hide c1
    have G1 := hide g1
    clear c1 g1
    go_wp2_with fail
    refine (byte_any g v xs _ hlen (unhide HD) (unhide C1)).mono ?_
    rintro e w2 ⟨⟨y, rfl, hy0, hy1⟩, c2, g2⟩
    have C2 := hide c2
    have G2 := hide (grown_trans (unhide G1) g2)
    clear c2 g2
    go_wp2_with fail
    refine (byte_any g v xs _ hlen (unhide HD) (unhide C2)).mono ?_
    rintro e w3 ⟨⟨z, rfl, hz0, hz1⟩, c3, g3⟩
    have C3 := hide c3
    have G3 := hide (grown_trans (unhide G2) g3)
    clear c3 g3
    go_wp2_with fail
    refine (byte_any g v xs _ hlen (unhide HD) (unhide C3)).mono ?_
    rintro e w4 ⟨⟨t, rfl, ht0, ht1⟩, c4, g4⟩
    have C4 := hide c4
    have G4 := hide (grown_trans (unhide G3) g4)
    clear c4 g4
    go_wp2
    go_ret
    exact ⟨⟨_, rfl, Int.emod_nonneg _ (by omega), Int.emod_lt_of_pos _ hn0⟩, unhide C4, unhide G4⟩

set_option maxHeartbeats 2000000 in
set_option maxRecDepth 100000 in
theorem new_any (v : Value) (xs : List Int) (w : World) (hlen : xs.length ≤ 1048576) (hbd : ∀ z ∈ xs, 0 ≤ z ∧ z ≤ 255) (hv : Seg w v xs) :
    Calls Try.prog 24 #[v] w fun e w' => e = .returned (.pointer (some ⟨w.heap.size, 0, none⟩)) ∧ Cur w' w.heap.size v xs ∧ Below w.heap.size w w' ∧ w'.heap.size = w.heap.size + 1 := by
  have HS := hide hv
  obtain ⟨a, cap, rfl, hcap, hr⟩ := hv
  have HN := hide (show xs = [] ∨ ∀ b n c, Value.slice a xs.length cap = .slice (some b) n c → b.block ≠ w.heap.size from by
    rcases hr with hr | ⟨b', off, he', hlt, _⟩
    · exact .inl hr
    · right
      intro b n c he
      simp only [Value.slice.injEq] at he
      rw [he'] at he
      have := he.1
      simp only [Option.some.injEq] at this
      rw [← this]
      show b' ≠ _
      omega)
  have HD := hide hbd
  clear hbd
  rcases hr with hr | ⟨b, off, rfl, hbw, hc⟩
  · subst hr
    go_enter Try.func24, Try.ntmps24
    go_wp2
    go_loop [3, 4] (fun q i => ∃ (h : Int), i = .int .i64 0 ∧ q = .int .i64 h) (fun _ i => 0)
    case atStart => exact ⟨_, rfl, rfl⟩
    case round =>
      obtain ⟨h, rfl, rfl⟩ := hrel
      go_wp2
      go_ret
      have e1 : (w.alloc (.cells #[.slice a 0 cap, .int .i64 0, .int .i64 h] 109)).heap[w.heap.size]? = some (.cells #[.slice a 0 cap, .int .i64 0, .int .i64 h] 109 (0, 0)) := heap_alloc_new w _
      have b1 : Below w.heap.size w (w.alloc (.cells #[.slice a 0 cap, .int .i64 0, .int .i64 h] 109)) := (Below.refl _ _).alloc (Nat.le_refl _) _
      exact ⟨rfl, ⟨⟨0, h, e1, Nat.zero_le _⟩, (unhide HS).below b1 (Nat.le_refl _), .inl rfl⟩, b1, by simp⟩
  · have HC := hide hc
    clear hc
    go_enter Try.func24, Try.ntmps24
    go_wp2
    go_loop [3, 4] (fun q i => ∃ (k : Nat) (h : Int), k ≤ xs.length ∧ i = .int .i64 k ∧ q = .int .i64 h) (fun _ i => xs.length - (intOf i).toNat)
    case atStart => exact ⟨0, _, Nat.zero_le _, rfl, rfl⟩
    case round =>
      obtain ⟨k, h, hk, rfl, rfl⟩ := hrel
      by_cases hl1 : k < xs.length
      · have hd1 : decide ((k : Int) < (xs.length : Int)) = true := by simp; omega
        by_cases hl2 : k < 4000
        · have hcx := unhide HC k hl1
          have hzb := unhide HD (xs.getD k 0) (by simp [hl1])
          generalize hz : xs.getD k 0 = z at hcx hzb
          have hd2 : decide ((k : Int) < 4000) = true := by simp; omega
          clear hz
          go_wp2
          go_round
          case rel => exact ⟨k + 1, _, by omega, by go_num, rfl⟩
          case measure => simp [intOf]; omega
        · have hd2 : decide ((k : Int) < 4000) = false := by simp; omega
          go_wp2
          go_ret
          have e1 : (w.alloc (.cells #[.slice (some ⟨b, off, none⟩) xs.length cap, .int .i64 0, .int .i64 h] 109)).heap[w.heap.size]? = some (.cells #[.slice (some ⟨b, off, none⟩) xs.length cap, .int .i64 0, .int .i64 h] 109 (0, 0)) := heap_alloc_new w _
          have b1 : Below w.heap.size w (w.alloc (.cells #[.slice (some ⟨b, off, none⟩) xs.length cap, .int .i64 0, .int .i64 h] 109)) := (Below.refl _ _).alloc (Nat.le_refl _) _
          exact ⟨rfl, ⟨⟨0, h, e1, Nat.zero_le _⟩, (unhide HS).below b1 (Nat.le_refl _), unhide HN⟩, b1, by simp⟩
      · have hd1 : decide ((k : Int) < (xs.length : Int)) = false := by simp; omega
        go_wp2
        go_ret
        have e1 : (w.alloc (.cells #[.slice (some ⟨b, off, none⟩) xs.length cap, .int .i64 0, .int .i64 h] 109)).heap[w.heap.size]? = some (.cells #[.slice (some ⟨b, off, none⟩) xs.length cap, .int .i64 0, .int .i64 h] 109 (0, 0)) := heap_alloc_new w _
        have b1 : Below w.heap.size w (w.alloc (.cells #[.slice (some ⟨b, off, none⟩) xs.length cap, .int .i64 0, .int .i64 h] 109)) := (Below.refl _ _).alloc (Nat.le_refl _) _
        exact ⟨rfl, ⟨⟨0, h, e1, Nat.zero_le _⟩, (unhide HS).below b1 (Nat.le_refl _), unhide HN⟩, b1, by simp⟩

set_option maxHeartbeats 2000000 in
set_option maxRecDepth 100000 in
theorem pickint_any (g : Nat) (v : Value) (xs : List Int) (u : Value) (cs : List Value) (w : World) (hlen : xs.length ≤ 1048576) (hbd : ∀ z ∈ xs, 0 ≤ z ∧ z ≤ 255) (hc : Cur w g v xs) (hu : SegV w u cs) (hne : ∀ a n c, u = .slice (some a) n c → a.block ≠ g) (h0 : 0 < cs.length) (h1 : cs.length ≤ 1000) :
    Calls Try.prog 70 #[.pointer (some ⟨g, 0, none⟩), u] w fun e w' => (∃ c, c ∈ cs ∧ e = .returned c) ∧ Cur w' g v xs ∧ w.grownBy w' (some g) := by
  obtain ⟨a, cap, rfl, hcap, hr⟩ := hu
  rcases hr with hr | ⟨b, off, rfl, hbw, hcell⟩
  · subst hr; simp at h0
  · have HE := hide hcell
    have hbg : b ≠ g := hne _ _ _ rfl
    have HC := hide hc
    have HD := hide hbd
    clear hcell hne hc hbd
    go_enter Try.func70, Try.ntmps70
    go_wp2_with fail
    refine (below_any g v xs _ _ hlen (unhide HD) (by omega) (by omega) (unhide HC)).mono ?_
    rintro e w1 ⟨⟨x, rfl, hx0, hx1⟩, c1, g1⟩
    have C1 := hide c1
    have G1 := hide g1
    obtain ⟨j, rfl⟩ := Int.eq_ofNat_of_zero_le hx0
    have hj : j < cs.length := by omega
    have hcx : w1.cell? ⟨b, off + j, none⟩ = some cs[j] := by
      rw [World.cell?_of_block (w := w) (a := ⟨b, off + j, none⟩) (g1.block b hbw (by simpa using hbg)), unhide HE j hj, List.getElem?_eq_getElem hj]
    have HM := hide (List.getElem_mem hj)
    generalize hz : cs[j] = z at hcx HM
    clear c1 g1 hz
    go_wp2
    go_ret
    exact ⟨⟨z, unhide HM, rfl⟩, unhide C1, unhide G1⟩

set_option maxHeartbeats 2000000 in
set_option maxRecDepth 100000 in
theorem pick_any (g : Nat) (v : Value) (xs : List Int) (u : Value) (cs : List Value) (w : World) (hlen : xs.length ≤ 1048576) (hbd : ∀ z ∈ xs, 0 ≤ z ∧ z ≤ 255) (hc : Cur w g v xs) (hu : SegV w u cs) (hne : ∀ a n c, u = .slice (some a) n c → a.block ≠ g) (h0 : 0 < cs.length) (h1 : cs.length ≤ 1000) :
    Calls Try.prog 120 #[.pointer (some ⟨g, 0, none⟩), u] w fun e w' => (∃ c, c ∈ cs ∧ e = .returned c) ∧ Cur w' g v xs ∧ w.grownBy w' (some g) := by
  obtain ⟨a, cap, rfl, hcap, hr⟩ := hu
  rcases hr with hr | ⟨b, off, rfl, hbw, hcell⟩
  · subst hr; simp at h0
  · have HE := hide hcell
    have hbg : b ≠ g := hne _ _ _ rfl
    have HC := hide hc
    have HD := hide hbd
    clear hcell hne hc hbd
    go_enter Try.func120, Try.ntmps120
    go_wp2_with fail
    refine (below_any g v xs _ _ hlen (unhide HD) (by omega) (by omega) (unhide HC)).mono ?_
    rintro e w1 ⟨⟨x, rfl, hx0, hx1⟩, c1, g1⟩
    have C1 := hide c1
    have G1 := hide g1
    obtain ⟨j, rfl⟩ := Int.eq_ofNat_of_zero_le hx0
    have hj : j < cs.length := by omega
    have hcx : w1.cell? ⟨b, off + j, none⟩ = some cs[j] := by
      rw [World.cell?_of_block (w := w) (a := ⟨b, off + j, none⟩) (g1.block b hbw (by simpa using hbg)), unhide HE j hj, List.getElem?_eq_getElem hj]
    have HM := hide (List.getElem_mem hj)
    generalize hz : cs[j] = z at hcx HM
    clear c1 g1 hz
    go_wp2
    go_ret
    exact ⟨⟨z, unhide HM, rfl⟩, unhide C1, unhide G1⟩
end Go.Proofs.Ytjlocbimkfocnaa

namespace Go.Proofs.Ytjlocbimkfocnaa
open Go.RowKit

theorem Cur.later {w w' : World} {g : Nat} {v : Value} {xs : List Int} (h : Cur w g v xs) {B : Nat} (hb : Below B w w') (hB : w.heap.size ≤ B) : Cur w' g v xs := by
  obtain ⟨⟨i, k, hg, hi⟩, hs, hn⟩ := h
  have hlt : g < w.heap.size := (Array.getElem?_eq_some_iff.1 hg).1
  exact ⟨⟨i, k, (hb.block g (by omega)).trans hg, hi⟩, hs.below hb hB, hn⟩
theorem seg_new (w : World) (e : TypeId) (cs : List Value) (n : Nat) (hn : cs.length = n) (h : n ≤ 1000) : SegV (w.alloc (.cells cs.toArray e)) (.slice (some ⟨w.heap.size, 0, none⟩) n n) cs :=
  segv_of_owns (World.ownsRow_lit (base := 0) (size := 1) w cs.toArray n (Nat.zero_le _) (by unfold maxLen; omega) (by simp; omega))
/-- The block that was laid behind the cursor is not the cursor's. -/
theorem not_cur {w w1 : World} (h : w1.heap.size = w.heap.size + 1) (n c : Nat) : ∀ a n' c', Value.slice (some ⟨w1.heap.size, 0, none⟩) n c = .slice (some a) n' c' → a.block ≠ w.heap.size := by
  intro a n' c' he
  simp only [Value.slice.injEq, Option.some.injEq] at he
  rw [← he.1]
  show w1.heap.size ≠ w.heap.size
  omega

theorem below_cur {w w1 w2 : World} {o : Obj} (b1 : Below w.heap.size w w1) (hg : (w1.alloc o).grownBy w2 (some w.heap.size)) : Below w.heap.size w w2 :=
  (b1.alloc b1.size o).grown hg (by have := b1.size; simp; omega) (fun k hk => by simp at hk; omega)

theorem big_no (a : Option Addr) (n cap : Nat) (w : World) (h : ¬ 1048576 < n) : Calls Try.prog 5 #[.slice a n cap] w fun e w' => e = .returned (.bool false) ∧ w = w' := by
  have hd : decide (1048576 < (n : Int)) = false := by simp; omega
  go_enter Try.func5, Try.ntmps5
  go_wp2
  go_ret
  exact ⟨by rw [← hd]; rfl, rfl⟩
end Go.Proofs.Ytjlocbimkfocnaa

namespace Go.Proofs.Ytjlocbimkfocnaa
open Go.RowKit

theorem grown_alloc (w : World) (o : Obj) (r : Option Nat) : w.grownBy (w.alloc o) r := ⟨rfl, rfl, rfl, by simp, fun k hk _ => Below.heap_alloc w o k hk⟩
theorem grown_far {w W : World} {r : Option Nat} (h : w.grownBy W r) {a : Addr} (ha : w.heap.size ≤ a.block) (v : Value) : w.grownBy (W.setCell a v) r :=
  ⟨h.os, h.tape, h.output, by simpa using h.size, fun k hk hr => (Below.heap_setCell W a v k (by omega)).trans (h.block k hk hr)⟩
theorem cur_alloc {w : World} {g : Nat} {v : Value} {xs : List Int} (h : Cur w g v xs) (o : Obj) : Cur (w.alloc o) g v xs := h.later ((Below.refl w.heap.size w).alloc (Nat.le_refl _) o) (Nat.le_refl _)
theorem cur_lt {w : World} {g : Nat} {v : Value} {xs : List Int} (h : Cur w g v xs) : g < w.heap.size := by
  obtain ⟨⟨i, k, hg, _⟩, _⟩ := h
  exact (Array.getElem?_eq_some_iff.1 hg).1
/-- Another block than the cursor's is as it was. -/
theorem blk_grown {w w' : World} {g r : Nat} {o : Obj} (h : w.grownBy w' (some g)) (hr : w.heap[r]? = some o) (hne : r ≠ g) : w'.heap[r]? = some o :=
  (h.block r (Array.getElem?_eq_some_iff.1 hr).1 (by simpa using hne)).trans hr

theorem far5 {w W : World} {g : Option Nat} {r : Nat} (h : w.grownBy W g) (hr : w.heap.size ≤ r) (v0 v1 v2 v3 v4 : Value) : w.grownBy (((((W.setCell ⟨r, 0, none⟩ v0).setCell ⟨r, 1, none⟩ v1).setCell ⟨r, 2, none⟩ v2).setCell ⟨r, 3, none⟩ v3).setCell ⟨r, 4, none⟩ v4) g :=
  grown_far (grown_far (grown_far (grown_far (grown_far h (a := ⟨r, 0, none⟩) hr v0) (a := ⟨r, 1, none⟩) hr v1) (a := ⟨r, 2, none⟩) hr v2) (a := ⟨r, 3, none⟩) hr v3) (a := ⟨r, 4, none⟩) hr v4
theorem other5 {W : World} {r k : Nat} {v0 v1 v2 v3 v4 : Value} (hne : k ≠ r) : (((((W.setCell ⟨r, 0, none⟩ v0).setCell ⟨r, 1, none⟩ v1).setCell ⟨r, 2, none⟩ v2).setCell ⟨r, 3, none⟩ v3).setCell ⟨r, 4, none⟩ v4).heap[k]? = W.heap[k]? := by
  rw [heap_setCell_other _ _ _ _ hne, heap_setCell_other _ _ _ _ hne, heap_setCell_other _ _ _ _ hne, heap_setCell_other _ _ _ _ hne, heap_setCell_other _ _ _ _ hne]
theorem cur_far {w w5 W : World} {g : Nat} {v : Value} {xs : List Int} (h0 : Cur w g v xs) (h5 : Cur w5 g v xs) (hg : w.grownBy W (some g)) (he : W.heap[g]? = w5.heap[g]?) : Cur W g v xs := by
  obtain ⟨⟨i, k, e, hi⟩, _⟩ := h5
  exact ⟨⟨i, k, he.trans e, hi⟩, h0.2.1.grown hg h0.2.2, h0.2.2⟩
theorem ne_new {g k : Nat} (h : g < k) (n c : Nat) : ∀ a n' c', Value.slice (some ⟨k, 0, none⟩) n c = .slice (some a) n' c' → a.block ≠ g := by
  intro a n' c' e
  simp only [Value.slice.injEq, Option.some.injEq] at e
  rw [← e.1]
  show k ≠ g
  omega

set_option maxHeartbeats 4000000 in
set_option maxRecDepth 100000 in
theorem right_any (g : Nat) (v : Value) (xs : List Int) (w : World) (hlen : xs.length ≤ 1048576) (hbd : ∀ z ∈ xs, 0 ≤ z ∧ z ≤ 255) (hc : Cur w g v xs) :
    Calls Try.prog 104 #[.pointer (some ⟨g, 0, none⟩)] w fun e w' => (∃ ai ar ab av ad, e = .returned (.agg #[.int .i64 ai, .int .i64 ar, .int .i64 ab, .int .i64 av, .string ad]) ∧ ad.size ≤ 9) ∧ Cur w' g v xs ∧ w.grownBy w' (some g) := by
  have HD := hide hbd
  have HC := hide hc
  have hlt := cur_lt hc
  have C0 := hide (cur_alloc hc (.cells #[.int .i64 0, .int .i64 0, .int .i64 0, .int .i64 0, .string ⟨#[]⟩] 62))
  have M0 := hide (heap_alloc_new w (.cells #[.int .i64 0, .int .i64 0, .int .i64 0, .int .i64 0, .string ⟨#[]⟩] 62))
  have G0 := hide (grown_alloc w (.cells #[.int .i64 0, .int .i64 0, .int .i64 0, .int .i64 0, .string ⟨#[]⟩] 62) (some g))
  clear hbd hc
  go_enter Try.func104, Try.ntmps104
  go_wp2_with fail
  refine (below_any g v xs 3 _ hlen (unhide HD) (by omega) (by omega) (unhide C0)).mono ?_
  rintro e w1 ⟨⟨x1, rfl, x1a, x1b⟩, c1, g1⟩
  have C1 := hide c1
  have hs1 := g1.size
  simp only [World.size_alloc] at hs1
  have M1 := hide (blk_grown g1 (unhide M0) (by omega))
  have G1 := hide (grown_trans (unhide G0) g1)
  clear c1 g1 C0 M0 G0
  go_wp2_with fail
  refine (below_any g v xs 2 _ hlen (unhide HD) (by omega) (by omega) (unhide C1)).mono ?_
  rintro e w2 ⟨⟨x2, rfl, x2a, x2b⟩, c2, g2⟩
  have C2 := hide c2
  have hs2 := g2.size
  have M2 := hide (blk_grown g2 (unhide M1) (by omega))
  have G2 := hide (grown_trans (unhide G1) g2)
  clear c2 g2 C1 M1 G1
  go_wp2_with fail
  refine (below_any g v xs 3 _ hlen (unhide HD) (by omega) (by omega) (unhide C2)).mono ?_
  rintro e w3 ⟨⟨x3, rfl, x3a, x3b⟩, c3, g3⟩
  have C3 := hide c3
  have hs3 := g3.size
  have M3 := hide (blk_grown g3 (unhide M2) (by omega))
  have G3 := hide (grown_trans (unhide G2) g3)
  clear c3 g3 C2 M2 G2
  go_wp2_with fail
  refine (below_any g v xs 3 _ hlen (unhide HD) (by omega) (by omega) (unhide C3)).mono ?_
  rintro e w4 ⟨⟨x4, rfl, x4a, x4b⟩, c4, g4⟩
  have C4 := hide c4
  have hs4 := g4.size
  have M4 := hide (blk_grown g4 (unhide M3) (by omega))
  have G4 := hide (grown_trans (unhide G3) g4)
  clear c4 g4 C3 M3 G3
  go_wp2_with fail
  have SG := hide (seg_new w4 9 [.string ⟨#[]⟩, .string ⟨#[97]⟩, .string ⟨#[98]⟩, .string ⟨#[97, 98]⟩, .string ⟨#[49, 50, 51, 52, 53, 54, 55, 56]⟩] 5 rfl (by decide))
  refine (pick_any g v xs (.slice (some ⟨w4.heap.size, 0, none⟩) 5 5) [.string ⟨#[]⟩, .string ⟨#[97]⟩, .string ⟨#[98]⟩, .string ⟨#[97, 98]⟩, .string ⟨#[49, 50, 51, 52, 53, 54, 55, 56]⟩] (w4.alloc (.cells ([.string ⟨#[]⟩, .string ⟨#[97]⟩, .string ⟨#[98]⟩, .string ⟨#[97, 98]⟩, .string ⟨#[49, 50, 51, 52, 53, 54, 55, 56]⟩] : List Value).toArray 9)) hlen (unhide HD) (cur_alloc (unhide C4) _) (unhide SG) (ne_new (by omega) _ _) (by decide) (by decide)).mono ?_
  rintro e w5 ⟨⟨c, hcm, rfl⟩, c5, g5⟩
  have C5 := hide c5
  have hs5 := g5.size
  simp only [World.size_alloc] at hs5
  have M5 := hide (blk_grown g5 ((Below.heap_alloc _ _ _ (by omega)).trans (unhide M4)) (by omega))
  have G5 := hide (grown_trans (grown_trans (unhide G4) (grown_alloc _ _ _)) g5)
  clear c5 g5 C4 M4 G4 SG
  have hn : ∃ d, c = .string d ∧ d.size ≤ 9 := by
    simp only [List.mem_cons, List.not_mem_nil, or_false] at hcm
    rcases hcm with rfl | rfl | rfl | rfl | rfl
    all_goals exact ⟨_, rfl, by decide⟩
  obtain ⟨d, rfl, hd9⟩ := hn
  have HN := hide hd9
  obtain ⟨p0, p1, p2, p3, p4, p5⟩ := blk_cells5 (unhide M5)
  clear hcm hd9
  go_wp2
  have hG := far5 (unhide G5) (Nat.le_refl _) (.int .i64 (1 + x1)) (.int .i64 x2) (.int .i64 x3) (.int .i64 x4) (.string d)
  exact bodyPost_ret (v := .agg #[.int .i64 (1 + x1), .int .i64 x2, .int .i64 x3, .int .i64 x4, .string d]) (by simp [results, Try.results104, go_sem, p0, p1, p2, p3, p4]) rfl ⟨⟨_, _, _, _, _, rfl, unhide HN⟩, cur_far (unhide HC) (unhide C5) hG (other5 (by omega)), hG⟩

set_option maxHeartbeats 4000000 in
set_option maxRecDepth 100000 in
theorem draw_any (g : Nat) (v : Value) (xs : List Int) (w : World) (hlen : xs.length ≤ 1048576) (hbd : ∀ z ∈ xs, 0 ≤ z ∧ z ≤ 255) (hc : Cur w g v xs) :
    Calls Try.prog 69 #[.pointer (some ⟨g, 0, none⟩)] w fun e w' => (∃ ai ar ab av ad, e = .returned (.agg #[.int .i64 ai, .int .i64 ar, .int .i64 ab, .int .i64 av, .string ad]) ∧ ad.size ≤ 9) ∧ Cur w' g v xs ∧ w.grownBy w' (some g) := by
  have HD := hide hbd
  have HC := hide hc
  have hlt := cur_lt hc
  have C0 := hide (cur_alloc hc (.cells #[.int .i64 0, .int .i64 0, .int .i64 0, .int .i64 0, .string ⟨#[]⟩] 62))
  have M0 := hide (heap_alloc_new w (.cells #[.int .i64 0, .int .i64 0, .int .i64 0, .int .i64 0, .string ⟨#[]⟩] 62))
  have G0 := hide (grown_alloc w (.cells #[.int .i64 0, .int .i64 0, .int .i64 0, .int .i64 0, .string ⟨#[]⟩] 62) (some g))
  clear hbd hc
  go_enter Try.func69, Try.ntmps69
  go_wp2_with fail
  refine (right_any g v xs _ hlen (unhide HD) (unhide C0)).mono ?_
  rintro e w1 ⟨⟨ai, ar, ab, av, ad, rfl, hd9⟩, c1, g1⟩
  have hs1 := g1.size
  simp only [World.size_alloc] at hs1
  have HN := hide hd9
  have C1 := hide (cur_alloc c1 (.cells #[.int .i64 ai, .int .i64 ar, .int .i64 ab, .int .i64 av, .string ad] 62))
  have M1 := hide ((Below.heap_alloc w1 (.cells #[.int .i64 ai, .int .i64 ar, .int .i64 ab, .int .i64 av, .string ad] 62) _ (by omega)).trans (blk_grown g1 (unhide M0) (by omega)))
  have E1 := hide (heap_alloc_new w1 (.cells #[.int .i64 ai, .int .i64 ar, .int .i64 ab, .int .i64 av, .string ad] 62))
  have G1 := hide (grown_trans (grown_trans (unhide G0) g1) (grown_alloc w1 (.cells #[.int .i64 ai, .int .i64 ar, .int .i64 ab, .int .i64 av, .string ad] 62) (some g)))
  clear c1 g1 C0 M0 G0 hd9
  go_wp2_with fail
  refine (below_any g v xs 14 _ hlen (unhide HD) (by omega) (by omega) (unhide C1)).mono ?_
  rintro e w2 ⟨⟨x2, rfl, x2a, x2b⟩, c2, g2⟩
  have C2 := hide c2
  have hs2 := g2.size
  simp only [World.size_alloc] at hs2
  have M2 := hide (blk_grown g2 (unhide M1) (by omega))
  have E2 := hide (blk_grown g2 (unhide E1) (by omega))
  have G2 := hide (grown_trans (unhide G1) g2)
  clear c2 g2 C1 M1 E1 G1
  by_cases h0 : x2 = 0
  · subst h0
    go_wp2_with fail
    have SG := hide (seg_new w2 3 [.int .i64 0, .int .i64 1000, .int .i64 1001, .int .i64 (-1)] 4 rfl (by decide))
    refine (pickint_any g v xs (.slice (some ⟨w2.heap.size, 0, none⟩) 4 4) [.int .i64 0, .int .i64 1000, .int .i64 1001, .int .i64 (-1)] (w2.alloc (.cells ([.int .i64 0, .int .i64 1000, .int .i64 1001, .int .i64 (-1)] : List Value).toArray 3)) hlen (unhide HD) (cur_alloc (unhide C2) _) (unhide SG) (ne_new (by omega) _ _) (by decide) (by decide)).mono ?_
    rintro e w3 ⟨⟨c, hcm, rfl⟩, c3, g3⟩
    have C3 := hide c3
    have hs3 := g3.size
    simp only [World.size_alloc] at hs3
    have M3 := hide (blk_grown g3 ((Below.heap_alloc _ _ _ (by omega)).trans (unhide M2)) (by omega))
    have E3 := hide (blk_grown g3 ((Below.heap_alloc _ _ _ (by omega)).trans (unhide E2)) (by omega))
    have G3 := hide (grown_trans (grown_trans (unhide G2) (grown_alloc _ _ _)) g3)
    clear c3 g3 C2 M2 E2 G2 SG
    have hn : ∃ n, c = .int .i64 n := by
      simp only [List.mem_cons, List.not_mem_nil, or_false] at hcm
      rcases hcm with rfl | rfl | rfl | rfl
      all_goals exact ⟨_, rfl⟩
    obtain ⟨n, rfl⟩ := hn
    clear hcm
    obtain ⟨p0, p1, p2, p3, p4, p5⟩ := blk_cells5 (unhide M3)
    obtain ⟨q0, q1, q2, q3, q4, q5⟩ := blk_cells5 (unhide E3)
    go_wp2
    have hG := far5 (grown_far (unhide G3) (a := ⟨w1.heap.size, 0, none⟩) (by show w.heap.size ≤ w1.heap.size; omega) (.int .i64 n)) (Nat.le_refl _) (.int .i64 n) (.int .i64 ar) (.int .i64 ab) (.int .i64 av) (.string ad)
    exact bodyPost_ret (v := .agg #[.int .i64 n, .int .i64 ar, .int .i64 ab, .int .i64 av, .string ad]) (by simp [results, Try.results69, go_sem, p0, p1, p2, p3, p4]) rfl ⟨⟨_, _, _, _, _, rfl, unhide HN⟩, cur_far (unhide HC) (unhide C3) hG ((other5 (by omega)).trans (heap_setCell_other _ _ _ _ (by show g ≠ w1.heap.size; omega))), hG⟩
  have e0 : (x2 == 0) = false := by simpa using h0
  by_cases h1 : x2 = 1
  · subst h1
    go_wp2_with fail
    have SG := hide (seg_new w2 3 [.int .i64 (-1), .int .i64 2] 2 rfl (by decide))
    refine (pickint_any g v xs (.slice (some ⟨w2.heap.size, 0, none⟩) 2 2) [.int .i64 (-1), .int .i64 2] (w2.alloc (.cells ([.int .i64 (-1), .int .i64 2] : List Value).toArray 3)) hlen (unhide HD) (cur_alloc (unhide C2) _) (unhide SG) (ne_new (by omega) _ _) (by decide) (by decide)).mono ?_
    rintro e w3 ⟨⟨c, hcm, rfl⟩, c3, g3⟩
    have C3 := hide c3
    have hs3 := g3.size
    simp only [World.size_alloc] at hs3
    have M3 := hide (blk_grown g3 ((Below.heap_alloc _ _ _ (by omega)).trans (unhide M2)) (by omega))
    have E3 := hide (blk_grown g3 ((Below.heap_alloc _ _ _ (by omega)).trans (unhide E2)) (by omega))
    have G3 := hide (grown_trans (grown_trans (unhide G2) (grown_alloc _ _ _)) g3)
    clear c3 g3 C2 M2 E2 G2 SG
    have hn : ∃ n, c = .int .i64 n := by
      simp only [List.mem_cons, List.not_mem_nil, or_false] at hcm
      rcases hcm with rfl | rfl
      all_goals exact ⟨_, rfl⟩
    obtain ⟨n, rfl⟩ := hn
    clear hcm
    obtain ⟨p0, p1, p2, p3, p4, p5⟩ := blk_cells5 (unhide M3)
    obtain ⟨q0, q1, q2, q3, q4, q5⟩ := blk_cells5 (unhide E3)
    go_wp2
    have hG := far5 (grown_far (unhide G3) (a := ⟨w1.heap.size, 1, none⟩) (by show w.heap.size ≤ w1.heap.size; omega) (.int .i64 n)) (Nat.le_refl _) (.int .i64 ai) (.int .i64 n) (.int .i64 ab) (.int .i64 av) (.string ad)
    exact bodyPost_ret (v := .agg #[.int .i64 ai, .int .i64 n, .int .i64 ab, .int .i64 av, .string ad]) (by simp [results, Try.results69, go_sem, p0, p1, p2, p3, p4]) rfl ⟨⟨_, _, _, _, _, rfl, unhide HN⟩, cur_far (unhide HC) (unhide C3) hG ((other5 (by omega)).trans (heap_setCell_other _ _ _ _ (by show g ≠ w1.heap.size; omega))), hG⟩
  have e1 : (x2 == 1) = false := by simpa using h1
  by_cases h2 : x2 = 2
  · subst h2
    go_wp2_with fail
    have SG := hide (seg_new w2 3 [.int .i64 (-1), .int .i64 100000, .int .i64 100001] 3 rfl (by decide))
    refine (pickint_any g v xs (.slice (some ⟨w2.heap.size, 0, none⟩) 3 3) [.int .i64 (-1), .int .i64 100000, .int .i64 100001] (w2.alloc (.cells ([.int .i64 (-1), .int .i64 100000, .int .i64 100001] : List Value).toArray 3)) hlen (unhide HD) (cur_alloc (unhide C2) _) (unhide SG) (ne_new (by omega) _ _) (by decide) (by decide)).mono ?_
    rintro e w3 ⟨⟨c, hcm, rfl⟩, c3, g3⟩
    have C3 := hide c3
    have hs3 := g3.size
    simp only [World.size_alloc] at hs3
    have M3 := hide (blk_grown g3 ((Below.heap_alloc _ _ _ (by omega)).trans (unhide M2)) (by omega))
    have E3 := hide (blk_grown g3 ((Below.heap_alloc _ _ _ (by omega)).trans (unhide E2)) (by omega))
    have G3 := hide (grown_trans (grown_trans (unhide G2) (grown_alloc _ _ _)) g3)
    clear c3 g3 C2 M2 E2 G2 SG
    have hn : ∃ n, c = .int .i64 n := by
      simp only [List.mem_cons, List.not_mem_nil, or_false] at hcm
      rcases hcm with rfl | rfl | rfl
      all_goals exact ⟨_, rfl⟩
    obtain ⟨n, rfl⟩ := hn
    clear hcm
    obtain ⟨p0, p1, p2, p3, p4, p5⟩ := blk_cells5 (unhide M3)
    obtain ⟨q0, q1, q2, q3, q4, q5⟩ := blk_cells5 (unhide E3)
    go_wp2
    have hG := far5 (grown_far (unhide G3) (a := ⟨w1.heap.size, 2, none⟩) (by show w.heap.size ≤ w1.heap.size; omega) (.int .i64 n)) (Nat.le_refl _) (.int .i64 ai) (.int .i64 ar) (.int .i64 n) (.int .i64 av) (.string ad)
    exact bodyPost_ret (v := .agg #[.int .i64 ai, .int .i64 ar, .int .i64 n, .int .i64 av, .string ad]) (by simp [results, Try.results69, go_sem, p0, p1, p2, p3, p4]) rfl ⟨⟨_, _, _, _, _, rfl, unhide HN⟩, cur_far (unhide HC) (unhide C3) hG ((other5 (by omega)).trans (heap_setCell_other _ _ _ _ (by show g ≠ w1.heap.size; omega))), hG⟩
  have e2 : (x2 == 2) = false := by simpa using h2
  by_cases h3 : x2 = 3
  · subst h3
    go_wp2_with fail
    have SG := hide (seg_new w2 3 [.int .i64 (-1), .int .i64 1000, .int .i64 1001] 3 rfl (by decide))
    refine (pickint_any g v xs (.slice (some ⟨w2.heap.size, 0, none⟩) 3 3) [.int .i64 (-1), .int .i64 1000, .int .i64 1001] (w2.alloc (.cells ([.int .i64 (-1), .int .i64 1000, .int .i64 1001] : List Value).toArray 3)) hlen (unhide HD) (cur_alloc (unhide C2) _) (unhide SG) (ne_new (by omega) _ _) (by decide) (by decide)).mono ?_
    rintro e w3 ⟨⟨c, hcm, rfl⟩, c3, g3⟩
    have C3 := hide c3
    have hs3 := g3.size
    simp only [World.size_alloc] at hs3
    have M3 := hide (blk_grown g3 ((Below.heap_alloc _ _ _ (by omega)).trans (unhide M2)) (by omega))
    have E3 := hide (blk_grown g3 ((Below.heap_alloc _ _ _ (by omega)).trans (unhide E2)) (by omega))
    have G3 := hide (grown_trans (grown_trans (unhide G2) (grown_alloc _ _ _)) g3)
    clear c3 g3 C2 M2 E2 G2 SG
    have hn : ∃ n, c = .int .i64 n := by
      simp only [List.mem_cons, List.not_mem_nil, or_false] at hcm
      rcases hcm with rfl | rfl | rfl
      all_goals exact ⟨_, rfl⟩
    obtain ⟨n, rfl⟩ := hn
    clear hcm
    obtain ⟨p0, p1, p2, p3, p4, p5⟩ := blk_cells5 (unhide M3)
    obtain ⟨q0, q1, q2, q3, q4, q5⟩ := blk_cells5 (unhide E3)
    go_wp2
    have hG := far5 (grown_far (unhide G3) (a := ⟨w1.heap.size, 3, none⟩) (by show w.heap.size ≤ w1.heap.size; omega) (.int .i64 n)) (Nat.le_refl _) (.int .i64 ai) (.int .i64 ar) (.int .i64 ab) (.int .i64 n) (.string ad)
    exact bodyPost_ret (v := .agg #[.int .i64 ai, .int .i64 ar, .int .i64 ab, .int .i64 n, .string ad]) (by simp [results, Try.results69, go_sem, p0, p1, p2, p3, p4]) rfl ⟨⟨_, _, _, _, _, rfl, unhide HN⟩, cur_far (unhide HC) (unhide C3) hG ((other5 (by omega)).trans (heap_setCell_other _ _ _ _ (by show g ≠ w1.heap.size; omega))), hG⟩
  have e3 : (x2 == 3) = false := by simpa using h3
  by_cases h4 : x2 = 4
  · subst h4
    obtain ⟨p0, p1, p2, p3, p4, p5⟩ := blk_cells5 (unhide M2)
    obtain ⟨q0, q1, q2, q3, q4, q5⟩ := blk_cells5 (unhide E2)
    go_wp2
    have hG := far5 (grown_far (unhide G2) (a := ⟨w1.heap.size, 4, none⟩) (by show w.heap.size ≤ w1.heap.size; omega) (.string ⟨#[49, 50, 51, 52, 53, 54, 55, 56, 57]⟩)) (Nat.le_refl _) (.int .i64 ai) (.int .i64 ar) (.int .i64 ab) (.int .i64 av) (.string ⟨#[49, 50, 51, 52, 53, 54, 55, 56, 57]⟩)
    exact bodyPost_ret (v := .agg #[.int .i64 ai, .int .i64 ar, .int .i64 ab, .int .i64 av, .string ⟨#[49, 50, 51, 52, 53, 54, 55, 56, 57]⟩]) (by simp [results, Try.results69, go_sem, p0, p1, p2, p3, p4]) rfl ⟨⟨_, _, _, _, _, rfl, by decide⟩, cur_far (unhide HC) (unhide C2) hG ((other5 (by omega)).trans (heap_setCell_other _ _ _ _ (by show g ≠ w1.heap.size; omega))), hG⟩
  have e4 : (x2 == 4) = false := by simpa using h4
  obtain ⟨p0, p1, p2, p3, p4, p5⟩ := blk_cells5 (unhide M2)
  obtain ⟨q0, q1, q2, q3, q4, q5⟩ := blk_cells5 (unhide E2)
  go_wp2
  have hG := far5 (unhide G2) (Nat.le_refl _) (.int .i64 ai) (.int .i64 ar) (.int .i64 ab) (.int .i64 av) (.string ad)
  exact bodyPost_ret (v := .agg #[.int .i64 ai, .int .i64 ar, .int .i64 ab, .int .i64 av, .string ad]) (by simp [results, Try.results69, go_sem, p0, p1, p2, p3, p4]) rfl ⟨⟨_, _, _, _, _, rfl, unhide HN⟩, cur_far (unhide HC) (unhide C2) hG (other5 (by omega)), hG⟩

end Go.Proofs.Ytjlocbimkfocnaa
