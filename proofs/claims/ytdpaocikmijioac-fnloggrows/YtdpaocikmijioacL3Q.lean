/-
  The cursor of the draws: what it draws is within its bounds, and nothing turns but the cursor itself. No statement is proved here.
  Small helpers of the draws. No statement is proved here.
  The draws of chapter 2: what is drawn are entries, with a text of at most nine bytes; nothing that was there turns but the cursor. No statement is proved here.
  A state that is drawn: what lies in memory while it is made. No statement is proved here.
  A log that is drawn: what lies in memory while it is made. No statement is proved here.
  spec.l3Right: some state of at most five items and floors, with short texts; the cursor goes on, nothing else turns. No statement is proved here.
  spec.l7Right: some log of at most five changes; the cursor goes on, nothing else turns. No statement is proved here.
  A drawn state is changed: an item or a floor is appended, an item is written. No statement is proved here.
-/
import Derived.Test.YtdpaocikmijioacBase
import Derived.WalkLawsBesides
import Derived.BigQuiet
import Derived.Deep.QuietTactic
import Derived.Test.YtdpaocikmijioacRegs
import Derived.Test.YtdpaocikmijioacStSg
import Derived.Test.YtdpaocikmijioacStBx
import Derived.Test.YtdpaocikmijioacVwP
import Derived.Deep.RegionWith
import Derived.Test.YtdpaocikmijioacApp2
import Derived.Deep.RegionLaw
namespace Go.Proofs.Ytdpaocikmijioac
open Go.RowKit

/-- The cursor at block g: over the bytes xs that the slice value v holds. -/
def Cur (w : World) (g : Nat) (v : Value) (xs : List Int) : Prop :=
  (∃ (i : Nat) (h : Int), w.heap[g]? = some (.cells #[v, .int .i64 i, .int .i64 h] 105 (0, 0)) ∧ i ≤ xs.length) ∧ Seg w v xs ∧ (xs = [] ∨ ∀ a n c, v = .slice (some a) n c → a.block ≠ g)

theorem and_255 (a : Int) : 0 ≤ bits BinOp.and IntKind.i64 a 255 ∧ bits BinOp.and IntKind.i64 a 255 ≤ 255 := by
  have e : bits BinOp.and IntKind.i64 a 255 = IntKind.i64.wrap (((BitVec.ofInt 64 a).toNat &&& 255 : Nat) : Int) := by
    show IntKind.i64.wrap ((BitVec.ofInt 64 a &&& BitVec.ofInt 64 255).toNat : Int) = _
    rw [BitVec.toNat_and]
    rfl
  have h : (BitVec.ofInt 64 a).toNat &&& 255 ≤ 255 := Nat.and_le_right
  rw [e, IntKind.wrap_i64]
  omega

theorem cell_at {w : World} {g : Nat} {c : Array Value} {T : TypeId} (h : w.heap[g]? = some (.cells c T (0, 0))) (j : Nat) : w.cell? ⟨g, j, none⟩ = c[j]? := by simp [World.cell?, h]
theorem free_at {w : World} {g : Nat} {c : Array Value} {T : TypeId} (h : w.heap[g]? = some (.cells c T (0, 0))) (j : Nat) : w.frozen? ⟨g, j, none⟩ = false := by simp [World.frozen?, h]

theorem Seg.grown {w w' : World} {v : Value} {xs : List Int} {g : Nat} (h : Seg w v xs) (hg : w.grownBy w' (some g)) (hne : xs = [] ∨ ∀ a n c, v = .slice (some a) n c → a.block ≠ g) : Seg w' v xs := by
  obtain ⟨a, cap, rfl, hcap, h⟩ := h
  refine ⟨a, cap, rfl, hcap, ?_⟩
  rcases h with h | ⟨b, off, rfl, hlt, hc⟩
  · exact .inl h
  · rcases hne with hne | hne
    · exact .inl hne
    have hb : b ≠ g := hne _ _ _ rfl
    exact .inr ⟨b, off, rfl, Nat.lt_of_lt_of_le hlt hg.size, fun i hi => (World.cell?_of_block (hg.block b hlt (by simpa using hb))).trans (hc i hi)⟩
theorem grown_set (w : World) (g j : Nat) (u : Value) : w.grownBy (w.setCell ⟨g, j, none⟩ u) (some g) :=
  ⟨rfl, rfl, rfl, by simp, fun k _ hk => heap_setCell_other w ⟨g, j, none⟩ k u (fun e => hk (by simp [e]))⟩
theorem grown_drewN {w w' : World} {r : Option Nat} (h : w.grownBy w' r) (n : Nat) : w.grownBy (w'.drewN n) r := ⟨h.os, h.tape, h.output, h.size, h.block⟩
theorem grown_trans {w w1 w2 : World} {r : Option Nat} (h : w.grownBy w1 r) (h' : w1.grownBy w2 r) : w.grownBy w2 r :=
  ⟨h'.os.trans h.os, h'.tape.trans h.tape, h'.output.trans h.output, Nat.le_trans h.size h'.size, fun k hk hr => (h'.block k (Nat.lt_of_lt_of_le hk h.size) hr).trans (h.block k hk hr)⟩

set_option maxHeartbeats 2000000 in
set_option maxRecDepth 100000 in
theorem byte_any (g : Nat) (v : Value) (xs : List Int) (w : World) (hlen : xs.length ≤ 1048576) (hbd : ∀ z ∈ xs, 0 ≤ z ∧ z ≤ 255) (hc : Cur w g v xs) :
    Calls Try.prog 101 #[.pointer (some ⟨g, 0, none⟩)] w fun e w' => (∃ x, e = .returned (.int .i64 x) ∧ 0 ≤ x ∧ x ≤ 255) ∧ Cur w' g v xs ∧ w.grownBy w' (some g) := by
  obtain ⟨⟨i, h, hg, hi⟩, hs, hne⟩ := hc
  have c0 : w.cell? ⟨g, 0, none⟩ = some v := cell_at hg 0
  have c1 : w.cell? ⟨g, 1, none⟩ = some (.int .i64 i) := cell_at hg 1
  have c2 : w.cell? ⟨g, 2, none⟩ = some (.int .i64 h) := cell_at hg 2
  have f1 := free_at hg 1
  have f2 := free_at hg 2
  have HG := hide hg
  have HS := hide hs
  obtain ⟨a, cap, rfl, hcap, hr⟩ := hs
  have HN := hide hne
  have HD := hide hbd
  clear hg hne hbd
  by_cases hlt : i < xs.length
  · rcases hr with hr | ⟨b, off, rfl, hbw, hc⟩
    · subst hr; simp at hlt
    · have hcx := hc i hlt
      have hb : ¬ b = g := by
        rcases unhide HN with hn | hn
        · subst hn; simp at hlt
        · exact hn _ _ _ rfl
      have hzb := unhide HD (xs.getD i 0) (by simp [hlt])
      generalize hz : xs.getD i 0 = z at hcx hzb
      have hdl : decide ((i : Int) < (xs.length : Int)) = true := by simp; omega
      clear hc hz
      go_enter Try.func101, Try.ntmps101
      go_wp2
      go_quiet (fail)
      go_wp2
      go_quiet (fail)
      go_wp2
      go_quiet (fail)
      go_wp2
      go_ret
      refine ⟨⟨_, rfl, and_255 _⟩, ?_⟩
      generalize wrap64 (wrap64 (h * 6364136223846793005) + 1442695040888963407) = h'
      have hgr := grown_drewN (grown_set w g 2 (.int .i64 h'))
      have hgr2 := fun n => grown_trans (hgr n) (grown_set _ g 1 (.int .i64 ((i : Int) + 1)))
      refine ⟨⟨⟨i + 1, h', ?_, by omega⟩, (unhide HS).grown (hgr2 _) (unhide HN), unhide HN⟩, hgr2 _⟩
      exact heap_setCell_same _ g 1 _ _ _ (heap_setCell_same w g 2 _ _ _ (unhide HG))
  · have hdl : decide ((i : Int) < (xs.length : Int)) = false := by simp; omega
    clear hr
    go_enter Try.func101, Try.ntmps101
    go_wp2
    go_quiet (fail)
    go_wp2
    go_quiet (fail)
    go_wp2
    go_ret
    refine ⟨⟨_, rfl, and_255 _⟩, ?_⟩
    generalize wrap64 (wrap64 (h * 6364136223846793005) + 1442695040888963407) = h'
    have hgr := grown_set w g 2 (.int .i64 h')
    refine ⟨⟨⟨i, h', ?_, hi⟩, (unhide HS).grown (grown_drewN (grown_drewN hgr _) _) (unhide HN), unhide HN⟩, grown_drewN (grown_drewN hgr _) _⟩
    exact heap_setCell_same w g 2 _ _ _ (unhide HG)

set_option maxHeartbeats 2000000 in
set_option maxRecDepth 100000 in
theorem below_any (g : Nat) (v : Value) (xs : List Int) (n : Int) (w : World) (hlen : xs.length ≤ 1048576) (hbd : ∀ z ∈ xs, 0 ≤ z ∧ z ≤ 255) (hn0 : 0 < n) (hn1 : n ≤ 4294967296) (hc : Cur w g v xs) :
    Calls Try.prog 78 #[.pointer (some ⟨g, 0, none⟩), .int .i64 n] w fun e w' => (∃ x, e = .returned (.int .i64 x) ∧ 0 ≤ x ∧ x < n) ∧ Cur w' g v xs ∧ w.grownBy w' (some g) := by
  have HC := hide hc
  have HD := hide hbd
  clear hc hbd
  by_cases hs : n ≤ 256
  · go_enter Try.func78, Try.ntmps78
    go_wp2_with fail
    refine (byte_any g v xs _ hlen (unhide HD) (unhide HC)).mono ?_
    rintro e w1 ⟨⟨x, rfl, hx0, hx1⟩, c1, g1⟩
    have C1 := hide c1
    have G1 := hide g1
    clear c1 g1
    go_wp2
    go_ret
    exact ⟨⟨_, rfl, Int.emod_nonneg _ (by omega), Int.emod_lt_of_pos _ hn0⟩, unhide C1, unhide G1⟩
  · go_enter Try.func78, Try.ntmps78
    go_wp2_with fail
    refine (byte_any g v xs _ hlen (unhide HD) (unhide HC)).mono ?_
    rintro e w1 ⟨⟨x, rfl, hx0, hx1⟩, c1, g1⟩
    have C1 := hide c1
    have G1 := hide g1
    clear c1 g1
    go_wp2_with fail
    refine (byte_any g v xs _ hlen (unhide HD) (unhide C1)).mono ?_
    rintro e w2 ⟨⟨y, rfl, hy0, hy1⟩, c2, g2⟩
    have C2 := hide c2
    have G2 := hide (grown_trans (unhide G1) g2)
    clear c2 g2
    go_wp2_with fail
    refine (byte_any g v xs _ hlen (unhide HD) (unhide C2)).mono ?_
    rintro e w3 ⟨⟨z, rfl, hz0, hz1⟩, c3, g3⟩
    have C3 := hide c3
    have G3 := hide (grown_trans (unhide G2) g3)
    clear c3 g3
    go_wp2_with fail
    refine (byte_any g v xs _ hlen (unhide HD) (unhide C3)).mono ?_
    rintro e w4 ⟨⟨t, rfl, ht0, ht1⟩, c4, g4⟩
    have C4 := hide c4
    have G4 := hide (grown_trans (unhide G3) g4)
    clear c4 g4
    go_wp2
    go_ret
    exact ⟨⟨_, rfl, Int.emod_nonneg _ (by omega), Int.emod_lt_of_pos _ hn0⟩, unhide C4, unhide G4⟩

set_option maxHeartbeats 2000000 in
set_option maxRecDepth 100000 in
theorem new_any (v : Value) (xs : List Int) (w : World) (hlen : xs.length ≤ 1048576) (hbd : ∀ z ∈ xs, 0 ≤ z ∧ z ≤ 255) (hv : Seg w v xs) :
    Calls Try.prog 38 #[v] w fun e w' => e = .returned (.pointer (some ⟨w.heap.size, 0, none⟩)) ∧ Cur w' w.heap.size v xs ∧ Below w.heap.size w w' ∧ w'.heap.size = w.heap.size + 1 := by
  have HS := hide hv
  obtain ⟨a, cap, rfl, hcap, hr⟩ := hv
  have HN := hide (show xs = [] ∨ ∀ b n c, Value.slice a xs.length cap = .slice (some b) n c → b.block ≠ w.heap.size from by
    rcases hr with hr | ⟨b', off, he', hlt, _⟩
    · exact .inl hr
    · right
      intro b n c he
      simp only [Value.slice.injEq] at he
      rw [he'] at he
      have := he.1
      simp only [Option.some.injEq] at this
      rw [← this]
      show b' ≠ _
      omega)
  have HD := hide hbd
  clear hbd
  rcases hr with hr | ⟨b, off, rfl, hbw, hc⟩
  · subst hr
    go_enter Try.func38, Try.ntmps38
    go_wp2
    go_loop [3, 4] (fun q i => ∃ (h : Int), i = .int .i64 0 ∧ q = .int .i64 h) (fun _ i => 0)
    case atStart => exact ⟨_, rfl, rfl⟩
    case round =>
      obtain ⟨h, rfl, rfl⟩ := hrel
      go_wp2
      go_ret
      have e1 : (w.alloc (.cells #[.slice a 0 cap, .int .i64 0, .int .i64 h] 105)).heap[w.heap.size]? = some (.cells #[.slice a 0 cap, .int .i64 0, .int .i64 h] 105 (0, 0)) := heap_alloc_new w _
      have b1 : Below w.heap.size w (w.alloc (.cells #[.slice a 0 cap, .int .i64 0, .int .i64 h] 105)) := (Below.refl _ _).alloc (Nat.le_refl _) _
      exact ⟨rfl, ⟨⟨0, h, e1, Nat.zero_le _⟩, (unhide HS).below b1 (Nat.le_refl _), .inl rfl⟩, b1, by simp⟩
  · have HC := hide hc
    clear hc
    go_enter Try.func38, Try.ntmps38
    go_wp2
    go_loop [3, 4] (fun q i => ∃ (k : Nat) (h : Int), k ≤ xs.length ∧ i = .int .i64 k ∧ q = .int .i64 h) (fun _ i => xs.length - (intOf i).toNat)
    case atStart => exact ⟨0, _, Nat.zero_le _, rfl, rfl⟩
    case round =>
      obtain ⟨k, h, hk, rfl, rfl⟩ := hrel
      by_cases hl1 : k < xs.length
      · have hd1 : decide ((k : Int) < (xs.length : Int)) = true := by simp; omega
        by_cases hl2 : k < 4000
        · have hcx := unhide HC k hl1
          have hzb := unhide HD (xs.getD k 0) (by simp [hl1])
          generalize hz : xs.getD k 0 = z at hcx hzb
          have hd2 : decide ((k : Int) < 4000) = true := by simp; omega
          clear hz
          go_wp2
          go_round
          case rel => exact ⟨k + 1, _, by omega, by go_num, rfl⟩
          case measure => simp [intOf]; omega
        · have hd2 : decide ((k : Int) < 4000) = false := by simp; omega
          go_wp2
          go_ret
          have e1 : (w.alloc (.cells #[.slice (some ⟨b, off, none⟩) xs.length cap, .int .i64 0, .int .i64 h] 105)).heap[w.heap.size]? = some (.cells #[.slice (some ⟨b, off, none⟩) xs.length cap, .int .i64 0, .int .i64 h] 105 (0, 0)) := heap_alloc_new w _
          have b1 : Below w.heap.size w (w.alloc (.cells #[.slice (some ⟨b, off, none⟩) xs.length cap, .int .i64 0, .int .i64 h] 105)) := (Below.refl _ _).alloc (Nat.le_refl _) _
          exact ⟨rfl, ⟨⟨0, h, e1, Nat.zero_le _⟩, (unhide HS).below b1 (Nat.le_refl _), unhide HN⟩, b1, by simp⟩
      · have hd1 : decide ((k : Int) < (xs.length : Int)) = false := by simp; omega
        go_wp2
        go_ret
        have e1 : (w.alloc (.cells #[.slice (some ⟨b, off, none⟩) xs.length cap, .int .i64 0, .int .i64 h] 105)).heap[w.heap.size]? = some (.cells #[.slice (some ⟨b, off, none⟩) xs.length cap, .int .i64 0, .int .i64 h] 105 (0, 0)) := heap_alloc_new w _
        have b1 : Below w.heap.size w (w.alloc (.cells #[.slice (some ⟨b, off, none⟩) xs.length cap, .int .i64 0, .int .i64 h] 105)) := (Below.refl _ _).alloc (Nat.le_refl _) _
        exact ⟨rfl, ⟨⟨0, h, e1, Nat.zero_le _⟩, (unhide HS).below b1 (Nat.le_refl _), unhide HN⟩, b1, by simp⟩

set_option maxHeartbeats 2000000 in
set_option maxRecDepth 100000 in
theorem pickint_any (g : Nat) (v : Value) (xs : List Int) (u : Value) (cs : List Value) (w : World) (hlen : xs.length ≤ 1048576) (hbd : ∀ z ∈ xs, 0 ≤ z ∧ z ≤ 255) (hc : Cur w g v xs) (hu : SegV w u cs) (hne : ∀ a n c, u = .slice (some a) n c → a.block ≠ g) (h0 : 0 < cs.length) (h1 : cs.length ≤ 1000) :
    Calls Try.prog 79 #[.pointer (some ⟨g, 0, none⟩), u] w fun e w' => (∃ c, c ∈ cs ∧ e = .returned c) ∧ Cur w' g v xs ∧ w.grownBy w' (some g) := by
  obtain ⟨a, cap, rfl, hcap, hr⟩ := hu
  rcases hr with hr | ⟨b, off, rfl, hbw, hcell⟩
  · subst hr; simp at h0
  · have HE := hide hcell
    have hbg : b ≠ g := hne _ _ _ rfl
    have HC := hide hc
    have HD := hide hbd
    clear hcell hne hc hbd
    go_enter Try.func79, Try.ntmps79
    go_wp2_with fail
    refine (below_any g v xs _ _ hlen (unhide HD) (by omega) (by omega) (unhide HC)).mono ?_
    rintro e w1 ⟨⟨x, rfl, hx0, hx1⟩, c1, g1⟩
    have C1 := hide c1
    have G1 := hide g1
    obtain ⟨j, rfl⟩ := Int.eq_ofNat_of_zero_le hx0
    have hj : j < cs.length := by omega
    have hcx : w1.cell? ⟨b, off + j, none⟩ = some cs[j] := by
      rw [World.cell?_of_block (w := w) (a := ⟨b, off + j, none⟩) (g1.block b hbw (by simpa using hbg)), unhide HE j hj, List.getElem?_eq_getElem hj]
    have HM := hide (List.getElem_mem hj)
    generalize hz : cs[j] = z at hcx HM
    clear c1 g1 hz
    go_wp2
    go_ret
    exact ⟨⟨z, unhide HM, rfl⟩, unhide C1, unhide G1⟩

set_option maxHeartbeats 2000000 in
set_option maxRecDepth 100000 in
theorem pick_any (g : Nat) (v : Value) (xs : List Int) (u : Value) (cs : List Value) (w : World) (hlen : xs.length ≤ 1048576) (hbd : ∀ z ∈ xs, 0 ≤ z ∧ z ≤ 255) (hc : Cur w g v xs) (hu : SegV w u cs) (hne : ∀ a n c, u = .slice (some a) n c → a.block ≠ g) (h0 : 0 < cs.length) (h1 : cs.length ≤ 1000) :
    Calls Try.prog 109 #[.pointer (some ⟨g, 0, none⟩), u] w fun e w' => (∃ c, c ∈ cs ∧ e = .returned c) ∧ Cur w' g v xs ∧ w.grownBy w' (some g) := by
  obtain ⟨a, cap, rfl, hcap, hr⟩ := hu
  rcases hr with hr | ⟨b, off, rfl, hbw, hcell⟩
  · subst hr; simp at h0
  · have HE := hide hcell
    have hbg : b ≠ g := hne _ _ _ rfl
    have HC := hide hc
    have HD := hide hbd
    clear hcell hne hc hbd
    go_enter Try.func109, Try.ntmps109
    go_wp2_with fail
    refine (below_any g v xs _ _ hlen (unhide HD) (by omega) (by omega) (unhide HC)).mono ?_
    rintro e w1 ⟨⟨x, rfl, hx0, hx1⟩, c1, g1⟩
    have C1 := hide c1
    have G1 := hide g1
    obtain ⟨j, rfl⟩ := Int.eq_ofNat_of_zero_le hx0
    have hj : j < cs.length := by omega
    have hcx : w1.cell? ⟨b, off + j, none⟩ = some cs[j] := by
      rw [World.cell?_of_block (w := w) (a := ⟨b, off + j, none⟩) (g1.block b hbw (by simpa using hbg)), unhide HE j hj, List.getElem?_eq_getElem hj]
    have HM := hide (List.getElem_mem hj)
    generalize hz : cs[j] = z at hcx HM
    clear c1 g1 hz
    go_wp2
    go_ret
    exact ⟨⟨z, unhide HM, rfl⟩, unhide C1, unhide G1⟩
end Go.Proofs.Ytdpaocikmijioac

namespace Go.Proofs.Ytdpaocikmijioac
open Go.RowKit

theorem Cur.later {w w' : World} {g : Nat} {v : Value} {xs : List Int} (h : Cur w g v xs) {B : Nat} (hb : Below B w w') (hB : w.heap.size ≤ B) : Cur w' g v xs := by
  obtain ⟨⟨i, k, hg, hi⟩, hs, hn⟩ := h
  have hlt : g < w.heap.size := (Array.getElem?_eq_some_iff.1 hg).1
  exact ⟨⟨i, k, (hb.block g (by omega)).trans hg, hi⟩, hs.below hb hB, hn⟩
theorem seg_new (w : World) (e : TypeId) (cs : List Value) (n : Nat) (hn : cs.length = n) (h : n ≤ 1000) : SegV (w.alloc (.cells cs.toArray e)) (.slice (some ⟨w.heap.size, 0, none⟩) n n) cs :=
  segv_of_owns (World.ownsRow_lit (base := 0) (size := 1) w cs.toArray n (Nat.zero_le _) (by unfold maxLen; omega) (by simp; omega))
/-- The block that was laid behind the cursor is not the cursor's. -/
theorem not_cur {w w1 : World} (h : w1.heap.size = w.heap.size + 1) (n c : Nat) : ∀ a n' c', Value.slice (some ⟨w1.heap.size, 0, none⟩) n c = .slice (some a) n' c' → a.block ≠ w.heap.size := by
  intro a n' c' he
  simp only [Value.slice.injEq, Option.some.injEq] at he
  rw [← he.1]
  show w1.heap.size ≠ w.heap.size
  omega

theorem below_cur {w w1 w2 : World} {o : Obj} (b1 : Below w.heap.size w w1) (hg : (w1.alloc o).grownBy w2 (some w.heap.size)) : Below w.heap.size w w2 :=
  (b1.alloc b1.size o).grown hg (by have := b1.size; simp; omega) (fun k hk => by simp at hk; omega)

theorem big_no (a : Option Addr) (n cap : Nat) (w : World) (h : ¬ 1048576 < n) : Calls Try.prog 9 #[.slice a n cap] w fun e w' => e = .returned (.bool false) ∧ w = w' := by
  have hd : decide (1048576 < (n : Int)) = false := by simp; omega
  go_enter Try.func9, Try.ntmps9
  go_wp2
  go_ret
  exact ⟨by rw [← hd]; rfl, rfl⟩
end Go.Proofs.Ytdpaocikmijioac

namespace Go.Proofs.Ytdpaocikmijioac
open Go.RowKit

theorem grown_alloc (w : World) (o : Obj) (r : Option Nat) : w.grownBy (w.alloc o) r := ⟨rfl, rfl, rfl, by simp, fun k hk _ => Below.heap_alloc w o k hk⟩
theorem grown_far {w W : World} {r : Option Nat} (h : w.grownBy W r) {a : Addr} (ha : w.heap.size ≤ a.block) (v : Value) : w.grownBy (W.setCell a v) r :=
  ⟨h.os, h.tape, h.output, by simpa using h.size, fun k hk hr => (Below.heap_setCell W a v k (by omega)).trans (h.block k hk hr)⟩
theorem cur_alloc {w : World} {g : Nat} {v : Value} {xs : List Int} (h : Cur w g v xs) (o : Obj) : Cur (w.alloc o) g v xs := h.later ((Below.refl w.heap.size w).alloc (Nat.le_refl _) o) (Nat.le_refl _)
theorem cur_lt {w : World} {g : Nat} {v : Value} {xs : List Int} (h : Cur w g v xs) : g < w.heap.size := by
  obtain ⟨⟨i, k, hg, _⟩, _⟩ := h
  exact (Array.getElem?_eq_some_iff.1 hg).1
/-- Another block than the cursor's is as it was. -/
theorem blk_grown {w w' : World} {g r : Nat} {o : Obj} (h : w.grownBy w' (some g)) (hr : w.heap[r]? = some o) (hne : r ≠ g) : w'.heap[r]? = some o :=
  (h.block r (Array.getElem?_eq_some_iff.1 hr).1 (by simpa using hne)).trans hr

theorem far5 {w W : World} {g : Option Nat} {r : Nat} (h : w.grownBy W g) (hr : w.heap.size ≤ r) (v0 v1 v2 v3 v4 : Value) : w.grownBy (((((W.setCell ⟨r, 0, none⟩ v0).setCell ⟨r, 1, none⟩ v1).setCell ⟨r, 2, none⟩ v2).setCell ⟨r, 3, none⟩ v3).setCell ⟨r, 4, none⟩ v4) g :=
  grown_far (grown_far (grown_far (grown_far (grown_far h (a := ⟨r, 0, none⟩) hr v0) (a := ⟨r, 1, none⟩) hr v1) (a := ⟨r, 2, none⟩) hr v2) (a := ⟨r, 3, none⟩) hr v3) (a := ⟨r, 4, none⟩) hr v4
theorem other5 {W : World} {r k : Nat} {v0 v1 v2 v3 v4 : Value} (hne : k ≠ r) : (((((W.setCell ⟨r, 0, none⟩ v0).setCell ⟨r, 1, none⟩ v1).setCell ⟨r, 2, none⟩ v2).setCell ⟨r, 3, none⟩ v3).setCell ⟨r, 4, none⟩ v4).heap[k]? = W.heap[k]? := by
  rw [heap_setCell_other _ _ _ _ hne, heap_setCell_other _ _ _ _ hne, heap_setCell_other _ _ _ _ hne, heap_setCell_other _ _ _ _ hne, heap_setCell_other _ _ _ _ hne]
theorem cur_far {w w5 W : World} {g : Nat} {v : Value} {xs : List Int} (h0 : Cur w g v xs) (h5 : Cur w5 g v xs) (hg : w.grownBy W (some g)) (he : W.heap[g]? = w5.heap[g]?) : Cur W g v xs := by
  obtain ⟨⟨i, k, e, hi⟩, _⟩ := h5
  exact ⟨⟨i, k, he.trans e, hi⟩, h0.2.1.grown hg h0.2.2, h0.2.2⟩
theorem ne_new {g k : Nat} (h : g < k) (n c : Nat) : ∀ a n' c', Value.slice (some ⟨k, 0, none⟩) n c = .slice (some a) n' c' → a.block ≠ g := by
  intro a n' c' e
  simp only [Value.slice.injEq, Option.some.injEq] at e
  rw [← e.1]
  show k ≠ g
  omega

set_option maxHeartbeats 4000000 in
set_option maxRecDepth 100000 in
theorem right_any (g : Nat) (v : Value) (xs : List Int) (w : World) (hlen : xs.length ≤ 1048576) (hbd : ∀ z ∈ xs, 0 ≤ z ∧ z ≤ 255) (hc : Cur w g v xs) :
    Calls Try.prog 100 #[.pointer (some ⟨g, 0, none⟩)] w fun e w' => (∃ ai ar ab av ad, e = .returned (.agg #[.int .i64 ai, .int .i64 ar, .int .i64 ab, .int .i64 av, .string ad]) ∧ ad.size ≤ 9) ∧ Cur w' g v xs ∧ w.grownBy w' (some g) := by
  have HD := hide hbd
  have HC := hide hc
  have hlt := cur_lt hc
  have C0 := hide (cur_alloc hc (.cells #[.int .i64 0, .int .i64 0, .int .i64 0, .int .i64 0, .string ⟨#[]⟩] 55))
  have M0 := hide (heap_alloc_new w (.cells #[.int .i64 0, .int .i64 0, .int .i64 0, .int .i64 0, .string ⟨#[]⟩] 55))
  have G0 := hide (grown_alloc w (.cells #[.int .i64 0, .int .i64 0, .int .i64 0, .int .i64 0, .string ⟨#[]⟩] 55) (some g))
  clear hbd hc
  go_enter Try.func100, Try.ntmps100
  go_wp2_with fail
  refine (below_any g v xs 3 _ hlen (unhide HD) (by omega) (by omega) (unhide C0)).mono ?_
  rintro e w1 ⟨⟨x1, rfl, x1a, x1b⟩, c1, g1⟩
  have C1 := hide c1
  have hs1 := g1.size
  simp only [World.size_alloc] at hs1
  have M1 := hide (blk_grown g1 (unhide M0) (by omega))
  have G1 := hide (grown_trans (unhide G0) g1)
  clear c1 g1 C0 M0 G0
  go_wp2_with fail
  refine (below_any g v xs 2 _ hlen (unhide HD) (by omega) (by omega) (unhide C1)).mono ?_
  rintro e w2 ⟨⟨x2, rfl, x2a, x2b⟩, c2, g2⟩
  have C2 := hide c2
  have hs2 := g2.size
  have M2 := hide (blk_grown g2 (unhide M1) (by omega))
  have G2 := hide (grown_trans (unhide G1) g2)
  clear c2 g2 C1 M1 G1
  go_wp2_with fail
  refine (below_any g v xs 3 _ hlen (unhide HD) (by omega) (by omega) (unhide C2)).mono ?_
  rintro e w3 ⟨⟨x3, rfl, x3a, x3b⟩, c3, g3⟩
  have C3 := hide c3
  have hs3 := g3.size
  have M3 := hide (blk_grown g3 (unhide M2) (by omega))
  have G3 := hide (grown_trans (unhide G2) g3)
  clear c3 g3 C2 M2 G2
  go_wp2_with fail
  refine (below_any g v xs 3 _ hlen (unhide HD) (by omega) (by omega) (unhide C3)).mono ?_
  rintro e w4 ⟨⟨x4, rfl, x4a, x4b⟩, c4, g4⟩
  have C4 := hide c4
  have hs4 := g4.size
  have M4 := hide (blk_grown g4 (unhide M3) (by omega))
  have G4 := hide (grown_trans (unhide G3) g4)
  clear c4 g4 C3 M3 G3
  go_wp2_with fail
  have SG := hide (seg_new w4 9 [.string ⟨#[]⟩, .string ⟨#[97]⟩, .string ⟨#[98]⟩, .string ⟨#[97, 98]⟩, .string ⟨#[49, 50, 51, 52, 53, 54, 55, 56]⟩] 5 rfl (by decide))
  refine (pick_any g v xs (.slice (some ⟨w4.heap.size, 0, none⟩) 5 5) [.string ⟨#[]⟩, .string ⟨#[97]⟩, .string ⟨#[98]⟩, .string ⟨#[97, 98]⟩, .string ⟨#[49, 50, 51, 52, 53, 54, 55, 56]⟩] (w4.alloc (.cells ([.string ⟨#[]⟩, .string ⟨#[97]⟩, .string ⟨#[98]⟩, .string ⟨#[97, 98]⟩, .string ⟨#[49, 50, 51, 52, 53, 54, 55, 56]⟩] : List Value).toArray 9)) hlen (unhide HD) (cur_alloc (unhide C4) _) (unhide SG) (ne_new (by omega) _ _) (by decide) (by decide)).mono ?_
  rintro e w5 ⟨⟨c, hcm, rfl⟩, c5, g5⟩
  have C5 := hide c5
  have hs5 := g5.size
  simp only [World.size_alloc] at hs5
  have M5 := hide (blk_grown g5 ((Below.heap_alloc _ _ _ (by omega)).trans (unhide M4)) (by omega))
  have G5 := hide (grown_trans (grown_trans (unhide G4) (grown_alloc _ _ _)) g5)
  clear c5 g5 C4 M4 G4 SG
  have hn : ∃ d, c = .string d ∧ d.size ≤ 9 := by
    simp only [List.mem_cons, List.not_mem_nil, or_false] at hcm
    rcases hcm with rfl | rfl | rfl | rfl | rfl
    all_goals exact ⟨_, rfl, by decide⟩
  obtain ⟨d, rfl, hd9⟩ := hn
  have HN := hide hd9
  obtain ⟨p0, p1, p2, p3, p4, p5⟩ := blk_cells5 (unhide M5)
  clear hcm hd9
  go_wp2
  have hG := far5 (unhide G5) (Nat.le_refl _) (.int .i64 (1 + x1)) (.int .i64 x2) (.int .i64 x3) (.int .i64 x4) (.string d)
  exact bodyPost_ret (v := .agg #[.int .i64 (1 + x1), .int .i64 x2, .int .i64 x3, .int .i64 x4, .string d]) (by simp [results, Try.results100, go_sem, p0, p1, p2, p3, p4]) rfl ⟨⟨_, _, _, _, _, rfl, unhide HN⟩, cur_far (unhide HC) (unhide C5) hG (other5 (by omega)), hG⟩

set_option maxHeartbeats 4000000 in
set_option maxRecDepth 100000 in
theorem draw_any (g : Nat) (v : Value) (xs : List Int) (w : World) (hlen : xs.length ≤ 1048576) (hbd : ∀ z ∈ xs, 0 ≤ z ∧ z ≤ 255) (hc : Cur w g v xs) :
    Calls Try.prog 81 #[.pointer (some ⟨g, 0, none⟩)] w fun e w' => (∃ ai ar ab av ad, e = .returned (.agg #[.int .i64 ai, .int .i64 ar, .int .i64 ab, .int .i64 av, .string ad]) ∧ ad.size ≤ 9) ∧ Cur w' g v xs ∧ w.grownBy w' (some g) := by
  have HD := hide hbd
  have HC := hide hc
  have hlt := cur_lt hc
  have C0 := hide (cur_alloc hc (.cells #[.int .i64 0, .int .i64 0, .int .i64 0, .int .i64 0, .string ⟨#[]⟩] 55))
  have M0 := hide (heap_alloc_new w (.cells #[.int .i64 0, .int .i64 0, .int .i64 0, .int .i64 0, .string ⟨#[]⟩] 55))
  have G0 := hide (grown_alloc w (.cells #[.int .i64 0, .int .i64 0, .int .i64 0, .int .i64 0, .string ⟨#[]⟩] 55) (some g))
  clear hbd hc
  go_enter Try.func81, Try.ntmps81
  go_wp2_with fail
  refine (right_any g v xs _ hlen (unhide HD) (unhide C0)).mono ?_
  rintro e w1 ⟨⟨ai, ar, ab, av, ad, rfl, hd9⟩, c1, g1⟩
  have hs1 := g1.size
  simp only [World.size_alloc] at hs1
  have HN := hide hd9
  have C1 := hide (cur_alloc c1 (.cells #[.int .i64 ai, .int .i64 ar, .int .i64 ab, .int .i64 av, .string ad] 55))
  have M1 := hide ((Below.heap_alloc w1 (.cells #[.int .i64 ai, .int .i64 ar, .int .i64 ab, .int .i64 av, .string ad] 55) _ (by omega)).trans (blk_grown g1 (unhide M0) (by omega)))
  have E1 := hide (heap_alloc_new w1 (.cells #[.int .i64 ai, .int .i64 ar, .int .i64 ab, .int .i64 av, .string ad] 55))
  have G1 := hide (grown_trans (grown_trans (unhide G0) g1) (grown_alloc w1 (.cells #[.int .i64 ai, .int .i64 ar, .int .i64 ab, .int .i64 av, .string ad] 55) (some g)))
  clear c1 g1 C0 M0 G0 hd9
  go_wp2_with fail
  refine (below_any g v xs 14 _ hlen (unhide HD) (by omega) (by omega) (unhide C1)).mono ?_
  rintro e w2 ⟨⟨x2, rfl, x2a, x2b⟩, c2, g2⟩
  have C2 := hide c2
  have hs2 := g2.size
  simp only [World.size_alloc] at hs2
  have M2 := hide (blk_grown g2 (unhide M1) (by omega))
  have E2 := hide (blk_grown g2 (unhide E1) (by omega))
  have G2 := hide (grown_trans (unhide G1) g2)
  clear c2 g2 C1 M1 E1 G1
  by_cases h0 : x2 = 0
  · subst h0
    go_wp2_with fail
    have SG := hide (seg_new w2 3 [.int .i64 0, .int .i64 1000, .int .i64 1001, .int .i64 (-1)] 4 rfl (by decide))
    refine (pickint_any g v xs (.slice (some ⟨w2.heap.size, 0, none⟩) 4 4) [.int .i64 0, .int .i64 1000, .int .i64 1001, .int .i64 (-1)] (w2.alloc (.cells ([.int .i64 0, .int .i64 1000, .int .i64 1001, .int .i64 (-1)] : List Value).toArray 3)) hlen (unhide HD) (cur_alloc (unhide C2) _) (unhide SG) (ne_new (by omega) _ _) (by decide) (by decide)).mono ?_
    rintro e w3 ⟨⟨c, hcm, rfl⟩, c3, g3⟩
    have C3 := hide c3
    have hs3 := g3.size
    simp only [World.size_alloc] at hs3
    have M3 := hide (blk_grown g3 ((Below.heap_alloc _ _ _ (by omega)).trans (unhide M2)) (by omega))
    have E3 := hide (blk_grown g3 ((Below.heap_alloc _ _ _ (by omega)).trans (unhide E2)) (by omega))
    have G3 := hide (grown_trans (grown_trans (unhide G2) (grown_alloc _ _ _)) g3)
    clear c3 g3 C2 M2 E2 G2 SG
    have hn : ∃ n, c = .int .i64 n := by
      simp only [List.mem_cons, List.not_mem_nil, or_false] at hcm
      rcases hcm with rfl | rfl | rfl | rfl
      all_goals exact ⟨_, rfl⟩
    obtain ⟨n, rfl⟩ := hn
    clear hcm
    obtain ⟨p0, p1, p2, p3, p4, p5⟩ := blk_cells5 (unhide M3)
    obtain ⟨q0, q1, q2, q3, q4, q5⟩ := blk_cells5 (unhide E3)
    go_wp2
    have hG := far5 (grown_far (unhide G3) (a := ⟨w1.heap.size, 0, none⟩) (by show w.heap.size ≤ w1.heap.size; omega) (.int .i64 n)) (Nat.le_refl _) (.int .i64 n) (.int .i64 ar) (.int .i64 ab) (.int .i64 av) (.string ad)
    exact bodyPost_ret (v := .agg #[.int .i64 n, .int .i64 ar, .int .i64 ab, .int .i64 av, .string ad]) (by simp [results, Try.results81, go_sem, p0, p1, p2, p3, p4]) rfl ⟨⟨_, _, _, _, _, rfl, unhide HN⟩, cur_far (unhide HC) (unhide C3) hG ((other5 (by omega)).trans (heap_setCell_other _ _ _ _ (by show g ≠ w1.heap.size; omega))), hG⟩
  have e0 : (x2 == 0) = false := by simpa using h0
  by_cases h1 : x2 = 1
  · subst h1
    go_wp2_with fail
    have SG := hide (seg_new w2 3 [.int .i64 (-1), .int .i64 2] 2 rfl (by decide))
    refine (pickint_any g v xs (.slice (some ⟨w2.heap.size, 0, none⟩) 2 2) [.int .i64 (-1), .int .i64 2] (w2.alloc (.cells ([.int .i64 (-1), .int .i64 2] : List Value).toArray 3)) hlen (unhide HD) (cur_alloc (unhide C2) _) (unhide SG) (ne_new (by omega) _ _) (by decide) (by decide)).mono ?_
    rintro e w3 ⟨⟨c, hcm, rfl⟩, c3, g3⟩
    have C3 := hide c3
    have hs3 := g3.size
    simp only [World.size_alloc] at hs3
    have M3 := hide (blk_grown g3 ((Below.heap_alloc _ _ _ (by omega)).trans (unhide M2)) (by omega))
    have E3 := hide (blk_grown g3 ((Below.heap_alloc _ _ _ (by omega)).trans (unhide E2)) (by omega))
    have G3 := hide (grown_trans (grown_trans (unhide G2) (grown_alloc _ _ _)) g3)
    clear c3 g3 C2 M2 E2 G2 SG
    have hn : ∃ n, c = .int .i64 n := by
      simp only [List.mem_cons, List.not_mem_nil, or_false] at hcm
      rcases hcm with rfl | rfl
      all_goals exact ⟨_, rfl⟩
    obtain ⟨n, rfl⟩ := hn
    clear hcm
    obtain ⟨p0, p1, p2, p3, p4, p5⟩ := blk_cells5 (unhide M3)
    obtain ⟨q0, q1, q2, q3, q4, q5⟩ := blk_cells5 (unhide E3)
    go_wp2
    have hG := far5 (grown_far (unhide G3) (a := ⟨w1.heap.size, 1, none⟩) (by show w.heap.size ≤ w1.heap.size; omega) (.int .i64 n)) (Nat.le_refl _) (.int .i64 ai) (.int .i64 n) (.int .i64 ab) (.int .i64 av) (.string ad)
    exact bodyPost_ret (v := .agg #[.int .i64 ai, .int .i64 n, .int .i64 ab, .int .i64 av, .string ad]) (by simp [results, Try.results81, go_sem, p0, p1, p2, p3, p4]) rfl ⟨⟨_, _, _, _, _, rfl, unhide HN⟩, cur_far (unhide HC) (unhide C3) hG ((other5 (by omega)).trans (heap_setCell_other _ _ _ _ (by show g ≠ w1.heap.size; omega))), hG⟩
  have e1 : (x2 == 1) = false := by simpa using h1
  by_cases h2 : x2 = 2
  · subst h2
    go_wp2_with fail
    have SG := hide (seg_new w2 3 [.int .i64 (-1), .int .i64 100000, .int .i64 100001] 3 rfl (by decide))
    refine (pickint_any g v xs (.slice (some ⟨w2.heap.size, 0, none⟩) 3 3) [.int .i64 (-1), .int .i64 100000, .int .i64 100001] (w2.alloc (.cells ([.int .i64 (-1), .int .i64 100000, .int .i64 100001] : List Value).toArray 3)) hlen (unhide HD) (cur_alloc (unhide C2) _) (unhide SG) (ne_new (by omega) _ _) (by decide) (by decide)).mono ?_
    rintro e w3 ⟨⟨c, hcm, rfl⟩, c3, g3⟩
    have C3 := hide c3
    have hs3 := g3.size
    simp only [World.size_alloc] at hs3
    have M3 := hide (blk_grown g3 ((Below.heap_alloc _ _ _ (by omega)).trans (unhide M2)) (by omega))
    have E3 := hide (blk_grown g3 ((Below.heap_alloc _ _ _ (by omega)).trans (unhide E2)) (by omega))
    have G3 := hide (grown_trans (grown_trans (unhide G2) (grown_alloc _ _ _)) g3)
    clear c3 g3 C2 M2 E2 G2 SG
    have hn : ∃ n, c = .int .i64 n := by
      simp only [List.mem_cons, List.not_mem_nil, or_false] at hcm
      rcases hcm with rfl | rfl | rfl
      all_goals exact ⟨_, rfl⟩
    obtain ⟨n, rfl⟩ := hn
    clear hcm
    obtain ⟨p0, p1, p2, p3, p4, p5⟩ := blk_cells5 (unhide M3)
    obtain ⟨q0, q1, q2, q3, q4, q5⟩ := blk_cells5 (unhide E3)
    go_wp2
    have hG := far5 (grown_far (unhide G3) (a := ⟨w1.heap.size, 2, none⟩) (by show w.heap.size ≤ w1.heap.size; omega) (.int .i64 n)) (Nat.le_refl _) (.int .i64 ai) (.int .i64 ar) (.int .i64 n) (.int .i64 av) (.string ad)
    exact bodyPost_ret (v := .agg #[.int .i64 ai, .int .i64 ar, .int .i64 n, .int .i64 av, .string ad]) (by simp [results, Try.results81, go_sem, p0, p1, p2, p3, p4]) rfl ⟨⟨_, _, _, _, _, rfl, unhide HN⟩, cur_far (unhide HC) (unhide C3) hG ((other5 (by omega)).trans (heap_setCell_other _ _ _ _ (by show g ≠ w1.heap.size; omega))), hG⟩
  have e2 : (x2 == 2) = false := by simpa using h2
  by_cases h3 : x2 = 3
  · subst h3
    go_wp2_with fail
    have SG := hide (seg_new w2 3 [.int .i64 (-1), .int .i64 1000, .int .i64 1001] 3 rfl (by decide))
    refine (pickint_any g v xs (.slice (some ⟨w2.heap.size, 0, none⟩) 3 3) [.int .i64 (-1), .int .i64 1000, .int .i64 1001] (w2.alloc (.cells ([.int .i64 (-1), .int .i64 1000, .int .i64 1001] : List Value).toArray 3)) hlen (unhide HD) (cur_alloc (unhide C2) _) (unhide SG) (ne_new (by omega) _ _) (by decide) (by decide)).mono ?_
    rintro e w3 ⟨⟨c, hcm, rfl⟩, c3, g3⟩
    have C3 := hide c3
    have hs3 := g3.size
    simp only [World.size_alloc] at hs3
    have M3 := hide (blk_grown g3 ((Below.heap_alloc _ _ _ (by omega)).trans (unhide M2)) (by omega))
    have E3 := hide (blk_grown g3 ((Below.heap_alloc _ _ _ (by omega)).trans (unhide E2)) (by omega))
    have G3 := hide (grown_trans (grown_trans (unhide G2) (grown_alloc _ _ _)) g3)
    clear c3 g3 C2 M2 E2 G2 SG
    have hn : ∃ n, c = .int .i64 n := by
      simp only [List.mem_cons, List.not_mem_nil, or_false] at hcm
      rcases hcm with rfl | rfl | rfl
      all_goals exact ⟨_, rfl⟩
    obtain ⟨n, rfl⟩ := hn
    clear hcm
    obtain ⟨p0, p1, p2, p3, p4, p5⟩ := blk_cells5 (unhide M3)
    obtain ⟨q0, q1, q2, q3, q4, q5⟩ := blk_cells5 (unhide E3)
    go_wp2
    have hG := far5 (grown_far (unhide G3) (a := ⟨w1.heap.size, 3, none⟩) (by show w.heap.size ≤ w1.heap.size; omega) (.int .i64 n)) (Nat.le_refl _) (.int .i64 ai) (.int .i64 ar) (.int .i64 ab) (.int .i64 n) (.string ad)
    exact bodyPost_ret (v := .agg #[.int .i64 ai, .int .i64 ar, .int .i64 ab, .int .i64 n, .string ad]) (by simp [results, Try.results81, go_sem, p0, p1, p2, p3, p4]) rfl ⟨⟨_, _, _, _, _, rfl, unhide HN⟩, cur_far (unhide HC) (unhide C3) hG ((other5 (by omega)).trans (heap_setCell_other _ _ _ _ (by show g ≠ w1.heap.size; omega))), hG⟩
  have e3 : (x2 == 3) = false := by simpa using h3
  by_cases h4 : x2 = 4
  · subst h4
    obtain ⟨p0, p1, p2, p3, p4, p5⟩ := blk_cells5 (unhide M2)
    obtain ⟨q0, q1, q2, q3, q4, q5⟩ := blk_cells5 (unhide E2)
    go_wp2
    have hG := far5 (grown_far (unhide G2) (a := ⟨w1.heap.size, 4, none⟩) (by show w.heap.size ≤ w1.heap.size; omega) (.string ⟨#[49, 50, 51, 52, 53, 54, 55, 56, 57]⟩)) (Nat.le_refl _) (.int .i64 ai) (.int .i64 ar) (.int .i64 ab) (.int .i64 av) (.string ⟨#[49, 50, 51, 52, 53, 54, 55, 56, 57]⟩)
    exact bodyPost_ret (v := .agg #[.int .i64 ai, .int .i64 ar, .int .i64 ab, .int .i64 av, .string ⟨#[49, 50, 51, 52, 53, 54, 55, 56, 57]⟩]) (by simp [results, Try.results81, go_sem, p0, p1, p2, p3, p4]) rfl ⟨⟨_, _, _, _, _, rfl, by decide⟩, cur_far (unhide HC) (unhide C2) hG ((other5 (by omega)).trans (heap_setCell_other _ _ _ _ (by show g ≠ w1.heap.size; omega))), hG⟩
  have e4 : (x2 == 4) = false := by simpa using h4
  obtain ⟨p0, p1, p2, p3, p4, p5⟩ := blk_cells5 (unhide M2)
  obtain ⟨q0, q1, q2, q3, q4, q5⟩ := blk_cells5 (unhide E2)
  go_wp2
  have hG := far5 (unhide G2) (Nat.le_refl _) (.int .i64 ai) (.int .i64 ar) (.int .i64 ab) (.int .i64 av) (.string ad)
  exact bodyPost_ret (v := .agg #[.int .i64 ai, .int .i64 ar, .int .i64 ab, .int .i64 av, .string ad]) (by simp [results, Try.results81, go_sem, p0, p1, p2, p3, p4]) rfl ⟨⟨_, _, _, _, _, rfl, unhide HN⟩, cur_far (unhide HC) (unhide C2) hG (other5 (by omega)), hG⟩

end Go.Proofs.Ytdpaocikmijioac

namespace Go.Proofs.Ytdpaocikmijioac
open Go.RowKit

/-- Each text has at most nine bytes. -/
def Nine (xs : List Itm) : Prop := ∀ x ∈ xs, x.2.2.2.2.2.size ≤ 9
theorem nine_nil : Nine [] := fun _ h => by simp at h
theorem nine_one {id : Int} {e : Key} (h : e.2.2.2.2.size ≤ 9) : Nine [(id, e)] := fun x hx => by
  rw [List.mem_singleton] at hx
  subst hx
  exact h
theorem nine_sgl {ok : Bool} {id : Int} {e : Key} (h : e.2.2.2.2.size ≤ 9) : Nine (sgl ok id e) := by
  cases ok
  · exact nine_nil
  · exact nine_one h
theorem ent_mem {xs : List Itm} {id : Int} {e : Key} (h : ent xs id = some e) : ∃ i, (i, e) ∈ xs := by
  unfold ent at h
  cases hf : xs.find? (fun x => x.1 == id) with
  | none => rw [hf] at h; cases h
  | some y =>
    rw [hf] at h
    obtain ⟨i, e'⟩ := y
    simp at h
    subst h
    exact ⟨i, List.mem_of_find?_eq_some hf⟩
theorem nine_join {xs ys : List Itm} {fs gs : List Flr} (hx : Nine xs) (hy : Nine ys) : Nine (joinI xs fs ys gs) := by
  intro x hm
  have h := (mem_jI.1 hm).2.2.1
  rcases jE_ok h with h | h
  · obtain ⟨i, hi⟩ := ent_mem h; exact hx (i, x.2) hi
  · obtain ⟨i, hi⟩ := ent_mem h; exact hy (i, x.2) hi
theorem nine_sml {xs : List Itm} (h : Nine xs) : Sml xs := fun k x hk => by have := h x (List.mem_of_getElem? hk); omega

theorem grown_later {w X Y : World} {r : Option Nat} (h : w.grownBy X r) (b : Below X.heap.size X Y) : w.grownBy Y r :=
  ⟨b.os.trans h.os, b.tape.trans h.tape, b.output.trans h.output, Nat.le_trans h.size b.size, fun k hk hr => (b.block k (Nat.lt_of_lt_of_le hk h.size)).trans (h.block k hk hr)⟩
theorem grown_set2 (w : World) (b : Nat) (u1 u2 : Value) : w.grownBy ((w.setCell ⟨b, 0, none⟩ u1).setCell ⟨b, 1, none⟩ u2) (some b) := grown_trans (grown_set _ _ _ _) (grown_set _ _ _ _)
/-- A row of the call's own is not a variable of another type. -/
theorem Ow.other {α : Type} {enc : α → List Value} {k : Nat} {E T : TypeId} {base : Nat} {w w' : World} {v : Value} {xs : List α} {b : Nat} {cs : Array Value} {fz : Nat × Nat} (h : Ow enc k E base w v xs) (hb : w.heap[b]? = some (.cells cs T fz)) (hne : E ≠ T) (hg : w.grownBy w' (some b)) : Ow enc k E base w' v xs :=
  World.ownsRow.kept h hg (.inr (own_ne h hb hne))

/-- While a state is drawn: the cursor g, the result in block z, the state in block b. -/
structure R3 (m : Nat) (w X : World) (g : Nat) (v : Value) (xs : List Int) (z b : Nat) (v1 v2 : Value) (its : List Itm) (fls : List Flr) : Prop where
  c0 : Cur w g v xs
  gr : w.grownBy X (some g)
  cu : Cur X g v xs
  hz : w.heap.size ≤ z
  hb : w.heap.size ≤ b
  zb : z ≠ b
  k0 : X.heap[z]? = some (StB (.slice none 0 0) (.slice none 0 0))
  k1 : X.heap[b]? = some (StB v1 v2)
  oi : OwI w.heap.size X v1 its
  of : OwF w.heap.size X v2 fls
  li : its.length ≤ m
  lf : fls.length ≤ m
  ni : Nine its
variable {m : Nat} {w X Y : World} {g : Nat} {v : Value} {xs : List Int} {z b : Nat} {v1 v2 : Value} {its : List Itm} {fls : List Flr}
theorem R3.gl (h : R3 m w X g v xs z b v1 v2 its fls) : g < w.heap.size := cur_lt h.c0
theorem R3.zl (h : R3 m w X g v xs z b v1 v2 its fls) : z < X.heap.size := (Array.getElem?_eq_some_iff.1 h.k0).1
theorem R3.bl (h : R3 m w X g v xs z b v1 v2 its fls) : b < X.heap.size := (Array.getElem?_eq_some_iff.1 h.k1).1
theorem R3.call (h : R3 m w X g v xs z b v1 v2 its fls) (hc : Cur Y g v xs) (hg : X.grownBy Y (some g)) : R3 m w Y g v xs z b v1 v2 its fls := by
  have := h.gl
  have hz := h.hz
  have hb := h.hb
  obtain ⟨⟨i, q, hk, _⟩, _⟩ := h.cu
  exact ⟨h.c0, grown_trans h.gr hg, hc, hz, hb, h.zb, blk_grown hg h.k0 (by omega), blk_grown hg h.k1 (by omega), h.oi.other hk (by decide) hg, h.of.other hk (by decide) hg, h.li, h.lf, h.ni⟩
theorem R3.later (h : R3 m w X g v xs z b v1 v2 its fls) (bl : Below X.heap.size X Y) : R3 m w Y g v xs z b v1 v2 its fls :=
  ⟨h.c0, grown_later h.gr bl, h.cu.later bl (Nat.le_refl _), h.hz, h.hb, h.zb, (bl.block _ h.zl).trans h.k0, (bl.block _ h.bl).trans h.k1, h.oi.later bl, h.of.later bl, h.li, h.lf, h.ni⟩
theorem R3.drew (h : R3 m w X g v xs z b v1 v2 its fls) : R3 m w X.drew g v xs z b v1 v2 its fls := h.later (Below.refl _ _).drew
/-- A struct variable of this call is written: the cursor, and what is owned. -/
theorem R3.far (h : R3 m w X g v xs z b v1 v2 its fls) {q : Nat} (hw : w.heap.size ≤ q) (hg : X.grownBy Y (some q)) :
    Cur Y g v xs ∧ w.grownBy Y (some g) := by
  have := h.gl
  have G : w.grownBy Y (some g) := ⟨hg.os.trans h.gr.os, hg.tape.trans h.gr.tape, hg.output.trans h.gr.output, Nat.le_trans h.gr.size hg.size, fun k hk hr => (hg.block k (Nat.lt_of_lt_of_le hk h.gr.size) (by simp; omega)).trans (h.gr.block k hk hr)⟩
  exact ⟨cur_far h.c0 h.cu G (hg.block g (Nat.lt_of_lt_of_le h.gl h.gr.size) (by simp; omega)), G⟩
theorem R3.put (h : R3 m w X g v xs z b v1 v2 its fls) {u1 u2 : Value} {is' : List Itm} {fs' : List Flr} {B : Nat} (o1 : OwI B X u1 is') (o2 : OwF B X u2 fs') (hB : w.heap.size ≤ B) (li : is'.length ≤ m) (lf : fs'.length ≤ m) (ni : Nine is') :
    R3 m w ((X.setCell ⟨b, 0, none⟩ u1).setCell ⟨b, 1, none⟩ u2) g v xs z b u1 u2 is' fs' := by
  have hg := grown_set2 X b u1 u2
  obtain ⟨c, G⟩ := h.far h.hb hg
  exact ⟨h.c0, G, c, h.hz, h.hb, h.zb, blk_grown hg h.k0 h.zb, blk_set2 h.k1 _ _, Ow.base (o1.other h.k1 (by decide) hg) hB, Ow.base (o2.other h.k1 (by decide) hg) hB, li, lf, ni⟩
theorem own_oneF {w : World} {g base : Nat} (x : Flr) (hb : base ≤ g) (h : w.heap[g]? = some (.cells #[.int .i64 x.1, .int .i64 x.2] 78 (0, 0))) : OwF base w (.slice (some ⟨g, 0, none⟩) 1 1) [x] :=
  ⟨rfl, .inr ⟨g, 1, _, rfl, hb, h, Nat.le_refl _, by unfold maxLen; simp, rfl, rfl⟩⟩
/-- The two fields of the variable. -/
theorem kR (h : Hid (R3 m w X g v xs z b v1 v2 its fls)) : X.cell? ⟨b, 0, none⟩ = some v1 ∧ X.cell? ⟨b, 1, none⟩ = some v2 := by
  obtain ⟨p0, p1, _⟩ := blk_cells2 (unhide h).k1
  exact ⟨p0, p1⟩
theorem R3.allocH (h : Hid (R3 m w X g v xs z b v1 v2 its fls)) (o : Obj) : Hid (R3 m w (X.alloc o) g v xs z b v1 v2 its fls) := hide ((unhide h).later ((Below.refl _ _).alloc (Nat.le_refl _) o))
/-- What is told of a drawn state. -/
structure D3 (w X : World) (g : Nat) (v : Value) (xs : List Int) (v1 v2 : Value) (its : List Itm) (fls : List Flr) : Prop where
  cu : Cur X g v xs
  gr : w.grownBy X (some g)
  oi : OwI w.heap.size X v1 its
  of : OwF w.heap.size X v2 fls
  li : its.length ≤ 6
  lf : fls.length ≤ 6
  ni : Nine its
theorem R3.fin (h : R3 m w X g v xs z b v1 v2 its fls) (hm : m ≤ 6) : D3 w ((X.setCell ⟨z, 0, none⟩ v1).setCell ⟨z, 1, none⟩ v2) g v xs v1 v2 its fls := by
  have hg := grown_set2 X z v1 v2
  obtain ⟨c, G⟩ := h.far h.hz hg
  exact ⟨c, G, h.oi.other h.k0 (by decide) hg, h.of.other h.k0 (by decide) hg, by have := h.li; omega, by have := h.lf; omega, h.ni⟩
end Go.Proofs.Ytdpaocikmijioac

namespace Go.Proofs.Ytdpaocikmijioac
open Go.RowKit

/-- Few changes, each a small one. -/
def Sm7 (ss : List Sta) : Prop := ∀ s ∈ ss, s.1.length ≤ 6 ∧ s.2.length ≤ 6 ∧ Nine s.1
theorem Sm7.nil : Sm7 [] := fun _ h => by simp at h
theorem Sm7.tot : ∀ {ss : List Sta}, Sm7 ss → tot ss ≤ 12 * ss.length
  | [], _ => by simp [Go.Proofs.Ytdpaocikmijioac.tot]
  | s :: r, h => by
    have h1 := h s (by simp)
    have h2 := Sm7.tot (ss := r) (fun t ht => h t (by simp [ht]))
    rw [Go.Proofs.Ytdpaocikmijioac.tot, List.length_cons]; omega
theorem Sm7.sml {ss : List Sta} (h : Sm7 ss) : SmlS ss := fun _ s hs => nine_sml (h s (List.mem_of_getElem? hs)).2.2
theorem Sm7.snoc {ss : List Sta} {d : Sta} (h : Sm7 ss) (h1 : d.1.length ≤ 6 ∧ d.2.length ≤ 6 ∧ Nine d.1) : Sm7 (ss ++ [d]) := fun s hs => by
  rcases List.mem_append.1 hs with hs | hs
  · exact h s hs
  · simp at hs; subst hs; exact h1
theorem lad_sm {r : Bool} {c f : Int} {ss : List Sta} {d : Sta} {f1 : Int} {ss1 : List Sta} (h : lad r c f ss d = (f1, ss1)) (hs : Sm7 ss) (hd : d.1.length ≤ 6 ∧ d.2.length ≤ 6 ∧ Nine d.1) (hf : -1 ≤ f) : Sm7 ss1 ∧ ss1.length ≤ ss.length + 1 ∧ -1 ≤ f1 := by
  unfold lad at h
  split at h
  · split at h
    · simp only [Prod.mk.injEq] at h
      obtain ⟨rfl, rfl⟩ := h
      exact ⟨fun s hm => Sm7.snoc hs hd s (List.mem_of_mem_drop hm), by simp, by omega⟩
    · simp only [Prod.mk.injEq] at h
      obtain ⟨rfl, rfl⟩ := h
      exact ⟨Sm7.snoc hs hd, by simp, hf⟩
  · simp only [Prod.mk.injEq] at h
    obtain ⟨rfl, rfl⟩ := h
    exact ⟨hs, by omega, hf⟩
theorem OwW.otherT {base : Nat} {w w' : World} {v : Value} {ss : List Sta} {T : TypeId} {b : Option Nat} (h : OwW base w v ss) (hb : ∀ g, b = some g → ∃ cs fz, w.heap[g]? = some (.cells cs T fz)) (n1 : 30 ≠ T) (n2 : 75 ≠ T) (n3 : 78 ≠ T) (hg : w.grownBy w' b) : OwW base w' v ss := by
  obtain ⟨ps, h1, h2⟩ := h
  exact ⟨ps, Ow.otherT h1 hb n1 hg, h2.len, fun i p s hp hs => ⟨(h2.ins i p s hp hs).1.otherB hb n2 hg, (h2.ins i p s hp hs).2.otherB hb n3 hg⟩⟩
theorem int_of {cs : List Int} {c : Value} (h : c ∈ cs.map (Value.int .i64)) : ∃ q, q ∈ cs ∧ c = .int .i64 q := by
  obtain ⟨q, hq, e⟩ := List.mem_map.1 h
  exact ⟨q, hq, e.symm⟩

/-- While a log is drawn, ahead of its variable: the cursor g, the result in block z. -/
structure P7 (w X : World) (g : Nat) (v : Value) (xs : List Int) (z : Nat) : Prop where
  c0 : Cur w g v xs
  gr : w.grownBy X (some g)
  cu : Cur X g v xs
  hz : w.heap.size ≤ z
  k0 : X.heap[z]? = some LgZ0
/-- While a log is drawn: the cursor g, the result in block z, the log in block b. -/
structure R7 (w X : World) (g : Nat) (v : Value) (xs : List Int) (z b : Nat) (c f : Int) (u : Value) (ss : List Sta) (k : Nat) : Prop where
  p : P7 w X g v xs z
  hb : w.heap.size ≤ b
  zb : z ≠ b
  k1 : X.heap[b]? = some (LgO c f u)
  row : OwW w.heap.size X u ss
  lo : -1 ≤ f
  ln : ss.length ≤ k
  sm : Sm7 ss
variable {w X Y : World} {g : Nat} {v : Value} {xs : List Int} {z b : Nat} {c f : Int} {u : Value} {ss : List Sta} {k : Nat}
theorem P7.gl (h : P7 w X g v xs z) : g < w.heap.size := cur_lt h.c0
theorem P7.zl (h : P7 w X g v xs z) : z < X.heap.size := (Array.getElem?_eq_some_iff.1 h.k0).1
theorem P7.call (h : P7 w X g v xs z) (hc : Cur Y g v xs) (hg : X.grownBy Y (some g)) : P7 w Y g v xs z := by
  have := h.gl
  have hz := h.hz
  exact ⟨h.c0, grown_trans h.gr hg, hc, hz, blk_grown hg h.k0 (by omega)⟩
theorem P7.later (h : P7 w X g v xs z) (bl : Below X.heap.size X Y) : P7 w Y g v xs z :=
  ⟨h.c0, grown_later h.gr bl, h.cu.later bl (Nat.le_refl _), h.hz, (bl.block _ h.zl).trans h.k0⟩
theorem P7.far (h : P7 w X g v xs z) {q : Nat} (hw : w.heap.size ≤ q) (hg : X.grownBy Y (some q)) : Cur Y g v xs ∧ w.grownBy Y (some g) := by
  have := h.gl
  have G : w.grownBy Y (some g) := ⟨hg.os.trans h.gr.os, hg.tape.trans h.gr.tape, hg.output.trans h.gr.output, Nat.le_trans h.gr.size hg.size, fun k hk hr => (hg.block k (Nat.lt_of_lt_of_le hk h.gr.size) (by simp; omega)).trans (h.gr.block k hk hr)⟩
  exact ⟨cur_far h.c0 h.cu G (hg.block g (Nat.lt_of_lt_of_le h.gl h.gr.size) (by simp; omega)), G⟩
theorem P7.new (hc : Cur w g v xs) : P7 w (w.alloc LgZ0) g v xs w.heap.size := by
  have b : Below w.heap.size w (w.alloc LgZ0) := (Below.refl w.heap.size w).alloc (Nat.le_refl _) _
  exact ⟨hc, ⟨b.os, b.tape, b.output, b.size, fun k hk _ => b.block k hk⟩, hc.later b (Nat.le_refl _), Nat.le_refl _, heap_alloc_new _ _⟩
theorem R7.bl (h : R7 w X g v xs z b c f u ss k) : b < X.heap.size := (Array.getElem?_eq_some_iff.1 h.k1).1
theorem R7.of (h : P7 w X g v xs z) (hr : OwW w.heap.size X u ss) (lo : -1 ≤ f) (ln : ss.length ≤ k) (sm : Sm7 ss) : R7 w (X.alloc (LgO c f u)) g v xs z X.heap.size c f u ss k := by
  have b : Below X.heap.size X (X.alloc (LgO c f u)) := (Below.refl X.heap.size X).alloc (Nat.le_refl _) _
  have := h.zl
  exact ⟨h.later b, h.gr.size, by omega, heap_alloc_new _ _, hr.later b, lo, ln, sm⟩
theorem R7.call (h : R7 w X g v xs z b c f u ss k) (hc : Cur Y g v xs) (hg : X.grownBy Y (some g)) : R7 w Y g v xs z b c f u ss k := by
  have := h.p.gl
  have hb := h.hb
  obtain ⟨⟨i, q, hk, _⟩, _⟩ := h.p.cu
  exact ⟨h.p.call hc hg, hb, h.zb, blk_grown hg h.k1 (by omega), h.row.otherT (fun r e => by cases e; exact ⟨_, _, hk⟩) (by decide) (by decide) (by decide) hg, h.lo, h.ln, h.sm⟩
theorem R7.later (h : R7 w X g v xs z b c f u ss k) (bl : Below X.heap.size X Y) : R7 w Y g v xs z b c f u ss k :=
  ⟨h.p.later bl, h.hb, h.zb, (bl.block _ h.bl).trans h.k1, h.row.later bl, h.lo, h.ln, h.sm⟩
theorem grown_set3 (w : World) (g : Nat) (u0 u1 u2 : Value) : w.grownBy (((w.setCell ⟨g, 0, none⟩ u0).setCell ⟨g, 1, none⟩ u1).setCell ⟨g, 2, none⟩ u2) (some g) := grown_trans (grown_trans (grown_set1 _ _ _ _) (grown_set1 _ _ _ _)) (grown_set1 _ _ _ _)
theorem R7.put (h : R7 w X g v xs z b c f u ss k) {c1 f1 : Int} {u1 : Value} {ss1 : List Sta} {B k1 : Nat} (o1 : OwW B X u1 ss1) (hB : w.heap.size ≤ B) (lo : -1 ≤ f1) (ln : ss1.length ≤ k1) (sm : Sm7 ss1) :
    R7 w (((X.setCell ⟨b, 0, none⟩ (.int .i64 c1)).setCell ⟨b, 1, none⟩ (.int .i64 f1)).setCell ⟨b, 2, none⟩ u1) g v xs z b c1 f1 u1 ss1 k1 := by
  have hg := grown_set3 X b (.int .i64 c1) (.int .i64 f1) u1
  obtain ⟨cc, G⟩ := h.p.far h.hb hg
  exact ⟨⟨h.p.c0, G, cc, h.p.hz, blk_grown hg h.p.k0 h.zb⟩, h.hb, h.zb, blk_set3 h.k1 _ _ _, OwW.mono (OwW.log3 h.k1 _ _ _ o1) hB, lo, ln, sm⟩
/-- What is told of a drawn log. -/
structure D7 (w X : World) (g : Nat) (v : Value) (xs : List Int) (f : Int) (u : Value) (ss : List Sta) (k : Nat) : Prop where
  cu : Cur X g v xs
  gr : w.grownBy X (some g)
  row : OwW w.heap.size X u ss
  lo : -1 ≤ f
  ln : ss.length ≤ k
  sm : Sm7 ss
theorem R7.fin (h : R7 w X g v xs z b c f u ss k) : D7 w (((X.setCell ⟨z, 0, none⟩ (.int .i64 c)).setCell ⟨z, 1, none⟩ (.int .i64 f)).setCell ⟨z, 2, none⟩ u) g v xs f u ss k := by
  have hg := grown_set3 X z (.int .i64 c) (.int .i64 f) u
  obtain ⟨cc, G⟩ := h.p.far h.p.hz hg
  exact ⟨cc, G, OwW.log3 h.p.k0 _ _ _ h.row, h.lo, h.ln, h.sm⟩
end Go.Proofs.Ytdpaocikmijioac

namespace Go.Proofs.Ytdpaocikmijioac
open Go.RowKit

theorem sgl_len {ok : Bool} {id : Int} {e : Key} {m : Nat} (h : (sgl ok id e).length = m) : m ≤ 1 := by
  cases ok <;> simp [sgl] at h <;> omega
theorem R3.new {w : World} {g : Nat} {v : Value} {xs : List Int} (hc : Cur w g v xs) : R3 5 w ((w.alloc (StB (.slice none 0 0) (.slice none 0 0))).alloc (StB (.slice none 0 0) (.slice none 0 0))) g v xs w.heap.size (w.heap.size + 1) (.slice none 0 0) (.slice none 0 0) [] [] := by
  have b : Below w.heap.size w ((w.alloc (StB (.slice none 0 0) (.slice none 0 0))).alloc (StB (.slice none 0 0) (.slice none 0 0))) := ((Below.refl w.heap.size w).alloc (Nat.le_refl _) _).alloc (by simp) _
  refine ⟨hc, ⟨b.os, b.tape, b.output, b.size, fun k hk _ => b.block k hk⟩, hc.later b (Nat.le_refl _), Nat.le_refl _, by omega, by omega, ?_, newB2 _ _ _, World.ownsRow_nil _ _ _ _, World.ownsRow_nil _ _ _ _, by simp, by simp, nine_nil⟩
  exact (Below.heap_alloc _ _ _ (by simp)).trans (heap_alloc_new _ _)

set_option maxHeartbeats 8000000 in
set_option maxRecDepth 100000 in
theorem l3right_any (g : Nat) (v : Value) (xs : List Int) (w : World) (hlen : xs.length ≤ 1048576) (hbd : ∀ z ∈ xs, 0 ≤ z ∧ z ≤ 255) (hc : Cur w g v xs) :
    Calls Try.prog 80 #[.pointer (some ⟨g, 0, none⟩)] w fun e w' => ∃ a1 n1 c1 a2 n2 c2 its fls, e = .returned (.agg #[.slice a1 n1 c1, .slice a2 n2 c2]) ∧ D3 w w' g v xs (.slice a1 n1 c1) (.slice a2 n2 c2) its fls ∧ its.length ≤ 5 ∧ fls.length ≤ 5 := by
  have HD := hide hbd
  have R0 := hide (R3.new hc)
  clear hbd hc
  go_enter Try.func80, Try.ntmps80
  go_wp2_with fail
  refine (below_any g v xs 7 _ hlen (unhide HD) (by omega) (by omega) (unhide R0).cu).mono ?_
  rintro e w1 ⟨⟨n, rfl, na, nb⟩, c1, g1⟩
  have R1 := hide ((unhide R0).call c1 g1)
  clear c1 g1 R0
  go_wp2
  go_loopw [5] (fun i wr => ∃ (k : Int) (a1 : Option Addr) (n1 c1 : Nat) (a2 : Option Addr) (n2 c2 : Nat) (its : List Itm) (fls : List Flr), 0 ≤ k ∧ k ≤ n ∧ i = .int .i64 k ∧ R3 5 w wr g v xs w.heap.size (w.heap.size + 1) (.slice a1 n1 c1) (.slice a2 n2 c2) its fls) (fun i _ => (n - intOf i).toNat)
  case atStart => exact ⟨0, none, 0, 0, none, 0, 0, [], [], by omega, by omega, rfl, unhide R1⟩
  case round =>
    obtain ⟨k, a1, n1, c1, a2, n2, c2, its, fls, hk0, hk1, rfl, hR⟩ := hrel
    have R2 := hide hR
    clear hR R1
    by_cases hlt : k < n
    · go_wp2_with fail
      refine (below_any g v xs 5 _ hlen (unhide HD) (by omega) (by omega) (unhide R2).cu).mono ?_
      rintro e w3 ⟨⟨id, rfl, ia, ib⟩, c3, g3⟩
      have R3' := hide ((unhide R2).call c3 g3)
      clear c3 g3 R2
      go_wp2_with fail
      refine (right_any g v xs _ hlen (unhide HD) (unhide R3').cu).mono ?_
      rintro e w4 ⟨⟨ai, ar, ab, av, ad, rfl, had⟩, c4, g4⟩
      have R4 := hide ((unhide R3').call c4 g4)
      have HN := hide had
      obtain ⟨ok, h0⟩ : ∃ ok, Hid (okS [(id, ((ai, ar, ab, av, ad) : Key))] [] = ok) := ⟨_, hide rfl⟩
      obtain ⟨m, hm⟩ : ∃ m, Hid ((sgl ok id ((ai, ar, ab, av, ad) : Key)).length = m) := ⟨_, hide rfl⟩
      have hm1 := sgl_len (unhide hm)
      clear c4 g4 R3' had
      go_wp2_with fail
      refine (ssingle_any id ((ai, ar, ab, av, ad) : Key) ok h0 m hm w4).mono ?_
      rintro e w5 ⟨a5, c5, rfl, o5, b5⟩
      have R5 := hide ((unhide R4).later b5)
      have O5 := hide o5
      clear b5 o5 R4
      go_upto_region 7 with fail
      obtain ⟨V, hV⟩ : ∃ V, V = w5.alloc (StB (.slice a5 m c5) (.slice none 0 0)) := ⟨_, rfl⟩
      have bV : Below w5.heap.size w5 V := by rw [hV]; exact (Below.refl _ _).alloc (Nat.le_refl _) _
      have RV := hide ((unhide R5).later bV)
      have OV := hide ((unhide O5).later bV)
      have KV : Hid (V.heap[w5.heap.size]? = some (StB (.slice a5 m c5) (.slice none 0 0))) := hide (by rw [hV]; exact heap_alloc_new _ _)
      obtain ⟨p0, p1, p2⟩ := blk_cells2 (unhide RV).k1
      obtain ⟨q0, q1, q2⟩ := blk_cells2 (unhide KV)
      rw [← hV]
      clear hV bV R5 O5
      go_wp2_with fail
      have e1 := ((unhide RV).oi.rw encI_len).len.1
      have e2 := ((unhide RV).of.rw encF_len).len.1
      have l1 := (unhide RV).li
      have l2 := (unhide RV).lf
      clear p0 p1 p2 q0 q1 q2
      refine (l3join_any a1 n1 c1 its a2 n2 c2 fls a5 m c5 (sgl ok id ((ai, ar, ab, av, ad) : Key)) none 0 0 [] V (by omega) (by omega) (by omega) (by omega) ((unhide RV).oi.rw encI_len) ((unhide RV).of.rw encF_len) ((unhide OV).rw encI_len) Rw.nil).mono ?_
      rintro e w6 ⟨a6, n6, c6, a7, n7, c7, rfl, o6, o7, b6⟩
      have R6 := hide ((unhide RV).later b6)
      have R7 := hide ((unhide R6).put o6 o7 (unhide RV).gr.size (jI_len _ _ _ _ 5) (jF_len _ _ 5) (nine_join (unhide RV).ni (nine_sgl (unhide HN))))
      obtain ⟨p0, p1, p2⟩ := blk_cells2 (unhide R6).k1
      clear o6 o7 b6 RV OV KV e1 e2 l1 l2 R6
      go_wp2
      go_roundw
      case rel => exact ⟨k + 1, a6, n6, c6, a7, n7, c7, _, _, by omega, by omega, by go_num, unhide R7⟩
      case measure => simp [intOf]; omega
    · go_wp2_with fail
      refine (below_any g v xs 3 _ hlen (unhide HD) (by omega) (by omega) (unhide R2).cu).mono ?_
      rintro e w3 ⟨⟨n', rfl, na', nb'⟩, c3, g3⟩
      have R3' := hide ((unhide R2).call c3 g3)
      clear c3 g3 R2
      go_wp2
      go_loopw [9] (fun i wr => ∃ (k : Int) (a1 : Option Addr) (n1 c1 : Nat) (a2 : Option Addr) (n2 c2 : Nat) (its : List Itm) (fls : List Flr), 0 ≤ k ∧ k ≤ n' ∧ i = .int .i64 k ∧ R3 5 w wr g v xs w.heap.size (w.heap.size + 1) (.slice a1 n1 c1) (.slice a2 n2 c2) its fls) (fun i _ => (n' - intOf i).toNat)
      case atStart => exact ⟨0, _, _, _, _, _, _, _, _, by omega, by omega, rfl, unhide R3'⟩
      case round =>
        clear R3'
        obtain ⟨k', a1, n1, c1, a2, n2, c2, its, fls, hk0', hk1', rfl, hR⟩ := hrel
        have R2 := hide hR
        clear hR
        by_cases hlt' : k' < n'
        · have RD := hide (unhide R2).drew
          have e1 := ((unhide R2).oi.rw encI_len).len.1
          have e2 := ((unhide R2).of.rw encF_len).len.1
          have l1 := (unhide R2).li
          have l2 := (unhide R2).lf
          obtain ⟨h1, h2⟩ : n1 ≤ 5 ∧ n2 ≤ 5 := by omega
          clear e1 e2 l1 l2
          go_upto_region 12 with fail
          obtain ⟨p0, p1, p2⟩ := blk_cells2 (unhide R2).k1
          go_region_with
            (first
              | (go_at_call_of 78 (Value.int IntKind.i64 5); refine (below_any g v xs 5 _ hlen (unhide HD) (by omega) (by omega) (unhide RD).cu).mono ?_; rintro e w3 ⟨⟨id, rfl, ia, ib⟩, c3, g3⟩; have RX := hide ((unhide RD).call c3 g3); obtain ⟨p0, p1, p2⟩ := blk_cells2 (unhide RX).k1; clear c3 g3)
              | (go_at_call_of 78 (Value.int IntKind.i64 2); refine (below_any g v xs 2 _ hlen (unhide HD) (by omega) (by omega) (unhide RX).cu).mono ?_; rintro e w4 ⟨⟨x, rfl, xa, xb⟩, c4, g4⟩; have RY := hide ((unhide RX).call c4 g4); have hbl := (unhide RY).bl; obtain ⟨p0, p1, p2⟩ := blk_cells2 (unhide RY).k1; clear c4 g4)
              | (go_at_call 64; refine (l3join_any a1 n1 c1 its a2 n2 c2 fls none 0 0 [] (some ⟨w4.heap.size, 0, none⟩) 1 1 [(id, IntKind.i64.wrap (1 + x))] _ (by omega) (by omega) (by omega) (by omega) ((unhide (R3.allocH RY _)).oi.rw encI_len) ((unhide (R3.allocH RY _)).of.rw encF_len) Rw.nil ((own_oneF (base := 0) (id, IntKind.i64.wrap (1 + x)) (Nat.zero_le _) (heap_alloc_new _ _)).rw encF_len)).mono ?_; rintro e w6 ⟨a6, n6, c6, a7, n7, c7, rfl, o6, o7, b6⟩; have RZ := hide ((unhide (R3.allocH RY _)).later b6); have RW := hide ((unhide RZ).put o6 o7 (unhide (R3.allocH RY _)).gr.size (jI_len _ _ _ _ 5) (jF_len _ _ 5) (nine_join (unhide RY).ni nine_nil)); obtain ⟨p0, p1, p2⟩ := blk_cells2 (unhide RZ).k1; clear o6 o7 b6))
          all_goals clear p0 p1 p2
          all_goals go_wp2
          all_goals go_roundw
          all_goals first | exact ⟨k' + 1, _, _, _, _, _, _, _, _, by omega, by omega, by go_num, unhide RW⟩ | (simp [intOf]; omega)
        · obtain ⟨p0, p1, p2⟩ := blk_cells2 (unhide R2).k1
          obtain ⟨q0, q1, q2⟩ := blk_cells2 (unhide R2).k0
          have F := hide ((unhide R2).fin (by omega))
          have l1 := hide (unhide R2).li
          have l2 := hide (unhide R2).lf
          clear R2
          go_wp2
          exact bodyPost_ret (v := .agg #[.slice a1 n1 c1, .slice a2 n2 c2]) (by simp [results, Try.results80, go_sem, q0, q1]) rfl ⟨a1, n1, c1, a2, n2, c2, rfl, its, fls, unhide F, unhide l1, unhide l2⟩
end Go.Proofs.Ytdpaocikmijioac

namespace Go.Proofs.Ytdpaocikmijioac
open Go.RowKit

set_option maxHeartbeats 8000000 in
set_option maxRecDepth 100000 in
theorem l7right_any (g : Nat) (v : Value) (xs : List Int) (w : World) (hlen : xs.length ≤ 1048576) (hbd : ∀ z ∈ xs, 0 ≤ z ∧ z ≤ 255) (hc : Cur w g v xs) :
    Calls Try.prog 77 #[.pointer (some ⟨g, 0, none⟩)] w fun e w' => ∃ (c f : Int) (a : Option Addr) (n cap : Nat) (ss : List Sta), e = .returned (LgV c f (.slice a n cap)) ∧ D7 w w' g v xs f (.slice a n cap) ss 5 := by
  have HD := hide hbd
  have P0 := hide (P7.new hc)
  clear hbd hc
  go_enter Try.func77, Try.ntmps77
  go_wp2_with fail
  obtain ⟨V, hV⟩ : ∃ V, V = w.alloc LgZ0 := ⟨_, rfl⟩
  rw [← hV] at P0 ⊢
  have hzV : w.heap.size + 1 = V.heap.size := by rw [hV]; simp
  rw [hzV]
  clear hV
  have gl := (unhide P0).gl
  have PA := hide ((unhide P0).later ((Below.refl V.heap.size V).alloc (Nat.le_refl _) (.cells ([.int .i64 1, .int .i64 2, .int .i64 4, .int .i64 8] : List Value).toArray 3)))
  have SG := hide (seg_new V 3 [.int .i64 1, .int .i64 2, .int .i64 4, .int .i64 8] 4 rfl (by omega))
  refine (pickint_any g v xs (.slice (some ⟨V.heap.size, 0, none⟩) 4 4) [.int .i64 1, .int .i64 2, .int .i64 4, .int .i64 8] (V.alloc (.cells ([.int .i64 1, .int .i64 2, .int .i64 4, .int .i64 8] : List Value).toArray 3)) hlen (unhide HD) (unhide PA).cu (unhide SG) (ne_new (by omega) _ _) (by decide) (by decide)).mono ?_
  rintro e w1 ⟨⟨q, hq, rfl⟩, c1, g1⟩
  obtain ⟨c, hcc, rfl⟩ := int_of (cs := [1, 2, 4, 8]) hq
  have P1 := hide ((unhide PA).call c1 g1)
  clear hq c1 g1 PA P0 SG
  go_wp2_with fail
  have gl1 := (unhide P1).gr.size
  have PB := hide ((unhide P1).later ((Below.refl w1.heap.size w1).alloc (Nat.le_refl _) (.cells ([.int .i64 0, .int .i64 0, .int .i64 5, .int .i64 99990] : List Value).toArray 3)))
  have SG := hide (seg_new w1 3 [.int .i64 0, .int .i64 0, .int .i64 5, .int .i64 99990] 4 rfl (by omega))
  refine (pickint_any g v xs (.slice (some ⟨w1.heap.size, 0, none⟩) 4 4) [.int .i64 0, .int .i64 0, .int .i64 5, .int .i64 99990] (w1.alloc (.cells ([.int .i64 0, .int .i64 0, .int .i64 5, .int .i64 99990] : List Value).toArray 3)) hlen (unhide HD) (unhide PB).cu (unhide SG) (ne_new (by omega) _ _) (by decide) (by decide)).mono ?_
  rintro e w2 ⟨⟨q, hq, rfl⟩, c2, g2⟩
  obtain ⟨f, hf, rfl⟩ := int_of (cs := [0, 0, 5, 99990]) hq
  have hf0 : -1 ≤ f := by simp at hf; omega
  have P2 := hide ((unhide PB).call c2 g2)
  have R2 : Hid (R7 w (w2.alloc (LgO c f (.slice none 0 0))) g v xs w.heap.size w2.heap.size c f (.slice none 0 0) [] 0) := hide (R7.of (unhide P2) ⟨[], World.ownsRow_nil _ _ _ _, Wn.nil _ _⟩ hf0 (by simp) Sm7.nil)
  clear hq c2 g2 PB P1 SG P2 hf hcc
  go_wp2_with fail
  refine (below_any g v xs 6 _ hlen (unhide HD) (by omega) (by omega) (unhide R2).p.cu).mono ?_
  rintro e w3 ⟨⟨n, rfl, na, nb⟩, c3, g3⟩
  have R3' := hide ((unhide R2).call c3 g3)
  generalize hgb : w2.heap.size = b at *
  clear c3 g3 R2
  go_wp2
  go_loopw [5] (fun i wr => ∃ (k : Nat) (c f : Int) (a : Option Addr) (m cap : Nat) (ss : List Sta), (k : Int) ≤ n ∧ i = .int .i64 k ∧ R7 w wr g v xs w.heap.size b c f (.slice a m cap) ss k) (fun i _ => (n - intOf i).toNat)
  case atStart => exact ⟨0, c, f, none, 0, 0, [], by omega, rfl, unhide R3'⟩
  case round =>
    obtain ⟨k, c, f, a, m, cap, ss, hk1, rfl, hR⟩ := hrel
    have R2 := hide hR
    clear hR R3'
    by_cases hlt : (k : Int) < n
    · go_wp2_with fail
      refine (below_any g v xs 5 _ hlen (unhide HD) (by omega) (by omega) (unhide R2).p.cu).mono ?_
      rintro e w4 ⟨⟨id, rfl, ia, ib⟩, c4, g4⟩
      have R4 := hide ((unhide R2).call c4 g4)
      clear c4 g4 R2
      go_wp2_with fail
      refine (right_any g v xs _ hlen (unhide HD) (unhide R4).p.cu).mono ?_
      rintro e w5 ⟨⟨ai, ar, ab, av, ad, rfl, had⟩, c5, g5⟩
      have R5 := hide ((unhide R4).call c5 g5)
      have HN := hide had
      obtain ⟨ok, h0⟩ : ∃ ok, Hid (okS [(id, ((ai, ar, ab, av, ad) : Key))] [] = ok) := ⟨_, hide rfl⟩
      obtain ⟨m1, hm⟩ : ∃ m, Hid ((sgl ok id ((ai, ar, ab, av, ad) : Key)).length = m) := ⟨_, hide rfl⟩
      have hm1 := sgl_len (unhide hm)
      clear c5 g5 R4 had
      go_wp2_with fail
      refine (ssingle_any id ((ai, ar, ab, av, ad) : Key) ok h0 m1 hm w5).mono ?_
      rintro e w6 ⟨a5, c5, rfl, o5, b5⟩
      have R6 := hide ((unhide R5).later b5)
      have O5 := hide o5
      clear b5 o5 R5
      obtain ⟨p0, p1, p2, pf⟩ := blk_cells3 (unhide R6).k1
      have zb6 := (unhide R6).bl
      go_wp2_with fail
      obtain ⟨U, hU⟩ : ∃ U, U = w6.alloc (StB (.slice a5 m1 c5) (.slice none 0 0)) := ⟨_, rfl⟩
      have bU : Below w6.heap.size w6 U := by rw [hU]; exact (Below.refl _ _).alloc (Nat.le_refl _) _
      have RU := hide ((unhide R6).later bU)
      have OU := hide ((unhide O5).later bU)
      rw [← hU]
      clear hU bU R6 O5 p0 p1 p2 pf
      have em := (unhide RU).row.rw.len.1
      have ln := (unhide RU).ln
      have ht := (unhide RU).sm.tot
      obtain ⟨r, hr⟩ : ∃ r, lar c f ss (sgl ok id ((ai, ar, ab, av, ad) : Key), []) = r := ⟨_, rfl⟩
      obtain ⟨⟨f1, ss1⟩, hla⟩ : ∃ p, lad r c f ss (sgl ok id ((ai, ar, ab, av, ad) : Key), []) = p := ⟨_, rfl⟩
      obtain ⟨mm, hmm⟩ : ∃ m, m = ss1.length := ⟨_, rfl⟩
      obtain ⟨s1, s2, s3⟩ := lad_sm hla (unhide RU).sm ⟨by show (sgl ok id _).length ≤ 6; rw [unhide hm]; omega, by simp, nine_sgl (unhide HN)⟩ (unhide RU).lo
      have HM1 := hide hmm
      have HS1 := hide s1
      have hmk : ss1.length ≤ k + 1 := by omega
      clear s1 s2
      refine (slogadd_any c f a m cap ss a5 m1 c5 (sgl ok id ((ai, ar, ab, av, ad) : Key)) none 0 0 [] r (hide hr) f1 ss1 (hide hla) mm HM1 U (by omega) (by omega) (by omega) (by omega) (unhide RU).row.rw ((unhide OU).rw encI_len) Rw.nil).mono ?_
      rintro e w7 ⟨a7, c7, rfl, o7, b7⟩
      have R7' := hide ((unhide RU).later b7)
      have R8 := hide ((unhide R7').put (c1 := c) (f1 := f1) (k1 := k + 1) o7 (unhide RU).p.gr.size s3 hmk (unhide HS1))
      obtain ⟨p0, p1, p2, pf⟩ := blk_cells3 (unhide R7').k1
      have zb7 := (unhide R7').bl
      clear o7 b7 RU OU em ln ht R7' hr hla hmm
      go_wp2
      go_roundw
      case rel => exact ⟨k + 1, c, f1, a7, mm, c7, ss1, by omega, by go_num, unhide R8⟩
      case measure => simp [intOf]; omega
    · obtain ⟨p0, p1, p2, pf⟩ := blk_cells3 (unhide R2).k1
      obtain ⟨q0, q1, q2, qf⟩ := blk_cells3 (unhide R2).p.k0
      have zb := (unhide R2).bl
      have zz := (unhide R2).p.zl
      have F := hide (unhide R2).fin
      have hk5 : k ≤ 5 := by omega
      clear R2
      go_wp2
      exact bodyPost_ret (v := LgV c f (.slice a m cap)) (by simp [results, Try.results77, go_sem, q0, q1, q2]) rfl ⟨c, f, a, m, cap, rfl, ss, (unhide F).cu, (unhide F).gr, (unhide F).row, (unhide F).lo, Nat.le_trans (unhide F).ln hk5, (unhide F).sm⟩
end Go.Proofs.Ytdpaocikmijioac

namespace Go.Proofs.Ytdpaocikmijioac
open Go.RowKit

/-- A call of a Go function at a step of a region that draws. -/
theorem step_call {P : Program} {ops : Array Oper} {o : Oper} {a : Act} {w : World} {K : Act → World → Prop} {Q : Exit → Act → World → Prop} {R : Prop} (hgd : o.guard = none) (f : FuncId) (args : Array Value) (hrun : (execOp a.eval o).run P w = .ok (.enter f args) w)
    (hc : Calls P f args w fun e w' => ∃ v, e = .returned v ∧ K (a.put o.dst v) w') : if Region.wanted o (yielded ops a.tmps) = true then Oper.wp P o a w K Q else R := by
  rw [if_pos (by simp [Region.wanted, hgd])]
  unfold Oper.wp
  rw [hrun, Oper.upon_enter]
  refine hc.mono fun e w'' hh => ?_
  obtain ⟨v, rfl, hh⟩ := hh
  exact hh

variable {m : Nat} {w X Y : World} {g : Nat} {v : Value} {xs : List Int} {z b : Nat} {v1 v2 : Value} {its : List Itm} {fls : List Flr}
theorem R3.turn (h : R3 m w X g v xs z b v1 v2 its fls) {row : Option Nat} (hg : X.grownBy Y row) (hr : ∀ q, row = some q → w.heap.size ≤ q ∧ q ≠ z ∧ q ≠ b) :
    w.grownBy Y (some g) ∧ Cur Y g v xs ∧ Y.heap[z]? = some (StB (.slice none 0 0) (.slice none 0 0)) ∧ Y.heap[b]? = some (StB v1 v2) := by
  have hgl := h.gl
  have hsz := h.gr.size
  have ng : ∀ k, k < w.heap.size → some k ≠ row := fun k hk q => by have := (hr k q.symm).1; omega
  have G : w.grownBy Y (some g) := ⟨hg.os.trans h.gr.os, hg.tape.trans h.gr.tape, hg.output.trans h.gr.output, Nat.le_trans h.gr.size hg.size, fun k hk hq => (hg.block k (by omega) (ng k hk)).trans (h.gr.block k hk hq)⟩
  exact ⟨G, cur_far h.c0 h.cu G (hg.block g (by omega) (ng g hgl)), (hg.block z h.zl (fun q => (hr z q.symm).2.1 rfl)).trans h.k0, (hg.block b h.bl (fun q => (hr b q.symm).2.2 rfl)).trans h.k1⟩
theorem R3.rowI (h : R3 m w X g v xs z b v1 v2 its fls) : ∀ q, v1.ownBlock = some q → w.heap.size ≤ q ∧ q ≠ z ∧ q ≠ b :=
  fun q e => ⟨(World.ownsRow.lt h.oi q e).1, fun k => own_ne h.oi h.k0 (by decide) (k ▸ e), fun k => own_ne h.oi h.k1 (by decide) (k ▸ e)⟩
theorem R3.rowF (h : R3 m w X g v xs z b v1 v2 its fls) : ∀ q, v2.ownBlock = some q → w.heap.size ≤ q ∧ q ≠ z ∧ q ≠ b :=
  fun q e => ⟨(World.ownsRow.lt h.of q e).1, fun k => own_ne h.of h.k0 (by decide) (k ▸ e), fun k => own_ne h.of h.k1 (by decide) (k ▸ e)⟩
/-- One field of the variable is written. -/
theorem far1 (c0 : Cur w g v xs) (hgl : g < w.heap.size) (hb : w.heap.size ≤ b) (G : w.grownBy Y (some g)) (c : Cur Y g v xs) (j : Nat) (u : Value) : w.grownBy (Y.setCell ⟨b, j, none⟩ u) (some g) ∧ Cur (Y.setCell ⟨b, j, none⟩ u) g v xs := by
  have G' : w.grownBy (Y.setCell ⟨b, j, none⟩ u) (some g) := grown_far G (a := ⟨b, j, none⟩) hb u
  exact ⟨G', cur_far c0 c G' (heap_setCell_other _ _ _ _ (by show g ≠ b; omega))⟩
theorem R3.appI {m' : Nat} (h : R3 m w X g v xs z b v1 v2 its fls) {u1 : Value} {is' : List Itm} (ho : OwI w.heap.size Y u1 is') (hg : X.grownBy Y v1.ownBlock) (hm : m ≤ m') (li : is'.length ≤ m') (ni : Nine is') :
    R3 m' w (Y.setCell ⟨b, 0, none⟩ u1) g v xs z b u1 v2 is' fls := by
  obtain ⟨G, c, k0, k1⟩ := h.turn hg h.rowI
  have of : OwF w.heap.size Y v2 fls := World.ownsRow.kept h.of hg (owns_apart h.of h.oi (by decide))
  have G2 := grown_set Y b 0 u1
  obtain ⟨G', c'⟩ := far1 h.c0 h.gl h.hb G c 0 u1
  exact ⟨h.c0, G', c', h.hz, h.hb, h.zb, blk_grown G2 k0 h.zb, heap_setCell_same _ _ _ _ _ _ k1, ho.other k1 (by decide) G2, of.other k1 (by decide) G2, li, Nat.le_trans h.lf hm, ni⟩
theorem R3.appF {m' : Nat} (h : R3 m w X g v xs z b v1 v2 its fls) {u2 : Value} {fs' : List Flr} (ho : OwF w.heap.size Y u2 fs') (hg : X.grownBy Y v2.ownBlock) (hm : m ≤ m') (lf : fs'.length ≤ m') :
    R3 m' w (Y.setCell ⟨b, 1, none⟩ u2) g v xs z b v1 u2 its fs' := by
  obtain ⟨G, c, k0, k1⟩ := h.turn hg h.rowF
  have oi : OwI w.heap.size Y v1 its := World.ownsRow.kept h.oi hg (owns_apart h.oi h.of (by decide))
  have G2 := grown_set Y b 1 u2
  obtain ⟨G', c'⟩ := far1 h.c0 h.gl h.hb G c 1 u2
  exact ⟨h.c0, G', c', h.hz, h.hb, h.zb, blk_grown G2 k0 h.zb, heap_setCell_same _ _ _ _ _ _ k1, oi.other k1 (by decide) G2, ho.other k1 (by decide) G2, Nat.le_trans h.li hm, lf, h.ni⟩
theorem R3.wrI {q n c : Nat} (h : R3 m w X g v xs z b (.slice (some ⟨q, 0, none⟩) n c) v2 its fls) {is' : List Itm} (ho : OwI w.heap.size Y (.slice (some ⟨q, 0, none⟩) n c) is') (hg : X.grownBy Y (some q)) (li : is'.length ≤ m) (ni : Nine is') :
    R3 m w Y g v xs z b (.slice (some ⟨q, 0, none⟩) n c) v2 is' fls := by
  obtain ⟨G, c, k0, k1⟩ := h.turn hg h.rowI
  exact ⟨h.c0, G, c, h.hz, h.hb, h.zb, k0, k1, ho, World.ownsRow.kept h.of hg (owns_apart h.of h.oi (by decide)), li, h.lf, ni⟩

theorem set_same {l : List Value} {j : Nat} {u : Value} (h : l[j]? = some u) : l.set j u = l := by
  refine List.ext_getElem? fun i => ?_
  rw [List.getElem?_set]
  split
  · subst_vars
    split
    · exact h.symm
    · rename_i hn; rw [List.getElem?_eq_none (by omega)]
  · rfl
theorem set_ent {i : Nat} {x : Itm} (hx : its[i]? = some x) (e : Key) : setL (its.flatMap encI) (i * 6 + 1) [.int .i64 e.1, .int .i64 e.2.1, .int .i64 e.2.2.1, .int .i64 e.2.2.2.1, .string e.2.2.2.2] = (its.set i (x.1, e)).flatMap encI := by
  have hi : i < its.length := (List.getElem?_eq_some_iff.1 hx).1
  rw [← setL_flat (by omega) encI_len its i hi (x.1, e)]
  have h0 := flat_at encI_len its i x 0 hx (by omega)
  show _ = setL ((its.flatMap encI).set (i * 6) (.int .i64 x.1)) (i * 6 + 1) [.int .i64 e.1, .int .i64 e.2.1, .int .i64 e.2.2.1, .int .i64 e.2.2.2.1, .string e.2.2.2.2]
  rw [set_same]
  exact h0
theorem OwI_ent {base q n c i : Nat} {x : Itm} (h : OwI base X (.slice (some ⟨q, 0, none⟩) n c) its) (hx : its[i]? = some x) (e : Key) :
    OwI base (setW X q (i * 6 + 1) [.int .i64 e.1, .int .i64 e.2.1, .int .i64 e.2.2.1, .int .i64 e.2.2.2.1, .string e.2.2.2.2]) (.slice (some ⟨q, 0, none⟩) n c) (its.set i (x.1, e)) ∧ X.grownBy (setW X q (i * 6 + 1) [.int .i64 e.1, .int .i64 e.2.1, .int .i64 e.2.2.1, .int .i64 e.2.2.2.1, .string e.2.2.2.2]) (some q) := by
  have hn : n = its.length := (h.rw encI_len).len.1
  subst hn
  obtain ⟨h1, h2⟩ := setW_own [.int .i64 e.1, .int .i64 e.2.1, .int .i64 e.2.2.1, .int .i64 e.2.2.2.1, .string e.2.2.2.2] h (i * 6 + 1)
  refine ⟨?_, h2⟩
  unfold OwI Ow
  rw [List.length_set, ← set_ent hx e]
  exact h1
theorem OwI_put {base q n c i : Nat} {x : Itm} (h : OwI base X (.slice (some ⟨q, 0, none⟩) n c) its) (hi : i < its.length) :
    OwI base (setW X q (i * 6) (encI x)) (.slice (some ⟨q, 0, none⟩) n c) (its.set i x) ∧ X.grownBy (setW X q (i * 6) (encI x)) (some q) := by
  have hn : n = its.length := (h.rw encI_len).len.1
  subst hn
  obtain ⟨h1, h2⟩ := setW_own (encI x) h (i * 6)
  refine ⟨?_, h2⟩
  unfold OwI Ow
  rw [List.length_set, ← setL_flat (by omega) encI_len its i hi x]
  exact h1
theorem nine_set {i : Nat} {x : Itm} (h : Nine its) (hx : x.2.2.2.2.2.size ≤ 9) : Nine (its.set i x) := fun y hy => by
  rcases List.mem_or_eq_of_mem_set hy with hy | rfl
  · exact h y hy
  · exact hx
theorem nine_app {x : Itm} (h : Nine its) (hx : x.2.2.2.2.2.size ≤ 9) : Nine (its ++ [x]) := fun y hy => by
  rw [List.mem_append, List.mem_singleton] at hy
  rcases hy with hy | rfl
  · exact h y hy
  · exact hx
theorem segv_grown {u : Value} {cs : List Value} (h : SegV X u cs) (hg : X.grownBy Y (some g)) (hne : ∀ a n c, u = .slice (some a) n c → a.block ≠ g) : SegV Y u cs := by
  obtain ⟨a, cap, rfl, hcap, h⟩ := h
  refine ⟨a, cap, rfl, hcap, ?_⟩
  rcases h with h | ⟨b, off, rfl, hlt, hc⟩
  · exact .inl h
  · have hb : b ≠ g := hne _ _ _ rfl
    exact .inr ⟨b, off, rfl, Nat.lt_of_lt_of_le hlt hg.size, fun i hi => (World.cell?_of_block (hg.block b hlt (by simpa using hb))).trans (hc i hi)⟩
theorem pick4 {c : Value} (h : c ∈ ([.int .i64 0, .int .i64 1, .int .i64 5, .int .i64 1001] : List Value)) : ∃ q, c = .int .i64 q := by
  simp only [List.mem_cons, List.not_mem_nil, or_false] at h
  rcases h with rfl | rfl | rfl | rfl
  all_goals exact ⟨_, rfl⟩
theorem items_cells {base q n c k : Nat} (h : OwI base X (.slice (some ⟨q, 0, none⟩) n c) its) (hk : k < n) :
    ∃ y0 y1 y2 y3 y4 y5, X.cell? ⟨q, k * 6, none⟩ = some y0 ∧ X.cell? ⟨q, k * 6 + 1, none⟩ = some y1 ∧ X.cell? ⟨q, k * 6 + 2, none⟩ = some y2 ∧ X.cell? ⟨q, k * 6 + 3, none⟩ = some y3 ∧ X.cell? ⟨q, k * 6 + 4, none⟩ = some y4 ∧ X.cell? ⟨q, k * 6 + 5, none⟩ = some y5 ∧ ∀ o, X.frozen? ⟨q, o, none⟩ = false := by
  have hn : n = its.length := (h.rw encI_len).len.1
  subst hn
  exact own_cells6 h hk
theorem at_some {n k : Nat} (hn : n = its.length) (hk : k < n) : ∃ x, its[k]? = some x := ⟨_, List.getElem?_eq_getElem (by omega)⟩
/-- The entry of item k is written. -/
theorem R3.ent {q n c k : Nat} (h : R3 m w X g v xs z b (.slice (some ⟨q, 0, none⟩) n c) v2 its fls) (hk : k < n) (e : Key) (he : e.2.2.2.2.size ≤ 9) :
    ∃ is', R3 m w (setW X q (k * 6 + 1) [.int .i64 e.1, .int .i64 e.2.1, .int .i64 e.2.2.1, .int .i64 e.2.2.2.1, .string e.2.2.2.2]) g v xs z b (.slice (some ⟨q, 0, none⟩) n c) v2 is' fls := by
  have hn : n = its.length := (h.oi.rw encI_len).len.1
  obtain ⟨x, hx⟩ := at_some hn hk
  obtain ⟨h1, h2⟩ := OwI_ent h.oi hx e
  exact ⟨_, h.wrI h1 h2 (by rw [List.length_set]; exact h.li) (nine_set h.ni he)⟩
/-- Item 0 is written over by item k. -/
theorem R3.itm {q n c : Nat} {x : Itm} (h : R3 m w X g v xs z b (.slice (some ⟨q, 0, none⟩) n c) v2 its fls) (hk : 0 < n) (hx : x ∈ its) :
    ∃ is', R3 m w (setW X q (0 * 6) (encI x)) g v xs z b (.slice (some ⟨q, 0, none⟩) n c) v2 is' fls := by
  have hn : n = its.length := (h.oi.rw encI_len).len.1
  obtain ⟨h1, h2⟩ := OwI_put (x := x) (i := 0) h.oi (by omega)
  exact ⟨_, h.wrI h1 h2 (by rw [List.length_set]; exact h.li) (nine_set h.ni (h.ni x hx))⟩
theorem R3.of_draw {O : Obj} (hO : O = StB (.slice none 0 0) (.slice none 0 0)) (hc : Cur w g v xs) (d : D3 (w.alloc O) X g v xs v1 v2 its fls) (l1 : its.length ≤ m) (l2 : fls.length ≤ m) : R3 m w (X.alloc (StB v1 v2)) g v xs w.heap.size X.heap.size v1 v2 its fls := by
  subst hO
  have hgl := cur_lt hc
  have hs := d.gr.size
  simp only [World.size_alloc] at hs
  have b0 : Below X.heap.size X (X.alloc (StB v1 v2)) := (Below.refl _ _).alloc (Nat.le_refl _) _
  refine ⟨hc, grown_later (grown_trans (grown_alloc w _ _) d.gr) b0, d.cu.later b0 (Nat.le_refl _), Nat.le_refl _, by omega, by omega, ?_, heap_alloc_new _ _, Ow.base (d.oi.later b0) (by simp), Ow.base (d.of.later b0) (by simp), l1, l2, d.ni⟩
  exact (b0.block _ (by omega)).trans (blk_grown d.gr (heap_alloc_new _ _) (by omega))
end Go.Proofs.Ytdpaocikmijioac
