/-
  What the laws do with a log: its size is taken off, it is turned into the program's own, two are compared. No statement is proved here.
-/
import Derived.Test.YtdpaocikmijioafLgP
import Derived.Test.YtdpaocikmijioafLgN
import Derived.Test.YtdpaocikmijioafStT
import Derived.Test.YtdpaocikmijioafStE
import Derived.Test.YtdpaocikmijioafSt3
namespace Go.Proofs.Ytdpaocikmijioaf
open Go.RowKit

/-- Each text and each length is one of this machine. -/
def BigS (ss : List Sta) : Prop := ∀ (i : Nat) (s : Sta), ss[i]? = some s → Big s.1 ∧ s.1.length ≤ 9223372036854775807 ∧ s.2.length ≤ 9223372036854775807
def SmlS (ss : List Sta) : Prop := ∀ (i : Nat) (s : Sta), ss[i]? = some s → Sml s.1

set_option maxHeartbeats 1000000 in
theorem szstates_any (a : Option Addr) (m cap : Nat) (ss : List Sta) (hbig : BigS ss) (n : Int) (h1 : 0 ≤ n) (h2 : n ≤ 1048576) (w : World) (hm : m ≤ 9223372036854775807) (hx : RwS w (.slice a m cap) ss) :
    Calls Try.prog 58 #[.slice a m cap, .int .i64 n] w fun e w' => (e = .returned (.int .i64 (-1)) ∨ ∃ r : Int, e = .returned (.int .i64 r) ∧ 0 ≤ r ∧ r + m + tot ss ≤ n ∧ SmlS ss) ∧ Below w.heap.size w w' := by
  have HX := hide hx
  have HG := hide hbig
  clear hx hbig
  by_cases hb : n < m
  · have hd : decide (n - (m : Int) < 0) = true := by simp; omega
    go_enter Try.func58, Try.ntmps58
    go_wp2
    go_ret
    exact ⟨.inl rfl, Below.refl _ _⟩
  have hd : decide (n - (m : Int) < 0) = false := by simp; omega
  have hmn : (m : Int) ≤ n := by omega
  clear hb
  go_enter Try.func58, Try.ntmps58
  go_wp2
  go_loopw [1, 5] (fun l i wr => ∃ (k : Nat) (r : Int), k ≤ m ∧ i = .int .i64 k ∧ l = .int .i64 r ∧ 0 ≤ r ∧ r + m + tot (ss.take k) ≤ n ∧ (∀ (j : Nat) (y : Sta), j < k → ss[j]? = some y → Sml y.1) ∧ Below w.heap.size w wr) (fun _ i _ => m - (intOf i).toNat)
  case atStart => exact ⟨0, n - m, Nat.zero_le _, rfl, rfl, by omega, by simp [tot] <;> omega, fun j y hj => absurd hj (Nat.not_lt_zero _), Below.refl _ _⟩
  case round =>
    obtain ⟨k, r, hk, rfl, rfl, hr1, hr2, hno, hbel⟩ := hrel
    have HN := hide hno
    have HB := hide hbel
    have hsz := hbel.size
    clear hno
    by_cases hlt : k < m
    · obtain ⟨xs, fs, ai, ni, ci, af, nf, cf, b, off, hx, rfl, hb, hcap, c0, c1, rx, rf⟩ := (unhide HX).at hlt
      have d0 := (hbel.cell (p := ⟨b, off + k * 2, none⟩) hb).trans c0
      have d1 := (hbel.cell (p := ⟨b, off + k * 2 + 1, none⟩) hb).trans c1
      obtain ⟨hxs, l1, l2⟩ := unhide HG k _ hx
      have e1 := rx.len.1
      have e2 := rf.len.1
      simp only at l1 l2 hxs
      have hn1 : ni ≤ 9223372036854775807 := by omega
      have hn2 : nf ≤ 9223372036854775807 := by omega
      have HX1 := hide hx
      have HT : Hid (tot (ss.take (k + 1)) = tot (ss.take k) + (ni + nf)) := hide (by rw [take_at hx, tot_app]; simp [tot, e1, e2])
      have RX := hide rx
      have HBG := hide hxs
      clear c0 c1 hx hbel rx rf e1 e2 l1 l2 hxs
      go_wp2_with fail
      refine (szstate_any ai ni ci xs (unhide HBG) af nf cf r hr1 (by omega) _ hn1 hn2 ((unhide RX).later (unhide HB))).mono ?_
      rintro e w1 ⟨h, b1⟩
      have HB1 := hide ((unhide HB).trans (b1.mono hsz))
      clear b1 HB
      rcases h with rfl | ⟨r2, rfl, hr3, hr4, hm1, hm2, hS⟩
      · go_wp2
        go_ret
        exact ⟨.inl rfl, unhide HB1⟩
      · have hd2 : decide (r2 < 0) = false := by simp; omega
        have HS := hide hS
        clear hS
        go_wp2
        go_roundw
        case rel => exact ⟨k + 1, _, by omega, by go_num, rfl, by omega, by have := unhide HT; omega, by
          intro j y hj hy
          by_cases e : j = k
          · subst e; rw [unhide HX1] at hy; cases hy; exact unhide HS
          · exact unhide HN j y (by omega) hy, unhide HB1⟩
        case measure => simp [intOf]; omega
    · have hS : SmlS ss := fun j y hy => unhide HN j y (by have := (unhide HX).len.1; have := (List.getElem?_eq_some_iff.1 hy).1; omega) hy
      have HS := hide hS
      have hr5 : r + m + tot ss ≤ n := by
        have h := hr2
        rw [List.take_of_length_le (by have := (unhide HX).len.1; omega)] at h
        exact h
      clear hbel hS
      go_wp2
      go_ret
      exact ⟨.inr ⟨r, rfl, hr1, hr5, unhide HS⟩, unhide HB⟩

set_option maxHeartbeats 1000000 in
theorem szlog_any (c f : Int) (a : Option Addr) (m cap : Nat) (ss : List Sta) (hbig : BigS ss) (n : Int) (h1 : 0 ≤ n) (h2 : n ≤ 1048576) (w : World) (hm : m ≤ 9223372036854775807) (hx : RwS w (.slice a m cap) ss) :
    Calls Try.prog 19 #[.agg #[.int .i64 c, .int .i64 f, .slice a m cap], .int .i64 n] w fun e w' => (e = .returned (.int .i64 (-1)) ∨ ∃ r : Int, e = .returned (.int .i64 r) ∧ 0 ≤ r ∧ r + m + tot ss ≤ n ∧ SmlS ss) ∧ Below w.heap.size w w' := by
  have HX := hide hx
  clear hx
  go_enter Try.func19, Try.ntmps19
  go_wp2_with fail
  refine (szstates_any a m cap ss hbig n h1 h2 _ hm ((unhide HX).alloc _)).mono ?_
  rintro e w1 ⟨h, b1⟩
  have HB := hide (((Below.refl w.heap.size w).alloc (Nat.le_refl _) _).trans (b1.mono (by simp)))
  clear b1
  rcases h with rfl | ⟨r, rfl, hr1, hr2, hS⟩
  · go_wp2
    go_ret
    exact ⟨.inl rfl, unhide HB⟩
  · have HS := hide hS
    clear hS
    have hd : decide (r < 0) = false := by simp; omega
    go_wp2
    go_ret
    exact ⟨.inr ⟨r, rfl, hr1, hr2, unhide HS⟩, unhide HB⟩

theorem Try.infoState : (Try.prog.info? 37).map (fun i => (i.zero, i.size, i.bytes)) = some (some (.agg #[.slice none 0 0, .slice none 0 0]), 2, 48) := by kernel_rfl
def zeroS : Two := (.slice none 0 0, .slice none 0 0)
theorem set_fill {α : Type} (ps : List α) (z p : α) (m : Nat) : (ps ++ List.replicate (m + 1) z).set ps.length p = (ps ++ [p]) ++ List.replicate m z := by
  rw [List.set_append_right _ _ (Nat.le_refl _), Nat.sub_self, List.replicate_succ, List.set_cons_zero, List.append_assoc]; rfl
/-- The block of an owned row, where it has one. -/
theorem OwV.blk {base : Nat} {w : World} {v : Value} {ps : List Two} (h : OwV base w v ps) : ∀ g, v.ownBlock = some g → ∃ cs fz, w.heap[g]? = some (.cells cs 37 fz) := by
  intro g hg
  rcases h.2 with ⟨rfl, _⟩ | ⟨g', cap, cur, rfl, _, hh, _⟩
  · cases hg
  · simp only [Value.ownBlock, Option.some.injEq] at hg
    subst hg
    exact ⟨_, _, hh⟩

set_option maxHeartbeats 2000000 in
theorem tostates_any (a : Option Addr) (n cap : Nat) (ss : List Sta) (w : World) (hn : n ≤ 1048576) (ht : tot ss ≤ 1048576) (hx : RwS w (.slice a n cap) ss) :
    Calls Try.prog 60 #[.slice a n cap] w fun e w' => ∃ a' c', e = .returned (.slice a' n c') ∧ OwS w.heap.size w'.heap.size w' (.slice a' n c') ss ∧ Below w.heap.size w w' := by
  obtain ⟨i0, hi, hz0, hz1, hz2⟩ := info_parts Try.infoState
  have hb2 : i0.bytes * n ≤ 281474976710656 := by rw [hz2]; omega
  have hml : n ≤ maxLen := by unfold maxLen; omega
  have HZ2 := hide hz2
  have HX := hide hx
  clear hz2 hx
  go_enter Try.func60, Try.ntmps60
  go_wp2_with (first | (at_make; refine wpList_make_full _ rfl _ _ 49 rfl w.heap.size 37 i0 (.agg #[.slice none 0 0, .slice none 0 0]) 2 Try.underlying49 hi hz0 hz1 .i64 .i64 _ _ n rfl rfl rfl rfl hb2 hml (Nat.le_refl _) ?_))
  intro w1 hown hgrow
  have hbel : Below w.heap.size w w1 := (Below.refl _ _).grown hgrow (Nat.le_refl _) (fun k hk => by cases hk)
  have hlen := (unhide HX).len.1
  have hown0 : OwV w.heap.size w1 (.slice (some ⟨w.heap.size, 0, none⟩) n n) ([] ++ List.replicate (n - 0) zeroS) := by
    rw [made_flat (enc := encS) (by omega) encS_len #[.slice none 0 0, .slice none 0 0] zeroS rfl n] at hown
    unfold OwV Ow
    simpa using hown
  have HL := hide hlen
  clear hown hgrow hlen
  go_wp2
  go_loopw [4] (fun i wr => ∃ (k : Nat) (ps : List Two), k ≤ n ∧ i = .int .i64 k ∧ ps.length = k ∧ OwV w.heap.size wr (.slice (some ⟨w.heap.size, 0, none⟩) n n) (ps ++ List.replicate (n - k) zeroS) ∧ Pa w.heap.size wr.heap.size wr ps (ss.take k) ∧ Below w.heap.size w wr) (fun i _ => n - (intOf i).toNat)
  case atStart => exact ⟨0, [], Nat.zero_le _, rfl, rfl, hown0, Pa.nil _ _ _, hbel⟩
  case round =>
    obtain ⟨k, ps, hk, rfl, hpl, hown, hpa, hb⟩ := hrel
    clear hown0 hbel
    by_cases hlt : k < n
    · obtain ⟨xs, fs, ai, ni, ci, af, nf, cf, b, off, hx, rfl, hbw, hcap, c0, c1, rx, rf⟩ := (unhide HX).at hlt
      have d0 := (hb.cell (p := ⟨b, off + k * 2, none⟩) hbw).trans c0
      have d1 := (hb.cell (p := ⟨b, off + k * 2 + 1, none⟩) hbw).trans c1
      have hT := tot_at hx
      have e1 := rx.len.1
      have e2 := rf.len.1
      simp only at hT
      have hn1 : ni ≤ 1048576 := by omega
      have hn2 : nf ≤ 1048576 := by omega
      have HO := hide hown
      have HP := hide hpa
      have HB := hide hb
      have hsz := hb.size
      have HX1 := hide hx
      have RX := hide rx
      have RF := hide rf
      have HPL := hide hpl
      clear c0 c1 hx hown hpa hb rx rf e1 e2 hT hpl
      go_wp2_with fail
      refine (tostate_any ai ni ci xs af nf cf fs _ hn1 hn2 ((unhide RX).later (unhide HB)) ((unhide RF).later (unhide HB))).mono ?_
      rintro e w2 ⟨a1, c1, a2, c2, rfl, o1, o2, b2⟩
      have hown2 := (unhide HO).later b2
      have hpa2 := (unhide HP).later b2
      have hb3 := (unhide HB).trans (b2.mono hsz)
      have hz2 := b2.size
      have hfl : (ps ++ List.replicate (n - k) zeroS).length = n := by have := unhide HPL; simp; omega
      obtain ⟨y0, y1, z0, z1, zf⟩ := own_cells2 (show w2.ownsRow w.heap.size 37 2 (.slice (some ⟨w.heap.size, 0, none⟩) n n) n _ from by have h := hown2; unfold OwV Ow at h; rw [hfl] at h; exact h) hlt
      have R1 := hown2.put (by omega) encS_len hfl.symm k hlt (.slice a1 ni c1, .slice a2 nf c2)
      have hG := (setW_own (encS (.slice a1 ni c1, .slice a2 nf c2)) (show w2.ownsRow w.heap.size 37 2 (.slice (some ⟨w.heap.size, 0, none⟩) n n) n _ from by have h := hown2; unfold OwV Ow at h; rw [hfl] at h; exact h) (k * 2)).2
      have hP3 := (hpa2.snoc (p := (.slice a1 ni c1, .slice a2 nf c2)) (s := (xs, fs)) (hi' := w2.heap.size) o1 o2 (Nat.le_refl _) hsz (Nat.le_refl _) hz2).other (fun g hg => OwV.blk hown2 g (by simpa [Value.ownBlock] using hg)) hG
      rw [← take_at (unhide HX1)] at hP3
      rw [show k = ps.length from (unhide HPL).symm, show n - ps.length = (n - (k + 1)) + 1 by have := unhide HPL; omega, set_fill] at R1
      have HR1 := hide R1
      have HR2 := hide (setW_below (g := w.heap.size) (Nat.le_refl _) (encS (.slice a1 ni c1, .slice a2 nf c2)) hb3 (k * 2))
      have HP3 := hide hP3
      have HSZ := hide (setW_size (encS (.slice a1 ni c1, .slice a2 nf c2)) w2 w.heap.size (k * 2))
      clear hown2 hb3 b2 R1 HO HB HX1 hfl hpa2 hG hP3 o1 o2 HP
      go_wp2
      go_roundw
      case rel =>
        refine ⟨k + 1, ps ++ [(.slice a1 ni c1, .slice a2 nf c2)], by omega, by go_num, by simp [unhide HPL], ?_, ?_, unhide HR2⟩
        · have h := unhide HR1
          rw [unhide HPL] at h
          exact h
        · have h := unhide HP3
          rw [← unhide HSZ] at h
          exact h
      case measure => simp [intOf]; omega
    · have hkn : k = n := by omega
      have HO : Hid (OwS w.heap.size wr.heap.size wr (.slice (some ⟨w.heap.size, 0, none⟩) n n) ss) := by
        refine hide ⟨⟨ps, ?_, ?_⟩, fun g hg => (World.ownsRow.lt hown g (by simpa [Value.ownBlock] using hg)).2⟩
        · have h := hown
          rw [hkn, Nat.sub_self] at h
          simpa using h
        · have h := hpa
          rw [List.take_of_length_le (by have := unhide HL; omega)] at h
          exact h
      have HB := hide hb
      clear hown hb hpa
      go_wp2
      go_ret
      exact ⟨_, _, rfl, unhide HO, unhide HB⟩
end Go.Proofs.Ytdpaocikmijioaf
