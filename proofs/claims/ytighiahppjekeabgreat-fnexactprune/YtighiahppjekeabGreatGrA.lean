/-
  What the laws do with a table: its size is taken off, it is turned into the program's own, two are compared, it is marked and held. No statement is proved here.
-/
import Derived.Test.YtighiahppjekeabGreatGrM
import Derived.Test.YtighiahppjekeabGreatIntO
import Derived.BigQuiet
import Derived.Deep.QuietTactic
namespace Go.Proofs.YtighiahppjekeabGreat
open Go.RowKit

theorem Tryz.infoRow : (Tryz.prog.info? 43).map (fun i => (i.zero, i.size, i.bytes)) = some (some (.slice none 0 0), 1, 24) := by kernel_rfl
def zeroV : Value := .slice none 0 0
theorem fillG {α : Type} (ps : List α) (z p : α) (m : Nat) : (ps ++ List.replicate (m + 1) z).set ps.length p = (ps ++ [p]) ++ List.replicate m z := by
  rw [List.set_append_right _ _ (Nat.le_refl _), Nat.sub_self, List.replicate_succ, List.set_cons_zero, List.append_assoc]; rfl
/-- A row is stored into an owned table's outer row, which is filled so far. -/
theorem OwR.fill {base g n m : Nat} {w : World} {ps : List Value} {p : Value} (h : OwR base w (.slice (some ⟨g, 0, none⟩) n n) (ps ++ List.replicate (m + 1) zeroV)) (hn : n = ps.length + (m + 1)) :
    (∃ y, w.cell? ⟨g, ps.length, none⟩ = some y) ∧ (∀ o, w.frozen? ⟨g, o, none⟩ = false) ∧ OwR base (w.setCell ⟨g, ps.length, none⟩ p) (.slice (some ⟨g, 0, none⟩) n n) ((ps ++ [p]) ++ List.replicate m zeroV) ∧ w.grownBy (w.setCell ⟨g, ps.length, none⟩ p) (some g) ∧ base ≤ g := by
  have hl : (ps ++ List.replicate (m + 1) zeroV).length = n := by simp; omega
  have h' : w.ownsRow base 43 1 (.slice (some ⟨g, 0, none⟩) n n) n ((ps ++ List.replicate (m + 1) zeroV).flatMap encV) := by
    have q := h
    unfold OwR Ow at q
    rw [hl] at q
    exact q
  have hf : ∀ l : List Value, l.flatMap encV = l := fun l => by
    induction l with
    | nil => rfl
    | cons x r ih => rw [List.flatMap_cons, ih]; rfl
  rw [hf] at h'
  have hst := h'.stored ps.length p
  refine ⟨⟨_, (h'.cellAt ps.length (by omega)).trans (List.getElem?_eq_getElem (by rw [hl]; omega))⟩, h'.frozenAt, ?_, hst.2, (World.ownsRow.lt h' _ rfl).1⟩
  rw [fillG] at hst
  unfold OwR Ow
  have hl2 : ((ps ++ [p]) ++ List.replicate m zeroV).length = n := by simp; omega
  rw [hl2, hf]
  exact hst.1

set_option maxHeartbeats 1000000 in
theorem szints_any (a : Option Addr) (m cap : Nat) (n : Int) (h1 : 0 ≤ n) (h2 : n ≤ 1048576) (w : World) (hm : m ≤ 9223372036854775807) :
    Calls Tryz.prog 17 #[.slice a m cap, .int .i64 n] w fun e w' => (e = .returned (.int .i64 (-1)) ∨ ∃ r : Int, e = .returned (.int .i64 r) ∧ 0 ≤ r ∧ r + m ≤ n) ∧ Below w.heap.size w w' := by
  by_cases hb : n < m
  · have hd : decide (n - (m : Int) < 0) = true := by simp; omega
    go_enter Tryz.func17, Tryz.ntmps17
    go_wp2
    go_ret
    exact ⟨.inl rfl, Below.refl _ _⟩
  · have hd : decide (n - (m : Int) < 0) = false := by simp; omega
    have hmn : (m : Int) ≤ n := by omega
    clear hb
    go_enter Tryz.func17, Tryz.ntmps17
    go_wp2
    go_ret
    exact ⟨.inr ⟨_, rfl, by omega, by omega⟩, Below.refl _ _⟩
/-- Each length is one of this machine. -/
def BigG (t : Tb) : Prop := ∀ (i : Nat) (r : List Int), t[i]? = some r → r.length ≤ 9223372036854775807
set_option maxHeartbeats 1000000 in
theorem szgrid_any (a : Option Addr) (m cap : Nat) (t : Tb) (hbig : BigG t) (n : Int) (h1 : 0 ≤ n) (h2 : n ≤ 1048576) (w : World) (hm : m ≤ 9223372036854775807) (hx : RwG w (.slice a m cap) t) :
    Calls Tryz.prog 5 #[.slice a m cap, .int .i64 n] w fun e w' => (e = .returned (.int .i64 (-1)) ∨ ∃ r : Int, e = .returned (.int .i64 r) ∧ 0 ≤ r ∧ r + m + totG t ≤ n) ∧ Below w.heap.size w w' := by
  have HX := hide hx
  have HG := hide hbig
  clear hx hbig
  by_cases hb : n < m
  · have hd : decide (n - (m : Int) < 0) = true := by simp; omega
    go_enter Tryz.func5, Tryz.ntmps5
    go_wp2
    go_ret
    exact ⟨.inl rfl, Below.refl _ _⟩
  have hd : decide (n - (m : Int) < 0) = false := by simp; omega
  have hmn : (m : Int) ≤ n := by omega
  clear hb
  go_enter Tryz.func5, Tryz.ntmps5
  go_wp2
  go_loopw [1, 5] (fun l i wr => ∃ (k : Nat) (r : Int), k ≤ m ∧ i = .int .i64 k ∧ l = .int .i64 r ∧ 0 ≤ r ∧ r + m + totG (t.take k) ≤ n ∧ Below w.heap.size w wr) (fun _ i _ => m - (intOf i).toNat)
  case atStart => exact ⟨0, n - m, Nat.zero_le _, rfl, rfl, by omega, by simp [totG] <;> omega, Below.refl _ _⟩
  case round =>
    obtain ⟨k, r, hk, rfl, rfl, hr1, hr2, hbel⟩ := hrel
    have HB := hide hbel
    have hsz := hbel.size
    by_cases hlt : k < m
    · obtain ⟨q, ai, ni, ci, b, off, hx, rfl, hb, hcap, c0, rx, -⟩ := (unhide HX).at hlt
      have d0 := (hbel.cell (p := ⟨b, off + k, none⟩) hb).trans c0
      have e1 := rx.len.1
      have hn1 : ni ≤ 9223372036854775807 := by have := unhide HG k _ hx; omega
      have HT : Hid (totG (t.take (k + 1)) = totG (t.take k) + ni) := hide (by rw [takeG hx, totG_app]; simp [totG, e1])
      clear c0 hx hbel rx e1
      go_wp2_with fail
      refine (szints_any ai ni ci r hr1 (by omega) _ hn1).mono ?_
      rintro e w1 ⟨h, b1⟩
      have HB1 := hide ((unhide HB).trans (b1.mono hsz))
      clear b1 HB
      rcases h with rfl | ⟨r2, rfl, hr3, hr4⟩
      · go_wp2
        go_ret
        exact ⟨.inl rfl, unhide HB1⟩
      · have hd2 : decide (r2 < 0) = false := by simp; omega
        go_wp2
        go_roundw
        case rel => exact ⟨k + 1, _, by omega, by go_num, rfl, by omega, by have := unhide HT; omega, unhide HB1⟩
        case measure => simp [intOf]; omega
    · have hr5 : r + m + totG t ≤ n := by
        have h := hr2
        rw [List.take_of_length_le (by have := (unhide HX).len.1; omega)] at h
        exact h
      clear hbel
      go_wp2
      go_ret
      exact ⟨.inr ⟨r, rfl, hr1, hr5⟩, unhide HB⟩

set_option maxHeartbeats 2000000 in
set_option maxRecDepth 100000 in
theorem togrid_any (a : Option Addr) (n cap : Nat) (t : Tb) (w : World) (hn : n ≤ 1048576) (ht : totG t ≤ 1048576) (hx : RwG w (.slice a n cap) t) :
    Calls Tryz.prog 8 #[.slice a n cap] w fun e w' => ∃ a' c', e = .returned (.slice a' n c') ∧ OwG w.heap.size w'.heap.size w' (.slice a' n c') t ∧ Below w.heap.size w w' := by
  obtain ⟨i0, hi, hz0, hz1, hz2⟩ := info_parts Tryz.infoRow
  have hb2 : i0.bytes * n ≤ 281474976710656 := by rw [hz2]; omega
  have hml : n ≤ maxLen := by unfold maxLen; omega
  have HZ2 := hide hz2
  have HX := hide hx
  clear hz2 hx
  go_enter Tryz.func8, Tryz.ntmps8
  go_wp2_with (first | (at_make; refine wpList_make_full _ rfl _ _ 26 rfl w.heap.size 43 i0 (.slice none 0 0) 1 Tryz.underlying26 hi hz0 hz1 .i64 .i64 _ _ n rfl rfl rfl rfl hb2 hml (Nat.le_refl _) ?_))
  intro w1 hown hgrow
  have hbel : Below w.heap.size w w1 := (Below.refl _ _).grown hgrow (Nat.le_refl _) (fun k hk => by cases hk)
  have hlen := (unhide HX).len.1
  have hown0 : OwR w.heap.size w1 (.slice (some ⟨w.heap.size, 0, none⟩) n n) ([] ++ List.replicate (n - 0) zeroV) := by
    have hmf := made_flat (enc := encV) (by omega) encV_len #[.slice none 0 0] zeroV rfl n
    rw [Nat.mul_one] at hmf
    rw [hmf] at hown
    unfold OwR Ow
    simpa using hown
  have HL := hide hlen
  clear hown hgrow hlen
  go_wp2
  go_loopw [4] (fun i wr => ∃ (k : Nat) (ps : List Value), k ≤ n ∧ i = .int .i64 k ∧ ps.length = k ∧ OwR w.heap.size wr (.slice (some ⟨w.heap.size, 0, none⟩) n n) (ps ++ List.replicate (n - k) zeroV) ∧ PaG w.heap.size wr.heap.size wr ps (t.take k) ∧ Below w.heap.size w wr) (fun i _ => n - (intOf i).toNat)
  case atStart => exact ⟨0, [], Nat.zero_le _, rfl, rfl, hown0, PaG.nil _ _ _, hbel⟩
  case round =>
    obtain ⟨k, ps, hk, rfl, hpl, hown, hpa, hb⟩ := hrel
    clear hown0 hbel
    by_cases hlt : k < n
    · obtain ⟨r, ai, ni, ci, b, off, hx, rfl, hbw, hcap, c0, rx, -⟩ := (unhide HX).at hlt
      have d0 := (hb.cell (p := ⟨b, off + k, none⟩) hbw).trans c0
      have hT := totG_at hx
      have e1 := rx.len.1
      have hn1 : ni ≤ 1048576 := by omega
      have HO := hide hown
      have HP := hide hpa
      have HB := hide hb
      have hsz := hb.size
      have HX1 := hide hx
      have RX := hide rx
      have HPL := hide hpl
      clear c0 hx hown hpa hb rx e1 hT hpl
      go_wp2_with fail
      refine (toints_v ai ni ci r _ (by omega) ((unhide RX).later (unhide HB))).mono ?_
      rintro e w2 ⟨a1, c1, rfl, o1, b2⟩
      have hown2 := (unhide HO).later b2
      have hpa2 := (unhide HP).later b2
      have hb3 := (unhide HB).trans (b2.mono hsz)
      have hz2 := b2.size
      have hpl := unhide HPL
      rw [show n - k = (n - (k + 1)) + 1 by omega] at hown2
      obtain ⟨⟨y0, z0⟩, zf, R1, hG, hlo⟩ := OwR.fill (p := .slice a1 ni c1) hown2 (by omega)
      rw [hpl] at z0 R1 hG
      have hP3 := (hpa2.snoc (p := .slice a1 ni c1) (r := r) (hi' := w2.heap.size) o1 (Nat.le_refl _) hsz (Nat.le_refl _) hz2).other (T := 43) (fun g hg => hown2.blkT g (by simpa [Value.ownBlock] using hg)) (by decide) hG
      rw [← takeG (unhide HX1)] at hP3
      have HR1 := hide R1
      have HR2 := hide (hb3.setCell (p := ⟨w.heap.size, k, none⟩) (Nat.le_refl _) (.slice a1 ni c1))
      have HP3 := hide hP3
      clear hown2 hb3 b2 R1 HO HB HX1 hpa2 hG hP3 o1 HP hpl
      go_wp2
      go_roundw
      case rel => exact ⟨k + 1, ps ++ [.slice a1 ni c1], by omega, by go_num, by simp [unhide HPL], unhide HR1, by simpa using unhide HP3, unhide HR2⟩
      case measure => simp [intOf]; omega
    · have hkn : k = n := by omega
      have HO : Hid (OwG w.heap.size wr.heap.size wr (.slice (some ⟨w.heap.size, 0, none⟩) n n) t) := by
        refine hide ⟨⟨ps, ?_, ?_⟩, fun g hg => (World.ownsRow.lt hown g (by simpa [Value.ownBlock] using hg)).2⟩
        · have h := hown
          rw [hkn, Nat.sub_self] at h
          simpa using h
        · have h := hpa
          rw [List.take_of_length_le (by have := unhide HL; omega)] at h
          exact h
      have HB := hide hb
      clear hown hb hpa
      go_wp2
      go_ret
      exact ⟨_, _, rfl, unhide HO, unhide HB⟩

set_option maxHeartbeats 2000000 in
theorem eqgrid_same (a : Option Addr) (n cap : Nat) (a2 : Option Addr) (cap2 : Nat) (t : Tb) (w : World) (hn : n ≤ 140737488351232) (ht : totG t ≤ 140737488351232) (hx : RwG w (.slice a n cap) t) (hy : RwG w (.slice a2 n cap2) t) :
    Calls Tryz.prog 11 #[.slice a n cap, .slice a2 n cap2] w fun e w' => e = .returned (.bool true) ∧ Below w.heap.size w w' := by
  have d0 : ((n : Int) != (n : Int)) = false := by simp
  have HX := hide hx
  have HY := hide hy
  clear hx hy
  go_enter Tryz.func11, Tryz.ntmps11
  go_wp2
  go_loopw [5] (fun i wr => ∃ k : Nat, k ≤ n ∧ i = .int .i64 k ∧ Below w.heap.size w wr) (fun i _ => n - (intOf i).toNat)
  case atStart => exact ⟨0, Nat.zero_le _, rfl, Below.refl _ _⟩
  case round =>
    obtain ⟨k, hk, rfl, hbel⟩ := hrel
    have HB := hide hbel
    have hsz := hbel.size
    by_cases hlt : k < n
    · obtain ⟨r, ai, ni, ci, b, off, hx, rfl, hb, hcap, c0, rx, -⟩ := (unhide HX).at hlt
      obtain ⟨r', bi, mi, di, b2, off2, hy, rfl, hb2, hcap2, e0, ry, -⟩ := (unhide HY).at hlt
      rw [hx] at hy
      simp only [Option.some.injEq] at hy
      subst hy
      have hT := totG_at hx
      obtain rfl : mi = ni := by rw [ry.len.1, rx.len.1]
      have hn1 : mi ≤ 140737488351232 := by have := rx.len.1; omega
      have l0 := later_some (w := wr) (b := b) (o := off + k) (by omega) ((hbel.cell (p := ⟨b, off + k, none⟩) hb).trans c0)
      have m0 := later_some (w := wr) (b := b2) (o := off2 + k) (by omega) ((hbel.cell (p := ⟨b2, off2 + k, none⟩) hb2).trans e0)
      have RX := hide (rx.later hbel)
      have RY := hide (ry.later hbel)
      clear c0 e0 hx hbel rx ry hT
      go_wp2_with fail
      refine wp_region_later (by kernel_rfl) (by kernel_rfl) ?_
      repeat (go_big_quiet_step (first | (go_at_call 34; exact Calls.later_of (eqints_v _ _ _ _ _ r _ hn1 ((unhide RX).in_later _ _) ((unhide RY).in_later _ _)))))
      refine wpQuiet_nil ?_
      intro w1 hb1
      have HB1 := hide ((unhide HB).trans (hb1.mono hsz))
      clear hb1 HB
      go_wp2
      go_roundw
      case rel => exact ⟨k + 1, by omega, by go_num, unhide HB1⟩
      case measure => simp [intOf]; omega
    · clear hbel
      go_wp2
      go_ret
      exact ⟨rfl, unhide HB⟩

/-- The marks of a table: from k on, a number each. -/
def mkG : Int → Tb → Tb
  | _, [] => []
  | k, r :: t => markN k r.length :: mkG (k + r.length) t
theorem mkG_app : ∀ (a b : Tb) (k : Int), mkG k (a ++ b) = mkG k a ++ mkG (k + totG a) b
  | [], b, k => by simp [mkG, totG]
  | s :: r, b, k => by rw [List.cons_append, mkG, mkG, totG, mkG_app r b]; simp [Int.add_assoc]
theorem mkG_len : ∀ (a : Tb) (k : Int), (mkG k a).length = a.length
  | [], k => rfl
  | s :: r, k => by rw [mkG, List.length_cons, List.length_cons, mkG_len r]
theorem dropG {α : Type} {xs : List α} {k : Nat} {x : α} (h : xs[k]? = some x) : xs.drop k = x :: xs.drop (k + 1) := by
  obtain ⟨hk, rfl⟩ := List.getElem?_eq_some_iff.1 h
  exact List.drop_eq_getElem_cons hk
theorem mkG_at {t : Tb} {j : Nat} {r : List Int} (h : t[j]? = some r) (k : Int) : (mkG k t)[j]? = some (markN (k + totG (t.take j)) r.length) := by
  have hj := (List.getElem?_eq_some_iff.1 h).1
  have e : t = t.take j ++ r :: t.drop (j + 1) := by rw [← dropG h, List.take_append_drop]
  conv => lhs; rw [e]
  rw [mkG_app, List.getElem?_append_right (by rw [mkG_len]; simp; omega), mkG_len]
  have : j - (t.take j).length = 0 := by simp; omega
  rw [this, mkG]
  rfl
/-- The first j marked, the rest as it was. -/
def mixG (k : Int) (t : Tb) (j : Nat) : Tb := mkG k (t.take j) ++ t.drop j
theorem mixG_at {k : Int} {t : Tb} {j : Nat} {r : List Int} (h : t[j]? = some r) : (mixG k t j)[j]? = some r := by
  have hj := (List.getElem?_eq_some_iff.1 h).1
  rw [mixG, List.getElem?_append_right (by rw [mkG_len]; simp; omega), mkG_len, show j - (t.take j).length = 0 by simp; omega, dropG h]; rfl
theorem mixG_next {k : Int} {t : Tb} {j : Nat} {r : List Int} (h : t[j]? = some r) : mixG k t (j + 1) = (mixG k t j).set j (markN (k + totG (t.take j)) r.length) := by
  have hj := (List.getElem?_eq_some_iff.1 h).1
  rw [mixG, mixG, takeG h, mkG_app, dropG h, List.set_append_right _ _ (by rw [mkG_len]; simp; omega), mkG_len, show j - (t.take j).length = 0 by simp; omega]
  simp [mkG]

set_option maxHeartbeats 4000000 in
set_option maxRecDepth 100000 in
theorem markgrid_any (lo hi : Nat) (a : Option Addr) (n cap : Nat) (t : Tb) (k : Int) (h1 : 0 ≤ k) (h2 : k ≤ 10000000) (w : World) (hn : n ≤ 2000000) (ht : totG t ≤ 2100000) (hx : OwG lo hi w (.slice a n cap) t) :
    Calls Tryz.prog 13 #[.slice a n cap, .int .i64 k] w fun e w' => e = .returned (.int .i64 (k + totG t)) ∧ OwG lo hi w' (.slice a n cap) (mkG k t) ∧ Trn (fun i => lo ≤ i ∧ i < hi) w w' := by
  have HL := hide hx.rw.len.1
  have HX := hide hx
  clear hx
  go_enter Tryz.func13, Tryz.ntmps13
  go_wp2
  go_loopw [1, 5] (fun q i wr => ∃ j : Nat, j ≤ n ∧ i = .int .i64 j ∧ q = .int .i64 (k + totG (t.take j)) ∧ OwG lo hi wr (.slice a n cap) (mixG k t j) ∧ Trn (fun i => lo ≤ i ∧ i < hi) w wr) (fun _ i _ => n - (intOf i).toNat)
  case atStart => exact ⟨0, Nat.zero_le _, rfl, by simp [totG], unhide HX, ⟨rfl, rfl, rfl, Nat.le_refl _, fun _ _ _ => rfl⟩⟩
  case round =>
    obtain ⟨j, hj, rfl, rfl, hrow, htr⟩ := hrel
    by_cases hlt : j < n
    · obtain ⟨r, hr⟩ : ∃ r, t[j]? = some r := ⟨_, List.getElem?_eq_getElem (by have := unhide HL; omega)⟩
      obtain ⟨ob, ar, cr, rfl, hcap, hob, c0, o1, htop, hput⟩ := hrow.slot (mixG_at (k := k) hr)
      have hT := totG_at hr
      have HE : Hid (k + (totG (t.take (j + 1)) : Int) = k + (totG (t.take j) : Int) + (r.length : Int)) := hide (by rw [takeG hr, totG_app]; simp [totG]; omega)
      have HN := hide (mixG_next (k := k) hr)
      generalize hq : k + (totG (t.take j) : Int) = q at *
      have hq0 : 0 ≤ q := by omega
      have hq1 : q ≤ 20000000 := by omega
      have hnr : r.length ≤ 2100000 := by omega
      generalize hrl : r.length = m at *
      have HQ := hide hq
      have HRL := hide hrl
      have O1 := hide o1
      have HTR := hide htr
      have HPUT := hide hput
      have HTOP := hide htop
      clear o1 htr hput htop hrow hT hq hrl
      go_wp2_with fail
      refine (markints_v lo ar m cr r q wr (by omega) hq0 (by omega) (unhide O1)).mono ?_
      rintro e w1 ⟨rfl, p1, g1⟩
      have HTR2 : Hid (Trn (fun i => lo ≤ i ∧ i < hi) w w1) := hide ((unhide HTR).trans ((Trn.of_grown g1).mono (fun i h => ⟨(World.ownsRow.lt (unhide O1) _ h).1, unhide HTOP i h⟩)))
      have HO2 := hide (unhide HPUT w1 _ g1 p1)
      clear p1 g1 O1 HTR HPUT HTOP c0
      go_wp2
      go_roundw
      case rel => exact ⟨j + 1, by omega, by go_num, by rw [unhide HE], by rw [unhide HN]; exact unhide HO2, unhide HTR2⟩
      case measure => simp [intOf]; omega
    · have hjl : t.take j = t := List.take_of_length_le (by have := unhide HL; omega)
      have HO : Hid (OwG lo hi wr (.slice a n cap) (mkG k t)) := hide (by
        have h := hrow
        rw [mixG, hjl, List.drop_of_length_le (by have := unhide HL; omega), List.append_nil] at h
        exact h)
      have HT := hide htr
      rw [hjl]
      clear hrow htr hjl
      go_wp2
      go_ret
      exact ⟨rfl, unhide HO, unhide HT⟩
end Go.Proofs.YtighiahppjekeabGreat
