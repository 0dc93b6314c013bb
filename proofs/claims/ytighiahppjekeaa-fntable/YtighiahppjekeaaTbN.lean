/-
  A new table, a table's copy: the specification's and the program's. No statement is proved here.
-/
import Derived.Test.YtighiahppjekeaaGrA
import Derived.Test.YtighiahppjekeaaApp2
import Derived.Test.YtighiahppjekeaaNmA
namespace Go.Proofs.Ytighiahppjekeaa
open Go.RowKit

theorem oneV (v : Value) (h : v.oneCell' = true) : ∀ u ∈ encV v, u.oneCell' = true := by
  intro u hu
  simp [encV] at hu
  subst hu
  exact h
theorem nul_cells : (madeCells #[.int .i64 0] 5).toList = nulR.flatMap encN := made_flat (enc := encN) (by omega) encN_len #[.int .i64 0] 0 rfl 5
theorem nul_len : nulR.length = 5 := rfl
theorem own_nul {base : Nat} {w : World} {v : Value} (h : w.ownsRow base 3 1 v 5 (madeCells #[.int .i64 0] 5).toList) : OwN base w v nulR := by
  unfold OwN Ow
  rw [nul_len, ← nul_cells]
  exact h
set_option maxHeartbeats 4000000 in
set_option maxRecDepth 100000 in
theorem stablenew_any (n : Int) (w : World) :
    Calls Try.prog 99 #[.int .i64 n] w fun e w' => ∃ a m c, e = .returned (.slice a m c) ∧ OwG w.heap.size w'.heap.size w' (.slice a m c) (newT n) ∧ Below w.heap.size w w' := by
  obtain ⟨b1, h1⟩ : ∃ b, Hid (inB n 1 5 = b) := ⟨_, hide rfl⟩
  obtain ⟨i0, hi, hz0, hz1, hz2⟩ := info_parts Try.infoInt
  obtain ⟨i1, gi, gz0, gz1, gz2⟩ := info_parts Try.infoRow
  have HZ2 := hide hz2
  have HY2 := hide gz2
  clear hz2 gz2
  go_enter Try.func99, Try.ntmps99
  go_wp2_with fail
  refine (l1in_is n 1 5 b1 (unhide h1) _).mono ?_
  rintro e _ ⟨rfl, rfl⟩
  cases b1
  · have HO : Hid (OwG w.heap.size (w.heap.size + 1) (w.alloc (.cells #[] 30)) (.slice (some ⟨w.heap.size, 0, none⟩) 0 0) (newT n)) := hide (by
      have e : newT n = [] := by unfold newT; rw [if_neg (by rw [unhide h1]; simp)]
      rw [e]
      exact ⟨⟨[], World.ownsRow_made _ #[] 0 (Nat.le_refl _) (by simp [maxLen]) rfl, PaG.nil _ _ _⟩, fun g hg => by simp [Value.ownBlock] at hg; omega⟩)
    go_wp2
    go_ret
    exact ⟨_, _, _, rfl, by simpa using unhide HO, (Below.refl _ _).alloc (Nat.le_refl _) _⟩
  obtain ⟨m, rfl⟩ : ∃ m : Nat, n = (m : Int) := by
    have h := unhide h1
    simp [inB] at h
    exact ⟨n.toNat, by omega⟩
  have hm5 : m ≤ 5 := by
    have h := unhide h1
    simp [inB] at h
    omega
  have HE : Hid (newT (m : Int) = List.replicate m nulR) := hide (by unfold newT; rw [if_pos (unhide h1)]; simp)
  clear h1
  go_wp2
  go_loopw [3, 4] (fun v i wr => ∃ (k : Nat) (a : Option Addr) (c : Nat) (ps : List Value), k ≤ m ∧ i = .int .i64 k ∧ v = .slice a k c ∧ ps.length = k ∧ OwR w.heap.size wr (.slice a k c) ps ∧ PaG w.heap.size wr.heap.size wr ps (List.replicate k nulR) ∧ Below w.heap.size w wr) (fun _ i _ => m - (intOf i).toNat)
  case atStart => exact ⟨0, _, _, [], Nat.zero_le _, rfl, rfl, rfl, World.ownsRow_made _ #[] 0 (Nat.le_refl _) (by simp [maxLen]) rfl, PaG.nil _ _ _, (Below.refl _ _).alloc (Nat.le_refl _) _⟩
  case round =>
    obtain ⟨k, a, c, ps, hk, rfl, rfl, hpl, hown, hpa, hb⟩ := hrel
    have HO := hide hown
    have HP := hide hpa
    have HB := hide hb
    have HPL := hide hpl
    have hsz := hb.size
    clear hown hpa hb hpl
    by_cases hlt : k < m
    · have hb5 : i0.bytes * 5 ≤ 281474976710656 := by rw [unhide HZ2]; omega
      go_wp2_with (first | (at_make; refine wpList_make_full _ rfl _ _ 30 rfl wr.heap.size 3 i0 (.int .i64 0) 1 Try.underlying30 hi hz0 hz1 .i64 .i64 _ _ 5 rfl rfl rfl rfl hb5 (by unfold maxLen; omega) (Nat.le_refl _) ?_))
      intro w1 hown1 hgrow
      have b1 : Below wr.heap.size wr w1 := (Below.refl _ _).grown hgrow (Nat.le_refl _) (fun k hk => by cases hk)
      have z1 := b1.size
      have o1 : OwN wr.heap.size w1 (.slice (some ⟨wr.heap.size, 0, none⟩) 5 5) nulR := own_nul hown1
      have HO1 := hide o1
      have HOR := hide ((unhide HO).later b1)
      have HP1 := hide (((unhide HP).later b1).snoc (hi' := w1.heap.size) o1 (Nat.le_refl _) hsz (Nat.le_refl _) z1)
      have HB1 := hide ((unhide HB).trans (b1.mono hsz))
      have hz1 : w.heap.size ≤ w1.heap.size := by omega
      clear b1 o1 hown1 hgrow HO HP HB
      go_wp2_with (first | (at_builtin; refine wpList_app1x encV_len (by omega) 30 24 i1 _ 24 Try.underlying24 gi gz0 gz1 (unhide HY2) rfl (by omega) w1 (.slice (some ⟨wr.heap.size, 0, none⟩) 5 5) (oneV _ rfl) rfl _ _ rfl w.heap.size _ ps k (hide (unhide HPL).symm) rfl (unhide HOR) rfl (by omega) hz1 ?_))
      · intro a' c' w2 hO hG
        have hz2 : w1.heap.size ≤ w2.heap.size := hG.size
        have HO2 := hide hO
        have HP2 := hide (((unhide HP1).other (T := 30) (unhide HOR).blkT (by decide) hG).mono (Nat.le_refl _) hz2)
        have HB2 := hide ((unhide HB1).grown hG hz1 (fun g hg => (World.ownsRow.lt (unhide HOR) g hg).1))
        clear hO hG HP1 HB1 HOR
        go_wp2
        go_roundw
        case rel => exact ⟨k + 1, _, _, ps ++ [.slice (some ⟨wr.heap.size, 0, none⟩) 5 5], by omega, by go_num, rfl, by simp [unhide HPL], unhide HO2, by rw [List.replicate_succ']; exact unhide HP2, unhide HB2⟩
        case measure => simp [intOf]; omega
    · have HOG : Hid (OwG w.heap.size wr.heap.size wr (.slice a k c) (newT m)) := hide (by
        have e : k = m := by omega
        rw [unhide HE, ← e]
        exact ⟨⟨ps, unhide HO, unhide HP⟩, fun g hg => (World.ownsRow.lt (unhide HO) g hg).2⟩)
      clear HO HP
      go_wp2
      go_ret
      exact ⟨_, _, _, rfl, unhide HOG, unhide HB⟩
set_option maxHeartbeats 4000000 in
set_option maxRecDepth 100000 in
theorem itablenew_any (n : Int) (w : World) :
    Calls Try.prog 14 #[.int .i64 n] w fun e w' => ∃ a m c, e = .returned (.slice a m c) ∧ OwG w.heap.size w'.heap.size w' (.slice a m c) (newT n) ∧ Below w.heap.size w w' := by
  obtain ⟨b1, h1⟩ : ∃ b, Hid (inB n 1 5 = b) := ⟨_, hide rfl⟩
  obtain ⟨i0, hi, hz0, hz1, hz2⟩ := info_parts Try.infoInt
  obtain ⟨i1, gi, gz0, gz1, gz2⟩ := info_parts Try.infoRow
  have HZ2 := hide hz2
  have HY2 := hide gz2
  clear hz2 gz2
  go_enter Try.func14, Try.ntmps14
  go_wp2_with fail
  refine (within_is n 1 5 b1 (unhide h1) _).mono ?_
  rintro e _ ⟨rfl, rfl⟩
  cases b1
  · have HE : Hid (newT n = []) := hide (by unfold newT; rw [if_neg (by rw [unhide h1]; simp)])
    go_wp2
    go_ret
    exact ⟨none, 0, 0, rfl, by rw [unhide HE]; exact OwG.nil _ _ _, Below.refl _ _⟩
  obtain ⟨m, rfl⟩ : ∃ m : Nat, n = (m : Int) := by
    have h := unhide h1
    simp [inB] at h
    exact ⟨n.toNat, by omega⟩
  have hm5 : m ≤ 5 := by
    have h := unhide h1
    simp [inB] at h
    omega
  have HE : Hid (newT (m : Int) = List.replicate m nulR) := hide (by unfold newT; rw [if_pos (unhide h1)]; simp)
  have hb6 : i1.bytes * m ≤ 281474976710656 := by rw [unhide HY2]; omega
  clear h1
  go_wp2_with (first | (at_make; refine wpList_make_full _ rfl _ _ 24 rfl w.heap.size 30 i1 (.slice none 0 0) 1 Try.underlying24 gi gz0 gz1 .i64 .i64 _ _ m rfl rfl rfl rfl hb6 (by unfold maxLen; omega) (Nat.le_refl _) ?_))
  intro w1 hown hgrow
  have hbel : Below w.heap.size w w1 := (Below.refl _ _).grown hgrow (Nat.le_refl _) (fun k hk => by cases hk)
  have hown0 : OwR w.heap.size w1 (.slice (some ⟨w.heap.size, 0, none⟩) m m) ([] ++ List.replicate (m - 0) zeroV) := by
    have hmf := made_flat (enc := encV) (by omega) encV_len #[.slice none 0 0] zeroV rfl m
    rw [Nat.mul_one] at hmf
    rw [hmf] at hown
    unfold OwR Ow
    simpa using hown
  clear hown hgrow
  go_wp2
  go_loopw [12] (fun i wr => ∃ (k : Nat) (ps : List Value), k ≤ m ∧ i = .int .i64 k ∧ ps.length = k ∧ OwR w.heap.size wr (.slice (some ⟨w.heap.size, 0, none⟩) m m) (ps ++ List.replicate (m - k) zeroV) ∧ PaG w.heap.size wr.heap.size wr ps (List.replicate k nulR) ∧ Below w.heap.size w wr) (fun i _ => m - (intOf i).toNat)
  case atStart => exact ⟨0, [], Nat.zero_le _, rfl, rfl, hown0, PaG.nil _ _ _, hbel⟩
  case round =>
    obtain ⟨k, ps, hk, rfl, hpl, hown, hpa, hb⟩ := hrel
    clear hown0 hbel
    have HO := hide hown
    have HP := hide hpa
    have HB := hide hb
    have HPL := hide hpl
    have hsz := hb.size
    clear hown hpa hb hpl
    by_cases hlt : k < m
    · have hb5 : i0.bytes * 5 ≤ 281474976710656 := by rw [unhide HZ2]; omega
      go_wp2_with (first | (at_make; refine wpList_make_full _ rfl _ _ 30 rfl wr.heap.size 3 i0 (.int .i64 0) 1 Try.underlying30 hi hz0 hz1 .i64 .i64 _ _ 5 rfl rfl rfl rfl hb5 (by unfold maxLen; omega) (Nat.le_refl _) ?_))
      intro w2 hown1 hgrow
      have b2 : Below wr.heap.size wr w2 := (Below.refl _ _).grown hgrow (Nat.le_refl _) (fun k hk => by cases hk)
      have z2 := b2.size
      have o1 : OwN wr.heap.size w2 (.slice (some ⟨wr.heap.size, 0, none⟩) 5 5) nulR := own_nul hown1
      have hown2 := (unhide HO).later b2
      have hpa2 := (unhide HP).later b2
      have hb3 := (unhide HB).trans (b2.mono hsz)
      have hpl := unhide HPL
      rw [show m - k = (m - (k + 1)) + 1 by omega] at hown2
      obtain ⟨⟨y0, z0⟩, zf, R1, hG, hlo⟩ := OwR.fill (p := .slice (some ⟨wr.heap.size, 0, none⟩) 5 5) hown2 (by omega)
      rw [hpl] at z0 R1 hG
      have hP3 := (hpa2.snoc (p := .slice (some ⟨wr.heap.size, 0, none⟩) 5 5) (r := nulR) (hi' := w2.heap.size) o1 (Nat.le_refl _) hsz (Nat.le_refl _) z2).other (T := 30) (fun g hg => hown2.blkT g (by simpa [Value.ownBlock] using hg)) (by decide) hG
      rw [← List.replicate_succ'] at hP3
      have HR1 := hide R1
      have HR2 := hide (hb3.setCell (p := ⟨w.heap.size, k, none⟩) (Nat.le_refl _) (.slice (some ⟨wr.heap.size, 0, none⟩) 5 5))
      have HP3 := hide hP3
      clear hown2 hb3 b2 R1 HO HB hpa2 hG hP3 o1 HP hpl hown1 hgrow
      go_wp2
      go_roundw
      case rel => exact ⟨k + 1, ps ++ [.slice (some ⟨wr.heap.size, 0, none⟩) 5 5], by omega, by go_num, by simp [unhide HPL], unhide HR1, by simpa using unhide HP3, unhide HR2⟩
      case measure => simp [intOf]; omega
    · have HOG : Hid (OwG w.heap.size wr.heap.size wr (.slice (some ⟨w.heap.size, 0, none⟩) m m) (newT m)) := by
        have e : k = m := by omega
        refine hide ⟨⟨ps, ?_, ?_⟩, fun g hg => (World.ownsRow.lt (unhide HO) g (by simpa [Value.ownBlock] using hg)).2⟩
        · have h := unhide HO
          rw [e, Nat.sub_self] at h
          simpa using h
        · rw [unhide HE, ← e]; exact unhide HP
      clear HO HP
      go_wp2
      go_ret
      exact ⟨_, _, _, rfl, unhide HOG, unhide HB⟩
theorem ownform {E : TypeId} {base : Nat} {w : World} {v : Value} {r : List Int} {n : Nat} (h : Ow encN 1 E base w v ([] ++ r)) (hn : n = r.length) : ∃ a1 c1, v = .slice a1 n c1 ∧ Hid (Ow encN 1 E base w (.slice a1 n c1) r) := by
  subst hn
  rw [List.nil_append] at h
  obtain ⟨a1, c1, rfl⟩ := h.form
  exact ⟨a1, c1, rfl, hide h⟩
set_option maxHeartbeats 4000000 in
set_option maxRecDepth 100000 in
theorem l9copy_any (a : Option Addr) (n c : Nat) (t : Tb) (w : World) (hn : n ≤ 1048576) (ht : totG t ≤ 1048576) (h : RwG w (.slice a n c) t) :
    Calls Try.prog 41 #[.slice a n c] w fun e w' => ∃ a' c', e = .returned (.slice a' n c') ∧ OwG w.heap.size w'.heap.size w' (.slice a' n c') t ∧ Below w.heap.size w w' := by
  obtain ⟨i1, gi, gz0, gz1, gz2⟩ := info_parts Try.infoRow
  have HY2 := hide gz2
  have HX := hide h
  clear gz2 h
  go_enter Try.func41, Try.ntmps41
  go_wp2
  go_loopw [3, 4] (fun v i wr => ∃ (k : Nat) (b : Option Addr) (d : Nat) (ps : List Value), k ≤ n ∧ i = .int .i64 k ∧ v = .slice b k d ∧ ps.length = k ∧ OwR w.heap.size wr (.slice b k d) ps ∧ PaG w.heap.size wr.heap.size wr ps (t.take k) ∧ Below w.heap.size w wr) (fun _ i _ => n - (intOf i).toNat)
  case atStart => exact ⟨0, _, _, [], Nat.zero_le _, rfl, rfl, rfl, World.ownsRow_made _ #[] 0 (Nat.le_refl _) (by simp [maxLen]) rfl, PaG.nil _ _ _, (Below.refl _ _).alloc (Nat.le_refl _) _⟩
  case round =>
    obtain ⟨k, b, d, ps, hk, rfl, rfl, hpl, hown, hpa, hb⟩ := hrel
    have HO := hide hown
    have HP := hide hpa
    have HB := hide hb
    have HPL := hide hpl
    have hsz := hb.size
    by_cases hlt : k < n
    · obtain ⟨r, ai, ni, ci, bb, off, hx, rfl, hbw, hcap, c0, rx, hnil⟩ := (unhide HX).at hlt
      have d0 := (hb.cell (p := ⟨bb, off + k, none⟩) hbw).trans c0
      have hbw2 : bb < wr.heap.size := by omega
      have hT := totG_at hx
      have hn1 : ni ≤ 1048576 := by have := rx.len.1; omega
      have HRX := hide (rx.later hb)
      have HNI := hide rx.len.1
      have HX1 := hide hx
      have HM : Hid (OwN wr.heap.size (wr.alloc (.cells #[] 3)) (.slice (some ⟨wr.heap.size, 0, none⟩) 0 0) []) := hide (madeN (Nat.le_refl _) (heap_alloc_new wr _))
      clear c0 hx rx hT hown hpa hb hpl
      go_wp2_with (first
        | (at_builtin; refine wpList_appN _ rfl _ _ rfl wr.heap.size _ [] rfl (unhide HM) ai ni ci r rfl ((unhide HRX).alloc _) hnil (by have := unhide HNI; simp; omega) (by simp) ?_; intro v' w1 hV hG; have HV := hide hV; have HG := hide (((Below.refl wr.heap.size wr).alloc (Nat.le_refl _) _).grown hG (by simp) (fun k hk => ((unhide HM).lt k hk).1)); clear hV hG; obtain ⟨a1, c1, rfl, HR1⟩ : ∃ a1 c1, v' = .slice a1 ni c1 ∧ Hid (OwN wr.heap.size w1 (.slice a1 ni c1) r) := ownform (unhide HV) (unhide HNI); have HOR := hide ((unhide HO).later (unhide HG)); have z1 := (unhide HG).size; have hz1 : w.heap.size ≤ w1.heap.size := by omega)
        | (at_builtin; refine wpList_app1x encV_len (by omega) 30 24 i1 _ 24 Try.underlying24 gi gz0 gz1 (unhide HY2) rfl (by omega) w1 (.slice a1 ni c1) (oneV _ rfl) rfl _ _ rfl w.heap.size _ ps k (hide (unhide HPL).symm) rfl (unhide HOR) rfl (by omega) hz1 ?_))
      intro a' c' w2 hO hG
      have hz2 : w1.heap.size ≤ w2.heap.size := hG.size
      have HO2 := hide hO
      have HP2 := hide (((((unhide HP).later (unhide HG)).snoc (hi' := w1.heap.size) (unhide HR1) (Nat.le_refl _) hsz (Nat.le_refl _) z1).other (T := 30) (unhide HOR).blkT (by decide) hG).mono (Nat.le_refl _) hz2)
      rw [← takeG (unhide HX1)] at HP2
      have HB2 := hide (((unhide HB).trans ((unhide HG).mono hsz)).grown hG hz1 (fun g hg => (World.ownsRow.lt (unhide HOR) g hg).1))
      clear hO hG HP HOR HO HB HG HR1
      go_wp2
      go_roundw
      case rel => exact ⟨k + 1, _, _, ps ++ [.slice a1 ni c1], by omega, by go_num, rfl, by simp [unhide HPL], unhide HO2, unhide HP2, unhide HB2⟩
      case measure => simp [intOf]; omega
    · have e : k = n := by omega
      have HOG : Hid (OwG w.heap.size wr.heap.size wr (.slice b n d) t) := hide (by
        have h1 := unhide HO
        have h2 := unhide HP
        rw [List.take_of_length_le (by have := (unhide HX).len.1; omega)] at h2
        rw [e] at h1
        exact ⟨⟨ps, h1, h2⟩, fun g hg => (World.ownsRow.lt h1 g hg).2⟩)
      subst e
      clear HO HP hown hpa hb hpl
      go_wp2
      go_ret
      exact ⟨_, _, rfl, unhide HOG, unhide HB⟩
set_option maxHeartbeats 4000000 in
set_option maxRecDepth 100000 in
theorem itablecopy_any (a : Option Addr) (n c : Nat) (t : Tb) (w : World) (hn : n ≤ 1048576) (ht : totG t ≤ 1048576) (h : RwG w (.slice a n c) t) :
    Calls Try.prog 38 #[.slice a n c] w fun e w' => ∃ a' c', e = .returned (.slice a' n c') ∧ OwG w.heap.size w'.heap.size w' (.slice a' n c') t ∧ Below w.heap.size w w' := by
  obtain ⟨i1, gi, gz0, gz1, gz2⟩ := info_parts Try.infoRow
  have HY2 := hide gz2
  have HX := hide h
  have hb6 : i1.bytes * n ≤ 281474976710656 := by rw [gz2]; omega
  clear gz2 h
  go_enter Try.func38, Try.ntmps38
  go_wp2_with (first | (at_make; refine wpList_make_full _ rfl _ _ 24 rfl w.heap.size 30 i1 (.slice none 0 0) 1 Try.underlying24 gi gz0 gz1 .i64 .i64 _ _ n rfl rfl rfl rfl hb6 (by unfold maxLen; omega) (Nat.le_refl _) ?_))
  intro w1 hown hgrow
  have hbel : Below w.heap.size w w1 := (Below.refl _ _).grown hgrow (Nat.le_refl _) (fun k hk => by cases hk)
  have hown0 : OwR w.heap.size w1 (.slice (some ⟨w.heap.size, 0, none⟩) n n) ([] ++ List.replicate (n - 0) zeroV) := by
    have hmf := made_flat (enc := encV) (by omega) encV_len #[.slice none 0 0] zeroV rfl n
    rw [Nat.mul_one] at hmf
    rw [hmf] at hown
    unfold OwR Ow
    simpa using hown
  clear hown hgrow
  go_wp2
  go_loopw [11] (fun i wr => ∃ (k : Nat) (ps : List Value), k ≤ n ∧ i = .int .i64 k ∧ ps.length = k ∧ OwR w.heap.size wr (.slice (some ⟨w.heap.size, 0, none⟩) n n) (ps ++ List.replicate (n - k) zeroV) ∧ PaG w.heap.size wr.heap.size wr ps (t.take k) ∧ Below w.heap.size w wr) (fun i _ => n - (intOf i).toNat)
  case atStart => exact ⟨0, [], Nat.zero_le _, rfl, rfl, hown0, PaG.nil _ _ _, hbel⟩
  case round =>
    obtain ⟨k, ps, hk, rfl, hpl, hown, hpa, hb⟩ := hrel
    clear hown0 hbel
    have HO := hide hown
    have HP := hide hpa
    have HB := hide hb
    have HPL := hide hpl
    have hsz := hb.size
    clear hown hpa hpl
    by_cases hlt : k < n
    · obtain ⟨r, ai, ni, ci, bb, off, hx, rfl, hbw, hcap, c0, rx, hnil⟩ := (unhide HX).at hlt
      have d0 := (hb.cell (p := ⟨bb, off + k, none⟩) hbw).trans c0
      have hbw2 : bb < wr.heap.size := by omega
      have hT := totG_at hx
      have hn1 : ni ≤ 1048576 := by have := rx.len.1; omega
      have HRX := hide (rx.later hb)
      have HX1 := hide hx
      have HNL := hide hnil
      clear c0 hx rx hT hb hnil
      go_wp2_with fail
      refine (iclone_any ai ni ci r _ (by omega) (unhide HNL) (unhide HRX)).mono ?_
      rintro e w2 ⟨a1, c1, rfl, o1, b2⟩
      have z2 := b2.size
      have hown2 := (unhide HO).later b2
      have hpa2 := (unhide HP).later b2
      have hb3 := (unhide HB).trans (b2.mono hsz)
      have hpl := unhide HPL
      rw [show n - k = (n - (k + 1)) + 1 by omega] at hown2
      obtain ⟨⟨y0, z0⟩, zf, R1, hG, hlo⟩ := OwR.fill (p := .slice a1 ni c1) hown2 (by omega)
      rw [hpl] at z0 R1 hG
      have hP3 := (hpa2.snoc (p := .slice a1 ni c1) (r := r) (hi' := w2.heap.size) o1 (Nat.le_refl _) hsz (Nat.le_refl _) z2).other (T := 30) (fun g hg => hown2.blkT g (by simpa [Value.ownBlock] using hg)) (by decide) hG
      rw [← takeG (unhide HX1)] at hP3
      have HR1 := hide R1
      have HR2 := hide (hb3.setCell (p := ⟨w.heap.size, k, none⟩) (Nat.le_refl _) (.slice a1 ni c1))
      have HP3 := hide hP3
      clear hown2 hb3 b2 R1 HO HB hpa2 hG hP3 o1 HP hpl
      go_wp2
      go_roundw
      case rel => exact ⟨k + 1, ps ++ [.slice a1 ni c1], by omega, by go_num, by simp [unhide HPL], unhide HR1, by simpa using unhide HP3, unhide HR2⟩
      case measure => simp [intOf]; omega
    · have HOG : Hid (OwG w.heap.size wr.heap.size wr (.slice (some ⟨w.heap.size, 0, none⟩) n n) t) := by
        have e : k = n := by omega
        refine hide ⟨⟨ps, ?_, ?_⟩, fun g hg => (World.ownsRow.lt (unhide HO) g (by simpa [Value.ownBlock] using hg)).2⟩
        · have h := unhide HO
          rw [e, Nat.sub_self] at h
          simpa using h
        · have h2 := unhide HP
          rw [List.take_of_length_le (by have := (unhide HX).len.1; omega)] at h2
          exact h2
      clear HO HP hb
      go_wp2
      go_ret
      exact ⟨_, _, rfl, unhide HOG, unhide HB⟩
end Go.Proofs.Ytighiahppjekeaa
