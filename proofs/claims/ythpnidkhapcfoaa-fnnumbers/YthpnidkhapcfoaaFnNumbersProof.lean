/-
  The law FnNumbers answers true at every slice of bytes, and the slice reads behind the call as before it. No condition.
-/
import Derived.Test.YthpnidkhapcfoaaRows
import Derived.Test.YthpnidkhapcfoaaAppAny
import Derived.Test.YthpnidkhapcfoaaRoundP
import Derived.Test.YthpnidkhapcfoaaCrcP
import Derived.Test.YthpnidkhapcfoaaDrawN
import Derived.Test.YthpnidkhapcfoaaIPutText
import Derived.Test.YthpnidkhapcfoaaSPutNum
import Derived.Test.YthpnidkhapcfoaaIGet
import Derived.Test.YthpnidkhapcfoaaIGetText
import Derived.Test.YthpnidkhapcfoaaICrc
import Derived.WalkKit
import Derived.ProofKit
import Derived.OpenShut
import Derived.ShutString
import Derived.ChangeOld
import Derived.Below
namespace Go.Proofs.Ythpnidkhapcfoaa.fnNumbers
open Go.ChangeShapes Go.WideShapes Go.ChangeAt Go.RowKit
open Go.ChangeMaps (open_string shut_string)
set_option linter.unusedVariables false

theorem own : ownKnob Try.prog.godebug = none := by kernel_rfl
theorem laidOut : laidOutB Try.prog = true := by kernel_rfl

/-- WHAT THE WALK IS TOLD OF A SLICE OF INTEGERS THAT CAME IN: it is nil; or it leads to a row of 'cap' cells, the numbers 'zs' (the first 'len' are its elements, the rest its spare room), each fitting its kind. -/
def IsRow (k : IntKind) (w : World) (a : Option Addr) (len cap : Nat) (zs : List Int) : Prop :=
  (a = none ∧ len = 0 ∧ cap = 0 ∧ zs = []) ∨
  ∃ x, a = some x ∧ len ≤ cap ∧ cap ≤ maxLen ∧ zs.length = cap ∧ (∀ i, i < zs.length → w.cell? (x.add i) = some (.int k (zs.getD i 0))) ∧ ∀ n ∈ zs, (Lit.int k n).wf = true

/-! ### STEP 1: THE WALK: the Go text returns true, AND WRITES NOTHING THAT WAS THERE: 'Below w.heap.size w w'' (Derived/Below.lean: '.refl', '.alloc', '.drew', '.setCell' at a new block, '.trans'). Open each 'IsRow' by 'rcases' AHEAD of 'go_enter'; part every test ahead of the walk. -/
set_option maxHeartbeats 4000000 in
theorem walk (a0 : Option Addr) (len0 cap0 : Nat) (z0 : List Int) (w : World) (w0 : IsRow .u8 w a0 len0 cap0 z0) :
    Calls Try.prog 3 #[.slice a0 len0 cap0] w fun e w' => e = .returned (.bool true) ∧ Below w.heap.size w w' := by
  obtain ⟨i0, hi, hz0, hz1, hz2⟩ := info_parts Try.infoByte
  obtain ⟨xs, hl, hs, hbd⟩ := seg_of_row w0
  subst hl
  by_cases hbig : 1048576 < xs.length
  · clear w0 hs hbd
    go_enter Try.func3, Try.ntmps3
    go_wp2
    go_ret
    exact ⟨rfl, Below.refl _ _⟩
  · clear w0
    have HS := hide hs
    have HD := hide hbd
    clear hs hbd
    go_enter Try.func3, Try.ntmps3
    go_wp2_with fail
    refine (big_no _ _ _ _ hbig).mono ?_
    rintro e _ ⟨rfl, rfl⟩
    go_wp2_with fail
    refine (drawputnum_any _ xs _ (by omega) (unhide HD) (unhide HS)).mono ?_
    rintro e w1 ⟨⟨n, rfl, hn0, hn1⟩, b1⟩
    have B1 := hide b1
    have hs1 := b1.size
    clear b1
    go_wp2_with fail
    refine (drawputtext_any _ xs _ (by omega) (unhide HD) ((unhide HS).below (unhide B1) (Nat.le_refl _))).mono ?_
    rintro e w2 ⟨⟨s, rfl, hss⟩, b2⟩
    have B2 := hide ((unhide B1).trans (b2.mono hs1))
    have hs2 := b2.size
    clear b2 B1
    have hpn := putN_length n
    have hpt : (putT (bl s)).length ≤ 5 + s.size := by
      unfold putT
      rw [List.length_append, bl_length]
      have := putN_length s.size
      omega
    go_wp2_with fail
    refine (iputnum_any _ _ hn0 hn1).mono ?_
    rintro e w3 ⟨u3, rfl, o3, b3⟩
    obtain ⟨a3, c3, rfl, _, _⟩ := seg_of_owns o3
    have B3 := hide ((unhide B2).trans (b3.mono (by omega)))
    have hs3 := b3.size
    have O3 := hide o3
    clear b3 B2 o3
    have O7 := hide (World.ownsRow_lit (base := w.heap.size) (size := 1) (e := 5) w3 #[.int .u8 7] 1 (by omega) (by unfold maxLen; omega) rfl)
    have O3a := hide ((unhide O3).alloc (.cells #[.int .u8 7] 5))
    have B3a := hide ((unhide B3).alloc (by omega) (.cells #[.int .u8 7] 5))
    go_wp2_with (at_builtin; refine wpList_append_any _ rfl _ _ 22 rfl w.heap.size 5 i0 (.int .u8 0) 1 Try.underlying22 hi hz0 hz1 hz2 rfl _ _ _ rfl (unhide O7) _ _ _ _ rfl (unhide O3a) (ints_oneCell _ _) ?c3 ?c4 ?c5 ?_)
    case c3 => unfold maxLen; omega
    case c4 => omega
    case c5 => simp; omega
    intro v4 w4 o4 g4
    have hs4 := g4.size
    simp only [World.size_alloc] at hs4
    have B4 := hide ((unhide B3a).grown g4 (by simp; omega) (fun k hk => by simp [Value.ownBlock] at hk; omega))
    have O4 := hide o4
    clear o4 g4 B3 B3a O7 O3 O3a
    go_wp2_with fail
    refine (iputtext_any _ _ (by omega)).mono ?_
    rintro e w5 ⟨u5, rfl, o5, b5⟩
    have B5 := hide ((unhide B4).trans (b5.mono (by omega)))
    have O4 := hide (owns_later (unhide O4) b5 (Nat.le_refl _))
    have hs5 := b5.size
    have O5 := hide o5
    clear b5 B4 o5
    go_wp2_with (at_builtin; refine wpList_append_any _ rfl _ _ 22 rfl w.heap.size 5 i0 (.int .u8 0) 1 Try.underlying22 hi hz0 hz1 hz2 rfl _ _ _ rfl (unhide O4) _ _ _ _ rfl (unhide O5) (ints_oneCell _ _) ?d3 ?d4 ?d5 ?_)
    case d3 => unfold maxLen; omega
    case d4 => omega
    case d5 => omega
    intro v6 w6 o6 g6
    have hs6 := g6.size
    have B6 := hide ((unhide B5).grown g6 (by omega) (fun k hk => ((unhide O4).lt k hk).1))
    obtain ⟨bs, hbs⟩ : ∃ bs : List Int, bs = [7] ++ putN n ++ putT (bl s) := ⟨_, rfl⟩
    have hbl : bs.length = 1 + (putN n).length + (putT (bl s)).length := by rw [hbs]; simp; omega
    have o6' : w6.ownsRow w.heap.size 5 1 v6 bs.length (bs.map (Value.int .u8)) := by
      rw [hbl, hbs]
      simpa using o6
    obtain ⟨a6, c6, rfl, hc6, _⟩ := seg_of_owns o6'
    have O6 := hide o6'
    have HBS := hide hbs
    have HBL := hide hbl
    have hbl1 : 1 ≤ bs.length := by omega
    have hbl2 : bs.length ≤ 1000 := by omega
    clear o6 o6' g6 B5 O4 O5 hbs hbl
    have hbb := hide (show ∀ z ∈ bs, 0 ≤ z ∧ z ≤ 255 from by
      rw [unhide HBS]
      intro z hz
      rcases List.mem_append.1 hz with hz | hz
      · rcases List.mem_append.1 hz with hz | hz
        · simp at hz; omega
        · exact putN_bytes _ z hz
      · exact putT_bytes _ (bl_bytes s) z hz)
    have HGT := hide (show getT bs (1 + ((putN n).length : Int)) = some (bl s, (bs.length : Int)) from by
      rw [unhide HBS]
      have h := getT_put ([7] ++ putN n) (bl s) (by rw [bl_length]; omega)
      have e : ((([7] ++ putN n : List Int).length : Nat) : Int) = 1 + ((putN n).length : Int) := by simp; omega
      rw [e] at h
      exact h)
    go_wp2_with fail
    refine (sputnum_any _ _ hn0 hn1).mono ?_
    rintro e w7 ⟨u7, rfl, o7, b7⟩
    obtain ⟨a7, c7, rfl, _, _⟩ := seg_of_owns o7
    have B7 := hide ((unhide B6).trans (b7.mono (by omega)))
    have O6 := hide (owns_later (unhide O6) b7 (Nat.le_refl _))
    have hs7 := b7.size
    clear b7 o7 B6
    by_cases hr : 0 ≤ n ∧ n ≤ 2147483647
    · have hpos := putN_pos n hr.1 hr.2
      have hd1 : decide (0 < ((putN n).length : Int)) = true := by simp; omega
      have HGN := hide (show getN bs 1 = some (n, 1 + ((putN n).length : Int)) from by
        rw [unhide HBS]
        exact getN_put [7] (putT (bl s)) n hr.1 hr.2)
      go_wp2_with fail
      refine (igetnum_any _ bs _ _ (by omega) (unhide hbb) (seg_of_owns (unhide O6)) (by omega) (by omega)).mono ?_
      rintro e _ ⟨rfl, rfl⟩
      rw [unhide HGN]
      simp only [gres]
      go_wp2_with fail
      refine (igettext_any _ bs _ _ (by omega) (unhide hbb) (seg_of_owns (unhide O6)) (by omega) (by omega)).mono ?_
      rintro e _ ⟨rfl, rfl⟩
      rw [unhide HGT]
      simp only [tres]
      rw [str_bl]
      have OX := hide (World.ownsRow_made (base := w7.heap.size) (size := 1) (e := 5) w7 #[] 0 (Nat.le_refl _) (by simp [maxLen]) rfl)
      have O6a := hide ((unhide O6).alloc (.cells #[] 5))
      have B7a := hide ((unhide B7).alloc (by omega) (.cells #[] 5))
      have HB6 := hide (fun k (hk : (Value.slice a6 bs.length c6).ownBlock = some k) => ((unhide O6).lt k hk).2)
      go_wp2_with (at_builtin; refine wpList_append_any _ rfl _ _ 22 rfl w7.heap.size 5 i0 (.int .u8 0) 1 Try.underlying22 hi hz0 hz1 hz2 rfl _ _ _ rfl (unhide OX) _ _ _ _ rfl (unhide O6a) (ints_oneCell _ _) ?f3 ?f4 ?f5 ?_)
      case f3 => unfold maxLen; omega
      case f4 => omega
      case f5 => simp
      intro v9 w9 o9 g9
      have hs9 := g9.size
      simp only [World.size_alloc] at hs9
      have B9 := hide ((unhide B7a).grown g9 (by simp; omega) (fun k hk => by simp [Value.ownBlock] at hk; omega))
      have O6 := hide ((unhide O6a).kept g9 (by
        by_cases hk : (Value.slice a6 bs.length c6).ownBlock = none
        · exact .inl hk
        · refine .inr (fun he => ?_)
          have h2 : (Value.slice a6 bs.length c6).ownBlock = some w7.heap.size := he
          have := unhide HB6 _ h2
          omega))
      have O9 := hide o9
      rcases o9.2 with ⟨_, h9⟩ | ⟨q9, c9, cur9, rfl, hq9, hh9, _⟩
      · exfalso; omega
      have hq9' : q9 < w9.heap.size := (Array.getElem?_eq_some_iff.1 hh9).1
      clear o9 g9 B7 B7a OX O6a hh9
      go_wp2_with fail
      refine (at0_three _ xs _ (by omega) (unhide HD) ((unhide HS).below (unhide B9) (Nat.le_refl _))).mono ?_
      rintro e _ ⟨⟨y, rfl, hy0, hy1⟩, rfl⟩
      have hym : 0 ≤ y % (bs.length : Int) ∧ y % (bs.length : Int) < bs.length := ⟨Int.emod_nonneg _ (by omega), Int.emod_lt_of_pos _ (by omega)⟩
      obtain ⟨j, hj⟩ := Int.eq_ofNat_of_zero_le hym.1
      have hjl : j < bs.length := by omega
      go_wp2_with fail
      rw [hj]
      clear hym hj
      have hcx : w9.cell? ⟨q9, j, none⟩ = some (.int .u8 (bs.getD j 0)) := by
        rw [(unhide O9).cellAt j (by omega)]
        simp [hjl]
      have hfz := (unhide O9).frozenAt j
      have hzb := unhide hbb (bs.getD j 0) (by simp [hjl])
      have HST := hide (fun u => ((unhide O9).stored j u))
      have HZ := hide (drop_split bs j hjl)
      generalize hz : bs.getD j 0 = z at hcx hzb HZ
      obtain ⟨hz0, hz1⟩ := hzb
      clear hz
      have HA := hide (fun (wx : World) (h : wx.heap = w9.heap) => at0_four (.slice a0 xs.length cap0) xs wx (by omega) (unhide HD) (((unhide HS).below (unhide B9) (Nat.le_refl _)).heap h))
      go_region_with (go_at_call 12; refine (unhide HA _ ?_).mono ?_; exact rfl; rintro e _ ⟨⟨t, rfl, ht0, ht1⟩, rfl⟩)
      all_goals
        obtain ⟨y', hy', hy0', hy1', hyz⟩ := new_byte z t hz0 hz1 ht0
        rw [hy']
        obtain ⟨A, B, hAB, hset⟩ := unhide HZ
        have ox := (unhide HST (.int .u8 y')).1
        rw [hset (.int .u8 y')] at ox
        have gx := (unhide HST (.int .u8 y')).2
        have OX := hide (show (w9.setCell ⟨q9, j, none⟩ (.int .u8 y')).drew.ownsRow w7.heap.size 5 1 (.slice (some ⟨q9, 0, none⟩) bs.length c9) bs.length ((A ++ y' :: B).map (Value.int .u8)) from by
          rw [List.map_append, List.map_cons]
          exact ox.drew)
        have OB := hide (show (w9.setCell ⟨q9, j, none⟩ (.int .u8 y')).drew.ownsRow w.heap.size 5 1 (.slice a6 bs.length c6) bs.length (bs.map (Value.int .u8)) from
          ((unhide O6).kept gx (by
            by_cases hk : (Value.slice a6 bs.length c6).ownBlock = none
            · exact .inl hk
            · refine .inr (fun he => ?_)
              have := unhide HB6 _ he
              omega)).drew)
        have BX := hide (((unhide B9).setCell (p := ⟨q9, j, none⟩) (show w.heap.size ≤ q9 by omega) (.int .u8 y')).drew)
        have hbx : ∀ x ∈ A ++ y' :: B, 0 ≤ x ∧ x ≤ 255 := by
          intro x hx
          rcases List.mem_append.1 hx with hx | hx
          · exact unhide hbb x (by rw [hAB]; simp [hx])
          · rcases List.mem_cons.1 hx with rfl | hx
            · exact ⟨hy0', hy1'⟩
            · exact unhide hbb x (by rw [hAB]; simp [hx])
        have hlx : (A ++ y' :: B).length ≤ 281474976710656 := by
          have e : (A ++ y' :: B).length = bs.length := by rw [hAB]; simp
          omega
        have hne : (crcOf (A ++ y' :: B) != crcOf bs) = true := by
          rw [bne_iff_ne]
          conv => rhs; rw [hAB]
          exact crcOf_ne A B y' z hbx (by rw [← hAB]; exact unhide hbb) hyz
        have hge : decide (0 ≤ crcOf bs) = true := by simpa using crcOf_nonneg bs (unhide hbb)
        have HLX := hide hlx
        generalize hXX : A ++ y' :: B = ys at OX HLX hne
        clear ox gx hset hAB hbx hXX hlx HST HZ
        go_wp2_with fail
        refine (icrc_any _ ys _ (unhide HLX) (seg_of_owns (unhide OX))).mono ?_
        rintro e _ ⟨rfl, rfl⟩
        go_wp2_with fail
        refine (icrc_any _ bs _ (by omega) (seg_of_owns (unhide OB))).mono ?_
        rintro e _ ⟨rfl, rfl⟩
        go_wp2_with fail
        refine (icrc_any _ bs _ (by omega) (seg_of_owns (unhide OB))).mono ?_
        rintro e _ ⟨rfl, rfl⟩
        go_wp2
        go_ret
        exact ⟨by first | rfl | simp, unhide BX⟩
    · have hnil : putN n = [] := by unfold putN; rw [if_neg hr]
      have hln : (putN n).length = 0 := by rw [hnil]; rfl
      have hd1 : decide (0 < ((putN n).length : Int)) = false := by simp; omega
      have hd2 : (((putN n).length : Int) != 0) = false := by simp; omega
      have hle : ((putN n).length : Int) < 1 := by omega
      have HLN := hide hln
      clear hnil hln
      go_wp2_with fail
      refine (igettext_any _ bs _ _ (by omega) (unhide hbb) (seg_of_owns (unhide O6)) (by omega) (by omega)).mono ?_
      rintro e _ ⟨rfl, rfl⟩
      rw [show (1 : Int) = 1 + ((putN n).length : Int) by rw [unhide HLN]; rfl, unhide HGT]
      simp only [tres]
      rw [str_bl]
      have OX := hide (World.ownsRow_made (base := w7.heap.size) (size := 1) (e := 5) w7 #[] 0 (Nat.le_refl _) (by simp [maxLen]) rfl)
      have O6a := hide ((unhide O6).alloc (.cells #[] 5))
      have B7a := hide ((unhide B7).alloc (by omega) (.cells #[] 5))
      have HB6 := hide (fun k (hk : (Value.slice a6 bs.length c6).ownBlock = some k) => ((unhide O6).lt k hk).2)
      go_wp2_with (at_builtin; refine wpList_append_any _ rfl _ _ 22 rfl w7.heap.size 5 i0 (.int .u8 0) 1 Try.underlying22 hi hz0 hz1 hz2 rfl _ _ _ rfl (unhide OX) _ _ _ _ rfl (unhide O6a) (ints_oneCell _ _) ?h3 ?h4 ?h5 ?_)
      case h3 => unfold maxLen; omega
      case h4 => omega
      case h5 => simp
      intro v9 w9 o9 g9
      have hs9 := g9.size
      simp only [World.size_alloc] at hs9
      have B9 := hide ((unhide B7a).grown g9 (by simp; omega) (fun k hk => by simp [Value.ownBlock] at hk; omega))
      have O6 := hide ((unhide O6a).kept g9 (by
        by_cases hk : (Value.slice a6 bs.length c6).ownBlock = none
        · exact .inl hk
        · refine .inr (fun he => ?_)
          have h2 : (Value.slice a6 bs.length c6).ownBlock = some w7.heap.size := he
          have := unhide HB6 _ h2
          omega))
      have O9 := hide o9
      rcases o9.2 with ⟨_, h9⟩ | ⟨q9, c9, cur9, rfl, hq9, hh9, _⟩
      · exfalso; omega
      have hq9' : q9 < w9.heap.size := (Array.getElem?_eq_some_iff.1 hh9).1
      clear o9 g9 B7 B7a OX O6a hh9
      go_wp2_with fail
      refine (at0_three _ xs _ (by omega) (unhide HD) ((unhide HS).below (unhide B9) (Nat.le_refl _))).mono ?_
      rintro e _ ⟨⟨y, rfl, hy0, hy1⟩, rfl⟩
      have hym : 0 ≤ y % (bs.length : Int) ∧ y % (bs.length : Int) < bs.length := ⟨Int.emod_nonneg _ (by omega), Int.emod_lt_of_pos _ (by omega)⟩
      obtain ⟨j, hj⟩ := Int.eq_ofNat_of_zero_le hym.1
      have hjl : j < bs.length := by omega
      go_wp2_with fail
      rw [hj]
      clear hym hj
      have hcx : w9.cell? ⟨q9, j, none⟩ = some (.int .u8 (bs.getD j 0)) := by
        rw [(unhide O9).cellAt j (by omega)]
        simp [hjl]
      have hfz := (unhide O9).frozenAt j
      have hzb := unhide hbb (bs.getD j 0) (by simp [hjl])
      have HST := hide (fun u => ((unhide O9).stored j u))
      have HZ := hide (drop_split bs j hjl)
      generalize hz : bs.getD j 0 = z at hcx hzb HZ
      obtain ⟨hz0, hz1⟩ := hzb
      clear hz
      have HA := hide (fun (wx : World) (h : wx.heap = w9.heap) => at0_four (.slice a0 xs.length cap0) xs wx (by omega) (unhide HD) (((unhide HS).below (unhide B9) (Nat.le_refl _)).heap h))
      go_region_with (go_at_call 12; refine (unhide HA _ ?_).mono ?_; exact rfl; rintro e _ ⟨⟨t, rfl, ht0, ht1⟩, rfl⟩)
      all_goals
        obtain ⟨y', hy', hy0', hy1', hyz⟩ := new_byte z t hz0 hz1 ht0
        rw [hy']
        obtain ⟨A, B, hAB, hset⟩ := unhide HZ
        have ox := (unhide HST (.int .u8 y')).1
        rw [hset (.int .u8 y')] at ox
        have gx := (unhide HST (.int .u8 y')).2
        have OX := hide (show (w9.setCell ⟨q9, j, none⟩ (.int .u8 y')).drew.ownsRow w7.heap.size 5 1 (.slice (some ⟨q9, 0, none⟩) bs.length c9) bs.length ((A ++ y' :: B).map (Value.int .u8)) from by
          rw [List.map_append, List.map_cons]
          exact ox.drew)
        have OB := hide (show (w9.setCell ⟨q9, j, none⟩ (.int .u8 y')).drew.ownsRow w.heap.size 5 1 (.slice a6 bs.length c6) bs.length (bs.map (Value.int .u8)) from
          ((unhide O6).kept gx (by
            by_cases hk : (Value.slice a6 bs.length c6).ownBlock = none
            · exact .inl hk
            · refine .inr (fun he => ?_)
              have := unhide HB6 _ he
              omega)).drew)
        have BX := hide (((unhide B9).setCell (p := ⟨q9, j, none⟩) (show w.heap.size ≤ q9 by omega) (.int .u8 y')).drew)
        have hbx : ∀ x ∈ A ++ y' :: B, 0 ≤ x ∧ x ≤ 255 := by
          intro x hx
          rcases List.mem_append.1 hx with hx | hx
          · exact unhide hbb x (by rw [hAB]; simp [hx])
          · rcases List.mem_cons.1 hx with rfl | hx
            · exact ⟨hy0', hy1'⟩
            · exact unhide hbb x (by rw [hAB]; simp [hx])
        have hlx : (A ++ y' :: B).length ≤ 281474976710656 := by
          have e : (A ++ y' :: B).length = bs.length := by rw [hAB]; simp
          omega
        have hne : (crcOf (A ++ y' :: B) != crcOf bs) = true := by
          rw [bne_iff_ne]
          conv => rhs; rw [hAB]
          exact crcOf_ne A B y' z hbx (by rw [← hAB]; exact unhide hbb) hyz
        have hge : decide (0 ≤ crcOf bs) = true := by simpa using crcOf_nonneg bs (unhide hbb)
        have HLX := hide hlx
        generalize hXX : A ++ y' :: B = ys at OX HLX hne
        clear ox gx hset hAB hbx hXX hlx HST HZ
        go_wp2_with fail
        refine (icrc_any _ ys _ (unhide HLX) (seg_of_owns (unhide OX))).mono ?_
        rintro e _ ⟨rfl, rfl⟩
        go_wp2_with fail
        refine (icrc_any _ bs _ (by omega) (seg_of_owns (unhide OB))).mono ?_
        rintro e _ ⟨rfl, rfl⟩
        go_wp2_with fail
        refine (icrc_any _ bs _ (by omega) (seg_of_owns (unhide OB))).mono ?_
        rintro e _ ⟨rfl, rfl⟩
        go_wp2
        go_ret
        exact ⟨by first | rfl | simp, unhide BX⟩

/-! ### THE ROW's STEP: WRITTEN OUT: LEAVE IT -/
set_option maxRecDepth 100000 in
theorem lifted (os : Os) (started : os.Started) (H : Type) (enc : TypeId × Value → H) :
    ReturnsInHanded {} Try.checked os 3 .any (Rows.fnNumbersSpec.pre6 enc Try.prog Try.f3 Rows.fnNumbersRow.domain false) (Rows.fnNumbersSpec.post enc Try.prog Try.f3 false true false false) := by
  refine returnsInHanded_of_change (C := Try.checked) own started (by kernel_rfl) Try.func3
    (ChangeSpec.witness6 (enc := enc) (C := Try.checked) false ⟨#[], #[.slice none 0 0], []⟩ 8 (by kernel_rfl) (by kernel_rfl) (by kernel_rfl) (by kernel_rfl)) ?_
  intro W base args ds gs before hval0 hW hcnd _
  have hval : ∀ (j : Nat) t v, Try.f3.params[j]? = some t → args[j]? = some v → Value.okWide Try.prog W .any base t v := hval0
  have hW' := hW
  obtain ⟨p, q, hA0, hV, rfl, hfz, hnd⟩ := hW
  have hA : DataW.TrodAll enc Try.prog W 0 (fun _ => true) true Try.f3.params.toList args.toList ds p := hA0
  rw [Try.params3] at hA hval
  obtain ⟨v0, vs0, d0, ds0, p0, q0, hargs, rfl, rfl, h0, r0⟩ := trodAll_cons hA
  obtain ⟨rfl, rfl, rfl⟩ := trodAll_nil r0
  obtain rfl : args = #[v0] := by cases args; simp_all
  obtain ⟨rfl, rfl⟩ := trodVars_none hV
  obtain ⟨a0, len0, cap0, rfl⟩ := okWide_slice Try.underlying22 (hval 0 22 v0 rfl rfl)
  have k0 := h0
  have lt0 : ∀ x ∈ p0, x.block < W.heap.size := by obtain ⟨m, hm⟩ := k0; exact DataW.trod_lt m _ _ _ hm
  obtain ⟨z0, w0⟩ : ∃ zs, IsRow .u8 W a0 len0 cap0 zs := by
    obtain ⟨fuel, hf⟩ := h0
    rcases open_ints Try.underlying22 Try.underlying5 (by kernel_rfl) hf with ⟨hcs, _⟩ | ⟨x, l, c, zs, hcs, _, hl, hm, hz, _, hcell, hwz⟩
    · simp [Value.cells] at hcs
      obtain ⟨rfl, rfl, rfl⟩ := hcs
      exact ⟨[], .inl ⟨rfl, rfl, rfl, rfl⟩⟩
    · simp [Value.cells] at hcs
      obtain ⟨rfl, rfl, rfl⟩ := hcs
      exact ⟨zs, .inr ⟨_, rfl, hl, hm, by simpa using hz, hcell, hwz⟩⟩
  clear hA0 hval0
  refine (walk a0 len0 cap0 z0 W w0).mono fun e W' ⟨he, bel⟩ => ?_
  subst he
  exact ⟨_, rfl, _, _, _, [], _, [], hW', trodAll_mk1 (shut_bool Try.underlying4 _), (trodAll_cons_mk (Below.trod laidOut (by kernel_rfl) (of_decide_eq_true (by kernel_rfl)) k0 bel lt0) trodAll_mk0), rfl, bel.frame _, fun h => by cases h⟩

theorem over : Rows.fnNumbersRow.holds Try.pinned (OpenSpec.ofChange Rows.fnNumbersSpec) :=
  OpenClaim.holds_of_wide 3 Try.f3 rfl rfl rfl rfl rfl rfl rfl ⟨rfl, rfl, rfl, rfl, rfl⟩ rfl rfl rfl rfl rfl (by kernel_rfl) Try.func3 (by kernel_rfl)
    (of_decide_eq_true (by kernel_rfl)) (by unfold Func.isWrapper; first | (rw [if_pos (by decide +kernel)]; kernel_rfl) | (rw [if_neg (by decide +kernel)]; exact ⟨rfl, rfl⟩))
    (fun os started H enc _ => lifted os started H enc)

theorem proved : Rows.FnNumbersSaid := over
#print axioms proved
end Go.Proofs.Ythpnidkhapcfoaa.fnNumbers
namespace Go.Proofs.Ythpnidkhapcfoaa
theorem fnNumbers_holds : Rows.FnNumbersSaid := fnNumbers.proved
end Go.Proofs.Ythpnidkhapcfoaa
