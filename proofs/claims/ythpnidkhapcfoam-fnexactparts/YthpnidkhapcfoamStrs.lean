/-
  The helpers of the laws on slices of texts: 'eqStringS' says yes to two that read the same; 'markStringS' lays marks, 'heldStringS' finds them. No statement is proved here.
-/
import Derived.Test.YthpnidkhapcfoamStrP
import Derived.BigQuiet
import Derived.Deep.QuietTactic
import Derived.Deep.RegionWith
namespace Go.Proofs.Ythpnidkhapcfoam
open Go.RowKit

/-- Texts as values. -/
def sv (ss : List (List Int)) : List Value := ss.map fun x => Value.string (strOfNums x)
theorem sv_length (ss : List (List Int)) : (sv ss).length = ss.length := by simp [sv]
theorem sv_get (ss : List (List Int)) (i : Nat) (h : i < ss.length) : (sv ss)[i]? = some (.string (strOfNums (ss.getD i []))) := by simp [sv, h]

/-- The slice value v reads as the cells cs. -/
def SegV (w : World) (v : Value) (cs : List Value) : Prop :=
  ∃ a cap, v = .slice a cs.length cap ∧ cs.length ≤ cap ∧ (cs = [] ∨ ∃ b off, a = some ⟨b, off, none⟩ ∧ b < w.heap.size ∧ ∀ i, i < cs.length → w.cell? ⟨b, off + i, none⟩ = cs[i]?)
theorem SegV.below {w w' : World} {v : Value} {cs : List Value} (h : SegV w v cs) {B : Nat} (hb : Below B w w') (hB : w.heap.size ≤ B) : SegV w' v cs := by
  obtain ⟨a, cap, rfl, hcap, h⟩ := h
  refine ⟨a, cap, rfl, hcap, ?_⟩
  rcases h with h | ⟨b, off, rfl, hlt, hc⟩
  · exact .inl h
  · exact .inr ⟨b, off, rfl, Nat.lt_of_lt_of_le hlt hb.size, fun i hi => (hb.cell (p := ⟨b, off + i, none⟩) (Nat.lt_of_lt_of_le hlt hB)).trans (hc i hi)⟩
theorem segv_of_owns {w : World} {base : Nat} {e : TypeId} {v : Value} {cs : List Value} {n : Nat} (h : w.ownsRow base e 1 v n cs) : SegV w v cs := by
  have hn : n = cs.length := by have := h.1; omega
  subst hn
  rcases h.2 with ⟨rfl, h0⟩ | ⟨g, cap, cur, rfl, hb, hg, hnc, hcm, hcs, htake⟩
  · exact ⟨none, 0, by rw [h0], by omega, .inl (List.eq_nil_of_length_eq_zero h0)⟩
  · refine ⟨_, cap, rfl, hnc, .inr ⟨g, 0, rfl, (Array.getElem?_eq_some_iff.1 hg).1, fun i hi => ?_⟩⟩
    rw [Nat.zero_add]
    exact World.ownsRow.cellAt h i (by omega)

/-- Two rows of unlike elements are not one. -/
theorem owns_apart {w : World} {B B' : Nat} {e e' : TypeId} {size size' : Nat} {v u : Value} {n m : Nat} {xs ys : List Value} (h : w.ownsRow B e size v n xs) (h' : w.ownsRow B' e' size' u m ys) (hne : e ≠ e') : v.ownBlock = none ∨ v.ownBlock ≠ u.ownBlock := by
  rcases h.2 with ⟨rfl, _⟩ | ⟨g, cap, cur, rfl, _, hg, _⟩
  · exact .inl rfl
  · rcases h'.2 with ⟨rfl, _⟩ | ⟨g', cap', cur', rfl, _, hg', _⟩
    · exact .inr (by simp [Value.ownBlock])
    · refine .inr ?_
      simp only [Value.ownBlock, ne_eq, Option.some.injEq]
      intro e1
      subst e1
      rw [hg] at hg'
      simp at hg'
      exact hne hg'.2

/-- Behind an append of one value that was laid in a block of its own. -/
theorem own_stepV {B j : Nat} {e : TypeId} {w wr w1 : World} {o : Obj} {u : Value} {cs : List Value} (hown : wr.ownsRow B e 1 u j cs) (hbel : Below B w wr) (hB : B ≤ wr.heap.size)
    (hgrow : (wr.alloc o).grownBy w1 u.ownBlock) : Below B w w1 :=
  (hbel.alloc hB o).grown hgrow (by simp; omega) (fun k hk => (hown.lt k hk).1)

set_option maxHeartbeats 1000000 in
theorem eqstrs_same (v u : Value) (ss : List (List Int)) (w : World) (hlen : ss.length ≤ 140737488351232) (hv : SegV w v (sv ss)) (hu : SegV w u (sv ss)) :
    Calls Try.prog 12 #[v, u] w fun e w' => e = .returned (.bool true) ∧ ∀ B, Below B w w' := by
  obtain ⟨a, cap, rfl, hcap, h⟩ := hv
  obtain ⟨a', cap', rfl, hcap', h'⟩ := hu
  rw [sv_length] at *
  have hne : ((ss.length : Int) != (ss.length : Int)) = false := by simp
  by_cases h0 : ss = []
  · subst h0
    clear h h'
    go_enter Try.func12, Try.ntmps12
    go_wp2
    go_loop [5] (fun i => i = .int .i64 0) (fun i => 0)
    case atStart => rfl
    case round =>
      subst hrel
      go_wp2
      go_ret
      exact ⟨rfl, fun B => Below.refl _ _⟩
  · have hs : sv ss ≠ [] := by intro he; apply h0; have := sv_length ss; rw [he] at this; exact List.eq_nil_of_length_eq_zero this.symm
    rcases h with h | ⟨b, off, rfl, hbw, hc⟩
    · exact absurd h hs
    · rcases h' with h' | ⟨b', off', rfl, hbw', hc'⟩
      · exact absurd h' hs
      · have HC := hide hc
        have HC' := hide hc'
        clear hc hc' hs h0
        go_enter Try.func12, Try.ntmps12
        go_wp2
        go_loopw [5] (fun i wr => ∃ k : Nat, k ≤ ss.length ∧ i = .int .i64 k ∧ ∀ B, Below B w wr) (fun i _ => ss.length - (intOf i).toNat)
        case atStart => exact ⟨0, Nat.zero_le _, rfl, fun B => Below.refl _ _⟩
        case round =>
          obtain ⟨k, hk, rfl, hb⟩ := hrel
          by_cases hlt : k < ss.length
          · have hcx : wr.cell? ⟨b, off + k, none⟩ = some (.string (strOfNums (ss.getD k []))) := ((hb (b + 1)).cell (p := ⟨b, off + k, none⟩) (Nat.lt_succ_self _)).trans ((unhide HC k hlt).trans (sv_get ss k hlt))
            have hcy : wr.cell? ⟨b', off' + k, none⟩ = some (.string (strOfNums (ss.getD k []))) := ((hb (b' + 1)).cell (p := ⟨b', off' + k, none⟩) (Nat.lt_succ_self _)).trans ((unhide HC' k hlt).trans (sv_get ss k hlt))
            generalize hz : strOfNums (ss.getD k []) = z at hcx hcy
            have hzz : (z.toList == z.toList) = true := by simp
            have HB := hide hb
            clear hz hb
            go_wp2
            go_quiet (fail)
            go_wp2
            go_roundw
            case rel => exact ⟨k + 1, by omega, by go_num, fun B => below_drewN (HB.out B) _⟩
            case measure => simp [intOf]; omega
          · go_wp2
            go_ret
            exact ⟨rfl, hb⟩

/-- The text of a mark. -/
def mtext (k : Nat) : List Int := if k = 0 then [109, 48] else 109 :: dgs 20 k []
def mlist (k n : Nat) : List (List Int) := (List.range n).map fun i => mtext (k + i)
theorem mlist_length (k n : Nat) : (mlist k n).length = n := by simp [mlist]
theorem mlist_succ (k n : Nat) : mlist k (n + 1) = mlist k n ++ [mtext (k + n)] := by simp [mlist, List.range_succ]
theorem mlist_get (k n i : Nat) (h : i < n) : (mlist k n).getD i [] = mtext (k + i) := by simp [mlist, h]
theorem mark_setS (k : Nat) (cs : List Value) (j : Nat) (hj : j < cs.length) :
    (sv (mlist k j) ++ cs.drop j).set j (.string (strOfNums (mtext (k + j)))) = sv (mlist k (j + 1)) ++ cs.drop (j + 1) := by
  rw [mlist_succ, List.drop_eq_getElem_cons hj]
  rw [List.set_append_right _ _ (by rw [sv_length, mlist_length]; exact Nat.le_refl _), sv_length, mlist_length, Nat.sub_self, List.set_cons_zero]
  simp only [sv, List.map_append, List.map_cons, List.map_nil, List.append_assoc, List.cons_append, List.nil_append]

set_option maxHeartbeats 2000000 in
set_option maxRecDepth 100000 in
theorem marktext_any (k : Nat) (w : World) (h2 : (k : Int) ≤ 1000000000000) :
    Calls Try.prog 20 #[.int .i64 k] w fun e w' => e = .returned (.string (strOfNums (mtext k))) ∧ Below w.heap.size w w' := by
  by_cases h0 : k = 0
  · subst h0
    have hd0 : decide ((0 : Int) ≤ 0) = true := rfl
    go_enter Try.func20, Try.ntmps20
    go_wp2
    go_ret
    exact ⟨rfl, Below.refl _ _⟩
  · have hd1 : decide ((k : Int) ≤ 0) = false := by simp; omega
    have HD := hide (show mtext k = 109 :: dgs 20 k [] by simp [mtext, h0])
    have hadd0 := fun (ds : List Int) (h : ds.length ≤ 20) wx => add_run (P := Try.prog) [109] ds (by simp) (by omega) wx
    have HA := hide hadd0
    clear hadd0
    go_enter Try.func20, Try.ntmps20
    go_wp2
    go_loopw [0, 3] (fun x v wr => ∃ (m f : Nat) (ds : List Int), x = .int .i64 m ∧ v = .string (strOfNums ds) ∧ ds.length + f ≤ 20 ∧ m < 10 ^ f ∧ (m : Int) ≤ 1000000000000 ∧ 109 :: dgs f m ds = mtext k ∧ Below w.heap.size w wr) (fun x _ _ => (intOf x).natAbs)
    case atStart => exact ⟨k, 20, [], rfl, rfl, by simp, by omega, h2, (unhide HD).symm, Below.refl _ _⟩
    case round =>
      obtain ⟨m, f, ds, rfl, rfl, hs, hm1, hm2, hdg, hb⟩ := hrel
      have HG := hide hdg
      have HM := hide hm1
      have HB := hide hb
      have hsz := hb.size
      clear hdg hm1 hb HD
      by_cases hm : m = 0
      · subst hm
        have e := unhide HG
        rw [dgs_zero] at e
        have E := hide e
        clear e HG
        have hadd := fun wx => unhide HA ds (by omega) wx
        have e45 : (⟨#[109]⟩ : ByteArray) = strOfNums [109] := rfl
        go_wp2
        go_ret
        exact ⟨by rw [← unhide E]; rfl, unhide HB⟩
      · have hmn : decide (0 < (m : Int)) = true := by simp; omega
        have hf : ∃ f', f = f' + 1 := by
          cases f with
          | zero => have := unhide HM; simp at this; exact absurd this hm
          | succ f' => exact ⟨f', rfl⟩
        obtain ⟨f', rfl⟩ := hf
        have hcv := fun x => conv_one wr x
        have hadd := fun x wx => add_run (P := Try.prog) [x] ds (by simp) (by omega) wx
        have HN := hide (show 109 :: dgs f' (m / 10) ((48 + (m : Int) % 10) :: ds) = mtext k by rw [← dgs_step f' m ds hm]; exact unhide HG)
        have HP := hide (pow_step f' m (unhide HM))
        clear HG HM HA
        go_wp2
        go_roundw
        case rel => exact ⟨m / 10, f', (48 + (m : Int) % 10) :: ds, by go_num, rfl, by simp; omega, unhide HP, by omega, unhide HN, (unhide HB).alloc hsz _⟩
        case measure => simp [intOf]; omega

set_option maxHeartbeats 1000000 in
set_option maxRecDepth 100000 in
theorem markstrs_any (B : Nat) (v : Value) (cs : List Value) (k : Nat) (n : Nat) (w : World) (hlen : n ≤ 2000000) (hk1 : k ≤ 1000) (hB : B ≤ w.heap.size) (hv : w.ownsRow B 9 1 v n cs) :
    Calls Try.prog 13 #[v, .int .i64 k] w fun e w' => e = .returned (.int .i64 (k + n)) ∧ w'.ownsRow B 9 1 v n (sv (mlist k n)) ∧ Below B w w' := by
  have hn : n = cs.length := by have := hv.1; omega
  subst hn
  have HV := hide hv
  rcases hv.2 with ⟨rfl, h0⟩ | ⟨g, cap, cur, rfl, hb, hg, hnc, hcm, hcs, htake⟩
  · have hx : cs = [] := List.eq_nil_of_length_eq_zero h0
    subst hx
    clear hv h0
    go_enter Try.func13, Try.ntmps13
    go_wp2
    go_loop [1, 5] (fun q i => i = .int .i64 0 ∧ q = .int .i64 k) (fun _ i => 0)
    case atStart => exact ⟨rfl, rfl⟩
    case round =>
      obtain ⟨rfl, rfl⟩ := hrel
      go_wp2
      go_ret
      exact ⟨ret_int (by simp), (unhide HV : w.ownsRow B 9 1 (.slice none 0 0) 0 []), Below.refl _ _⟩
  · clear hv hnc hcm hcs htake
    have hgw : g < w.heap.size := (Array.getElem?_eq_some_iff.1 hg).1
    clear hg
    go_enter Try.func13, Try.ntmps13
    go_wp2
    go_loopw [1, 5] (fun q i wr => ∃ j : Nat, j ≤ cs.length ∧ i = .int .i64 j ∧ q = .int .i64 (k + j) ∧ wr.ownsRow B 9 1 (.slice (some ⟨g, 0, none⟩) cs.length cap) cs.length (sv (mlist k j) ++ cs.drop j) ∧ Below B w wr) (fun _ i _ => cs.length - (intOf i).toNat)
    case atStart => exact ⟨0, Nat.zero_le _, rfl, by simp, by simpa [mlist, sv] using unhide HV, Below.refl _ _⟩
    case round =>
      obtain ⟨j, hj, rfl, rfl, hown, hbel⟩ := hrel
      have HO := hide hown
      have HB := hide hbel
      have hsz := hbel.size
      clear hown hbel
      by_cases hlt : j < cs.length
      · go_wp2_with fail
        rw [show (k : Int) + (j : Int) = ((k + j : Nat) : Int) by omega]
        refine (marktext_any _ _ (by omega)).mono ?_
        rintro e w1 ⟨rfl, hb1⟩
        have o1 := owns_later (unhide HO) hb1 (Nat.le_refl _)
        have hfz := o1.frozenAt j
        have hcy := o1.cellAt j (by omega)
        have hex : ∃ y, w1.cell? ⟨g, j, none⟩ = some y := by
          rw [hcy]
          exact ⟨_, List.getElem?_eq_getElem (by rw [List.length_append, sv_length, mlist_length, List.length_drop]; omega)⟩
        obtain ⟨y, hy⟩ := hex
        have R1 := (o1.stored j (.string (strOfNums (mtext (k + j))))).1
        rw [mark_setS k cs j hlt] at R1
        have R2 := ((unhide HB).trans (hb1.mono (by omega))).setCell (p := ⟨g, j, none⟩) hb (.string (strOfNums (mtext (k + j))))
        have HR1 := hide R1
        have HR2 := hide R2
        clear hcy R1 R2 o1 hb1
        go_wp2
        go_roundw
        case rel => exact ⟨j + 1, by omega, by go_num, by go_num, HR1.out, HR2.out⟩
        case measure => simp [intOf]; omega
      · have hkl : j = cs.length := by omega
        subst hkl
        go_wp2
        go_ret
        exact ⟨rfl, by have := unhide HO; simpa using this, unhide HB⟩

theorem below_onD {B : Nat} {w wr wd w' : World} (hb : Below B w wr) (h1 : Below wd.heap.size wd w') (hd : wd.heap = wr.heap ∧ wd.os = wr.os ∧ wd.tape = wr.tape ∧ wd.output = wr.output) (hB : B ≤ wr.heap.size) : Below B w w' := by
  obtain ⟨e1, e2, e3, e4⟩ := hd
  refine hb.trans ⟨h1.os.trans e2, h1.tape.trans e3, h1.output.trans e4, ?_, fun k hk => ?_⟩
  · have := h1.size; rw [e1] at this; exact this
  · rw [h1.block k (by rw [e1]; omega), e1]

set_option maxHeartbeats 1000000 in
set_option maxRecDepth 100000 in
theorem heldstrs_any (v : Value) (k : Nat) (n : Nat) (w : World) (hlen : n ≤ 2000000) (hk1 : k ≤ 1000) (hv : SegV w v (sv (mlist k n))) :
    Calls Try.prog 14 #[v, .int .i64 k] w fun e w' => e = .returned (.int .i64 (k + n)) ∧ Below w.heap.size w w' := by
  obtain ⟨a, cap, rfl, hcap, h⟩ := hv
  rw [sv_length, mlist_length] at *
  by_cases h0 : n = 0
  · subst h0
    clear h
    go_enter Try.func14, Try.ntmps14
    go_wp2
    go_loop [1, 5] (fun q i => i = .int .i64 0 ∧ q = .int .i64 k) (fun _ i => 0)
    case atStart => exact ⟨rfl, rfl⟩
    case round =>
      obtain ⟨rfl, rfl⟩ := hrel
      go_wp2
      go_ret
      exact ⟨ret_int (by simp), Below.refl _ _⟩
  · rcases h with h | ⟨b, off, rfl, hbw, hc⟩
    · exact absurd (show n = 0 by have := mlist_length k n; have h2 := sv_length (mlist k n); rw [h] at h2; simp at h2; omega) h0
    · have HC := hide hc
      clear hc h0
      go_enter Try.func14, Try.ntmps14
      go_wp2
      go_loopw [1, 5] (fun q i wr => ∃ j : Nat, j ≤ n ∧ i = .int .i64 j ∧ q = .int .i64 (k + j) ∧ Below w.heap.size w wr) (fun _ i _ => n - (intOf i).toNat)
      case atStart => exact ⟨0, Nat.zero_le _, rfl, by simp, Below.refl _ _⟩
      case round =>
        obtain ⟨j, hj, rfl, rfl, hbel⟩ := hrel
        by_cases hlt : j < n
        · have hcx : wr.cell? ⟨b, off + j, none⟩ = some (.string (strOfNums (mtext (k + j)))) := by
            rw [hbel.cell (p := ⟨b, off + j, none⟩) hbw, unhide HC j hlt, sv_get _ _ (by rw [mlist_length]; exact hlt), mlist_get k n j hlt]
          have hkj : (k : Int) + (j : Int) = ((k + j : Nat) : Int) := by omega
          have hsz := hbel.size
          have hbw' : b < wr.heap.size := Nat.lt_of_lt_of_le hbw hsz
          generalize hz : strOfNums (mtext (k + j)) = z at hcx
          have hzz : (z.toList == z.toList) = true := by simp
          have HT := hide (fun wx => hz ▸ marktext_any (k + j) wx (by omega))
          have HK := hide hkj
          have HB := hide hbel
          clear hz hkj hbel
          go_wp2
          go_region_with (go_at_call 20; rw [unhide HK]; refine (unhide HT _).mono ?_; rintro e w' ⟨rfl, hb1⟩; have hcz := hb1.cell (p := ⟨b, off + j, none⟩) hbw'; have hb2 := below_onD (unhide HB) hb1 ⟨rfl, rfl, rfl, rfl⟩ hsz; clear hb1)
          all_goals
            go_wp2
            go_roundw
            case rel => exact ⟨j + 1, by omega, by go_num, by go_num, by assumption⟩
            case measure => simp [intOf]; omega
        · have hkl : j = n := by omega
          subst hkl
          go_wp2
          go_ret
          exact ⟨rfl, hbel⟩

theorem markstrs_one (B : Nat) (v : Value) (cs : List Value) (n : Nat) (w : World) (hlen : n ≤ 2000000) (hB : B ≤ w.heap.size) (hv : w.ownsRow B 9 1 v n cs) :
    Calls Try.prog 13 #[v, .int .i64 1] w fun e w' => e = .returned (.int .i64 (1 + n)) ∧ w'.ownsRow B 9 1 v n (sv (mlist 1 n)) ∧ Below B w w' :=
  markstrs_any B v cs 1 n w hlen (by decide) hB hv
theorem heldstrs_one (v : Value) (n : Nat) (w : World) (hlen : n ≤ 2000000) (hv : SegV w v (sv (mlist 1 n))) :
    Calls Try.prog 14 #[v, .int .i64 1] w fun e w' => e = .returned (.int .i64 (1 + n)) ∧ Below w.heap.size w w' :=
  heldstrs_any v 1 n w hlen (by decide) hv
end Go.Proofs.Ythpnidkhapcfoam
