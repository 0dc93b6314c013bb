/-
  Both Parts (the program's and the specification's) return, in memory of their own, the texts that the list function 'prt' says, and turn nothing that was there. No statement is proved here.
-/
import Derived.Test.YthpnidkhapcfoamStrs
import Derived.Lib.Strings
namespace Go.Proofs.Ythpnidkhapcfoam
open Go.RowKit

/-- What stands between such bytes; the last word is what was gathered since the last one. -/
def prt (y : Int) : List Int → List Int → List (List Int)
  | [], cur => [cur]
  | c :: r, cur => if c = y then cur :: prt y r [] else prt y r (cur ++ [c])
theorem prt_hit (y c : Int) (r cur : List Int) (h : c = y) : prt y (c :: r) cur = cur :: prt y r [] := by simp [prt, h]
theorem prt_miss (y c : Int) (r cur : List Int) (h : ¬ c = y) : prt y (c :: r) cur = prt y r (cur ++ [c]) := by simp [prt, h]
theorem prt_length (y : Int) (l cur : List Int) : (prt y l cur).length ≤ l.length + 1 := by
  induction l generalizing cur with
  | nil => simp [prt]
  | cons c r ih =>
    by_cases h : c = y
    · rw [prt_hit y c r cur h]; have := ih []; simp; omega
    · rw [prt_miss y c r cur h]; have := ih (cur ++ [c]); simp; omega

theorem Try.infoStr : (Try.prog.info? 9).map (fun i => (i.zero, i.size, i.bytes)) = some (some (.string ⟨#[]⟩), 1, 16) := by kernel_rfl

/-- string(b) of what is owned. -/
theorem conv_owned {w : World} {B n : Nat} {v : Value} {xs : List Int} (h : w.ownsRow B 5 1 v n (xs.map (Value.int .u8))) : (convert 22 9 v).run Try.prog w = .ok (.string (strOfNums xs)) w := by
  obtain ⟨a, cap, rfl, hcap, hs⟩ := seg_of_owns h
  rcases h.2 with ⟨h1, h0⟩ | ⟨g, cap', cur, h1, _⟩
  · simp only [Value.slice.injEq] at h1
    obtain ⟨rfl, h2, rfl⟩ := h1
    have : xs = [] := List.eq_nil_of_length_eq_zero h2
    subst this
    exact run_convert_bytes_nil (P := Try.prog) w 22 5 Try.underlying22 Try.underlying5 _ _ 9 Try.underlying9
  · simp only [Value.slice.injEq] at h1
    obtain ⟨rfl, _, _⟩ := h1
    refine run_convert_bytes_arg (P := Try.prog) w 22 5 Try.underlying22 Try.underlying5 g 0 xs.length cap xs rfl (fun i hi => ?_) 9 Try.underlying9
    rcases hs with hs | ⟨b, off, he, _, hc⟩
    · subst hs; simp at hi
    · simp only [Option.some.injEq, Addr.mk.injEq] at he
      obtain ⟨rfl, rfl, _⟩ := he
      exact hc i hi

set_option maxHeartbeats 2000000 in
set_option maxRecDepth 100000 in
theorem iparts_any (s : ByteArray) (y : Int) (w : World) (hs : s.size ≤ 1048576) :
    Calls Try.prog 11 #[.string s, .int .u8 y] w fun e w' => ∃ v, e = .returned v ∧ w'.ownsRow w.heap.size 9 1 v (prt y (bl s) []).length (sv (prt y (bl s) [])) ∧ Below w.heap.size w w' := by
  obtain ⟨i0, hi, hz0, hz1, hz2⟩ := info_parts Try.infoByte
  obtain ⟨i1, gi, gz0, gz1, gz2⟩ := info_parts Try.infoStr
  go_enter Try.func11, Try.ntmps11
  go_wp2
  go_loopw [5, 6, 7] (fun o p i wr => ∃ (k : Nat) (ds : List (List Int)) (cur : List Int), k ≤ s.size ∧ i = .int .i64 k ∧ ds.length ≤ k ∧ cur.length ≤ k ∧ ds ++ prt y ((bl s).drop k) cur = prt y (bl s) [] ∧ wr.ownsRow w.heap.size 9 1 o ds.length (sv ds) ∧ wr.ownsRow w.heap.size 5 1 p cur.length (cur.map (Value.int .u8)) ∧ Below w.heap.size w wr) (fun _ _ i _ => s.size - (intOf i).toNat)
  case atStart => exact ⟨0, [], [], Nat.zero_le _, rfl, by simp, by simp, rfl, World.ownsRow_nil _ _ _ _, World.ownsRow_nil _ _ _ _, Below.refl _ _⟩
  case round =>
    obtain ⟨k, ds, cur, hk, rfl, hdl, hcl, hrec, ho, hp, hb⟩ := hrel
    have HR := hide hrec
    have HO := hide ho
    have HP := hide hp
    have HB := hide hb
    have hsz := hb.size
    clear hrec ho hp hb
    by_cases hlt : k < s.size
    · obtain ⟨z, hz⟩ : ∃ z, s[k].toNat = z := ⟨_, rfl⟩
      have hdr := bl_drop s k z hlt hz
      by_cases hy : (z : Int) = y
      · have hd : ((z : Int) == y) = true := by simpa using hy
        have hcv := conv_owned (unhide HP)
        have hn : (ds ++ [cur]) ++ prt y ((bl s).drop (k + 1)) [] = prt y (bl s) [] := by
          rw [← unhide HR, hdr, prt_hit y _ _ _ hy]; simp
        have HN := hide hn
        clear hdr hy hn HR
        go_wp2_with (first
          | (at_builtin; refine wpList_append_own _ rfl _ _ 28 rfl w.heap.size 9 i1 (.string ⟨#[]⟩) 1 16 Try.underlying28 gi gz0 gz1 gz2 rfl (by decide) _ _ _ rfl ((unhide HO).alloc _) ⟨wr.heap.size, 0, none⟩ 1 1 [.string (strOfNums cur)] rfl rfl ?c1a ?c2a ?c3a ?c4a ?c5a ?_))
        case c1a =>
          intro j u hj
          match j, hj with
          | 0, hj => simp at hj; subst hj; simp [Addr.add]
        case c2a => intro u hu; simp at hu; subst hu; rfl
        case c3a => unfold maxLen; omega
        case c4a => omega
        case c5a => simp; omega
        intro v' w1 hown' hgrow _
        have R1 := hide (show w1.ownsRow w.heap.size 9 1 v' (ds ++ [cur]).length (sv (ds ++ [cur])) by simpa [sv] using hown')
        have R2 := hide (own_stepV (unhide HO) (unhide HB) hsz hgrow)
        clear hown' hgrow HO HB HP hcv
        go_wp2
        go_roundw
        case rel => exact ⟨k + 1, ds ++ [cur], [], by omega, by go_num, by simp; omega, by simp, unhide HN, unhide R1, World.ownsRow_nil _ _ _ _, unhide R2⟩
        case measure => simp [intOf]; omega
      · have hd : ((z : Int) == y) = false := by simpa using hy
        have hn : ds ++ prt y ((bl s).drop (k + 1)) (cur ++ [(z : Int)]) = prt y (bl s) [] := by
          rw [← unhide HR, hdr, prt_miss y _ _ _ hy]
        have HN := hide hn
        clear hdr hy hn HR
        go_wp2_with (first
          | (at_builtin; refine wpList_append_own _ rfl _ _ 22 rfl w.heap.size 5 i0 (.int .u8 0) 1 1 Try.underlying22 hi hz0 hz1 hz2 rfl (by decide) _ _ _ rfl ((unhide HP).alloc _) ⟨wr.heap.size, 0, none⟩ 1 1 [.int .u8 (z : Int)] rfl rfl ?c1b ?c2b ?c3b ?c4b ?c5b ?_))
        case c1b =>
          intro j u hj
          match j, hj with
          | 0, hj => simp at hj; subst hj; simp [Addr.add]
        case c2b => intro u hu; simp at hu; subst hu; rfl
        case c3b => unfold maxLen; omega
        case c4b => omega
        case c5b => simp; omega
        intro v' w1 hown' hgrow _
        have R := own_step (unhide HP) (unhide HB) hsz hown' hgrow
        have R1 := hide (show w1.ownsRow w.heap.size 5 1 v' (cur ++ [(z : Int)]).length ((cur ++ [(z : Int)]).map (Value.int .u8)) by have := R.1; simpa using this)
        have R2 := hide R.2
        have R3 := hide (((unhide HO).alloc _).kept hgrow (owns_apart (unhide HO) (unhide HP) (by decide)))
        clear R hown' hgrow HO HB HP
        go_wp2
        go_roundw
        case rel => exact ⟨k + 1, ds, cur ++ [(z : Int)], by omega, by go_num, by omega, by simp; omega, unhide HN, unhide R3, unhide R1, unhide R2⟩
        case measure => simp [intOf]; omega
    · have hks : k = s.size := by omega
      subst hks
      have hcv := conv_owned (unhide HP)
      have hn : ds ++ [cur] = prt y (bl s) [] := by
        rw [← unhide HR, List.drop_of_length_le (by rw [bl_length]; exact Nat.le_refl _)]; rfl
      have HN := hide hn
      clear hn HR
      go_wp2_with (first
        | (at_builtin; refine wpList_append_own _ rfl _ _ 28 rfl w.heap.size 9 i1 (.string ⟨#[]⟩) 1 16 Try.underlying28 gi gz0 gz1 gz2 rfl (by decide) _ _ _ rfl ((unhide HO).alloc _) ⟨wr.heap.size, 0, none⟩ 1 1 [.string (strOfNums cur)] rfl rfl ?c1c ?c2c ?c3c ?c4c ?c5c ?_))
      case c1c =>
        intro j u hj
        match j, hj with
        | 0, hj => simp at hj; subst hj; simp [Addr.add]
      case c2c => intro u hu; simp at hu; subst hu; rfl
      case c3c => unfold maxLen; omega
      case c4c => omega
      case c5c => simp; omega
      intro v' w1 hown' hgrow _
      have R1 := hide (show w1.ownsRow w.heap.size 9 1 v' (ds ++ [cur]).length (sv (ds ++ [cur])) by simpa [sv] using hown')
      have R2 := hide (own_stepV (unhide HO) (unhide HB) hsz hgrow)
      clear hown' hgrow HO HB HP hcv
      go_wp2
      go_ret
      rw [← unhide HN]
      exact ⟨_, rfl, unhide R1, unhide R2⟩

theorem cut_step (l : List Int) (f k : Nat) (z : Int) (r : List Int) (hf : f ≤ k) (h : l.drop k = z :: r) : (l.drop f).take (k + 1 - f) = (l.drop f).take (k - f) ++ [z] := by
  have hk : k < l.length := by
    rcases Nat.lt_or_ge k l.length with h' | h'
    · exact h'
    · rw [List.drop_eq_nil_of_le h'] at h; simp at h
  rw [show k + 1 - f = (k - f) + 1 by omega, List.take_add_one, List.getElem?_drop, show f + (k - f) = k by omega]
  rw [List.drop_eq_getElem_cons hk] at h
  have h1 := (List.cons.inj h).1
  rw [List.getElem?_eq_getElem hk, h1]
  rfl
theorem extract_bl (s : ByteArray) (f k : Nat) : s.extract f k = strOfNums (((bl s).drop f).take (k - f)) := by
  apply ByteArray.ext
  apply Array.toList_inj.1
  rw [strOfNums_data, Lib.extract_data]
  unfold bl
  rw [← List.map_drop, ← List.map_take, List.map_map]
  conv => lhs; rw [← List.map_id (List.take (k - f) (List.drop f s.data.toList))]
  apply List.map_congr_left
  intro c _
  simp

set_option maxHeartbeats 2000000 in
set_option maxRecDepth 100000 in
theorem sparts_any (s : ByteArray) (y : Int) (w : World) (hs : s.size ≤ 1048576) :
    Calls Try.prog 10 #[.string s, .int .u8 y] w fun e w' => ∃ v, e = .returned v ∧ w'.ownsRow w.heap.size 9 1 v (prt y (bl s) []).length (sv (prt y (bl s) [])) ∧ Below w.heap.size w w' := by
  obtain ⟨i1, gi, gz0, gz1, gz2⟩ := info_parts Try.infoStr
  go_enter Try.func10, Try.ntmps10
  go_wp2
  go_loopw [5, 6, 7] (fun o q i wr => ∃ (k f : Nat) (ds : List (List Int)), k ≤ s.size + 1 ∧ f ≤ k ∧ i = .int .i64 k ∧ q = .int .i64 f ∧ ds.length ≤ k ∧ (k ≤ s.size → ds ++ prt y ((bl s).drop k) (((bl s).drop f).take (k - f)) = prt y (bl s) []) ∧ (k = s.size + 1 → ds = prt y (bl s) []) ∧ wr.ownsRow w.heap.size 9 1 o ds.length (sv ds) ∧ Below w.heap.size w wr) (fun _ _ i _ => s.size + 1 - (intOf i).toNat)
  case atStart => exact ⟨0, 0, [], by omega, by omega, rfl, rfl, by simp, fun _ => rfl, fun h => by omega, World.ownsRow_made _ #[] 0 (Nat.le_refl _) (by simp [maxLen]) rfl, (Below.refl _ _).alloc (Nat.le_refl _) _⟩
  case round =>
    obtain ⟨k, f, ds, hk, hf, rfl, rfl, hdl, hrec, hend, ho, hb⟩ := hrel
    have HR := hide hrec
    have HE := hide hend
    have HO := hide ho
    have HB := hide hb
    have hsz := hb.size
    clear hrec hend ho hb
    by_cases hlt : k < s.size
    · obtain ⟨z, hz⟩ : ∃ z, s[k].toNat = z := ⟨_, rfl⟩
      have hdr := bl_drop s k z hlt hz
      have hd0 : ((k : Int) == (s.size : Int)) = false := by simp; omega
      have hd1 : decide ((k : Int) ≤ (s.size : Int)) = true := by simp; omega
      have hq := unhide HR (by omega)
      by_cases hy : (z : Int) = y
      · have hd : ((z : Int) == y) = true := by simpa using hy
        have hex := extract_bl s f k
        generalize hcur : ((bl s).drop f).take (k - f) = cur at hex hq
        have hn : (ds ++ [cur]) ++ prt y ((bl s).drop (k + 1)) [] = prt y (bl s) [] := by
          rw [← hq, hdr, prt_hit y _ _ _ hy]; simp
        have HN := hide hn
        clear hdr hy hn HR hq hcur
        go_wp2_with (first
          | (at_builtin; refine wpList_append_own _ rfl _ _ 28 rfl w.heap.size 9 i1 (.string ⟨#[]⟩) 1 16 Try.underlying28 gi gz0 gz1 gz2 rfl (by decide) _ _ _ rfl ((unhide HO).alloc _) ⟨wr.heap.size, 0, none⟩ 1 1 [.string (strOfNums cur)] rfl rfl ?c1a ?c2a ?c3a ?c4a ?c5a ?_))
        case c1a =>
          intro j u hj
          match j, hj with
          | 0, hj => simp at hj; subst hj; simp [Addr.add]
        case c2a => intro u hu; simp at hu; subst hu; rfl
        case c3a => unfold maxLen; omega
        case c4a => omega
        case c5a => simp; omega
        intro v' w1 hown' hgrow _
        have R1 := hide (show w1.ownsRow w.heap.size 9 1 v' (ds ++ [cur]).length (sv (ds ++ [cur])) by simpa [sv] using hown')
        have R2 := hide (own_stepV (unhide HO) (unhide HB) hsz hgrow)
        clear hown' hgrow HO HB
        go_wp2
        go_roundw
        case rel => exact ⟨k + 1, k + 1, ds ++ [cur], by omega, by omega, by go_num, by go_num, by simp; omega, fun _ => by rw [Nat.sub_self, List.take_zero]; exact unhide HN, fun h => by omega, unhide R1, unhide R2⟩
        case measure => simp [intOf]; omega
      · have hd : ((z : Int) == y) = false := by simpa using hy
        have hn : ds ++ prt y ((bl s).drop (k + 1)) (((bl s).drop f).take (k + 1 - f)) = prt y (bl s) [] := by
          rw [← hq, cut_step _ f k z _ hf hdr, hdr, prt_miss y _ _ _ hy]
        have HN := hide hn
        clear hdr hy hn HR hq
        go_wp2
        go_roundw
        case rel => exact ⟨k + 1, f, ds, by omega, by omega, by go_num, rfl, by omega, fun _ => unhide HN, fun h => by omega, unhide HO, unhide HB⟩
        case measure => simp [intOf]; omega
    · by_cases hks : k = s.size
      · have hd0 : ((k : Int) == (s.size : Int)) = true := by simp; omega
        have hd1 : decide ((k : Int) ≤ (s.size : Int)) = true := by simp; omega
        have hq := unhide HR (by omega)
        have hex := extract_bl s f k
        generalize hcur : ((bl s).drop f).take (k - f) = cur at hex hq
        have hn : ds ++ [cur] = prt y (bl s) [] := by
          rw [← hq, List.drop_of_length_le (by rw [bl_length]; omega)]; rfl
        have HN := hide hn
        have HK := hide hks
        have hks' : k ≤ s.size := by omega
        clear hn HR hq hcur hks
        go_wp2_with (first
          | (at_builtin; refine wpList_append_own _ rfl _ _ 28 rfl w.heap.size 9 i1 (.string ⟨#[]⟩) 1 16 Try.underlying28 gi gz0 gz1 gz2 rfl (by decide) _ _ _ rfl ((unhide HO).alloc _) ⟨wr.heap.size, 0, none⟩ 1 1 [.string (strOfNums cur)] rfl rfl ?c1c ?c2c ?c3c ?c4c ?c5c ?_))
        case c1c =>
          intro j u hj
          match j, hj with
          | 0, hj => simp at hj; subst hj; simp [Addr.add]
        case c2c => intro u hu; simp at hu; subst hu; rfl
        case c3c => unfold maxLen; omega
        case c4c => omega
        case c5c => simp; omega
        intro v' w1 hown' hgrow _
        have R1 := hide (show w1.ownsRow w.heap.size 9 1 v' (ds ++ [cur]).length (sv (ds ++ [cur])) by simpa [sv] using hown')
        have R2 := hide (own_stepV (unhide HO) (unhide HB) hsz hgrow)
        clear hown' hgrow HO HB
        go_wp2
        go_roundw
        case rel => exact ⟨k + 1, k + 1, ds ++ [cur], by omega, by omega, by go_num, by go_num, by simp; omega, fun h => by have := unhide HK; omega, fun _ => unhide HN, unhide R1, unhide R2⟩
        case measure => simp [intOf]; omega
      · have hke : k = s.size + 1 := by omega
        have HN := hide (unhide HE hke)
        have hd1 : decide ((k : Int) ≤ (s.size : Int)) = false := by simp; omega
        have hgt : ¬ k ≤ s.size := by omega
        clear hke hks
        go_wp2
        go_ret
        rw [← unhide HN]
        exact ⟨_, rfl, unhide HO, unhide HB⟩
end Go.Proofs.Ythpnidkhapcfoam
