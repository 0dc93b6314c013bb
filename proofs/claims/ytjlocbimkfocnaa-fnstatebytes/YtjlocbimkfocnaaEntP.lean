/-
  What the laws do with an entry: its size is taken off, and it is turned into the program's own. No statement is proved here.
  EntryCmp. No statement is proved here.
  The specification's EntryCmp answers as the program's. No statement is proved here.
  The order of entries: of any two one is behind, or they are the same; what is behind what is behind is behind. No program here, no statement is proved here.
-/
import Derived.Test.YtjlocbimkfocnaaBase
import Derived.Deep.RegionHeld3
import Derived.Laws.Cover1
import Derived.Lib.Strings
namespace Go.Proofs.Ytjlocbimkfocnaa
open Go.RowKit

set_option maxHeartbeats 1000000 in
theorem sz_any (ai ar ab av : Int) (ad : ByteArray) (n : Int) (h1 : 0 ≤ n) (h2 : n ≤ 1048576) (hs : ad.size ≤ maxLen) (w : World) :
    Calls Try.prog 127 #[.agg #[.int .i64 ai, .int .i64 ar, .int .i64 ab, .int .i64 av, .string ad], .int .i64 n] w fun e w' => e = .returned (.int .i64 (if n < ad.size then -1 else n - ad.size)) ∧ Below w.heap.size w w' ∧ w.heap.size < w'.heap.size := by
  unfold maxLen at hs
  by_cases hb : n < ad.size
  · have hd : decide (n - (ad.size : Int) < 0) = true := by simp; omega
    go_enter Try.func127, Try.ntmps127
    go_wp2
    go_ret
    exact ⟨by simp, (Below.refl _ _).alloc (Nat.le_refl _) _, by simp⟩
  · have hd : decide (n - (ad.size : Int) < 0) = false := by simp; omega
    go_enter Try.func127, Try.ntmps127
    go_wp2
    go_ret
    exact ⟨by simp, (Below.refl _ _).alloc (Nat.le_refl _) _, by simp⟩

set_option maxHeartbeats 1000000 in
theorem toentry_any (ai ar ab av : Int) (ad : ByteArray) (w : World) :
    Calls Try.prog 128 #[.agg #[.int .i64 ai, .int .i64 ar, .int .i64 ab, .int .i64 av, .string ad]] w fun e w' => e = .returned (.agg #[.int .i64 ai, .int .i64 ar, .int .i64 ab, .int .i64 av, .string ad]) ∧ Below w.heap.size w w' := by
  go_enter Try.func128, Try.ntmps128
  go_wp2
  exact bodyPost_ret (v := .agg #[.int .i64 ai, .int .i64 ar, .int .i64 ab, .int .i64 av, .string ad]) (by simp [results, Try.results128, go_sem]) rfl ⟨rfl, (((Below.refl _ _).alloc (Nat.le_refl _) _).alloc (by simp) _).alloc (by simp <;> omega) _⟩

/-- What is written below a bound of cells stays so, whatever a call makes behind it. -/
theorem bcell {W w1 : World} (hb : Below W.heap.size W w1) : (∀ b o, b < W.heap.size → w1.cell? ⟨b, o, none⟩ = W.cell? ⟨b, o, none⟩) ∧ (∀ b o, b < W.heap.size → w1.frozen? ⟨b, o, none⟩ = W.frozen? ⟨b, o, none⟩) :=
  ⟨fun b o h => hb.cell (p := ⟨b, o, none⟩) h, fun b o h => hb.frozen (p := ⟨b, o, none⟩) h⟩
end Go.Proofs.Ytjlocbimkfocnaa

namespace Go.Proofs.Ytjlocbimkfocnaa
open Go.RowKit

def cmpI (x y : Int) : Int := if x < y then -1 else if y < x then 1 else 0
def cmpS (x y : ByteArray) : Int := if Op.bytesLess x.toList y.toList = true then -1 else if (x.toList == y.toList) = true then 0 else 1

theorem cmpI_ways (x y : Int) : (decide (x < y) = true ∧ cmpI x y = -1) ∨ (decide (x < y) = false ∧ decide (y < x) = true ∧ cmpI x y = 1) ∨ (decide (x < y) = false ∧ decide (y < x) = false ∧ cmpI x y = 0) := by
  by_cases h : x < y
  · exact .inl (by simp [cmpI, h])
  · by_cases h2 : y < x
    · exact .inr (.inl (by simp [cmpI, h, h2]))
    · exact .inr (.inr (by simp only [cmpI, h, h2]; simp))

theorem cmpS_ways (x y : ByteArray) : (Op.bytesLess x.toList y.toList = true ∧ cmpS x y = -1) ∨ (Op.bytesLess x.toList y.toList = false ∧ (x.toList == y.toList) = true ∧ cmpS x y = 0) ∨ (Op.bytesLess x.toList y.toList = false ∧ (x.toList == y.toList) = false ∧ cmpS x y = 1) := by
  unfold cmpS
  rcases Bool.eq_false_or_eq_true (Op.bytesLess x.toList y.toList) with h | h <;> rcases Bool.eq_false_or_eq_true (x.toList == y.toList) with h2 | h2 <;> rw [h, h2] <;> simp

def orL : List Int → Int
  | [] => 0
  | x :: r => if x = 0 then orL r else x
theorem orL_step {xs : List Int} {k : Nat} (h : k < xs.length) : orL (xs.drop k) = if xs.getD k 0 = 0 then orL (xs.drop (k + 1)) else xs.getD k 0 := by
  rw [List.drop_eq_getElem_cons h, orL]
  simp [List.getD_eq_getElem?_getD, h]

theorem new2 (w : World) (A B C : Obj) : (((w.alloc A).alloc B).alloc C).drew.heap[w.heap.size + 1 + 1]? = some C := by
  have h := heap_alloc_new ((w.alloc A).alloc B) C
  have e : ((w.alloc A).alloc B).heap.size = w.heap.size + 1 + 1 := by simp
  rw [e] at h
  exact h

def cmpE (ai ar ab av : Int) (ad : ByteArray) (bi br bb bv : Int) (bd : ByteArray) : Int := orL [cmpI ai bi, cmpI ar br, cmpI ab bb, cmpI av bv, cmpS ad bd]

end Go.Proofs.Ytjlocbimkfocnaa

namespace Go.Proofs.Ytjlocbimkfocnaa
open Go.RowKit

def bitI (b : Bool) : Int := if b = true then 1 else 0
theorem bit_is (b : Bool) (w : World) : Calls Try.prog 132 #[.bool b] w fun e w' => e = .returned (.int .i64 (bitI b)) ∧ w = w' := by
  cases b
  all_goals
    go_enter Try.func132, Try.ntmps132
    go_wp2
    go_ret
    exact ⟨rfl, rfl⟩

theorem l2cmp_is (x y : Int) (w : World) : Calls Try.prog 131 #[.int .i64 x, .int .i64 y] w fun e w' => e = .returned (.int .i64 (cmpI x y)) ∧ w = w' := by
  rcases cmpI_ways x y with ⟨h1, h3⟩ | ⟨h1, h2, h3⟩ | ⟨h1, h2, h3⟩
  · rw [h3]
    clear h3
    go_enter Try.func131, Try.ntmps131
    go_wp2
    go_ret
    exact ⟨rfl, rfl⟩
  all_goals
    rw [h3]
    clear h3
    go_enter Try.func131, Try.ntmps131
    go_wp2_with fail
    refine (bit_is _ _).mono ?_
    rintro e _ ⟨rfl, rfl⟩
    go_wp2
    go_ret
    exact ⟨rfl, rfl⟩

theorem or4 (x0 x1 x2 x3 x4 : Int) : orL [x0, x1, x2, x3, x4] = if orL [x0, x1, x2, x3] = 0 then x4 else orL [x0, x1, x2, x3] := by
  simp only [orL]
  repeat' split
  all_goals simp_all

set_option maxHeartbeats 2000000 in
theorem scmp_any (ai ar ab av : Int) (ad : ByteArray) (bi br bb bv : Int) (bd : ByteArray) (w : World) :
    Calls Try.prog 123 #[.agg #[.int .i64 ai, .int .i64 ar, .int .i64 ab, .int .i64 av, .string ad], .agg #[.int .i64 bi, .int .i64 br, .int .i64 bb, .int .i64 bv, .string bd]] w fun e w' => e = .returned (.int .i64 (cmpE ai ar ab av ad bi br bb bv bd)) ∧ Below w.heap.size w w' := by
  have HE : Hid (cmpE ai ar ab av ad bi br bb bv bd = if orL [cmpI ai bi, cmpI ar br, cmpI ab bb, cmpI av bv] = 0 then cmpS ad bd else orL [cmpI ai bi, cmpI ar br, cmpI ab bb, cmpI av bv]) := or4 _ _ _ _ _
  go_enter Try.func123, Try.ntmps123
  go_wp2_with fail
  go_region_held3 (fun w' => w'.cell? ⟨w.heap.size, 0, none⟩ = some (.int .i64 ai) ∧ w'.cell? ⟨w.heap.size, 1, none⟩ = some (.int .i64 ar) ∧ w'.cell? ⟨w.heap.size, 2, none⟩ = some (.int .i64 ab) ∧ w'.cell? ⟨w.heap.size, 3, none⟩ = some (.int .i64 av) ∧ w'.cell? ⟨w.heap.size + 1, 0, none⟩ = some (.int .i64 bi) ∧ w'.cell? ⟨w.heap.size + 1, 1, none⟩ = some (.int .i64 br) ∧ w'.cell? ⟨w.heap.size + 1, 2, none⟩ = some (.int .i64 bb) ∧ w'.cell? ⟨w.heap.size + 1, 3, none⟩ = some (.int .i64 bv)) (go_keep)
    ((go_at_call 131; refine (l2cmp_is _ _ _).mono ?_; rintro e w' ⟨rfl, rfl⟩))
  obtain ⟨W, hW⟩ : ∃ W, W = (((w.alloc (.cells #[.int .i64 ai, .int .i64 ar, .int .i64 ab, .int .i64 av, .string ad] 62)).alloc (.cells #[.int .i64 bi, .int .i64 br, .int .i64 bb, .int .i64 bv, .string bd] 62)).alloc (.cells #[.int .i64 (cmpI ai bi), .int .i64 (cmpI ar br), .int .i64 (cmpI ab bb), .int .i64 (cmpI av bv)] 3)).drew := ⟨_, rfl⟩
  have HB : Hid (Below w.heap.size w W) := by rw [hW]; exact ((((Below.refl _ _).alloc (Nat.le_refl _) _).alloc (by simp) _).alloc (by simp <;> omega) _).drew
  have hcl := hide (show ∀ j, j < 4 → W.cell? ⟨w.heap.size + 1 + 1, j, none⟩ = some (.int .i64 ([cmpI ai bi, cmpI ar br, cmpI ab bb, cmpI av bv].getD j 0)) by
    intro j hj
    have hg := new2 w (.cells #[.int .i64 ai, .int .i64 ar, .int .i64 ab, .int .i64 av, .string ad] 62) (.cells #[.int .i64 bi, .int .i64 br, .int .i64 bb, .int .i64 bv, .string bd] 62) (.cells #[.int .i64 (cmpI ai bi), .int .i64 (cmpI ar br), .int .i64 (cmpI ab bb), .int .i64 (cmpI av bv)] 3)
    rw [← hW] at hg
    match j, hj with
    | 0, _ | 1, _ | 2, _ | 3, _ => simp [World.cell?, hg])
  have hda : W.cell? ⟨w.heap.size, 4, none⟩ = some (.string ad) := by rw [hW]; simp [go_sem]
  have hdb : W.cell? ⟨w.heap.size + 1, 4, none⟩ = some (.string bd) := by rw [hW]; simp [go_sem]
  rw [← hW]
  clear hW
  generalize hxs : [cmpI ai bi, cmpI ar br, cmpI ab bb, cmpI av bv] = xs at hcl HE
  have hxl : xs.length = 4 := by rw [← hxs]; rfl
  have HL := hide hxl
  clear hxs hxl
  go_wp2
  go_loop [6] (fun i => ∃ k : Nat, k ≤ 4 ∧ i = .int .i64 k ∧ orL (xs.drop k) = orL xs) (fun i => 4 - (intOf i).toNat)
  case atStart => exact ⟨0, Nat.zero_le _, rfl, rfl⟩
  case round =>
    obtain ⟨k, hk, rfl, hor⟩ := hrel
    have HO := hide hor
    clear hor
    by_cases hlt : k < 4
    · have hcx := unhide hcl k hlt
      have HS := hide (orL_step (xs := xs) (k := k) (by rw [unhide HL]; exact hlt))
      generalize xs.getD k 0 = z at hcx HS
      by_cases hz : z = 0
      · have hd : (z != 0) = false := by simpa using hz
        have HZ := hide hz
        clear hz
        go_wp2
        go_round
        case rel => exact ⟨k + 1, by omega, by go_num, by have := unhide HS; rw [if_pos (unhide HZ)] at this; rw [← this]; exact unhide HO⟩
        case measure => simp [intOf]; omega
      · have hd : (z != 0) = true := by simpa using hz
        have HZ := hide hz
        clear hz
        go_wp2
        go_ret
        exact ⟨ret_int (by
          have := unhide HS
          rw [if_neg (unhide HZ)] at this
          have e : orL xs = z := (unhide HO).symm.trans this
          rw [unhide HE, e, if_neg (unhide HZ)]), unhide HB⟩
    · have H0 := hide (show cmpE ai ar ab av ad bi br bb bv bd = cmpS ad bd by
        rw [unhide HE, if_pos]
        rw [← unhide HO, List.drop_of_length_le (by have := unhide HL; omega)]; rfl)
      clear HE HO
      rcases cmpS_ways ad bd with ⟨h1, h3⟩ | ⟨h1, h2, h3⟩ | ⟨h1, h2, h3⟩
      · rw [h3] at H0
        clear h3
        go_wp2
        go_ret
        exact ⟨ret_int (unhide H0).symm, unhide HB⟩
      all_goals
        rw [h3] at H0
        clear h3
        go_wp2_with fail
        refine (bit_is _ _).mono ?_
        rintro e _ ⟨rfl, rfl⟩
        go_wp2
        go_ret
        exact ⟨ret_int (unhide H0).symm, unhide HB⟩
end Go.Proofs.Ytjlocbimkfocnaa

namespace Go.Proofs.Ytjlocbimkfocnaa
open Go.RowKit

structure IsCmp {α : Type} (c : α → α → Int) : Prop where
  anti : ∀ x y, c y x = - c x y
  zero : ∀ x y, c x y = 0 ↔ x = y
  trans : ∀ x y z, 0 ≤ c x y → 0 ≤ c y z → 0 ≤ c x z

def lexC {α β : Type} (c1 : α → α → Int) (c2 : β → β → Int) (x y : α × β) : Int := if c1 x.1 y.1 = 0 then c2 x.2 y.2 else c1 x.1 y.1

theorem lexC_is {α β : Type} {c1 : α → α → Int} {c2 : β → β → Int} (h1 : IsCmp c1) (h2 : IsCmp c2) : IsCmp (lexC c1 c2) := by
  refine ⟨?_, ?_, ?_⟩
  · intro x y
    have a1 := h1.anti x.1 y.1
    have a2 := h2.anti x.2 y.2
    unfold lexC
    repeat' split
    all_goals omega
  · intro x y
    have z1 := h1.zero x.1 y.1
    have z2 := h2.zero x.2 y.2
    unfold lexC
    rw [Prod.ext_iff]
    split
    · rename_i h
      rw [z2]
      exact ⟨fun k => ⟨z1.mp h, k⟩, fun k => k.2⟩
    · rename_i h
      exact ⟨fun k => absurd k h, fun k => absurd (z1.mpr k.1) h⟩
  · rintro ⟨x1, x2⟩ ⟨y1, y2⟩ ⟨z1, z2⟩
    have t1 := h1.trans x1 y1 z1
    have t2 := h2.trans x2 y2 z2
    have zxy := h1.zero x1 y1
    have zyz := h1.zero y1 z1
    have zxz := h1.zero x1 z1
    have aa := h1.anti x1 y1
    simp only [lexC]
    by_cases hxy : c1 x1 y1 = 0
    · obtain rfl := zxy.mp hxy
      rw [if_pos hxy]
      by_cases hyz : c1 x1 z1 = 0
      · rw [if_pos hyz, if_pos hyz]; exact t2
      · rw [if_neg hyz, if_neg hyz]; intro _ h; exact h
    · rw [if_neg hxy]
      by_cases hyz : c1 y1 z1 = 0
      · obtain rfl := zyz.mp hyz
        rw [if_pos hyz, if_neg hxy]
        intro h _; exact h
      · rw [if_neg hyz]
        intro p q
        have r := t1 p q
        by_cases hxz : c1 x1 z1 = 0
        · exfalso
          obtain rfl := zxz.mp hxz
          omega
        · rw [if_neg hxz]; exact r

theorem cmpI_is : IsCmp cmpI := by
  refine ⟨?_, ?_, ?_⟩
  · intro x y
    unfold cmpI
    repeat' split
    all_goals omega
  · intro x y
    unfold cmpI
    repeat' split
    all_goals omega
  · intro x y z
    unfold cmpI
    repeat' split
    all_goals omega

theorem less_iff : ∀ (x y : List UInt8), Op.bytesLess x y = true ↔ x < y
  | [], [] => by simp [Op.bytesLess]
  | _ :: _, [] => by simp [Op.bytesLess]
  | [], _ :: _ => by simp [Op.bytesLess]
  | a :: x, b :: y => by
    rw [Op.bytesLess, List.cons_lt_cons_iff, Bool.or_eq_true, Bool.and_eq_true, less_iff x y]
    simp

theorem cmpS_is : IsCmp cmpS := by
  have hl : ∀ x y : ByteArray, cmpS x y = if x.toList < y.toList then -1 else if x.toList = y.toList then 0 else 1 := by
    intro x y
    unfold cmpS
    simp only [less_iff, beq_iff_eq]
  have inj : ∀ x y : ByteArray, x.toList = y.toList ↔ x = y := by
    intro x y
    refine ⟨fun h => ?_, fun h => by rw [h]⟩
    rw [Lib.toList_data, Lib.toList_data] at h
    obtain ⟨⟨x⟩⟩ := x
    obtain ⟨⟨y⟩⟩ := y
    simp at h
    rw [h]
  have tri : ∀ x y : List UInt8, ¬ x < y → ¬ y < x → x = y := fun x y h k => List.le_antisymm (List.not_lt.mp k) (List.not_lt.mp h)
  refine ⟨?_, ?_, ?_⟩
  · intro x y
    rw [hl, hl]
    by_cases h : x.toList < y.toList
    · have hne : ¬ y.toList < x.toList := List.lt_asymm h
      have hn2 : y.toList ≠ x.toList := fun e => by rw [e] at h; exact List.lt_irrefl _ h
      rw [if_pos h, if_neg hne, if_neg hn2]; rfl
    · rw [if_neg h]
      by_cases e : x.toList = y.toList
      · rw [if_pos e, e, if_neg (List.lt_irrefl _), if_pos rfl]; rfl
      · have : y.toList < x.toList := by
          by_cases k : y.toList < x.toList
          · exact k
          · exact absurd (tri _ _ h k) e
        rw [if_neg e, if_pos this]
  · intro x y
    rw [hl, ← inj]
    by_cases h : x.toList < y.toList
    · rw [if_pos h]
      refine ⟨fun k => by omega, fun k => ?_⟩
      rw [k] at h
      exact absurd h (List.lt_irrefl _)
    · rw [if_neg h]
      by_cases e : x.toList = y.toList
      · simp [e]
      · simp [e]
  · intro x y z
    rw [hl, hl, hl]
    have neg : ∀ u v : List UInt8, (0 : Int) ≤ (if u < v then -1 else if u = v then 0 else 1) ↔ ¬ u < v := by
      intro u v
      by_cases h : u < v
      · simp [h]
      · rw [if_neg h]
        refine ⟨fun _ => h, fun _ => ?_⟩
        split <;> omega
    rw [neg, neg, neg, List.not_lt, List.not_lt, List.not_lt]
    intro p q
    exact List.le_trans q p

def keyC := lexC cmpI (lexC cmpI (lexC cmpI (lexC cmpI cmpS)))
theorem keyC_is : IsCmp keyC := lexC_is cmpI_is (lexC_is cmpI_is (lexC_is cmpI_is (lexC_is cmpI_is cmpS_is)))
theorem cmpE_key (ai ar ab av : Int) (ad : ByteArray) (bi br bb bv : Int) (bd : ByteArray) : cmpE ai ar ab av ad bi br bb bv bd = keyC (ai, ar, ab, av, ad) (bi, br, bb, bv, bd) := by
  simp only [cmpE, keyC, lexC, orL]
  repeat' split
  all_goals first | rfl | omega
end Go.Proofs.Ytjlocbimkfocnaa
