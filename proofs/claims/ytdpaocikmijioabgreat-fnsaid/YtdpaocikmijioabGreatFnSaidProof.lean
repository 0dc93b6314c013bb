/-
  What is said is news: joined it is not beneath what was; who joins is there, who goes is not, and nobody else turns; for every code, by the statement given.
-/
import Derived.Test.YtdpaocikmijioabGreatRows
import Derived.Test.YtdpaocikmijioabGreatL5
import Derived.Test.YtdpaocikmijioabGreatMax
import Derived.Test.YtdpaocikmijioabGreatSyT
import Derived.Test.YtdpaocikmijioabGreatDrawB
import Derived.WalkKit
import Derived.ProofKit
import Derived.OpenShut
import Derived.ShutString
import Derived.ChangeOld
import Derived.Below
namespace Go.Proofs.YtdpaocikmijioabGreat.fnSaid
open Go.ChangeShapes Go.WideShapes Go.ChangeAt Go.RowKit
open Go.ChangeMaps (open_string shut_string)
set_option linter.unusedVariables false

theorem own : ownKnob Tryz.prog.godebug = none := by kernel_rfl
theorem laidOut : laidOutB Tryz.prog = true := by kernel_rfl

/-- WHAT THE WALK IS TOLD OF A SLICE OF INTEGERS THAT CAME IN: it is nil; or it leads to a row of 'cap' cells, the numbers 'zs' (the first 'len' are its elements, the rest its spare room), each fitting its kind. -/
def IsRow (k : IntKind) (w : World) (a : Option Addr) (len cap : Nat) (zs : List Int) : Prop :=
  (a = none ∧ len = 0 ∧ cap = 0 ∧ zs = []) ∨
  ∃ x, a = some x ∧ len ≤ cap ∧ cap ≤ maxLen ∧ zs.length = cap ∧ (∀ i, i < zs.length → w.cell? (x.add i) = some (.int k (zs.getD i 0))) ∧ ∀ n ∈ zs, (Lit.int k n).wf = true

/-! ### STEP 1: THE WALK: the Go text returns true, AND WRITES NOTHING THAT WAS THERE: 'Below w.heap.size w w'' (Derived/Below.lean: '.refl', '.alloc', '.drew', '.setCell' at a new block, '.trans'). Open each 'IsRow' by 'rcases' AHEAD of 'go_enter'; part every test ahead of the walk. -/
set_option maxRecDepth 100000 in
set_option maxHeartbeats 4000000 in
theorem walk (a0 : Option Addr) (len0 cap0 : Nat) (z0 : List Int) (w : World) (w0 : IsRow .u8 w a0 len0 cap0 z0) :
    Calls Tryz.prog 3 #[.slice a0 len0 cap0] w fun e w' => e = .returned (.bool true) ∧ Below w.heap.size w w' := by
  obtain ⟨xs, hxl, hseg, hbd⟩ := seg_of_row w0
  subst hxl
  by_cases hbig : 1048576 < xs.length
  · clear w0 hseg hbd
    go_enter Tryz.func3, Tryz.ntmps3
    go_wp2
    go_ret
    exact ⟨rfl, Below.refl _ _⟩
  have hlen : xs.length ≤ 1048576 := by omega
  have HS0 := hide hseg
  have HD := hide hbd
  clear hseg hbd w0
  go_enter Tryz.func3, Tryz.ntmps3
  go_wp2_with fail
  refine (big_no _ _ _ _ hbig).mono ?_
  rintro e _ ⟨rfl, rfl⟩
  go_wp2_with fail
  refine (drawsay_any _ xs _ hlen (unhide HD) (unhide HS0)).mono ?_
  rintro e w1 ⟨a1, a2, a3, a4, a5, a6, its, fls, id, rfl, t⟩
  have BB := hide t.bel
  have O1 := hide t.oi
  have O2 := hide t.of
  have NI := hide t.ni
  have l1 := t.li
  have l2 := t.lf
  have hh1 := (t.oi.rw encI_len).len.1
  have hh2 := (t.of.rw encF_len).len.1
  obtain ⟨m1, m2⟩ : a2 ≤ 6 ∧ a5 ≤ 6 := by omega
  clear t l1 l2 hh1 hh2
  go_upto_region 4 with fail
  obtain ⟨w11, hw11⟩ : ∃ W, W = (w1.alloc (StB (.slice a1 a2 a3) (.slice a4 a5 a6))) := ⟨_, rfl⟩
  obtain ⟨b_s, hb_s⟩ : ∃ b, b = w1.heap.size := ⟨_, rfl⟩
  rw [← hw11, ← hb_s]
  have hsw11 := (unhide BB).size
  have bw11 : Below w1.heap.size w1 w11 := by rw [hw11]; exact (Below.refl _ _).alloc (Nat.le_refl _) _
  have U_s := hide (show U3 w w11 b_s (.slice a1 a2 a3) (.slice a4 a5 a6) (its) (fls) from by rw [hw11, hb_s]; exact U3.new hsw11 (Nat.le_refl _) (.inl (unhide O1)) (.inl (unhide O2)))
  replace BB := hide ((unhide BB).trans (bw11.mono (unhide BB).size))
  clear bw11 hw11 hsw11 hb_s O1 O2
  go_wp2_with fail
  obtain ⟨ML, hML⟩ : ∃ W, W = w11.alloc (.cells #[.int .i64 0, .int .i64 1, .int .i64 2, .int .i64 3] 3) := ⟨_, rfl⟩
  obtain ⟨lb, hlb⟩ : ∃ b, b = w11.heap.size := ⟨_, rfl⟩
  rw [← hML, ← hlb]
  have bML : Below w11.heap.size w11 ML := by rw [hML]; exact (Below.refl _ _).alloc (Nat.le_refl _) _
  obtain ⟨y0, y1, y2, y3, -⟩ := blk_cells4 (show ML.heap[lb]? = some (.cells #[.int .i64 0, .int .i64 1, .int .i64 2, .int .i64 3] 3 (0, 0)) from by rw [hML, hlb]; exact heap_alloc_new _ _)
  clear hML hlb
  replace U_s := hide ((unhide U_s).later bML)
  replace BB := hide ((unhide BB).trans (bML.mono (unhide BB).size))
  clear bML
  refine (at0_seven _ xs _ hlen (unhide HD) ((unhide HS0).below (unhide BB) (Nat.le_refl _))).mono ?_
  rintro e _ ⟨⟨x, rfl, hx0, hx1⟩, rfl⟩
  obtain ⟨yq, kd, rfl, hk3⟩ : ∃ (yq : Int) (kd : Nat), x = kd + 4 * yq ∧ kd ≤ 3 := ⟨x / 4, (x % 4).toNat, by omega, by omega⟩
  have hmod : ((kd : Int) + 4 * yq) % 4 = kd := by omega
  have hmodt : ((kd : Int) + 4 * yq).tmod 4 = kd := by rw [Int.tmod_eq_emod_of_nonneg hx0]; exact hmod
  have hyk : ML.cell? ⟨lb, kd, none⟩ = some (.int .i64 kd) := by
    rcases (by omega : kd = 0 ∨ kd = 1 ∨ kd = 2 ∨ kd = 3) with rfl | rfl | rfl | rfl
    · exact y0
    · exact y1
    · exact y2
    · exact y3
  clear y0 y1 y2 y3
  obtain ⟨n, HN⟩ : ∃ n, Hid ((sayL 0 ⟨#[]⟩ its fls id).length = n) := ⟨_, hide rfl⟩
  obtain ⟨c, HC⟩ : ∃ c, Hid (sayC 0 ⟨#[]⟩ its fls id = c) := ⟨_, hide rfl⟩
  have hn1 : n ≤ 1 := by rw [← unhide HN]; exact sayL_len _ _ _ _ _
  obtain ⟨z_s0, z_s1⟩ := (unhide U_s).cells
  go_wp2_with fail
  clear z_s0 z_s1
  have sw12 := (unhide BB).size
  refine (isay0_any a1 a2 a3 its a4 a5 a6 fls id n HN c HC _ (by omega) (by omega) (unhide U_s).rI (unhide U_s).rF).mono ?_
  rintro e w12 ⟨saw12, scw12, rfl, o1, bw12⟩
  have OA := hide o1
  replace U_s := hide ((unhide U_s).later bw12)
  replace BB := hide ((unhide BB).trans (bw12.mono (unhide BB).size))
  have OB : Hid (OwF w.heap.size w12 (.slice none 0 0) []) := hide (World.ownsRow_nil _ _ _ _)
  replace OA := hide (Ow.base (unhide OA) sw12)
  clear o1 bw12
  have lt_s := (unhide U_s).lt
  go_upto_region 7 with fail
  obtain ⟨w13, hw13⟩ : ∃ W, W = (w12.alloc (StB (.slice saw12 n scw12) (.slice none 0 0))) := ⟨_, rfl⟩
  obtain ⟨b_d, hb_d⟩ : ∃ b, b = w12.heap.size := ⟨_, rfl⟩
  rw [← hw13, ← hb_d]
  have hsw13 := (unhide BB).size
  have bw13 : Below w12.heap.size w12 w13 := by rw [hw13]; exact (Below.refl _ _).alloc (Nat.le_refl _) _
  have U_d := hide (show U3 w w13 b_d (.slice saw12 n scw12) (.slice none 0 0) (sayL 0 ⟨#[]⟩ its fls id) ([]) from by rw [hw13, hb_d]; exact U3.new hsw13 (Nat.le_refl _) (.inl (unhide OA)) (.inl (unhide OB)))
  replace U_s := hide ((unhide U_s).later bw13)
  replace BB := hide ((unhide BB).trans (bw13.mono (unhide BB).size))
  have nb_sd : b_s ≠ b_d := by omega
  clear bw13 hw13 hsw13 hb_d OA OB
  clear lt_s
  clear sw12
  clear hyk hmod hmodt hx0 hx1
  obtain ⟨z_s0, z_s1⟩ := (unhide U_s).cells
  go_wp2_with fail
  clear z_s0 z_s1
  have sw14 := (unhide BB).size
  refine (ssay0_any a1 a2 a3 its a4 a5 a6 fls id n HN c HC _ (by omega) (by omega) (unhide U_s).rI (unhide U_s).rF).mono ?_
  rintro e w14 ⟨saw14, scw14, rfl, o1, bw14⟩
  have OA := hide o1
  replace U_s := hide ((unhide U_s).later bw14)
  replace U_d := hide ((unhide U_d).later bw14)
  replace BB := hide ((unhide BB).trans (bw14.mono (unhide BB).size))
  have OB : Hid (OwF w.heap.size w14 (.slice none 0 0) []) := hide (World.ownsRow_nil _ _ _ _)
  replace OA := hide (Ow.base (unhide OA) sw14)
  clear o1 bw14
  have lt_s := (unhide U_s).lt
  have lt_d := (unhide U_d).lt
  go_upto_region 8 with fail
  obtain ⟨w15, hw15⟩ : ∃ W, W = (w14.alloc (StB (.slice saw14 n scw14) (.slice none 0 0))) := ⟨_, rfl⟩
  obtain ⟨b_z, hb_z⟩ : ∃ b, b = w14.heap.size := ⟨_, rfl⟩
  rw [← hw15, ← hb_z]
  have hsw15 := (unhide BB).size
  have bw15 : Below w14.heap.size w14 w15 := by rw [hw15]; exact (Below.refl _ _).alloc (Nat.le_refl _) _
  have U_z := hide (show U3 w w15 b_z (.slice saw14 n scw14) (.slice none 0 0) (sayL 0 ⟨#[]⟩ its fls id) ([]) from by rw [hw15, hb_z]; exact U3.new hsw15 (Nat.le_refl _) (.inl (unhide OA)) (.inl (unhide OB)))
  replace U_s := hide ((unhide U_s).later bw15)
  replace U_d := hide ((unhide U_d).later bw15)
  replace BB := hide ((unhide BB).trans (bw15.mono (unhide BB).size))
  have nb_sz : b_s ≠ b_z := by omega
  have nb_dz : b_d ≠ b_z := by omega
  clear bw15 hw15 hsw15 hb_z OA OB
  clear lt_s lt_d
  clear sw14
  clear U_z
  obtain ⟨kz, hkz⟩ : ∃ z : Int, (kd : Int) = z := ⟨_, rfl⟩
  rw [hkz]
  obtain hkk : kz = 0 ∨ kz = 1 ∨ kz = 2 ∨ kz = 3 := by omega
  clear hkz hk3
  rcases hkk with rfl | rfl | rfl | rfl
  · skip
    go_upto_region 17 with fail
    have hcc : (c != c) = false := by simp
    by_cases hc0 : c = 0
    · subst hc0
      obtain ⟨hOk, hin, hL, hsd⟩ := said_of (k := 0) (by omega) (unhide HC)
      obtain ⟨e0, he⟩ : ∃ e, (chg 0 ⟨#[]⟩ its fls id).1 = e := ⟨_, rfl⟩
      rw [he] at hL hsd
      obtain rfl : n = 1 := by rw [← unhide HN, hL]; rfl
      have OA' := hide hOk
      have HI := hide hin
      have SD := hide hsd
      have HL := hide hL
      clear hOk hin hL hsd he
      replace U_d := hide (show U3 w w15 b_d (.slice saw12 1 scw12) (.slice none 0 0) [(id, e0)] [] from by rw [← unhide HL]; exact unhide U_d)
      have HJ : Hid ((okS its fls && okS [(id, e0)] []) = true) := hide (by rw [(okS_iff _ _).2 (unhide OA'), (okS_iff _ _).2 ((unhide SD).one (unhide HI))]; rfl)
      obtain ⟨z_s0, z_s1⟩ := (unhide U_s).cells
      obtain ⟨z_d0, z_d1⟩ := (unhide U_d).cells
      go_wp2_with fail
      clear z_s0 z_s1 z_d0 z_d1
      obtain ⟨n16, hn16⟩ : ∃ z, Hid ((jnI true its fls [(id, e0)] []).length = z) := ⟨_, hide rfl⟩
      obtain ⟨n17, hn17⟩ : ∃ z, Hid ((jnF true fls []).length = z) := ⟨_, hide rfl⟩
      have kn16 : n16 ≤ 5 := by rw [← unhide hn16]; exact jnI_len _ _ _ _ _
      have kn17 : n17 ≤ 5 := by rw [← unhide hn17]; exact jnF_len _ _ _
      have sw18 := (unhide BB).size
      refine (ijoin_any a1 a2 a3 its a4 a5 a6 fls saw12 1 scw12 [(id, e0)] none 0 0 [] true HJ n16 n17 hn16 hn17 _ (by omega) (by omega) (by omega) (by omega) (unhide U_s).rI (unhide U_s).rF (unhide U_d).rI (unhide U_d).rF).mono ?_
      rintro e w18 ⟨jaw18, jcw18, jbw18, jdw18, rfl, o1, o2, bw18⟩
      have OA := hide o1
      have OB := hide o2
      replace U_s := hide ((unhide U_s).later bw18)
      replace U_d := hide ((unhide U_d).later bw18)
      replace BB := hide ((unhide BB).trans (bw18.mono (unhide BB).size))
      clear o1 o2 bw18
      have lt_s := (unhide U_s).lt
      have lt_d := (unhide U_d).lt
      go_upto_region 22 with fail
      obtain ⟨w19, hw19⟩ : ∃ W, W = (w18.alloc (StB (.slice jaw18 n16 jcw18) (.slice jbw18 n17 jdw18))) := ⟨_, rfl⟩
      obtain ⟨b_j, hb_j⟩ : ∃ b, b = w18.heap.size := ⟨_, rfl⟩
      rw [← hw19, ← hb_j]
      have hsw19 := (unhide BB).size
      have bw19 : Below w18.heap.size w18 w19 := by rw [hw19]; exact (Below.refl _ _).alloc (Nat.le_refl _) _
      have U_j := hide (show U3 w w19 b_j (.slice jaw18 n16 jcw18) (.slice jbw18 n17 jdw18) (joinI its fls [(id, e0)] []) (joinF fls []) from by rw [hw19, hb_j]; exact U3.new hsw19 sw18 (.inl (unhide OA)) (.inl (unhide OB)))
      replace U_s := hide ((unhide U_s).later bw19)
      replace U_d := hide ((unhide U_d).later bw19)
      replace BB := hide ((unhide BB).trans (bw19.mono (unhide BB).size))
      have nb_sj : b_s ≠ b_j := by omega
      have nb_dj : b_d ≠ b_j := by omega
      clear bw19 hw19 hsw19 hb_j OA OB
      clear lt_s lt_d
      clear sw18
      have HNW := hide ((unhide SD).news (unhide OA') (unhide HI))
      have hii : (id != id) = false := by simp
      obtain ⟨z_d0, z_d1⟩ := (unhide U_d).cells
      obtain ⟨z_s0, z_s1⟩ := (unhide U_s).cells
      go_wp2_with fail
      clear z_d0 z_d1 z_s0 z_s1
      refine (ileq_any saw12 1 scw12 [(id, e0)] none 0 0 [] a1 a2 a3 its a4 a5 a6 fls false HNW _ (by omega) (by omega) (by omega) (by omega) (unhide U_d).rI (unhide U_d).rF (unhide U_s).rI (unhide U_s).rF).mono ?_
      rintro e w20 ⟨rfl, bw20⟩
      replace U_s := hide ((unhide U_s).later bw20)
      replace U_d := hide ((unhide U_d).later bw20)
      replace U_j := hide ((unhide U_j).later bw20)
      replace BB := hide ((unhide BB).trans (bw20.mono (unhide BB).size))
      clear bw20
      obtain ⟨x, xb, off, hx, hxa, hxb, hcap, hcx⟩ := (unhide U_d).rI.at (i := 0) (by omega)
      simp only [List.getElem?_cons_zero, Option.some.injEq] at hx
      subst hx
      obtain ⟨c0, c1, c2, c3, c4, c5⟩ := item_cells hcx
      simp only [Nat.zero_mul, Nat.add_zero] at c0
      subst hxa
      clear hcx c1 c2 c3 c4 c5 hcap
      obtain ⟨z_d0, z_d1⟩ := (unhide U_d).cells
      obtain ⟨ek, up, HE⟩ : ∃ x h, Hid (entR (vw (joinI its fls [(id, e0)] []) (joinF fls [])) id = (x, h)) := ⟨_, _, hide rfl⟩
      obtain ⟨z_j0, z_j1⟩ := (unhide U_j).cells
      go_wp2_with fail
      clear z_d0 z_d1 z_j0 z_j1
      refine (ilookup_any jaw18 n16 jcw18 (joinI its fls [(id, e0)] []) jbw18 n17 jdw18 (joinF fls []) id ek up HE _ (by omega) (by omega) (unhide U_j).rI (unhide U_j).rF).mono ?_
      rintro e w21 ⟨rfl, bw21⟩
      replace U_s := hide ((unhide U_s).later bw21)
      replace U_d := hide ((unhide U_d).later bw21)
      replace U_j := hide ((unhide U_j).later bw21)
      replace BB := hide ((unhide BB).trans (bw21.mono (unhide BB).size))
      clear bw21 c0 hxb
      have hse := (unhide HE).symm.trans ((unhide SD).seen (unhide OA') (unhide HI))
      simp only [if_neg (show ¬ (0 : Nat) = 3 by omega)] at hse
      obtain ⟨rfl, rfl⟩ : e0 = ek ∧ up = true := ⟨(congrArg Prod.fst hse).symm, congrArg Prod.snd hse⟩
      clear hse HE
      go_upto_region 25 with fail
      obtain ⟨w22, hw22⟩ : ∃ W, W = w21.alloc (.cells #[.int .i64 e0.1, .int .i64 e0.2.1, .int .i64 e0.2.2.1, .int .i64 e0.2.2.2.1, .string e0.2.2.2.2] 38) := ⟨_, rfl⟩
      obtain ⟨b_e, hb_e⟩ : ∃ b, b = w21.heap.size := ⟨_, rfl⟩
      rw [← hw22, ← hb_e]
      have bw22 : Below w21.heap.size w21 w22 := by rw [hw22]; exact (Below.refl _ _).alloc (Nat.le_refl _) _
      have K_e := hide (show E3 w22 b_e e0 from by rw [hw22, hb_e]; exact ⟨heap_alloc_new _ _⟩)
      have ge_e : w.heap.size ≤ b_e := by rw [hb_e]; exact (unhide BB).size
      have ne_se : b_s ≠ b_e := by have := (unhide U_s).lt; omega
      have ne_de : b_d ≠ b_e := by have := (unhide U_d).lt; omega
      have ne_je : b_j ≠ b_e := by have := (unhide U_j).lt; omega
      replace U_s := hide ((unhide U_s).later bw22)
      replace U_d := hide ((unhide U_d).later bw22)
      replace U_j := hide ((unhide U_j).later bw22)
      replace BB := hide ((unhide BB).trans (bw22.mono (unhide BB).size))
      clear bw22 hw22 hb_e
      obtain ⟨ga, HGA⟩ : ∃ f, Hid (gone its fls id = f) := ⟨_, hide rfl⟩
      have hgl : decide (e0.1 ≤ ga) = false := decide_eq_false (by have := (unhide SD).gn rfl; rw [unhide HGA] at this; omega)
      have lte := (unhide K_e).lt
      obtain ⟨y_e0, y_e1, y_e2, y_e3, y_e4, y_e5⟩ := blk_cells5 (unhide K_e).k
      have ly0 := later_some (w := w22) lte y_e0
      have ly1 := later_some (w := w22) lte y_e1
      have ly2 := later_some (w := w22) lte y_e2
      have ly3 := later_some (w := w22) lte y_e3
      have ly4 := later_some (w := w22) lte y_e4
      clear y_e0 y_e1 y_e2 y_e3 y_e4 y_e5
      obtain ⟨z_s0, z_s1⟩ := (unhide U_s).cells
      have l_s0 := later_some (w := w22) (unhide U_s).lt z_s0
      have l_s1 := later_some (w := w22) (unhide U_s).lt z_s1
      obtain ⟨z_j0, z_j1⟩ := (unhide U_j).cells
      have l_j0 := later_some (w := w22) (unhide U_j).lt z_j0
      have l_j1 := later_some (w := w22) (unhide U_j).lt z_j1
      clear z_s0 z_s1 z_j0 z_j1
      refine wp_region_later (by kernel_rfl) (by kernel_rfl) ?_
      repeat (go_big_quiet_step (first
        | (go_at_call 20; exact Calls.later_of (igone_any a1 a2 a3 its a4 a5 a6 fls id ga HGA _ (by omega) (by omega) ((unhide U_s).rI.in_later _ _) ((unhide U_s).rF.in_later _ _)))))
      refine wpQuiet_nil ?_
      intro w23 bw23
      replace U_s := hide ((unhide U_s).later bw23)
      replace U_d := hide ((unhide U_d).later bw23)
      replace U_j := hide ((unhide U_j).later bw23)
      replace BB := hide ((unhide BB).trans (bw23.mono (unhide BB).size))
      replace K_e := hide ((unhide K_e).later bw23)
      clear bw23 l_s0 l_s1 l_j0 l_j1
      clear ly0 ly1 ly2 ly3 ly4 lte K_e ge_e ne_se ne_de ne_je
      clear U_d nb_sd nb_sj nb_dj
      go_wp2
      have SA := hide (nine_sml (unhide NI))
      have SJ := hide (OkS.sml5 ((unhide OA').join ((unhide SD).one (unhide HI))))
      go_loopw [15] (fun i wr => ∃ k : Nat, k ≤ 5 ∧ i = .int .i64 k ∧ Below w.heap.size w wr ∧ U3 w wr b_s (.slice a1 a2 a3) (.slice a4 a5 a6) its fls ∧ U3 w wr b_j (.slice jaw18 n16 jcw18) (.slice jbw18 n17 jdw18) (joinI its fls [(id, e0)] []) (joinF fls [])) (fun i _ => 5 - (intOf i).toNat)
      case atStart => exact ⟨0, by omega, rfl, unhide BB, unhide U_s, unhide U_j⟩
      case round =>
        obtain ⟨k, hk1, rfl, hB, hA, hJ⟩ := hrel
        clear BB U_s U_j
        have BB := hide hB
        have U_s := hide hA
        have U_j := hide hJ
        clear hB hA hJ
        by_cases hlt : k < 5
        · have hd : decide ((k : Int) < 5) = true := by simp; omega
          obtain ⟨x, oa, HXA⟩ : ∃ x h, Hid (entR its k = (x, h)) := ⟨_, _, hide rfl⟩
          obtain ⟨y, ob, HYB⟩ : ∃ x h, Hid (entR (joinI its fls [(id, e0)] []) k = (x, h)) := ⟨_, _, hide rfl⟩
          obtain ⟨z_s0, z_s1⟩ := (unhide U_s).cells
          go_wp2_with fail
          clear z_s0 z_s1
          refine (ientry_any (.slice a4 a5 a6) a1 a2 a3 its (unhide SA) k x oa HXA _ (by omega) (unhide U_s).rI).mono ?_
          rintro e w24 ⟨rfl, bw24⟩
          replace U_s := hide ((unhide U_s).later bw24)
          replace U_j := hide ((unhide U_j).later bw24)
          replace BB := hide ((unhide BB).trans (bw24.mono (unhide BB).size))
          clear bw24
          go_upto_region 31 with fail
          obtain ⟨w25, hw25⟩ : ∃ W, W = w24.alloc (.cells #[.int .i64 x.1, .int .i64 x.2.1, .int .i64 x.2.2.1, .int .i64 x.2.2.2.1, .string x.2.2.2.2] 38) := ⟨_, rfl⟩
          obtain ⟨b_x, hb_x⟩ : ∃ b, b = w24.heap.size := ⟨_, rfl⟩
          rw [← hw25, ← hb_x]
          have bw25 : Below w24.heap.size w24 w25 := by rw [hw25]; exact (Below.refl _ _).alloc (Nat.le_refl _) _
          have K_x := hide (show E3 w25 b_x x from by rw [hw25, hb_x]; exact ⟨heap_alloc_new _ _⟩)
          have ge_x : w.heap.size ≤ b_x := by rw [hb_x]; exact (unhide BB).size
          have ne_sx : b_s ≠ b_x := by have := (unhide U_s).lt; omega
          have ne_jx : b_j ≠ b_x := by have := (unhide U_j).lt; omega
          replace U_s := hide ((unhide U_s).later bw25)
          replace U_j := hide ((unhide U_j).later bw25)
          replace BB := hide ((unhide BB).trans (bw25.mono (unhide BB).size))
          clear bw25 hw25 hb_x
          obtain ⟨z_j0, z_j1⟩ := (unhide U_j).cells
          go_wp2_with fail
          clear z_j0 z_j1
          refine (ientry_any (.slice jbw18 n17 jdw18) jaw18 n16 jcw18 (joinI its fls [(id, e0)] []) (unhide SJ) k y ob HYB _ (by omega) (unhide U_j).rI).mono ?_
          rintro e w26 ⟨rfl, bw26⟩
          replace U_s := hide ((unhide U_s).later bw26)
          replace U_j := hide ((unhide U_j).later bw26)
          replace BB := hide ((unhide BB).trans (bw26.mono (unhide BB).size))
          replace K_x := hide ((unhide K_x).later bw26)
          clear bw26
          go_upto_region 32 with fail
          obtain ⟨w27, hw27⟩ : ∃ W, W = w26.alloc (.cells #[.int .i64 y.1, .int .i64 y.2.1, .int .i64 y.2.2.1, .int .i64 y.2.2.2.1, .string y.2.2.2.2] 38) := ⟨_, rfl⟩
          obtain ⟨b_y, hb_y⟩ : ∃ b, b = w26.heap.size := ⟨_, rfl⟩
          rw [← hw27, ← hb_y]
          have bw27 : Below w26.heap.size w26 w27 := by rw [hw27]; exact (Below.refl _ _).alloc (Nat.le_refl _) _
          have K_y := hide (show E3 w27 b_y y from by rw [hw27, hb_y]; exact ⟨heap_alloc_new _ _⟩)
          have ge_y : w.heap.size ≤ b_y := by rw [hb_y]; exact (unhide BB).size
          have ne_sy : b_s ≠ b_y := by have := (unhide U_s).lt; omega
          have ne_jy : b_j ≠ b_y := by have := (unhide U_j).lt; omega
          have ne_xy : b_x ≠ b_y := by have := (unhide K_x).lt; omega
          replace U_s := hide ((unhide U_s).later bw27)
          replace U_j := hide ((unhide U_j).later bw27)
          replace BB := hide ((unhide BB).trans (bw27.mono (unhide BB).size))
          replace K_x := hide ((unhide K_x).later bw27)
          clear bw27 hw27 hb_y
          by_cases hki : (k : Int) = id
          · have hne : ((k : Int) != id) = false := by simp [hki]
            clear hki
            obtain ⟨y_x0, y_x1, y_x2, y_x3, y_x4, y_x5⟩ := blk_cells5 (unhide K_x).k
            obtain ⟨y_y0, y_y1, y_y2, y_y3, y_y4, y_y5⟩ := blk_cells5 (unhide K_y).k
            go_wp2
            go_roundw
            case rel => exact ⟨k + 1, by omega, by go_num, unhide BB, unhide U_s, unhide U_j⟩
            case measure => simp [intOf]; omega
          · have hne : ((k : Int) != id) = true := by simpa using hki
            have hot := (unhide HYB).symm.trans (((unhide SD).others (unhide OA') (unhide HI) k hki).trans (unhide HXA))
            obtain ⟨rfl, rfl⟩ : x = y ∧ oa = ob := ⟨(congrArg Prod.fst hot).symm, (congrArg Prod.snd hot).symm⟩
            clear hot hki
            have hoo : (oa != oa) = false := by simp
            have hq5 := eqK_self x
            obtain ⟨y_x0, y_x1, y_x2, y_x3, y_x4, y_x5⟩ := blk_cells5 (unhide K_x).k
            obtain ⟨y_y0, y_y1, y_y2, y_y3, y_y4, y_y5⟩ := blk_cells5 (unhide K_y).k
            go_wp2
            go_roundw
            case rel => exact ⟨k + 1, by omega, by go_num, unhide BB, unhide U_s, unhide U_j⟩
            case measure => simp [intOf]; omega
        · have hd : decide ((k : Int) < 5) = false := by simp; omega
          go_wp2
          go_ret
          exact ⟨rfl, unhide BB⟩
    · have hcn : (c != 0) = true := by simpa using hc0
      have hL := unsaid (k := 0) (d := ⟨#[]⟩) (xs := its) (fs := fls) (id := id) (by rw [unhide HC]; exact hc0)
      obtain rfl : n = 0 := by rw [← unhide HN, hL]; rfl
      clear hL
      obtain ⟨z_d0, z_d1⟩ := (unhide U_d).cells
      go_wp2
      go_ret
      exact ⟨rfl, unhide BB⟩
  · skip
    obtain ⟨n', HN'⟩ : ∃ n, Hid ((sayL 1 ⟨#[]⟩ its fls id).length = n) := ⟨_, hide rfl⟩
    obtain ⟨c', HC'⟩ : ∃ c, Hid (sayC 1 ⟨#[]⟩ its fls id = c) := ⟨_, hide rfl⟩
    have hn1' : n' ≤ 1 := by rw [← unhide HN']; exact sayL_len _ _ _ _ _
    obtain ⟨z_s0, z_s1⟩ := (unhide U_s).cells
    obtain ⟨z_d0, z_d1⟩ := (unhide U_d).cells
    go_wp2_with fail
    clear z_s0 z_s1 z_d0 z_d1
    have sw28 := (unhide BB).size
    refine (isay1_any a1 a2 a3 its a4 a5 a6 fls id n' HN' c' HC' _ (by omega) (by omega) (unhide U_s).rI (unhide U_s).rF).mono ?_
    rintro e w28 ⟨qa, qc, rfl, o1, bw28⟩
    have OA := hide o1
    replace U_s := hide ((unhide U_s).later bw28)
    replace U_d := hide ((unhide U_d).later bw28)
    replace BB := hide ((unhide BB).trans (bw28.mono (unhide BB).size))
    have OB : Hid (OwF w.heap.size w28 (.slice none 0 0) []) := hide (World.ownsRow_nil _ _ _ _)
    replace OA := hide (Ow.base (unhide OA) sw28)
    clear o1 bw28 sw28
    obtain ⟨zd0, zd1, zdf⟩ := blk_cells2 (unhide U_d).k1
    go_upto_region 10 with fail
    obtain ⟨w29, hw29⟩ : ∃ W, W = (w28.setCell ⟨b_d, 0, none⟩ (.slice qa n' qc)).setCell ⟨b_d, 1, none⟩ (.slice none 0 0) := ⟨_, rfl⟩
    rw [← hw29]
    replace U_s := hide (show U3 w w29 b_s (.slice a1 a2 a3) (.slice a4 a5 a6) its fls from by rw [hw29]; exact (unhide U_s).aside (unhide U_d).k1 nb_sd)
    replace BB := hide (show Below w.heap.size w w29 from by rw [hw29]; exact below_res (unhide BB) (unhide U_d).ge _ _)
    replace U_d := hide (show U3 w w29 b_d (.slice qa n' qc) (.slice none 0 0) (sayL 1 ⟨#[]⟩ its fls id) [] from by rw [hw29]; exact (unhide U_d).put (Nat.le_refl _) (.inl (unhide OA)) (.inl (unhide OB)))
    clear hw29 OA OB zd0 zd1 zdf
    obtain ⟨z_s0, z_s1⟩ := (unhide U_s).cells
    go_wp2_with fail
    clear z_s0 z_s1
    refine (ssay1_any a1 a2 a3 its a4 a5 a6 fls id n' HN' c' HC' _ (by omega) (by omega) (unhide U_s).rI (unhide U_s).rF).mono ?_
    rintro e w30 ⟨ra, rc, rfl, -, bw30⟩
    replace U_s := hide ((unhide U_s).later bw30)
    replace U_d := hide ((unhide U_d).later bw30)
    replace BB := hide ((unhide BB).trans (bw30.mono (unhide BB).size))
    clear bw30
    go_upto_region 17 with fail
    have hcc : (c' != c') = false := by simp
    by_cases hc0 : c' = 0
    · subst hc0
      obtain ⟨hOk, hin, hL, hsd⟩ := said_of (k := 1) (by omega) (unhide HC')
      obtain ⟨e0, he⟩ : ∃ e, (chg 1 ⟨#[]⟩ its fls id).1 = e := ⟨_, rfl⟩
      rw [he] at hL hsd
      obtain rfl : n' = 1 := by rw [← unhide HN', hL]; rfl
      have OA' := hide hOk
      have HI := hide hin
      have SD := hide hsd
      have HL := hide hL
      clear hOk hin hL hsd he
      replace U_d := hide (show U3 w w30 b_d (.slice qa 1 qc) (.slice none 0 0) [(id, e0)] [] from by rw [← unhide HL]; exact unhide U_d)
      have HJ : Hid ((okS its fls && okS [(id, e0)] []) = true) := hide (by rw [(okS_iff _ _).2 (unhide OA'), (okS_iff _ _).2 ((unhide SD).one (unhide HI))]; rfl)
      obtain ⟨z_s0, z_s1⟩ := (unhide U_s).cells
      obtain ⟨z_d0, z_d1⟩ := (unhide U_d).cells
      go_wp2_with fail
      clear z_s0 z_s1 z_d0 z_d1
      obtain ⟨n31, hn31⟩ : ∃ z, Hid ((jnI true its fls [(id, e0)] []).length = z) := ⟨_, hide rfl⟩
      obtain ⟨n32, hn32⟩ : ∃ z, Hid ((jnF true fls []).length = z) := ⟨_, hide rfl⟩
      have kn31 : n31 ≤ 5 := by rw [← unhide hn31]; exact jnI_len _ _ _ _ _
      have kn32 : n32 ≤ 5 := by rw [← unhide hn32]; exact jnF_len _ _ _
      have sw33 := (unhide BB).size
      refine (ijoin_any a1 a2 a3 its a4 a5 a6 fls qa 1 qc [(id, e0)] none 0 0 [] true HJ n31 n32 hn31 hn32 _ (by omega) (by omega) (by omega) (by omega) (unhide U_s).rI (unhide U_s).rF (unhide U_d).rI (unhide U_d).rF).mono ?_
      rintro e w33 ⟨jaw33, jcw33, jbw33, jdw33, rfl, o1, o2, bw33⟩
      have OA := hide o1
      have OB := hide o2
      replace U_s := hide ((unhide U_s).later bw33)
      replace U_d := hide ((unhide U_d).later bw33)
      replace BB := hide ((unhide BB).trans (bw33.mono (unhide BB).size))
      clear o1 o2 bw33
      have lt_s := (unhide U_s).lt
      have lt_d := (unhide U_d).lt
      go_upto_region 22 with fail
      obtain ⟨w34, hw34⟩ : ∃ W, W = (w33.alloc (StB (.slice jaw33 n31 jcw33) (.slice jbw33 n32 jdw33))) := ⟨_, rfl⟩
      obtain ⟨b_j, hb_j⟩ : ∃ b, b = w33.heap.size := ⟨_, rfl⟩
      rw [← hw34, ← hb_j]
      have hsw34 := (unhide BB).size
      have bw34 : Below w33.heap.size w33 w34 := by rw [hw34]; exact (Below.refl _ _).alloc (Nat.le_refl _) _
      have U_j := hide (show U3 w w34 b_j (.slice jaw33 n31 jcw33) (.slice jbw33 n32 jdw33) (joinI its fls [(id, e0)] []) (joinF fls []) from by rw [hw34, hb_j]; exact U3.new hsw34 sw33 (.inl (unhide OA)) (.inl (unhide OB)))
      replace U_s := hide ((unhide U_s).later bw34)
      replace U_d := hide ((unhide U_d).later bw34)
      replace BB := hide ((unhide BB).trans (bw34.mono (unhide BB).size))
      have nb_sj : b_s ≠ b_j := by omega
      have nb_dj : b_d ≠ b_j := by omega
      clear bw34 hw34 hsw34 hb_j OA OB
      clear lt_s lt_d
      clear sw33
      have HNW := hide ((unhide SD).news (unhide OA') (unhide HI))
      have hii : (id != id) = false := by simp
      obtain ⟨z_d0, z_d1⟩ := (unhide U_d).cells
      obtain ⟨z_s0, z_s1⟩ := (unhide U_s).cells
      go_wp2_with fail
      clear z_d0 z_d1 z_s0 z_s1
      refine (ileq_any qa 1 qc [(id, e0)] none 0 0 [] a1 a2 a3 its a4 a5 a6 fls false HNW _ (by omega) (by omega) (by omega) (by omega) (unhide U_d).rI (unhide U_d).rF (unhide U_s).rI (unhide U_s).rF).mono ?_
      rintro e w35 ⟨rfl, bw35⟩
      replace U_s := hide ((unhide U_s).later bw35)
      replace U_d := hide ((unhide U_d).later bw35)
      replace U_j := hide ((unhide U_j).later bw35)
      replace BB := hide ((unhide BB).trans (bw35.mono (unhide BB).size))
      clear bw35
      obtain ⟨x, xb, off, hx, hxa, hxb, hcap, hcx⟩ := (unhide U_d).rI.at (i := 0) (by omega)
      simp only [List.getElem?_cons_zero, Option.some.injEq] at hx
      subst hx
      obtain ⟨c0, c1, c2, c3, c4, c5⟩ := item_cells hcx
      simp only [Nat.zero_mul, Nat.add_zero] at c0
      subst hxa
      clear hcx c1 c2 c3 c4 c5 hcap
      obtain ⟨z_d0, z_d1⟩ := (unhide U_d).cells
      obtain ⟨ek, up, HE⟩ : ∃ x h, Hid (entR (vw (joinI its fls [(id, e0)] []) (joinF fls [])) id = (x, h)) := ⟨_, _, hide rfl⟩
      obtain ⟨z_j0, z_j1⟩ := (unhide U_j).cells
      go_wp2_with fail
      clear z_d0 z_d1 z_j0 z_j1
      refine (ilookup_any jaw33 n31 jcw33 (joinI its fls [(id, e0)] []) jbw33 n32 jdw33 (joinF fls []) id ek up HE _ (by omega) (by omega) (unhide U_j).rI (unhide U_j).rF).mono ?_
      rintro e w36 ⟨rfl, bw36⟩
      replace U_s := hide ((unhide U_s).later bw36)
      replace U_d := hide ((unhide U_d).later bw36)
      replace U_j := hide ((unhide U_j).later bw36)
      replace BB := hide ((unhide BB).trans (bw36.mono (unhide BB).size))
      clear bw36 c0 hxb
      have hse := (unhide HE).symm.trans ((unhide SD).seen (unhide OA') (unhide HI))
      simp only [if_neg (show ¬ (1 : Nat) = 3 by omega)] at hse
      obtain ⟨rfl, rfl⟩ : e0 = ek ∧ up = true := ⟨(congrArg Prod.fst hse).symm, congrArg Prod.snd hse⟩
      clear hse HE
      go_upto_region 25 with fail
      obtain ⟨w37, hw37⟩ : ∃ W, W = w36.alloc (.cells #[.int .i64 e0.1, .int .i64 e0.2.1, .int .i64 e0.2.2.1, .int .i64 e0.2.2.2.1, .string e0.2.2.2.2] 38) := ⟨_, rfl⟩
      obtain ⟨b_e, hb_e⟩ : ∃ b, b = w36.heap.size := ⟨_, rfl⟩
      rw [← hw37, ← hb_e]
      have bw37 : Below w36.heap.size w36 w37 := by rw [hw37]; exact (Below.refl _ _).alloc (Nat.le_refl _) _
      have K_e := hide (show E3 w37 b_e e0 from by rw [hw37, hb_e]; exact ⟨heap_alloc_new _ _⟩)
      have ge_e : w.heap.size ≤ b_e := by rw [hb_e]; exact (unhide BB).size
      have ne_se : b_s ≠ b_e := by have := (unhide U_s).lt; omega
      have ne_de : b_d ≠ b_e := by have := (unhide U_d).lt; omega
      have ne_je : b_j ≠ b_e := by have := (unhide U_j).lt; omega
      replace U_s := hide ((unhide U_s).later bw37)
      replace U_d := hide ((unhide U_d).later bw37)
      replace U_j := hide ((unhide U_j).later bw37)
      replace BB := hide ((unhide BB).trans (bw37.mono (unhide BB).size))
      clear bw37 hw37 hb_e
      obtain ⟨ga, HGA⟩ : ∃ f, Hid (gone its fls id = f) := ⟨_, hide rfl⟩
      have lte := (unhide K_e).lt
      obtain ⟨y_e0, y_e1, y_e2, y_e3, y_e4, y_e5⟩ := blk_cells5 (unhide K_e).k
      have ly0 := later_some (w := w37) lte y_e0
      have ly1 := later_some (w := w37) lte y_e1
      have ly2 := later_some (w := w37) lte y_e2
      have ly3 := later_some (w := w37) lte y_e3
      have ly4 := later_some (w := w37) lte y_e4
      clear y_e0 y_e1 y_e2 y_e3 y_e4 y_e5
      obtain ⟨z_s0, z_s1⟩ := (unhide U_s).cells
      have l_s0 := later_some (w := w37) (unhide U_s).lt z_s0
      have l_s1 := later_some (w := w37) (unhide U_s).lt z_s1
      obtain ⟨z_j0, z_j1⟩ := (unhide U_j).cells
      have l_j0 := later_some (w := w37) (unhide U_j).lt z_j0
      have l_j1 := later_some (w := w37) (unhide U_j).lt z_j1
      clear z_s0 z_s1 z_j0 z_j1
      refine wp_region_later (by kernel_rfl) (by kernel_rfl) ?_
      repeat (go_big_quiet_step (first
        | (go_at_call 20; exact Calls.later_of (igone_any a1 a2 a3 its a4 a5 a6 fls id ga HGA _ (by omega) (by omega) ((unhide U_s).rI.in_later _ _) ((unhide U_s).rF.in_later _ _)))))
      refine wpQuiet_nil ?_
      intro w38 bw38
      replace U_s := hide ((unhide U_s).later bw38)
      replace U_d := hide ((unhide U_d).later bw38)
      replace U_j := hide ((unhide U_j).later bw38)
      replace BB := hide ((unhide BB).trans (bw38.mono (unhide BB).size))
      replace K_e := hide ((unhide K_e).later bw38)
      clear bw38 l_s0 l_s1 l_j0 l_j1
      clear ly0 ly1 ly2 ly3 ly4 lte K_e ge_e ne_se ne_de ne_je
      clear U_d nb_sd nb_sj nb_dj
      go_wp2
      have SA := hide (nine_sml (unhide NI))
      have SJ := hide (OkS.sml5 ((unhide OA').join ((unhide SD).one (unhide HI))))
      go_loopw [15] (fun i wr => ∃ k : Nat, k ≤ 5 ∧ i = .int .i64 k ∧ Below w.heap.size w wr ∧ U3 w wr b_s (.slice a1 a2 a3) (.slice a4 a5 a6) its fls ∧ U3 w wr b_j (.slice jaw33 n31 jcw33) (.slice jbw33 n32 jdw33) (joinI its fls [(id, e0)] []) (joinF fls [])) (fun i _ => 5 - (intOf i).toNat)
      case atStart => exact ⟨0, by omega, rfl, unhide BB, unhide U_s, unhide U_j⟩
      case round =>
        obtain ⟨k, hk1, rfl, hB, hA, hJ⟩ := hrel
        clear BB U_s U_j
        have BB := hide hB
        have U_s := hide hA
        have U_j := hide hJ
        clear hB hA hJ
        by_cases hlt : k < 5
        · have hd : decide ((k : Int) < 5) = true := by simp; omega
          obtain ⟨x, oa, HXA⟩ : ∃ x h, Hid (entR its k = (x, h)) := ⟨_, _, hide rfl⟩
          obtain ⟨y, ob, HYB⟩ : ∃ x h, Hid (entR (joinI its fls [(id, e0)] []) k = (x, h)) := ⟨_, _, hide rfl⟩
          obtain ⟨z_s0, z_s1⟩ := (unhide U_s).cells
          go_wp2_with fail
          clear z_s0 z_s1
          refine (ientry_any (.slice a4 a5 a6) a1 a2 a3 its (unhide SA) k x oa HXA _ (by omega) (unhide U_s).rI).mono ?_
          rintro e w39 ⟨rfl, bw39⟩
          replace U_s := hide ((unhide U_s).later bw39)
          replace U_j := hide ((unhide U_j).later bw39)
          replace BB := hide ((unhide BB).trans (bw39.mono (unhide BB).size))
          clear bw39
          go_upto_region 31 with fail
          obtain ⟨w40, hw40⟩ : ∃ W, W = w39.alloc (.cells #[.int .i64 x.1, .int .i64 x.2.1, .int .i64 x.2.2.1, .int .i64 x.2.2.2.1, .string x.2.2.2.2] 38) := ⟨_, rfl⟩
          obtain ⟨b_x, hb_x⟩ : ∃ b, b = w39.heap.size := ⟨_, rfl⟩
          rw [← hw40, ← hb_x]
          have bw40 : Below w39.heap.size w39 w40 := by rw [hw40]; exact (Below.refl _ _).alloc (Nat.le_refl _) _
          have K_x := hide (show E3 w40 b_x x from by rw [hw40, hb_x]; exact ⟨heap_alloc_new _ _⟩)
          have ge_x : w.heap.size ≤ b_x := by rw [hb_x]; exact (unhide BB).size
          have ne_sx : b_s ≠ b_x := by have := (unhide U_s).lt; omega
          have ne_jx : b_j ≠ b_x := by have := (unhide U_j).lt; omega
          replace U_s := hide ((unhide U_s).later bw40)
          replace U_j := hide ((unhide U_j).later bw40)
          replace BB := hide ((unhide BB).trans (bw40.mono (unhide BB).size))
          clear bw40 hw40 hb_x
          obtain ⟨z_j0, z_j1⟩ := (unhide U_j).cells
          go_wp2_with fail
          clear z_j0 z_j1
          refine (ientry_any (.slice jbw33 n32 jdw33) jaw33 n31 jcw33 (joinI its fls [(id, e0)] []) (unhide SJ) k y ob HYB _ (by omega) (unhide U_j).rI).mono ?_
          rintro e w41 ⟨rfl, bw41⟩
          replace U_s := hide ((unhide U_s).later bw41)
          replace U_j := hide ((unhide U_j).later bw41)
          replace BB := hide ((unhide BB).trans (bw41.mono (unhide BB).size))
          replace K_x := hide ((unhide K_x).later bw41)
          clear bw41
          go_upto_region 32 with fail
          obtain ⟨w42, hw42⟩ : ∃ W, W = w41.alloc (.cells #[.int .i64 y.1, .int .i64 y.2.1, .int .i64 y.2.2.1, .int .i64 y.2.2.2.1, .string y.2.2.2.2] 38) := ⟨_, rfl⟩
          obtain ⟨b_y, hb_y⟩ : ∃ b, b = w41.heap.size := ⟨_, rfl⟩
          rw [← hw42, ← hb_y]
          have bw42 : Below w41.heap.size w41 w42 := by rw [hw42]; exact (Below.refl _ _).alloc (Nat.le_refl _) _
          have K_y := hide (show E3 w42 b_y y from by rw [hw42, hb_y]; exact ⟨heap_alloc_new _ _⟩)
          have ge_y : w.heap.size ≤ b_y := by rw [hb_y]; exact (unhide BB).size
          have ne_sy : b_s ≠ b_y := by have := (unhide U_s).lt; omega
          have ne_jy : b_j ≠ b_y := by have := (unhide U_j).lt; omega
          have ne_xy : b_x ≠ b_y := by have := (unhide K_x).lt; omega
          replace U_s := hide ((unhide U_s).later bw42)
          replace U_j := hide ((unhide U_j).later bw42)
          replace BB := hide ((unhide BB).trans (bw42.mono (unhide BB).size))
          replace K_x := hide ((unhide K_x).later bw42)
          clear bw42 hw42 hb_y
          by_cases hki : (k : Int) = id
          · have hne : ((k : Int) != id) = false := by simp [hki]
            clear hki
            obtain ⟨y_x0, y_x1, y_x2, y_x3, y_x4, y_x5⟩ := blk_cells5 (unhide K_x).k
            obtain ⟨y_y0, y_y1, y_y2, y_y3, y_y4, y_y5⟩ := blk_cells5 (unhide K_y).k
            go_wp2
            go_roundw
            case rel => exact ⟨k + 1, by omega, by go_num, unhide BB, unhide U_s, unhide U_j⟩
            case measure => simp [intOf]; omega
          · have hne : ((k : Int) != id) = true := by simpa using hki
            have hot := (unhide HYB).symm.trans (((unhide SD).others (unhide OA') (unhide HI) k hki).trans (unhide HXA))
            obtain ⟨rfl, rfl⟩ : x = y ∧ oa = ob := ⟨(congrArg Prod.fst hot).symm, (congrArg Prod.snd hot).symm⟩
            clear hot hki
            have hoo : (oa != oa) = false := by simp
            have hq5 := eqK_self x
            obtain ⟨y_x0, y_x1, y_x2, y_x3, y_x4, y_x5⟩ := blk_cells5 (unhide K_x).k
            obtain ⟨y_y0, y_y1, y_y2, y_y3, y_y4, y_y5⟩ := blk_cells5 (unhide K_y).k
            go_wp2
            go_roundw
            case rel => exact ⟨k + 1, by omega, by go_num, unhide BB, unhide U_s, unhide U_j⟩
            case measure => simp [intOf]; omega
        · have hd : decide ((k : Int) < 5) = false := by simp; omega
          go_wp2
          go_ret
          exact ⟨rfl, unhide BB⟩
    · have hcn : (c' != 0) = true := by simpa using hc0
      have hL := unsaid (k := 1) (d := ⟨#[]⟩) (xs := its) (fs := fls) (id := id) (by rw [unhide HC']; exact hc0)
      obtain rfl : n' = 0 := by rw [← unhide HN', hL]; rfl
      clear hL
      obtain ⟨z_d0, z_d1⟩ := (unhide U_d).cells
      go_wp2
      go_ret
      exact ⟨rfl, unhide BB⟩
  · skip
    obtain ⟨n', HN'⟩ : ∃ n, Hid ((sayL 2 ⟨#[110, 101, 119]⟩ its fls id).length = n) := ⟨_, hide rfl⟩
    obtain ⟨c', HC'⟩ : ∃ c, Hid (sayC 2 ⟨#[110, 101, 119]⟩ its fls id = c) := ⟨_, hide rfl⟩
    have hn1' : n' ≤ 1 := by rw [← unhide HN']; exact sayL_len _ _ _ _ _
    obtain ⟨z_s0, z_s1⟩ := (unhide U_s).cells
    obtain ⟨z_d0, z_d1⟩ := (unhide U_d).cells
    go_wp2_with fail
    clear z_s0 z_s1 z_d0 z_d1
    have sw43 := (unhide BB).size
    refine (isay2_any a1 a2 a3 its a4 a5 a6 fls id ⟨#[110, 101, 119]⟩ n' HN' c' HC' _ (by omega) (by omega) (unhide U_s).rI (unhide U_s).rF).mono ?_
    rintro e w43 ⟨qa, qc, rfl, o1, bw43⟩
    have OA := hide o1
    replace U_s := hide ((unhide U_s).later bw43)
    replace U_d := hide ((unhide U_d).later bw43)
    replace BB := hide ((unhide BB).trans (bw43.mono (unhide BB).size))
    have OB : Hid (OwF w.heap.size w43 (.slice none 0 0) []) := hide (World.ownsRow_nil _ _ _ _)
    replace OA := hide (Ow.base (unhide OA) sw43)
    clear o1 bw43 sw43
    obtain ⟨zd0, zd1, zdf⟩ := blk_cells2 (unhide U_d).k1
    go_upto_region 13 with fail
    obtain ⟨w44, hw44⟩ : ∃ W, W = (w43.setCell ⟨b_d, 0, none⟩ (.slice qa n' qc)).setCell ⟨b_d, 1, none⟩ (.slice none 0 0) := ⟨_, rfl⟩
    rw [← hw44]
    replace U_s := hide (show U3 w w44 b_s (.slice a1 a2 a3) (.slice a4 a5 a6) its fls from by rw [hw44]; exact (unhide U_s).aside (unhide U_d).k1 nb_sd)
    replace BB := hide (show Below w.heap.size w w44 from by rw [hw44]; exact below_res (unhide BB) (unhide U_d).ge _ _)
    replace U_d := hide (show U3 w w44 b_d (.slice qa n' qc) (.slice none 0 0) (sayL 2 ⟨#[110, 101, 119]⟩ its fls id) [] from by rw [hw44]; exact (unhide U_d).put (Nat.le_refl _) (.inl (unhide OA)) (.inl (unhide OB)))
    clear hw44 OA OB zd0 zd1 zdf
    obtain ⟨z_s0, z_s1⟩ := (unhide U_s).cells
    go_wp2_with fail
    clear z_s0 z_s1
    refine (ssay2_any a1 a2 a3 its a4 a5 a6 fls id ⟨#[110, 101, 119]⟩ n' HN' c' HC' _ (by omega) (by omega) (unhide U_s).rI (unhide U_s).rF).mono ?_
    rintro e w45 ⟨ra, rc, rfl, -, bw45⟩
    replace U_s := hide ((unhide U_s).later bw45)
    replace U_d := hide ((unhide U_d).later bw45)
    replace BB := hide ((unhide BB).trans (bw45.mono (unhide BB).size))
    clear bw45
    go_upto_region 17 with fail
    have hcc : (c' != c') = false := by simp
    by_cases hc0 : c' = 0
    · subst hc0
      obtain ⟨hOk, hin, hL, hsd⟩ := said_of (k := 2) (by omega) (unhide HC')
      obtain ⟨e0, he⟩ : ∃ e, (chg 2 ⟨#[110, 101, 119]⟩ its fls id).1 = e := ⟨_, rfl⟩
      rw [he] at hL hsd
      obtain rfl : n' = 1 := by rw [← unhide HN', hL]; rfl
      have OA' := hide hOk
      have HI := hide hin
      have SD := hide hsd
      have HL := hide hL
      have hdt : e0.2.2.2.2 = ⟨#[110, 101, 119]⟩ := by
        have h2 := unhide HC'
        rw [← he]
        exact said_data h2
      have HDT := hide hdt
      clear hdt
      clear hOk hin hL hsd he
      replace U_d := hide (show U3 w w45 b_d (.slice qa 1 qc) (.slice none 0 0) [(id, e0)] [] from by rw [← unhide HL]; exact unhide U_d)
      have HJ : Hid ((okS its fls && okS [(id, e0)] []) = true) := hide (by rw [(okS_iff _ _).2 (unhide OA'), (okS_iff _ _).2 ((unhide SD).one (unhide HI))]; rfl)
      obtain ⟨z_s0, z_s1⟩ := (unhide U_s).cells
      obtain ⟨z_d0, z_d1⟩ := (unhide U_d).cells
      go_wp2_with fail
      clear z_s0 z_s1 z_d0 z_d1
      obtain ⟨n46, hn46⟩ : ∃ z, Hid ((jnI true its fls [(id, e0)] []).length = z) := ⟨_, hide rfl⟩
      obtain ⟨n47, hn47⟩ : ∃ z, Hid ((jnF true fls []).length = z) := ⟨_, hide rfl⟩
      have kn46 : n46 ≤ 5 := by rw [← unhide hn46]; exact jnI_len _ _ _ _ _
      have kn47 : n47 ≤ 5 := by rw [← unhide hn47]; exact jnF_len _ _ _
      have sw48 := (unhide BB).size
      refine (ijoin_any a1 a2 a3 its a4 a5 a6 fls qa 1 qc [(id, e0)] none 0 0 [] true HJ n46 n47 hn46 hn47 _ (by omega) (by omega) (by omega) (by omega) (unhide U_s).rI (unhide U_s).rF (unhide U_d).rI (unhide U_d).rF).mono ?_
      rintro e w48 ⟨jaw48, jcw48, jbw48, jdw48, rfl, o1, o2, bw48⟩
      have OA := hide o1
      have OB := hide o2
      replace U_s := hide ((unhide U_s).later bw48)
      replace U_d := hide ((unhide U_d).later bw48)
      replace BB := hide ((unhide BB).trans (bw48.mono (unhide BB).size))
      clear o1 o2 bw48
      have lt_s := (unhide U_s).lt
      have lt_d := (unhide U_d).lt
      go_upto_region 22 with fail
      obtain ⟨w49, hw49⟩ : ∃ W, W = (w48.alloc (StB (.slice jaw48 n46 jcw48) (.slice jbw48 n47 jdw48))) := ⟨_, rfl⟩
      obtain ⟨b_j, hb_j⟩ : ∃ b, b = w48.heap.size := ⟨_, rfl⟩
      rw [← hw49, ← hb_j]
      have hsw49 := (unhide BB).size
      have bw49 : Below w48.heap.size w48 w49 := by rw [hw49]; exact (Below.refl _ _).alloc (Nat.le_refl _) _
      have U_j := hide (show U3 w w49 b_j (.slice jaw48 n46 jcw48) (.slice jbw48 n47 jdw48) (joinI its fls [(id, e0)] []) (joinF fls []) from by rw [hw49, hb_j]; exact U3.new hsw49 sw48 (.inl (unhide OA)) (.inl (unhide OB)))
      replace U_s := hide ((unhide U_s).later bw49)
      replace U_d := hide ((unhide U_d).later bw49)
      replace BB := hide ((unhide BB).trans (bw49.mono (unhide BB).size))
      have nb_sj : b_s ≠ b_j := by omega
      have nb_dj : b_d ≠ b_j := by omega
      clear bw49 hw49 hsw49 hb_j OA OB
      clear lt_s lt_d
      clear sw48
      have HNW := hide ((unhide SD).news (unhide OA') (unhide HI))
      have hii : (id != id) = false := by simp
      obtain ⟨z_d0, z_d1⟩ := (unhide U_d).cells
      obtain ⟨z_s0, z_s1⟩ := (unhide U_s).cells
      go_wp2_with fail
      clear z_d0 z_d1 z_s0 z_s1
      refine (ileq_any qa 1 qc [(id, e0)] none 0 0 [] a1 a2 a3 its a4 a5 a6 fls false HNW _ (by omega) (by omega) (by omega) (by omega) (unhide U_d).rI (unhide U_d).rF (unhide U_s).rI (unhide U_s).rF).mono ?_
      rintro e w50 ⟨rfl, bw50⟩
      replace U_s := hide ((unhide U_s).later bw50)
      replace U_d := hide ((unhide U_d).later bw50)
      replace U_j := hide ((unhide U_j).later bw50)
      replace BB := hide ((unhide BB).trans (bw50.mono (unhide BB).size))
      clear bw50
      obtain ⟨x, xb, off, hx, hxa, hxb, hcap, hcx⟩ := (unhide U_d).rI.at (i := 0) (by omega)
      simp only [List.getElem?_cons_zero, Option.some.injEq] at hx
      subst hx
      obtain ⟨c0, c1, c2, c3, c4, c5⟩ := item_cells hcx
      simp only [Nat.zero_mul, Nat.add_zero] at c0
      subst hxa
      clear hcx c1 c2 c3 c4 c5 hcap
      obtain ⟨z_d0, z_d1⟩ := (unhide U_d).cells
      obtain ⟨ek, up, HE⟩ : ∃ x h, Hid (entR (vw (joinI its fls [(id, e0)] []) (joinF fls [])) id = (x, h)) := ⟨_, _, hide rfl⟩
      obtain ⟨z_j0, z_j1⟩ := (unhide U_j).cells
      go_wp2_with fail
      clear z_d0 z_d1 z_j0 z_j1
      refine (ilookup_any jaw48 n46 jcw48 (joinI its fls [(id, e0)] []) jbw48 n47 jdw48 (joinF fls []) id ek up HE _ (by omega) (by omega) (unhide U_j).rI (unhide U_j).rF).mono ?_
      rintro e w51 ⟨rfl, bw51⟩
      replace U_s := hide ((unhide U_s).later bw51)
      replace U_d := hide ((unhide U_d).later bw51)
      replace U_j := hide ((unhide U_j).later bw51)
      replace BB := hide ((unhide BB).trans (bw51.mono (unhide BB).size))
      clear bw51 c0 hxb
      have hse := (unhide HE).symm.trans ((unhide SD).seen (unhide OA') (unhide HI))
      simp only [if_neg (show ¬ (2 : Nat) = 3 by omega)] at hse
      obtain ⟨rfl, rfl⟩ : e0 = ek ∧ up = true := ⟨(congrArg Prod.fst hse).symm, congrArg Prod.snd hse⟩
      clear hse HE
      go_upto_region 25 with fail
      obtain ⟨w52, hw52⟩ : ∃ W, W = w51.alloc (.cells #[.int .i64 e0.1, .int .i64 e0.2.1, .int .i64 e0.2.2.1, .int .i64 e0.2.2.2.1, .string e0.2.2.2.2] 38) := ⟨_, rfl⟩
      obtain ⟨b_e, hb_e⟩ : ∃ b, b = w51.heap.size := ⟨_, rfl⟩
      rw [← hw52, ← hb_e]
      have bw52 : Below w51.heap.size w51 w52 := by rw [hw52]; exact (Below.refl _ _).alloc (Nat.le_refl _) _
      have K_e := hide (show E3 w52 b_e e0 from by rw [hw52, hb_e]; exact ⟨heap_alloc_new _ _⟩)
      have ge_e : w.heap.size ≤ b_e := by rw [hb_e]; exact (unhide BB).size
      have ne_se : b_s ≠ b_e := by have := (unhide U_s).lt; omega
      have ne_de : b_d ≠ b_e := by have := (unhide U_d).lt; omega
      have ne_je : b_j ≠ b_e := by have := (unhide U_j).lt; omega
      replace U_s := hide ((unhide U_s).later bw52)
      replace U_d := hide ((unhide U_d).later bw52)
      replace U_j := hide ((unhide U_j).later bw52)
      replace BB := hide ((unhide BB).trans (bw52.mono (unhide BB).size))
      clear bw52 hw52 hb_e
      obtain ⟨ga, HGA⟩ : ∃ f, Hid (gone its fls id = f) := ⟨_, hide rfl⟩
      have hq1 : (e0.2.2.2.2.toList == (⟨#[110, 101, 119]⟩ : ByteArray).toList) = true := by rw [unhide HDT]; simp
      have hq2 : (e0.2.2.2.2.toList == [110, 101, 119]) = true := by rw [unhide HDT]; decide +kernel
      clear HDT
      have lte := (unhide K_e).lt
      obtain ⟨y_e0, y_e1, y_e2, y_e3, y_e4, y_e5⟩ := blk_cells5 (unhide K_e).k
      have ly0 := later_some (w := w52) lte y_e0
      have ly1 := later_some (w := w52) lte y_e1
      have ly2 := later_some (w := w52) lte y_e2
      have ly3 := later_some (w := w52) lte y_e3
      have ly4 := later_some (w := w52) lte y_e4
      clear y_e0 y_e1 y_e2 y_e3 y_e4 y_e5
      obtain ⟨z_s0, z_s1⟩ := (unhide U_s).cells
      have l_s0 := later_some (w := w52) (unhide U_s).lt z_s0
      have l_s1 := later_some (w := w52) (unhide U_s).lt z_s1
      obtain ⟨z_j0, z_j1⟩ := (unhide U_j).cells
      have l_j0 := later_some (w := w52) (unhide U_j).lt z_j0
      have l_j1 := later_some (w := w52) (unhide U_j).lt z_j1
      clear z_s0 z_s1 z_j0 z_j1
      refine wp_region_later (by kernel_rfl) (by kernel_rfl) ?_
      repeat (go_big_quiet_step (first
        | (go_at_call 20; exact Calls.later_of (igone_any a1 a2 a3 its a4 a5 a6 fls id ga HGA _ (by omega) (by omega) ((unhide U_s).rI.in_later _ _) ((unhide U_s).rF.in_later _ _)))))
      refine wpQuiet_nil ?_
      intro w53 bw53
      replace U_s := hide ((unhide U_s).later bw53)
      replace U_d := hide ((unhide U_d).later bw53)
      replace U_j := hide ((unhide U_j).later bw53)
      replace BB := hide ((unhide BB).trans (bw53.mono (unhide BB).size))
      replace K_e := hide ((unhide K_e).later bw53)
      clear bw53 l_s0 l_s1 l_j0 l_j1
      clear ly0 ly1 ly2 ly3 ly4 lte K_e ge_e ne_se ne_de ne_je
      clear U_d nb_sd nb_sj nb_dj
      go_wp2
      have SA := hide (nine_sml (unhide NI))
      have SJ := hide (OkS.sml5 ((unhide OA').join ((unhide SD).one (unhide HI))))
      go_loopw [15] (fun i wr => ∃ k : Nat, k ≤ 5 ∧ i = .int .i64 k ∧ Below w.heap.size w wr ∧ U3 w wr b_s (.slice a1 a2 a3) (.slice a4 a5 a6) its fls ∧ U3 w wr b_j (.slice jaw48 n46 jcw48) (.slice jbw48 n47 jdw48) (joinI its fls [(id, e0)] []) (joinF fls [])) (fun i _ => 5 - (intOf i).toNat)
      case atStart => exact ⟨0, by omega, rfl, unhide BB, unhide U_s, unhide U_j⟩
      case round =>
        obtain ⟨k, hk1, rfl, hB, hA, hJ⟩ := hrel
        clear BB U_s U_j
        have BB := hide hB
        have U_s := hide hA
        have U_j := hide hJ
        clear hB hA hJ
        by_cases hlt : k < 5
        · have hd : decide ((k : Int) < 5) = true := by simp; omega
          obtain ⟨x, oa, HXA⟩ : ∃ x h, Hid (entR its k = (x, h)) := ⟨_, _, hide rfl⟩
          obtain ⟨y, ob, HYB⟩ : ∃ x h, Hid (entR (joinI its fls [(id, e0)] []) k = (x, h)) := ⟨_, _, hide rfl⟩
          obtain ⟨z_s0, z_s1⟩ := (unhide U_s).cells
          go_wp2_with fail
          clear z_s0 z_s1
          refine (ientry_any (.slice a4 a5 a6) a1 a2 a3 its (unhide SA) k x oa HXA _ (by omega) (unhide U_s).rI).mono ?_
          rintro e w54 ⟨rfl, bw54⟩
          replace U_s := hide ((unhide U_s).later bw54)
          replace U_j := hide ((unhide U_j).later bw54)
          replace BB := hide ((unhide BB).trans (bw54.mono (unhide BB).size))
          clear bw54
          go_upto_region 31 with fail
          obtain ⟨w55, hw55⟩ : ∃ W, W = w54.alloc (.cells #[.int .i64 x.1, .int .i64 x.2.1, .int .i64 x.2.2.1, .int .i64 x.2.2.2.1, .string x.2.2.2.2] 38) := ⟨_, rfl⟩
          obtain ⟨b_x, hb_x⟩ : ∃ b, b = w54.heap.size := ⟨_, rfl⟩
          rw [← hw55, ← hb_x]
          have bw55 : Below w54.heap.size w54 w55 := by rw [hw55]; exact (Below.refl _ _).alloc (Nat.le_refl _) _
          have K_x := hide (show E3 w55 b_x x from by rw [hw55, hb_x]; exact ⟨heap_alloc_new _ _⟩)
          have ge_x : w.heap.size ≤ b_x := by rw [hb_x]; exact (unhide BB).size
          have ne_sx : b_s ≠ b_x := by have := (unhide U_s).lt; omega
          have ne_jx : b_j ≠ b_x := by have := (unhide U_j).lt; omega
          replace U_s := hide ((unhide U_s).later bw55)
          replace U_j := hide ((unhide U_j).later bw55)
          replace BB := hide ((unhide BB).trans (bw55.mono (unhide BB).size))
          clear bw55 hw55 hb_x
          obtain ⟨z_j0, z_j1⟩ := (unhide U_j).cells
          go_wp2_with fail
          clear z_j0 z_j1
          refine (ientry_any (.slice jbw48 n47 jdw48) jaw48 n46 jcw48 (joinI its fls [(id, e0)] []) (unhide SJ) k y ob HYB _ (by omega) (unhide U_j).rI).mono ?_
          rintro e w56 ⟨rfl, bw56⟩
          replace U_s := hide ((unhide U_s).later bw56)
          replace U_j := hide ((unhide U_j).later bw56)
          replace BB := hide ((unhide BB).trans (bw56.mono (unhide BB).size))
          replace K_x := hide ((unhide K_x).later bw56)
          clear bw56
          go_upto_region 32 with fail
          obtain ⟨w57, hw57⟩ : ∃ W, W = w56.alloc (.cells #[.int .i64 y.1, .int .i64 y.2.1, .int .i64 y.2.2.1, .int .i64 y.2.2.2.1, .string y.2.2.2.2] 38) := ⟨_, rfl⟩
          obtain ⟨b_y, hb_y⟩ : ∃ b, b = w56.heap.size := ⟨_, rfl⟩
          rw [← hw57, ← hb_y]
          have bw57 : Below w56.heap.size w56 w57 := by rw [hw57]; exact (Below.refl _ _).alloc (Nat.le_refl _) _
          have K_y := hide (show E3 w57 b_y y from by rw [hw57, hb_y]; exact ⟨heap_alloc_new _ _⟩)
          have ge_y : w.heap.size ≤ b_y := by rw [hb_y]; exact (unhide BB).size
          have ne_sy : b_s ≠ b_y := by have := (unhide U_s).lt; omega
          have ne_jy : b_j ≠ b_y := by have := (unhide U_j).lt; omega
          have ne_xy : b_x ≠ b_y := by have := (unhide K_x).lt; omega
          replace U_s := hide ((unhide U_s).later bw57)
          replace U_j := hide ((unhide U_j).later bw57)
          replace BB := hide ((unhide BB).trans (bw57.mono (unhide BB).size))
          replace K_x := hide ((unhide K_x).later bw57)
          clear bw57 hw57 hb_y
          by_cases hki : (k : Int) = id
          · have hne : ((k : Int) != id) = false := by simp [hki]
            clear hki
            obtain ⟨y_x0, y_x1, y_x2, y_x3, y_x4, y_x5⟩ := blk_cells5 (unhide K_x).k
            obtain ⟨y_y0, y_y1, y_y2, y_y3, y_y4, y_y5⟩ := blk_cells5 (unhide K_y).k
            go_wp2
            go_roundw
            case rel => exact ⟨k + 1, by omega, by go_num, unhide BB, unhide U_s, unhide U_j⟩
            case measure => simp [intOf]; omega
          · have hne : ((k : Int) != id) = true := by simpa using hki
            have hot := (unhide HYB).symm.trans (((unhide SD).others (unhide OA') (unhide HI) k hki).trans (unhide HXA))
            obtain ⟨rfl, rfl⟩ : x = y ∧ oa = ob := ⟨(congrArg Prod.fst hot).symm, (congrArg Prod.snd hot).symm⟩
            clear hot hki
            have hoo : (oa != oa) = false := by simp
            have hq5 := eqK_self x
            obtain ⟨y_x0, y_x1, y_x2, y_x3, y_x4, y_x5⟩ := blk_cells5 (unhide K_x).k
            obtain ⟨y_y0, y_y1, y_y2, y_y3, y_y4, y_y5⟩ := blk_cells5 (unhide K_y).k
            go_wp2
            go_roundw
            case rel => exact ⟨k + 1, by omega, by go_num, unhide BB, unhide U_s, unhide U_j⟩
            case measure => simp [intOf]; omega
        · have hd : decide ((k : Int) < 5) = false := by simp; omega
          go_wp2
          go_ret
          exact ⟨rfl, unhide BB⟩
    · have hcn : (c' != 0) = true := by simpa using hc0
      have hL := unsaid (k := 2) (d := ⟨#[110, 101, 119]⟩) (xs := its) (fs := fls) (id := id) (by rw [unhide HC']; exact hc0)
      obtain rfl : n' = 0 := by rw [← unhide HN', hL]; rfl
      clear hL
      obtain ⟨z_d0, z_d1⟩ := (unhide U_d).cells
      go_wp2
      go_ret
      exact ⟨rfl, unhide BB⟩
  · skip
    obtain ⟨n', HN'⟩ : ∃ n, Hid ((sayL 3 ⟨#[]⟩ its fls id).length = n) := ⟨_, hide rfl⟩
    obtain ⟨c', HC'⟩ : ∃ c, Hid (sayC 3 ⟨#[]⟩ its fls id = c) := ⟨_, hide rfl⟩
    have hn1' : n' ≤ 1 := by rw [← unhide HN']; exact sayL_len _ _ _ _ _
    obtain ⟨z_s0, z_s1⟩ := (unhide U_s).cells
    obtain ⟨z_d0, z_d1⟩ := (unhide U_d).cells
    go_wp2_with fail
    clear z_s0 z_s1 z_d0 z_d1
    have sw58 := (unhide BB).size
    refine (isay3_any a1 a2 a3 its a4 a5 a6 fls id n' HN' c' HC' _ (by omega) (by omega) (unhide U_s).rI (unhide U_s).rF).mono ?_
    rintro e w58 ⟨qa, qc, rfl, o1, bw58⟩
    have OA := hide o1
    replace U_s := hide ((unhide U_s).later bw58)
    replace U_d := hide ((unhide U_d).later bw58)
    replace BB := hide ((unhide BB).trans (bw58.mono (unhide BB).size))
    have OB : Hid (OwF w.heap.size w58 (.slice none 0 0) []) := hide (World.ownsRow_nil _ _ _ _)
    replace OA := hide (Ow.base (unhide OA) sw58)
    clear o1 bw58 sw58
    obtain ⟨zd0, zd1, zdf⟩ := blk_cells2 (unhide U_d).k1
    go_upto_region 16 with fail
    obtain ⟨w59, hw59⟩ : ∃ W, W = (w58.setCell ⟨b_d, 0, none⟩ (.slice qa n' qc)).setCell ⟨b_d, 1, none⟩ (.slice none 0 0) := ⟨_, rfl⟩
    rw [← hw59]
    replace U_s := hide (show U3 w w59 b_s (.slice a1 a2 a3) (.slice a4 a5 a6) its fls from by rw [hw59]; exact (unhide U_s).aside (unhide U_d).k1 nb_sd)
    replace BB := hide (show Below w.heap.size w w59 from by rw [hw59]; exact below_res (unhide BB) (unhide U_d).ge _ _)
    replace U_d := hide (show U3 w w59 b_d (.slice qa n' qc) (.slice none 0 0) (sayL 3 ⟨#[]⟩ its fls id) [] from by rw [hw59]; exact (unhide U_d).put (Nat.le_refl _) (.inl (unhide OA)) (.inl (unhide OB)))
    clear hw59 OA OB zd0 zd1 zdf
    obtain ⟨z_s0, z_s1⟩ := (unhide U_s).cells
    go_wp2_with fail
    clear z_s0 z_s1
    refine (ssay3_any a1 a2 a3 its a4 a5 a6 fls id n' HN' c' HC' _ (by omega) (by omega) (unhide U_s).rI (unhide U_s).rF).mono ?_
    rintro e w60 ⟨ra, rc, rfl, -, bw60⟩
    replace U_s := hide ((unhide U_s).later bw60)
    replace U_d := hide ((unhide U_d).later bw60)
    replace BB := hide ((unhide BB).trans (bw60.mono (unhide BB).size))
    clear bw60
    go_upto_region 17 with fail
    have hcc : (c' != c') = false := by simp
    by_cases hc0 : c' = 0
    · subst hc0
      obtain ⟨hOk, hin, hL, hsd⟩ := said_of (k := 3) (by omega) (unhide HC')
      obtain ⟨e0, he⟩ : ∃ e, (chg 3 ⟨#[]⟩ its fls id).1 = e := ⟨_, rfl⟩
      rw [he] at hL hsd
      obtain rfl : n' = 1 := by rw [← unhide HN', hL]; rfl
      have OA' := hide hOk
      have HI := hide hin
      have SD := hide hsd
      have HL := hide hL
      clear hOk hin hL hsd he
      replace U_d := hide (show U3 w w60 b_d (.slice qa 1 qc) (.slice none 0 0) [(id, e0)] [] from by rw [← unhide HL]; exact unhide U_d)
      have HJ : Hid ((okS its fls && okS [(id, e0)] []) = true) := hide (by rw [(okS_iff _ _).2 (unhide OA'), (okS_iff _ _).2 ((unhide SD).one (unhide HI))]; rfl)
      obtain ⟨z_s0, z_s1⟩ := (unhide U_s).cells
      obtain ⟨z_d0, z_d1⟩ := (unhide U_d).cells
      go_wp2_with fail
      clear z_s0 z_s1 z_d0 z_d1
      obtain ⟨n61, hn61⟩ : ∃ z, Hid ((jnI true its fls [(id, e0)] []).length = z) := ⟨_, hide rfl⟩
      obtain ⟨n62, hn62⟩ : ∃ z, Hid ((jnF true fls []).length = z) := ⟨_, hide rfl⟩
      have kn61 : n61 ≤ 5 := by rw [← unhide hn61]; exact jnI_len _ _ _ _ _
      have kn62 : n62 ≤ 5 := by rw [← unhide hn62]; exact jnF_len _ _ _
      have sw63 := (unhide BB).size
      refine (ijoin_any a1 a2 a3 its a4 a5 a6 fls qa 1 qc [(id, e0)] none 0 0 [] true HJ n61 n62 hn61 hn62 _ (by omega) (by omega) (by omega) (by omega) (unhide U_s).rI (unhide U_s).rF (unhide U_d).rI (unhide U_d).rF).mono ?_
      rintro e w63 ⟨jaw63, jcw63, jbw63, jdw63, rfl, o1, o2, bw63⟩
      have OA := hide o1
      have OB := hide o2
      replace U_s := hide ((unhide U_s).later bw63)
      replace U_d := hide ((unhide U_d).later bw63)
      replace BB := hide ((unhide BB).trans (bw63.mono (unhide BB).size))
      clear o1 o2 bw63
      have lt_s := (unhide U_s).lt
      have lt_d := (unhide U_d).lt
      go_upto_region 22 with fail
      obtain ⟨w64, hw64⟩ : ∃ W, W = (w63.alloc (StB (.slice jaw63 n61 jcw63) (.slice jbw63 n62 jdw63))) := ⟨_, rfl⟩
      obtain ⟨b_j, hb_j⟩ : ∃ b, b = w63.heap.size := ⟨_, rfl⟩
      rw [← hw64, ← hb_j]
      have hsw64 := (unhide BB).size
      have bw64 : Below w63.heap.size w63 w64 := by rw [hw64]; exact (Below.refl _ _).alloc (Nat.le_refl _) _
      have U_j := hide (show U3 w w64 b_j (.slice jaw63 n61 jcw63) (.slice jbw63 n62 jdw63) (joinI its fls [(id, e0)] []) (joinF fls []) from by rw [hw64, hb_j]; exact U3.new hsw64 sw63 (.inl (unhide OA)) (.inl (unhide OB)))
      replace U_s := hide ((unhide U_s).later bw64)
      replace U_d := hide ((unhide U_d).later bw64)
      replace BB := hide ((unhide BB).trans (bw64.mono (unhide BB).size))
      have nb_sj : b_s ≠ b_j := by omega
      have nb_dj : b_d ≠ b_j := by omega
      clear bw64 hw64 hsw64 hb_j OA OB
      clear lt_s lt_d
      clear sw63
      have HNW := hide ((unhide SD).news (unhide OA') (unhide HI))
      have hii : (id != id) = false := by simp
      obtain ⟨z_d0, z_d1⟩ := (unhide U_d).cells
      obtain ⟨z_s0, z_s1⟩ := (unhide U_s).cells
      go_wp2_with fail
      clear z_d0 z_d1 z_s0 z_s1
      refine (ileq_any qa 1 qc [(id, e0)] none 0 0 [] a1 a2 a3 its a4 a5 a6 fls false HNW _ (by omega) (by omega) (by omega) (by omega) (unhide U_d).rI (unhide U_d).rF (unhide U_s).rI (unhide U_s).rF).mono ?_
      rintro e w65 ⟨rfl, bw65⟩
      replace U_s := hide ((unhide U_s).later bw65)
      replace U_d := hide ((unhide U_d).later bw65)
      replace U_j := hide ((unhide U_j).later bw65)
      replace BB := hide ((unhide BB).trans (bw65.mono (unhide BB).size))
      clear bw65
      obtain ⟨x, xb, off, hx, hxa, hxb, hcap, hcx⟩ := (unhide U_d).rI.at (i := 0) (by omega)
      simp only [List.getElem?_cons_zero, Option.some.injEq] at hx
      subst hx
      obtain ⟨c0, c1, c2, c3, c4, c5⟩ := item_cells hcx
      simp only [Nat.zero_mul, Nat.add_zero] at c0
      subst hxa
      clear hcx c1 c2 c3 c4 c5 hcap
      obtain ⟨z_d0, z_d1⟩ := (unhide U_d).cells
      obtain ⟨ek, up, HE⟩ : ∃ x h, Hid (entR (vw (joinI its fls [(id, e0)] []) (joinF fls [])) id = (x, h)) := ⟨_, _, hide rfl⟩
      obtain ⟨z_j0, z_j1⟩ := (unhide U_j).cells
      go_wp2_with fail
      clear z_d0 z_d1 z_j0 z_j1
      refine (ilookup_any jaw63 n61 jcw63 (joinI its fls [(id, e0)] []) jbw63 n62 jdw63 (joinF fls []) id ek up HE _ (by omega) (by omega) (unhide U_j).rI (unhide U_j).rF).mono ?_
      rintro e w66 ⟨rfl, bw66⟩
      replace U_s := hide ((unhide U_s).later bw66)
      replace U_d := hide ((unhide U_d).later bw66)
      replace U_j := hide ((unhide U_j).later bw66)
      replace BB := hide ((unhide BB).trans (bw66.mono (unhide BB).size))
      clear bw66 c0 hxb
      have hse := (unhide HE).symm.trans ((unhide SD).seen (unhide OA') (unhide HI))
      simp only [if_true] at hse
      obtain ⟨rfl, rfl⟩ : ek = zeroK ∧ up = false := ⟨congrArg Prod.fst hse, congrArg Prod.snd hse⟩
      clear hse HE
      go_upto_region 25 with fail
      obtain ⟨w67, hw67⟩ : ∃ W, W = w66.alloc (.cells #[.int .i64 zeroK.1, .int .i64 zeroK.2.1, .int .i64 zeroK.2.2.1, .int .i64 zeroK.2.2.2.1, .string zeroK.2.2.2.2] 38) := ⟨_, rfl⟩
      obtain ⟨b_e, hb_e⟩ : ∃ b, b = w66.heap.size := ⟨_, rfl⟩
      rw [← hw67, ← hb_e]
      have bw67 : Below w66.heap.size w66 w67 := by rw [hw67]; exact (Below.refl _ _).alloc (Nat.le_refl _) _
      have K_e := hide (show E3 w67 b_e zeroK from by rw [hw67, hb_e]; exact ⟨heap_alloc_new _ _⟩)
      have ge_e : w.heap.size ≤ b_e := by rw [hb_e]; exact (unhide BB).size
      have ne_se : b_s ≠ b_e := by have := (unhide U_s).lt; omega
      have ne_de : b_d ≠ b_e := by have := (unhide U_d).lt; omega
      have ne_je : b_j ≠ b_e := by have := (unhide U_j).lt; omega
      replace U_s := hide ((unhide U_s).later bw67)
      replace U_d := hide ((unhide U_d).later bw67)
      replace U_j := hide ((unhide U_j).later bw67)
      replace BB := hide ((unhide BB).trans (bw67.mono (unhide BB).size))
      clear bw67 hw67 hb_e
      obtain ⟨ga, HGA⟩ : ∃ f, Hid (gone its fls id = f) := ⟨_, hide rfl⟩
      have lte := (unhide K_e).lt
      obtain ⟨y_e0, y_e1, y_e2, y_e3, y_e4, y_e5⟩ := blk_cells5 (unhide K_e).k
      have ly0 := later_some (w := w67) lte y_e0
      have ly1 := later_some (w := w67) lte y_e1
      have ly2 := later_some (w := w67) lte y_e2
      have ly3 := later_some (w := w67) lte y_e3
      have ly4 := later_some (w := w67) lte y_e4
      clear y_e0 y_e1 y_e2 y_e3 y_e4 y_e5
      obtain ⟨z_s0, z_s1⟩ := (unhide U_s).cells
      have l_s0 := later_some (w := w67) (unhide U_s).lt z_s0
      have l_s1 := later_some (w := w67) (unhide U_s).lt z_s1
      obtain ⟨z_j0, z_j1⟩ := (unhide U_j).cells
      have l_j0 := later_some (w := w67) (unhide U_j).lt z_j0
      have l_j1 := later_some (w := w67) (unhide U_j).lt z_j1
      clear z_s0 z_s1 z_j0 z_j1
      refine wp_region_later (by kernel_rfl) (by kernel_rfl) ?_
      repeat (go_big_quiet_step (first
        | (go_at_call 20; exact Calls.later_of (igone_any a1 a2 a3 its a4 a5 a6 fls id ga HGA _ (by omega) (by omega) ((unhide U_s).rI.in_later _ _) ((unhide U_s).rF.in_later _ _)))))
      refine wpQuiet_nil ?_
      intro w68 bw68
      replace U_s := hide ((unhide U_s).later bw68)
      replace U_d := hide ((unhide U_d).later bw68)
      replace U_j := hide ((unhide U_j).later bw68)
      replace BB := hide ((unhide BB).trans (bw68.mono (unhide BB).size))
      replace K_e := hide ((unhide K_e).later bw68)
      clear bw68 l_s0 l_s1 l_j0 l_j1
      clear ly0 ly1 ly2 ly3 ly4 lte K_e ge_e ne_se ne_de ne_je
      clear U_d nb_sd nb_sj nb_dj
      go_wp2
      have SA := hide (nine_sml (unhide NI))
      have SJ := hide (OkS.sml5 ((unhide OA').join ((unhide SD).one (unhide HI))))
      go_loopw [15] (fun i wr => ∃ k : Nat, k ≤ 5 ∧ i = .int .i64 k ∧ Below w.heap.size w wr ∧ U3 w wr b_s (.slice a1 a2 a3) (.slice a4 a5 a6) its fls ∧ U3 w wr b_j (.slice jaw63 n61 jcw63) (.slice jbw63 n62 jdw63) (joinI its fls [(id, e0)] []) (joinF fls [])) (fun i _ => 5 - (intOf i).toNat)
      case atStart => exact ⟨0, by omega, rfl, unhide BB, unhide U_s, unhide U_j⟩
      case round =>
        obtain ⟨k, hk1, rfl, hB, hA, hJ⟩ := hrel
        clear BB U_s U_j
        have BB := hide hB
        have U_s := hide hA
        have U_j := hide hJ
        clear hB hA hJ
        by_cases hlt : k < 5
        · have hd : decide ((k : Int) < 5) = true := by simp; omega
          obtain ⟨x, oa, HXA⟩ : ∃ x h, Hid (entR its k = (x, h)) := ⟨_, _, hide rfl⟩
          obtain ⟨y, ob, HYB⟩ : ∃ x h, Hid (entR (joinI its fls [(id, e0)] []) k = (x, h)) := ⟨_, _, hide rfl⟩
          obtain ⟨z_s0, z_s1⟩ := (unhide U_s).cells
          go_wp2_with fail
          clear z_s0 z_s1
          refine (ientry_any (.slice a4 a5 a6) a1 a2 a3 its (unhide SA) k x oa HXA _ (by omega) (unhide U_s).rI).mono ?_
          rintro e w69 ⟨rfl, bw69⟩
          replace U_s := hide ((unhide U_s).later bw69)
          replace U_j := hide ((unhide U_j).later bw69)
          replace BB := hide ((unhide BB).trans (bw69.mono (unhide BB).size))
          clear bw69
          go_upto_region 31 with fail
          obtain ⟨w70, hw70⟩ : ∃ W, W = w69.alloc (.cells #[.int .i64 x.1, .int .i64 x.2.1, .int .i64 x.2.2.1, .int .i64 x.2.2.2.1, .string x.2.2.2.2] 38) := ⟨_, rfl⟩
          obtain ⟨b_x, hb_x⟩ : ∃ b, b = w69.heap.size := ⟨_, rfl⟩
          rw [← hw70, ← hb_x]
          have bw70 : Below w69.heap.size w69 w70 := by rw [hw70]; exact (Below.refl _ _).alloc (Nat.le_refl _) _
          have K_x := hide (show E3 w70 b_x x from by rw [hw70, hb_x]; exact ⟨heap_alloc_new _ _⟩)
          have ge_x : w.heap.size ≤ b_x := by rw [hb_x]; exact (unhide BB).size
          have ne_sx : b_s ≠ b_x := by have := (unhide U_s).lt; omega
          have ne_jx : b_j ≠ b_x := by have := (unhide U_j).lt; omega
          replace U_s := hide ((unhide U_s).later bw70)
          replace U_j := hide ((unhide U_j).later bw70)
          replace BB := hide ((unhide BB).trans (bw70.mono (unhide BB).size))
          clear bw70 hw70 hb_x
          obtain ⟨z_j0, z_j1⟩ := (unhide U_j).cells
          go_wp2_with fail
          clear z_j0 z_j1
          refine (ientry_any (.slice jbw63 n62 jdw63) jaw63 n61 jcw63 (joinI its fls [(id, e0)] []) (unhide SJ) k y ob HYB _ (by omega) (unhide U_j).rI).mono ?_
          rintro e w71 ⟨rfl, bw71⟩
          replace U_s := hide ((unhide U_s).later bw71)
          replace U_j := hide ((unhide U_j).later bw71)
          replace BB := hide ((unhide BB).trans (bw71.mono (unhide BB).size))
          replace K_x := hide ((unhide K_x).later bw71)
          clear bw71
          go_upto_region 32 with fail
          obtain ⟨w72, hw72⟩ : ∃ W, W = w71.alloc (.cells #[.int .i64 y.1, .int .i64 y.2.1, .int .i64 y.2.2.1, .int .i64 y.2.2.2.1, .string y.2.2.2.2] 38) := ⟨_, rfl⟩
          obtain ⟨b_y, hb_y⟩ : ∃ b, b = w71.heap.size := ⟨_, rfl⟩
          rw [← hw72, ← hb_y]
          have bw72 : Below w71.heap.size w71 w72 := by rw [hw72]; exact (Below.refl _ _).alloc (Nat.le_refl _) _
          have K_y := hide (show E3 w72 b_y y from by rw [hw72, hb_y]; exact ⟨heap_alloc_new _ _⟩)
          have ge_y : w.heap.size ≤ b_y := by rw [hb_y]; exact (unhide BB).size
          have ne_sy : b_s ≠ b_y := by have := (unhide U_s).lt; omega
          have ne_jy : b_j ≠ b_y := by have := (unhide U_j).lt; omega
          have ne_xy : b_x ≠ b_y := by have := (unhide K_x).lt; omega
          replace U_s := hide ((unhide U_s).later bw72)
          replace U_j := hide ((unhide U_j).later bw72)
          replace BB := hide ((unhide BB).trans (bw72.mono (unhide BB).size))
          replace K_x := hide ((unhide K_x).later bw72)
          clear bw72 hw72 hb_y
          by_cases hki : (k : Int) = id
          · have hne : ((k : Int) != id) = false := by simp [hki]
            clear hki
            obtain ⟨y_x0, y_x1, y_x2, y_x3, y_x4, y_x5⟩ := blk_cells5 (unhide K_x).k
            obtain ⟨y_y0, y_y1, y_y2, y_y3, y_y4, y_y5⟩ := blk_cells5 (unhide K_y).k
            go_wp2
            go_roundw
            case rel => exact ⟨k + 1, by omega, by go_num, unhide BB, unhide U_s, unhide U_j⟩
            case measure => simp [intOf]; omega
          · have hne : ((k : Int) != id) = true := by simpa using hki
            have hot := (unhide HYB).symm.trans (((unhide SD).others (unhide OA') (unhide HI) k hki).trans (unhide HXA))
            obtain ⟨rfl, rfl⟩ : x = y ∧ oa = ob := ⟨(congrArg Prod.fst hot).symm, (congrArg Prod.snd hot).symm⟩
            clear hot hki
            have hoo : (oa != oa) = false := by simp
            have hq5 := eqK_self x
            obtain ⟨y_x0, y_x1, y_x2, y_x3, y_x4, y_x5⟩ := blk_cells5 (unhide K_x).k
            obtain ⟨y_y0, y_y1, y_y2, y_y3, y_y4, y_y5⟩ := blk_cells5 (unhide K_y).k
            go_wp2
            go_roundw
            case rel => exact ⟨k + 1, by omega, by go_num, unhide BB, unhide U_s, unhide U_j⟩
            case measure => simp [intOf]; omega
        · have hd : decide ((k : Int) < 5) = false := by simp; omega
          go_wp2
          go_ret
          exact ⟨rfl, unhide BB⟩
    · have hcn : (c' != 0) = true := by simpa using hc0
      have hL := unsaid (k := 3) (d := ⟨#[]⟩) (xs := its) (fs := fls) (id := id) (by rw [unhide HC']; exact hc0)
      obtain rfl : n' = 0 := by rw [← unhide HN', hL]; rfl
      clear hL
      obtain ⟨z_d0, z_d1⟩ := (unhide U_d).cells
      go_wp2
      go_ret
      exact ⟨rfl, unhide BB⟩

/-! ### THE ROW's STEP: WRITTEN OUT: LEAVE IT -/
set_option maxRecDepth 100000 in
theorem lifted (os : Os) (started : os.Started) (H : Type) (enc : TypeId × Value → H) :
    ReturnsInHanded {} Tryz.checked os 3 .any (Rows.fnSaidSpec.pre6 enc Tryz.prog Tryz.f3 Rows.fnSaidRow.domain false) (Rows.fnSaidSpec.post enc Tryz.prog Tryz.f3 false true false false) := by
  refine returnsInHanded_of_change (C := Tryz.checked) own started (by kernel_rfl) Tryz.func3
    (ChangeSpec.witness6 (enc := enc) (C := Tryz.checked) false ⟨#[], #[.slice none 0 0], []⟩ 8 (by kernel_rfl) (by kernel_rfl) (by kernel_rfl) (by kernel_rfl)) ?_
  intro W base args ds gs before hval0 hW hcnd _
  have hval : ∀ (j : Nat) t v, Tryz.f3.params[j]? = some t → args[j]? = some v → Value.okWide Tryz.prog W .any base t v := hval0
  have hW' := hW
  obtain ⟨p, q, hA0, hV, rfl, hfz, hnd⟩ := hW
  have hA : DataW.TrodAll enc Tryz.prog W 0 (fun _ => true) true Tryz.f3.params.toList args.toList ds p := hA0
  rw [Tryz.params3] at hA hval
  obtain ⟨v0, vs0, d0, ds0, p0, q0, hargs, rfl, rfl, h0, r0⟩ := trodAll_cons hA
  obtain ⟨rfl, rfl, rfl⟩ := trodAll_nil r0
  obtain rfl : args = #[v0] := by cases args; simp_all
  obtain ⟨rfl, rfl⟩ := trodVars_none hV
  obtain ⟨a0, len0, cap0, rfl⟩ := okWide_slice Tryz.underlying22 (hval 0 22 v0 rfl rfl)
  have k0 := h0
  have lt0 : ∀ x ∈ p0, x.block < W.heap.size := by obtain ⟨m, hm⟩ := k0; exact DataW.trod_lt m _ _ _ hm
  obtain ⟨z0, w0⟩ : ∃ zs, IsRow .u8 W a0 len0 cap0 zs := by
    obtain ⟨fuel, hf⟩ := h0
    rcases open_ints Tryz.underlying22 Tryz.underlying5 (by kernel_rfl) hf with ⟨hcs, _⟩ | ⟨x, l, c, zs, hcs, _, hl, hm, hz, _, hcell, hwz⟩
    · simp [Value.cells] at hcs
      obtain ⟨rfl, rfl, rfl⟩ := hcs
      exact ⟨[], .inl ⟨rfl, rfl, rfl, rfl⟩⟩
    · simp [Value.cells] at hcs
      obtain ⟨rfl, rfl, rfl⟩ := hcs
      exact ⟨zs, .inr ⟨_, rfl, hl, hm, by simpa using hz, hcell, hwz⟩⟩
  clear hA0 hval0
  refine (walk a0 len0 cap0 z0 W w0).mono fun e W' ⟨he, bel⟩ => ?_
  subst he
  exact ⟨_, rfl, _, _, _, [], _, [], hW', trodAll_mk1 (shut_bool Tryz.underlying4 _), (trodAll_cons_mk (Below.trod laidOut (by kernel_rfl) (of_decide_eq_true (by kernel_rfl)) k0 bel lt0) trodAll_mk0), rfl, bel.frame _, fun h => by cases h⟩

theorem over : Rows.fnSaidRow.holds Tryz.pinned (OpenSpec.ofChange Rows.fnSaidSpec) :=
  OpenClaim.holds_of_wide 3 Tryz.f3 rfl rfl rfl rfl rfl rfl rfl ⟨rfl, rfl, rfl, rfl, rfl⟩ rfl rfl rfl rfl rfl (by kernel_rfl) Tryz.func3 (by kernel_rfl)
    (of_decide_eq_true (by kernel_rfl)) (by unfold Func.isWrapper; first | (rw [if_pos (by decide +kernel)]; kernel_rfl) | (rw [if_neg (by decide +kernel)]; exact ⟨rfl, rfl⟩))
    (fun os started H enc _ => lifted os started H enc)

theorem proved : Rows.FnSaidSaid := over
#print axioms proved
end Go.Proofs.YtdpaocikmijioabGreat.fnSaid
namespace Go.Proofs.YtdpaocikmijioabGreat
theorem fnSaid_holds : Rows.FnSaidSaid := fnSaid.proved
end Go.Proofs.YtdpaocikmijioabGreat
