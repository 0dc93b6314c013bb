/-
  FnStateBytes: at every code, a state that is drawn is read from its bytes as it was, and is not read where it is not right; of whatever bytes are drawn the program reads what the specification reads, and what it reads has these bytes: the law answers true. No condition but the law’s own: of a code of more than 1048576 bytes it says nothing.
-/
import Derived.Test.YtjlocbimkfocnaaRows
import Derived.Test.YtjlocbimkfocnaaSbD
import Derived.Test.YtjlocbimkfocnaaStOfX
import Derived.Test.YtjlocbimkfocnaaSStSame
import Derived.Test.YtjlocbimkfocnaaEntDraw
import Derived.Test.YtjlocbimkfocnaaMsCv
import Derived.Test.YtjlocbimkfocnaaIStOk
import Derived.WalkKit
import Derived.ProofKit
import Derived.OpenShut
import Derived.ShutString
import Derived.ChangeOld
import Derived.Below
namespace Go.Proofs.Ytjlocbimkfocnaa.fnStateBytes
open Go.ChangeShapes Go.WideShapes Go.ChangeAt Go.RowKit
open Go.ChangeMaps (open_string shut_string)
set_option linter.unusedVariables false

theorem own : ownKnob Try.prog.godebug = none := by kernel_rfl
theorem laidOut : laidOutB Try.prog = true := by kernel_rfl

/-- WHAT THE WALK IS TOLD OF A SLICE OF INTEGERS THAT CAME IN: it is nil; or it leads to a row of 'cap' cells, the numbers 'zs' (the first 'len' are its elements, the rest its spare room), each fitting its kind. -/
def IsRow (k : IntKind) (w : World) (a : Option Addr) (len cap : Nat) (zs : List Int) : Prop :=
  (a = none ∧ len = 0 ∧ cap = 0 ∧ zs = []) ∨
  ∃ x, a = some x ∧ len ≤ cap ∧ cap ≤ maxLen ∧ zs.length = cap ∧ (∀ i, i < zs.length → w.cell? (x.add i) = some (.int k (zs.getD i 0))) ∧ ∀ n ∈ zs, (Lit.int k n).wf = true

/-! ### STEP 1: THE WALK: the Go text returns true, AND WRITES NOTHING THAT WAS THERE: 'Below w.heap.size w w'' (Derived/Below.lean: '.refl', '.alloc', '.drew', '.setCell' at a new block, '.trans'). Open each 'IsRow' by 'rcases' AHEAD of 'go_enter'; part every test ahead of the walk. -/
set_option linter.unusedSimpArgs false in
set_option maxRecDepth 100000 in
set_option maxHeartbeats 4000000 in
theorem walk (a0 : Option Addr) (len0 cap0 : Nat) (z0 : List Int) (w : World) (w0 : IsRow .u8 w a0 len0 cap0 z0) :
    Calls Try.prog 3 #[.slice a0 len0 cap0] w fun e w' => e = .returned (.bool true) ∧ Below w.heap.size w w' := by
  obtain ⟨xs, hxl, hseg, hbd⟩ := seg_of_row w0
  subst hxl
  by_cases hbig : 1048576 < xs.length
  · clear w0 hseg hbd
    go_enter Try.func3, Try.ntmps3
    go_wp2
    go_ret
    exact ⟨rfl, Below.refl _ _⟩
  have hlen : xs.length ≤ 1048576 := by omega
  have HS0 := hide hseg
  have HD := hide hbd
  clear hseg hbd w0
  go_enter Try.func3, Try.ntmps3
  go_wp2_with fail
  refine (big_no _ _ _ _ hbig).mono ?_
  rintro e _ ⟨rfl, rfl⟩
  go_wp2_with fail
  refine (drawsb_any _ xs _ hlen (unhide HD) (unhide HS0)).mono ?_
  rintro e w1 ⟨a1, n1, c1, a2, n2, c2, its, fls, rfl, t⟩
  obtain ⟨w2, hw2⟩ : ∃ W, W = w1.alloc (StB (.slice a1 n1 c1) (.slice a2 n2 c2)) := ⟨_, rfl⟩
  obtain ⟨bs, hbs⟩ : ∃ b, b = w1.heap.size := ⟨_, rfl⟩
  have VS := hide (show V3 w w2 bs (.slice a1 n1 c1) (.slice a2 n2 c2) its fls from by rw [hw2, hbs]; exact V3.new t.bel.size (Nat.le_refl _) t.oi t.of)
  have B2 := hide (show Below w.heap.size w w2 from by rw [hw2]; exact t.bel.alloc t.bel.size _)
  have l1 := t.li
  have l2 := t.lf
  obtain ⟨f1, f2⟩ := (unhide VS).len
  obtain ⟨h1, h2⟩ : n1 ≤ 6 ∧ n2 ≤ 6 := by omega
  clear t l1 l2 f1 f2
  go_wp2_with fail
  rw [← hw2, ← hbs]
  clear hw2 hbs
  obtain ⟨ok, hok⟩ : ∃ ok, Hid (okS its fls = ok) := ⟨_, hide rfl⟩
  refine (ibytes_any a1 n1 c1 its a2 n2 c2 fls ok hok w2 (by omega) (by omega) ((unhide VS).oi.rw encI_len) ((unhide VS).of.rw encF_len)).mono ?_
  rintro e w3 ⟨va, rfl, o3, b3⟩
  have VS3 := hide ((unhide VS).later b3)
  have B3 := hide ((unhide B2).trans (b3.mono (unhide B2).size))
  obtain ⟨ys, hys⟩ : ∃ ys, sbS its fls = ys := ⟨_, rfl⟩
  have hyl := sbS_len its fls
  have hyb := sbS_bytes its fls
  rw [hys] at o3 hyl hyb
  have HYB := hide hyb
  have HYS := hide hys
  have HSY : Hid (sof ys = if ok = true then some (its, fls) else none) := hide (by
    rw [← hys, sbS]
    have q := unhide hok
    cases ok
    · rw [if_neg (by rw [q]; simp), if_neg (by simp)]
      exact sof_nil
    · rw [if_pos q, if_pos rfl]
      exact sof_some ((okS_iff _ _).1 q) rfl)
  have hsg := seg_of_owns o3
  obtain ⟨av, cv, hav, -, -⟩ := id hsg
  subst hav
  have HSG := hide hsg
  clear o3 b3 VS B2 hyb hys hsg
  go_wp2_with fail
  refine (istateof_any _ ys w3 (by omega) (unhide HYB) (unhide HSG)).mono ?_
  rintro e w4 ⟨p1, m1, q1, p2, m2, q2, rfl, o1, o2, b4⟩
  have VS4 := hide ((unhide VS3).later b4)
  have B4 := hide ((unhide B3).trans (b4.mono (unhide B3).size))
  have hso : (sof ys).isSome = ok := by rw [unhide HSY]; cases ok <;> rfl
  rw [hso]
  have O1 := hide o1
  have O2 := hide o2
  obtain ⟨w5, hw5⟩ : ∃ W, W = w4.alloc (StB (.slice p1 m1 q1) (.slice p2 m2 q2)) := ⟨_, rfl⟩
  obtain ⟨bt, hbt⟩ : ∃ b, b = w4.heap.size := ⟨_, rfl⟩
  have b45 : Below w4.heap.size w4 w5 := by rw [hw5]; exact (Below.refl _ _).alloc (Nat.le_refl _) _
  have VT := hide (show V3 w w5 bt (.slice p1 m1 q1) (.slice p2 m2 q2) (sofI ys) (sofF ys) from by rw [hw5, hbt]; exact V3.new (unhide B4).size (by have := (unhide B3).size; omega) o1 o2)
  have VS5 := hide ((unhide VS4).later b45)
  have B5 := hide ((unhide B4).trans (b45.mono (unhide B4).size))
  obtain ⟨g1, g2⟩ := (unhide VT).len
  have k5 := sof5 ys
  have hm1 : m1 ≤ 5 := by omega
  have hm2 : m2 ≤ 5 := by omega
  obtain ⟨y0, y1⟩ := (unhide VS4).cells
  have yl := (unhide VS4).lt
  clear o1 o2 b4 b45 VS3 VS4 B3 B4 O1 O2 HSG g1 g2 k5 hso
  go_wp2_with fail
  rw [← hw5, ← hbt]
  clear hw5 hbt y0 y1 yl
  refine (sstateok_any a1 n1 c1 its a2 n2 c2 fls ok hok w5 (by omega) (by omega) ((unhide VS5).oi.rw encI_len) ((unhide VS5).of.rw encF_len)).mono ?_
  rintro e w6 ⟨rfl, b6⟩
  have VS6 := hide ((unhide VS5).later b6)
  have VT6 := hide ((unhide VT).later b6)
  have B6 := hide ((unhide B5).trans (b6.mono (unhide B5).size))
  have hne : (ok != ok) = false := by cases ok <;> rfl
  clear b6 VS5 VT B5
  obtain ⟨y0, y1⟩ := (unhide VS6).cells
  obtain ⟨t0, t1⟩ := (unhide VT6).cells
  have yl := (unhide VS6).lt
  have tl := (unhide VT6).lt
  cases ok
  · go_wp2_with fail
    clear y0 y1 t0 t1 yl tl VS6 VT6 hne
    refine (dsof_any _ xs w6 hlen (unhide HD) ((unhide HS0).below (unhide B6) (Nat.le_refl _))).mono ?_
    rintro e wa ⟨u, zs, rfl, sg, zb, zl, ba⟩
    have BA := hide ((unhide B6).trans (ba.mono (unhide B6).size))
    obtain ⟨ua, uc, hu, -, -⟩ := id sg
    subst hu
    have SG := hide sg
    have ZB := hide zb
    clear sg zb ba
    go_wp2_with fail
    refine (istateof_any _ zs wa (by omega) (unhide ZB) (unhide SG)).mono ?_
    rintro e wb ⟨p3, m3, q3, p4, m4, q4, rfl, o1, o2, bb⟩
    obtain ⟨fk, hfk⟩ : ∃ f, Hid ((sof zs).isSome = f) := ⟨_, hide rfl⟩
    rw [unhide hfk]
    have bal := (Below.refl wb.heap.size wb).alloc (Nat.le_refl _) (StB (.slice p3 m3 q3) (.slice p4 m4 q4))
    have BB := hide ((unhide BA).trans (bb.mono (unhide BA).size))
    have BC := hide ((unhide BB).trans (bal.mono (unhide BB).size))
    have SG2 := hide (((unhide SG).below bb (Nat.le_refl _)).below bal (Nat.le_refl _))
    have KU := hide (heap_alloc_new wb (StB (.slice p3 m3 q3) (.slice p4 m4 q4)))
    have O3 := hide ((o1.rw encI_len).later bal)
    have O4 := hide ((o2.rw encF_len).later bal)
    have k5 := sof5 zs
    have hm3 : m3 ≤ 5 := by rw [(o1.rw encI_len).len.1]; exact k5.1
    have hm4 : m4 ≤ 5 := by rw [(o2.rw encF_len).len.1]; exact k5.2
    clear o1 o2 bb bal BA k5 SG BB
    go_wp2_with fail
    refine (sstateof_any _ zs _ (by omega) (unhide ZB) (unhide SG2)).mono ?_
    rintro e wc ⟨p5, m5, q5, p6, m6, q6, rfl, -, -, bc⟩
    rw [unhide hfk]
    obtain ⟨wd, hwd⟩ : ∃ W, W = wc.alloc (StB (.slice p5 m5 q5) (.slice p6 m6 q6)) := ⟨_, rfl⟩
    have bd : Below wc.heap.size wc wd := by rw [hwd]; exact (Below.refl _ _).alloc (Nat.le_refl _) _
    have BD := hide (((unhide BC).trans (bc.mono (unhide BC).size)).trans (bd.mono (by have := (unhide BC).size; have := bc.size; omega)))
    have SG3 := hide (((unhide SG2).below bc (Nat.le_refl _)).below bd (Nat.le_refl _))
    have hbcs := bc.size
    have KV := hide ((bd.block wb.heap.size (Nat.lt_of_lt_of_le (by simp) hbcs)).trans ((bc.block wb.heap.size (by simp)).trans (unhide KU)))
    have O5 := hide (((unhide O3).later bc).later bd)
    have O6 := hide (((unhide O4).later bc).later bd)
    have ul := (Array.getElem?_eq_some_iff.1 (unhide KV)).1
    obtain ⟨u0, u1, -⟩ := blk_cells2 (unhide KV)
    clear bc bd hbcs BC SG2 KU O3 O4
    cases fk
    · go_wp2_with fail
      rw [← hwd]
      clear hwd
      refine wp_region_later (by kernel_rfl) (by kernel_rfl) ?_
      repeat (go_big_quiet_step (fail))
      refine wpQuiet_nil ?_
      intro w9 b9
      have B9 := hide ((unhide BD).trans (b9.mono (unhide BD).size))
      clear b9
      go_wp2
      go_ret
      exact ⟨rfl, unhide B9⟩
    · obtain ⟨st, hst⟩ := Option.isSome_iff_exists.1 (unhide hfk)
      obtain ⟨gs, gf⟩ := st
      have hso := sof_is hst
      have hk : Hid (okS gs gf = true) := hide ((okS_iff _ _).2 hso.1)
      have hsb : sbS gs gf = zs := by rw [sbS, if_pos (unhide hk)]; exact hso.2
      have O7 := hide (show Rw encI 6 wd (.slice p3 m3 q3) gs from by have q := unhide O5; rw [sofI, hst] at q; exact q)
      have O8 := hide (show Rw encF 2 wd (.slice p4 m4 q4) gf from by have q := unhide O6; rw [sofF, hst] at q; exact q)
      have HSB := hide hsb
      obtain ⟨sz, hsz⟩ : ∃ s, Hid (strOfNums zs = s) := ⟨_, hide rfl⟩
      have hsame : (sz.toList == sz.toList) = true := by simp
      have hzne : zs ≠ [] := fun e => by rw [e, sof_nil] at hst; cases hst
      have k3 : ∀ W, Below wd.heap.size wd W → (convert 22 9 (.slice ua zs.length uc)).run Try.prog W = .ok (.string sz) W := fun W b => convS hsz hzne ((unhide SG3).below b (Nat.le_refl _))
      have U0 := hide u0
      have U1 := hide u1
      clear hso hst hsb O5 O6
      go_wp2_with fail
      rw [← hwd]
      clear hwd
      refine wp_region_noPanic ?_
      refine wp_region_held_drew (S := (fun W => Below wd.heap.size wd W ∧ W.cell? ⟨wb.heap.size, 0, none⟩ = some (.slice p3 m3 q3) ∧ W.cell? ⟨wb.heap.size, 1, none⟩ = some (.slice p4 m4 q4))) (by kernel_rfl) ?_ (fun hHeld => ?_)
      · (try dsimp only); exact ⟨((Below.refl wd.heap.size wd).drew), (Below.cell (p := ⟨wb.heap.size, 0, none⟩) (((Below.refl wd.heap.size wd).drew)) ul).trans (unhide U0), (Below.cell (p := ⟨wb.heap.size, 1, none⟩) (((Below.refl wd.heap.size wd).drew)) ul).trans (unhide U1)⟩
      refine wpAnyH_take (i := 0) (v := ?vw60) (by (simp only [List.getElem?_toArray, List.getElem?_cons_zero]; rfl)) (by kernel_rfl) (by kernel_rfl) (by kernel_rfl) (fun _ _ _ h => h) (Or.inl ⟨by rfl, ?hyw60⟩) (by assumption) ?restw60
      case hyw60 => (intro w hSw; (try dsimp only at hSw); go_simp <;> with_reducible rfl)
      (try simp only [Act.put, List.setIfInBounds_toArray, List.set_cons_zero, List.set_cons_succ])
      refine wpAnyH_take (i := 1) (v := ?vw61) (by (simp only [List.getElem?_toArray, List.getElem?_cons_succ, List.getElem?_cons_zero]; rfl)) (by kernel_rfl) (by kernel_rfl) (by kernel_rfl) (fun _ _ _ h => h) (Or.inl ⟨by rfl, ?hyw61⟩) (by assumption) ?restw61
      case hyw61 => (intro w hSw; (try dsimp only at hSw); go_simp <;> with_reducible rfl)
      (try simp only [Act.put, List.setIfInBounds_toArray, List.set_cons_zero, List.set_cons_succ])
      refine wpAnyH_take (i := 2) (v := ?vw62) (by (simp only [List.getElem?_toArray, List.getElem?_cons_succ, List.getElem?_cons_zero]; rfl)) (by kernel_rfl) (by kernel_rfl) (by kernel_rfl) (fun _ _ _ h => h) (Or.inl ⟨by rfl, ?hyw62⟩) (by assumption) ?restw62
      case hyw62 => (intro w hSw; (try dsimp only at hSw); go_simp <;> with_reducible rfl)
      (try simp only [Act.put, List.setIfInBounds_toArray, List.set_cons_zero, List.set_cons_succ])
      refine wpAnyH_take (i := 3) (v := ?vw63) (by (simp only [List.getElem?_toArray, List.getElem?_cons_succ, List.getElem?_cons_zero]; rfl)) (by kernel_rfl) (by kernel_rfl) (by kernel_rfl) (fun _ _ _ h => h) (Or.inl ⟨by rfl, ?hyw63⟩) (by assumption) ?restw63
      case hyw63 => (intro w hSw; (try dsimp only at hSw); go_simp <;> with_reducible rfl)
      (try simp only [Act.put, List.setIfInBounds_toArray, List.set_cons_zero, List.set_cons_succ])
      refine wpAnyH_take (i := 4) (v := ?vw64) (by (simp only [List.getElem?_toArray, List.getElem?_cons_succ, List.getElem?_cons_zero]; rfl)) (by kernel_rfl) (by kernel_rfl) (by kernel_rfl) (fun _ _ _ h => h) (Or.inl ⟨by rfl, ?hyw64⟩) (by assumption) ?restw64
      case hyw64 => (intro w hSw; (try dsimp only at hSw); go_simp <;> with_reducible rfl)
      (try simp only [Act.put, List.setIfInBounds_toArray, List.set_cons_zero, List.set_cons_succ])
      refine wpAnyH_take (i := 5) (v := ?vw65) (by (simp only [List.getElem?_toArray, List.getElem?_cons_succ, List.getElem?_cons_zero]; rfl)) (by kernel_rfl) (by kernel_rfl) (by kernel_rfl) (fun _ _ _ h => h) (Or.inl ⟨by rfl, ?hyw65⟩) (by assumption) ?restw65
      case hyw65 => (intro w hSw; (try dsimp only at hSw); go_simp <;> with_reducible rfl)
      (try simp only [Act.put, List.setIfInBounds_toArray, List.set_cons_zero, List.set_cons_succ])
      refine wpAnyH_take (i := 6) (v := ?vw66) (by (simp only [List.getElem?_toArray, List.getElem?_cons_succ, List.getElem?_cons_zero]; rfl)) (by kernel_rfl) (by kernel_rfl) (by kernel_rfl) (fun _ _ _ h => h) (Or.inl ⟨by rfl, ?hyw66⟩) (by assumption) ?restw66
      case hyw66 => (intro w hSw; (try dsimp only at hSw); go_simp <;> with_reducible rfl)
      (try simp only [Act.put, List.setIfInBounds_toArray, List.set_cons_zero, List.set_cons_succ])
      refine wpAnyH_take (i := 7) (v := ?vw67) (by (simp only [List.getElem?_toArray, List.getElem?_cons_succ, List.getElem?_cons_zero]; rfl)) (by kernel_rfl) (by kernel_rfl) (by kernel_rfl) (fun _ _ _ h => h) (Or.inl ⟨by rfl, ?hyw67⟩) (by assumption) ?restw67
      case hyw67 => (intro w hSw; (try dsimp only at hSw); go_simp <;> with_reducible rfl)
      (try simp only [Act.put, List.setIfInBounds_toArray, List.set_cons_zero, List.set_cons_succ])
      refine wpAnyH_take (i := 10) (v := ?vw610) (by (simp only [List.getElem?_toArray, List.getElem?_cons_succ, List.getElem?_cons_zero]; rfl)) (by kernel_rfl) (by kernel_rfl) (by kernel_rfl) (fun _ _ _ h => h) (Or.inl ⟨by rfl, ?hyw610⟩) (by assumption) ?restw610
      case hyw610 => (intro w hSw; (try dsimp only at hSw); go_simp <;> with_reducible rfl)
      (try simp only [Act.put, List.setIfInBounds_toArray, List.set_cons_zero, List.set_cons_succ])
      refine wpAnyH_take (i := 11) (v := ?vw611) (by (simp only [List.getElem?_toArray, List.getElem?_cons_succ, List.getElem?_cons_zero]; rfl)) (by kernel_rfl) (by kernel_rfl) (by kernel_rfl) (fun _ _ _ h => h) (Or.inl ⟨by rfl, ?hyw611⟩) (by assumption) ?restw611
      case hyw611 => (intro w hSw; (try dsimp only at hSw); have hkk := k3 w hSw.1; go_simp <;> with_reducible rfl)
      (try simp only [Act.put, List.setIfInBounds_toArray, List.set_cons_zero, List.set_cons_succ])
      refine wpAnyH_ready (rs := [8]) (by kernel_rfl) (by simp) ?_
      refine AllReadyH.cons (by (simp only [List.getElem?_toArray, List.getElem?_cons_succ, List.getElem?_cons_zero]; rfl)) (fun K hK => ?_) AllReadyH.nil
      go_simp
      refine (ibytes_any p3 m3 q3 gs p4 m4 q4 gf true hk _ (by omega) (by omega) ((unhide O7).later hHeld.1) ((unhide O8).later hHeld.1)).mono ?_
      rintro e v1 ⟨t1, rfl, o1, b1⟩
      rw [unhide HSB] at o1
      have cv1 := convO hsz o1
      have BB1 := hide (hHeld.1.trans (b1.mono hHeld.1.size))
      clear o1
      (try go_wp2_with fail)
      refine hK.out _ _ ?_ (fun hHeldN => ?_)
      · (try dsimp only); exact ⟨(unhide BB1), (Below.cell (p := ⟨wb.heap.size, 0, none⟩) ((unhide BB1)) ul).trans (unhide U0), (Below.cell (p := ⟨wb.heap.size, 1, none⟩) ((unhide BB1)) ul).trans (unhide U1)⟩
      clear hK K hHeld
      have hHeld := hHeldN; clear hHeldN
      (try simp only [Act.put, List.setIfInBounds_toArray, List.set_cons_zero, List.set_cons_succ])
      refine wpAnyH_ready (rs := [9]) (by kernel_rfl) (by simp) ?_
      refine AllReadyH.cons (by (simp only [List.getElem?_toArray, List.getElem?_cons_succ, List.getElem?_cons_zero]; rfl)) (fun K hK => ?_) AllReadyH.nil
      go_simp
      refine hK.out _ _ ?_ (fun hHeldN => ?_)
      · (try dsimp only); exact hHeld
      clear hK K hHeld
      have hHeld := hHeldN; clear hHeldN
      (try simp only [Act.put, List.setIfInBounds_toArray, List.set_cons_zero, List.set_cons_succ])
      refine wpAnyH_take (i := 12) (v := ?vw612) (by (simp only [List.getElem?_toArray, List.getElem?_cons_succ, List.getElem?_cons_zero]; rfl)) (by kernel_rfl) (by kernel_rfl) (by kernel_rfl) (fun _ _ _ h => h) (Or.inl ⟨by rfl, ?hyw612⟩) (by assumption) ?restw612
      case hyw612 => (intro w hSw; (try dsimp only at hSw); go_simp <;> with_reducible rfl)
      (try simp only [Act.put, List.setIfInBounds_toArray, List.set_cons_zero, List.set_cons_succ])
      refine wpAnyH_take (i := 13) (v := ?vw613) (by (simp only [List.getElem?_toArray, List.getElem?_cons_succ, List.getElem?_cons_zero]; rfl)) (by kernel_rfl) (by kernel_rfl) (by kernel_rfl) (fun _ _ _ h => h) (Or.inl ⟨by rfl, ?hyw613⟩) (by assumption) ?restw613
      case hyw613 => (intro w hSw; (try dsimp only at hSw); go_simp <;> with_reducible rfl)
      (try simp only [Act.put, List.setIfInBounds_toArray, List.set_cons_zero, List.set_cons_succ])
      refine wpAnyH_take (i := 14) (v := ?vw614) (by (simp only [List.getElem?_toArray, List.getElem?_cons_succ, List.getElem?_cons_zero]; rfl)) (by kernel_rfl) (by kernel_rfl) (by kernel_rfl) (fun _ _ _ h => h) (Or.inl ⟨by rfl, ?hyw614⟩) (by assumption) ?restw614
      case hyw614 => (intro w hSw; (try dsimp only at hSw); go_simp <;> with_reducible rfl)
      (try simp only [Act.put, List.setIfInBounds_toArray, List.set_cons_zero, List.set_cons_succ])
      refine wpAnyH_ready (rs := [15]) (by kernel_rfl) (by simp) ?_
      refine AllReadyH.cons (by (simp only [List.getElem?_toArray, List.getElem?_cons_succ, List.getElem?_cons_zero]; rfl)) (fun K hK => ?_) AllReadyH.nil
      go_simp
      refine (istateok_any p3 m3 q3 gs p4 m4 q4 gf true hk _ (by omega) (by omega) ((unhide O7).later hHeld.1) ((unhide O8).later hHeld.1)).mono ?_
      rintro e v2 ⟨rfl, b2⟩
      have BB2 := hide (hHeld.1.trans (b2.mono hHeld.1.size))
      (try go_wp2_with fail)
      refine hK.out _ _ ?_ (fun hHeldN => ?_)
      · (try dsimp only); exact ⟨(unhide BB2), (Below.cell (p := ⟨wb.heap.size, 0, none⟩) ((unhide BB2)) ul).trans (unhide U0), (Below.cell (p := ⟨wb.heap.size, 1, none⟩) ((unhide BB2)) ul).trans (unhide U1)⟩
      clear hK K hHeld
      have hHeld := hHeldN; clear hHeldN
      (try simp only [Act.put, List.setIfInBounds_toArray, List.set_cons_zero, List.set_cons_succ])
      refine wpAnyH_take (i := 16) (v := ?vw616) (by (simp only [List.getElem?_toArray, List.getElem?_cons_succ, List.getElem?_cons_zero]; rfl)) (by kernel_rfl) (by kernel_rfl) (by kernel_rfl) (fun _ _ _ h => h) (Or.inl ⟨by rfl, ?hyw616⟩) (by assumption) ?restw616
      case hyw616 => (intro w hSw; (try dsimp only at hSw); go_simp <;> with_reducible rfl)
      (try simp only [Act.put, List.setIfInBounds_toArray, List.set_cons_zero, List.set_cons_succ])
      refine wpAnyH_take (i := 17) (v := ?vw617) (by (simp only [List.getElem?_toArray, List.getElem?_cons_succ, List.getElem?_cons_zero]; rfl)) (by kernel_rfl) (by kernel_rfl) (by kernel_rfl) (fun _ _ _ h => h) (Or.inl ⟨by rfl, ?hyw617⟩) (by assumption) ?restw617
      case hyw617 => (intro w hSw; (try dsimp only at hSw); go_simp <;> with_reducible rfl)
      (try simp only [Act.put, List.setIfInBounds_toArray, List.set_cons_zero, List.set_cons_succ])
      refine wpAnyH_take (i := 18) (v := ?vw618) (by (simp only [List.getElem?_toArray, List.getElem?_cons_succ, List.getElem?_cons_zero]; rfl)) (by kernel_rfl) (by kernel_rfl) (by kernel_rfl) (fun _ _ _ h => h) (Or.inl ⟨by rfl, ?hyw618⟩) (by assumption) ?restw618
      case hyw618 => (intro w hSw; (try dsimp only at hSw); go_simp <;> with_reducible rfl)
      (try simp only [Act.put, List.setIfInBounds_toArray, List.set_cons_zero, List.set_cons_succ])
      refine wpAnyH_take (i := 19) (v := ?vw619) (by (simp only [List.getElem?_toArray, List.getElem?_cons_succ, List.getElem?_cons_zero]; rfl)) (by kernel_rfl) (by kernel_rfl) (by kernel_rfl) (fun _ _ _ h => h) (Or.inl ⟨by rfl, ?hyw619⟩) (by assumption) ?restw619
      case hyw619 => (intro w hSw; (try dsimp only at hSw); go_simp <;> with_reducible rfl)
      (try simp only [Act.put, List.setIfInBounds_toArray, List.set_cons_zero, List.set_cons_succ])
      refine wpAnyH_done (by kernel_rfl) ?_ _
      refine NoPanic.normal ?_
      clear hHeld
      go_wp2
      go_ret
      exact ⟨rfl, (unhide BD).trans ((unhide BB2).mono (unhide BD).size)⟩
  · have e1 : sofI ys = its := by rw [sofI, unhide HSY]; rfl
    have e2 : sofF ys = fls := by rw [sofF, unhide HSY]; rfl
    go_wp2_with fail
    refine (ssame_any a1 n1 c1 its a2 n2 c2 fls p1 m1 q1 (sofI ys) p2 m2 q2 (sofF ys) true (hide (by rw [e1, e2]; simp)) w6 (by omega) (by omega) (by omega) (by omega) ((unhide VS6).oi.rw encI_len) ((unhide VS6).of.rw encF_len) ((unhide VT6).oi.rw encI_len) ((unhide VT6).of.rw encF_len)).mono ?_
    rintro e w7 ⟨rfl, b7⟩
    have B7 := hide ((unhide B6).trans (b7.mono (unhide B6).size))
    clear y0 y1 t0 t1 yl tl VS6 VT6 hne b7 B6
    go_wp2_with fail
    refine (dsof_any _ xs w7 hlen (unhide HD) ((unhide HS0).below (unhide B7) (Nat.le_refl _))).mono ?_
    rintro e wa ⟨u, zs, rfl, sg, zb, zl, ba⟩
    have BA := hide ((unhide B7).trans (ba.mono (unhide B7).size))
    obtain ⟨ua, uc, hu, -, -⟩ := id sg
    subst hu
    have SG := hide sg
    have ZB := hide zb
    clear sg zb ba
    go_wp2_with fail
    refine (istateof_any _ zs wa (by omega) (unhide ZB) (unhide SG)).mono ?_
    rintro e wb ⟨p3, m3, q3, p4, m4, q4, rfl, o1, o2, bb⟩
    obtain ⟨fk, hfk⟩ : ∃ f, Hid ((sof zs).isSome = f) := ⟨_, hide rfl⟩
    rw [unhide hfk]
    have bal := (Below.refl wb.heap.size wb).alloc (Nat.le_refl _) (StB (.slice p3 m3 q3) (.slice p4 m4 q4))
    have BB := hide ((unhide BA).trans (bb.mono (unhide BA).size))
    have BC := hide ((unhide BB).trans (bal.mono (unhide BB).size))
    have SG2 := hide (((unhide SG).below bb (Nat.le_refl _)).below bal (Nat.le_refl _))
    have KU := hide (heap_alloc_new wb (StB (.slice p3 m3 q3) (.slice p4 m4 q4)))
    have O3 := hide ((o1.rw encI_len).later bal)
    have O4 := hide ((o2.rw encF_len).later bal)
    have k5 := sof5 zs
    have hm3 : m3 ≤ 5 := by rw [(o1.rw encI_len).len.1]; exact k5.1
    have hm4 : m4 ≤ 5 := by rw [(o2.rw encF_len).len.1]; exact k5.2
    clear o1 o2 bb bal BA k5 SG BB
    go_wp2_with fail
    refine (sstateof_any _ zs _ (by omega) (unhide ZB) (unhide SG2)).mono ?_
    rintro e wc ⟨p5, m5, q5, p6, m6, q6, rfl, -, -, bc⟩
    rw [unhide hfk]
    obtain ⟨wd, hwd⟩ : ∃ W, W = wc.alloc (StB (.slice p5 m5 q5) (.slice p6 m6 q6)) := ⟨_, rfl⟩
    have bd : Below wc.heap.size wc wd := by rw [hwd]; exact (Below.refl _ _).alloc (Nat.le_refl _) _
    have BD := hide (((unhide BC).trans (bc.mono (unhide BC).size)).trans (bd.mono (by have := (unhide BC).size; have := bc.size; omega)))
    have SG3 := hide (((unhide SG2).below bc (Nat.le_refl _)).below bd (Nat.le_refl _))
    have hbcs := bc.size
    have KV := hide ((bd.block wb.heap.size (Nat.lt_of_lt_of_le (by simp) hbcs)).trans ((bc.block wb.heap.size (by simp)).trans (unhide KU)))
    have O5 := hide (((unhide O3).later bc).later bd)
    have O6 := hide (((unhide O4).later bc).later bd)
    have ul := (Array.getElem?_eq_some_iff.1 (unhide KV)).1
    obtain ⟨u0, u1, -⟩ := blk_cells2 (unhide KV)
    clear bc bd hbcs BC SG2 KU O3 O4
    cases fk
    · go_wp2_with fail
      rw [← hwd]
      clear hwd
      refine wp_region_later (by kernel_rfl) (by kernel_rfl) ?_
      repeat (go_big_quiet_step (fail))
      refine wpQuiet_nil ?_
      intro w9 b9
      have B9 := hide ((unhide BD).trans (b9.mono (unhide BD).size))
      clear b9
      go_wp2
      go_ret
      exact ⟨rfl, unhide B9⟩
    · obtain ⟨st, hst⟩ := Option.isSome_iff_exists.1 (unhide hfk)
      obtain ⟨gs, gf⟩ := st
      have hso := sof_is hst
      have hk : Hid (okS gs gf = true) := hide ((okS_iff _ _).2 hso.1)
      have hsb : sbS gs gf = zs := by rw [sbS, if_pos (unhide hk)]; exact hso.2
      have O7 := hide (show Rw encI 6 wd (.slice p3 m3 q3) gs from by have q := unhide O5; rw [sofI, hst] at q; exact q)
      have O8 := hide (show Rw encF 2 wd (.slice p4 m4 q4) gf from by have q := unhide O6; rw [sofF, hst] at q; exact q)
      have HSB := hide hsb
      obtain ⟨sz, hsz⟩ : ∃ s, Hid (strOfNums zs = s) := ⟨_, hide rfl⟩
      have hsame : (sz.toList == sz.toList) = true := by simp
      have hzne : zs ≠ [] := fun e => by rw [e, sof_nil] at hst; cases hst
      have k3 : ∀ W, Below wd.heap.size wd W → (convert 22 9 (.slice ua zs.length uc)).run Try.prog W = .ok (.string sz) W := fun W b => convS hsz hzne ((unhide SG3).below b (Nat.le_refl _))
      have U0 := hide u0
      have U1 := hide u1
      clear hso hst hsb O5 O6
      go_wp2_with fail
      rw [← hwd]
      clear hwd
      refine wp_region_noPanic ?_
      refine wp_region_held_drew (S := (fun W => Below wd.heap.size wd W ∧ W.cell? ⟨wb.heap.size, 0, none⟩ = some (.slice p3 m3 q3) ∧ W.cell? ⟨wb.heap.size, 1, none⟩ = some (.slice p4 m4 q4))) (by kernel_rfl) ?_ (fun hHeld => ?_)
      · (try dsimp only); exact ⟨((Below.refl wd.heap.size wd).drew), (Below.cell (p := ⟨wb.heap.size, 0, none⟩) (((Below.refl wd.heap.size wd).drew)) ul).trans (unhide U0), (Below.cell (p := ⟨wb.heap.size, 1, none⟩) (((Below.refl wd.heap.size wd).drew)) ul).trans (unhide U1)⟩
      refine wpAnyH_take (i := 0) (v := ?vw70) (by (simp only [List.getElem?_toArray, List.getElem?_cons_zero]; rfl)) (by kernel_rfl) (by kernel_rfl) (by kernel_rfl) (fun _ _ _ h => h) (Or.inl ⟨by rfl, ?hyw70⟩) (by assumption) ?restw70
      case hyw70 => (intro w hSw; (try dsimp only at hSw); go_simp <;> with_reducible rfl)
      (try simp only [Act.put, List.setIfInBounds_toArray, List.set_cons_zero, List.set_cons_succ])
      refine wpAnyH_take (i := 1) (v := ?vw71) (by (simp only [List.getElem?_toArray, List.getElem?_cons_succ, List.getElem?_cons_zero]; rfl)) (by kernel_rfl) (by kernel_rfl) (by kernel_rfl) (fun _ _ _ h => h) (Or.inl ⟨by rfl, ?hyw71⟩) (by assumption) ?restw71
      case hyw71 => (intro w hSw; (try dsimp only at hSw); go_simp <;> with_reducible rfl)
      (try simp only [Act.put, List.setIfInBounds_toArray, List.set_cons_zero, List.set_cons_succ])
      refine wpAnyH_take (i := 2) (v := ?vw72) (by (simp only [List.getElem?_toArray, List.getElem?_cons_succ, List.getElem?_cons_zero]; rfl)) (by kernel_rfl) (by kernel_rfl) (by kernel_rfl) (fun _ _ _ h => h) (Or.inl ⟨by rfl, ?hyw72⟩) (by assumption) ?restw72
      case hyw72 => (intro w hSw; (try dsimp only at hSw); go_simp <;> with_reducible rfl)
      (try simp only [Act.put, List.setIfInBounds_toArray, List.set_cons_zero, List.set_cons_succ])
      refine wpAnyH_take (i := 3) (v := ?vw73) (by (simp only [List.getElem?_toArray, List.getElem?_cons_succ, List.getElem?_cons_zero]; rfl)) (by kernel_rfl) (by kernel_rfl) (by kernel_rfl) (fun _ _ _ h => h) (Or.inl ⟨by rfl, ?hyw73⟩) (by assumption) ?restw73
      case hyw73 => (intro w hSw; (try dsimp only at hSw); go_simp <;> with_reducible rfl)
      (try simp only [Act.put, List.setIfInBounds_toArray, List.set_cons_zero, List.set_cons_succ])
      refine wpAnyH_take (i := 4) (v := ?vw74) (by (simp only [List.getElem?_toArray, List.getElem?_cons_succ, List.getElem?_cons_zero]; rfl)) (by kernel_rfl) (by kernel_rfl) (by kernel_rfl) (fun _ _ _ h => h) (Or.inl ⟨by rfl, ?hyw74⟩) (by assumption) ?restw74
      case hyw74 => (intro w hSw; (try dsimp only at hSw); go_simp <;> with_reducible rfl)
      (try simp only [Act.put, List.setIfInBounds_toArray, List.set_cons_zero, List.set_cons_succ])
      refine wpAnyH_take (i := 5) (v := ?vw75) (by (simp only [List.getElem?_toArray, List.getElem?_cons_succ, List.getElem?_cons_zero]; rfl)) (by kernel_rfl) (by kernel_rfl) (by kernel_rfl) (fun _ _ _ h => h) (Or.inl ⟨by rfl, ?hyw75⟩) (by assumption) ?restw75
      case hyw75 => (intro w hSw; (try dsimp only at hSw); go_simp <;> with_reducible rfl)
      (try simp only [Act.put, List.setIfInBounds_toArray, List.set_cons_zero, List.set_cons_succ])
      refine wpAnyH_take (i := 6) (v := ?vw76) (by (simp only [List.getElem?_toArray, List.getElem?_cons_succ, List.getElem?_cons_zero]; rfl)) (by kernel_rfl) (by kernel_rfl) (by kernel_rfl) (fun _ _ _ h => h) (Or.inl ⟨by rfl, ?hyw76⟩) (by assumption) ?restw76
      case hyw76 => (intro w hSw; (try dsimp only at hSw); go_simp <;> with_reducible rfl)
      (try simp only [Act.put, List.setIfInBounds_toArray, List.set_cons_zero, List.set_cons_succ])
      refine wpAnyH_take (i := 7) (v := ?vw77) (by (simp only [List.getElem?_toArray, List.getElem?_cons_succ, List.getElem?_cons_zero]; rfl)) (by kernel_rfl) (by kernel_rfl) (by kernel_rfl) (fun _ _ _ h => h) (Or.inl ⟨by rfl, ?hyw77⟩) (by assumption) ?restw77
      case hyw77 => (intro w hSw; (try dsimp only at hSw); go_simp <;> with_reducible rfl)
      (try simp only [Act.put, List.setIfInBounds_toArray, List.set_cons_zero, List.set_cons_succ])
      refine wpAnyH_take (i := 10) (v := ?vw710) (by (simp only [List.getElem?_toArray, List.getElem?_cons_succ, List.getElem?_cons_zero]; rfl)) (by kernel_rfl) (by kernel_rfl) (by kernel_rfl) (fun _ _ _ h => h) (Or.inl ⟨by rfl, ?hyw710⟩) (by assumption) ?restw710
      case hyw710 => (intro w hSw; (try dsimp only at hSw); go_simp <;> with_reducible rfl)
      (try simp only [Act.put, List.setIfInBounds_toArray, List.set_cons_zero, List.set_cons_succ])
      refine wpAnyH_take (i := 11) (v := ?vw711) (by (simp only [List.getElem?_toArray, List.getElem?_cons_succ, List.getElem?_cons_zero]; rfl)) (by kernel_rfl) (by kernel_rfl) (by kernel_rfl) (fun _ _ _ h => h) (Or.inl ⟨by rfl, ?hyw711⟩) (by assumption) ?restw711
      case hyw711 => (intro w hSw; (try dsimp only at hSw); have hkk := k3 w hSw.1; go_simp <;> with_reducible rfl)
      (try simp only [Act.put, List.setIfInBounds_toArray, List.set_cons_zero, List.set_cons_succ])
      refine wpAnyH_ready (rs := [8]) (by kernel_rfl) (by simp) ?_
      refine AllReadyH.cons (by (simp only [List.getElem?_toArray, List.getElem?_cons_succ, List.getElem?_cons_zero]; rfl)) (fun K hK => ?_) AllReadyH.nil
      go_simp
      refine (ibytes_any p3 m3 q3 gs p4 m4 q4 gf true hk _ (by omega) (by omega) ((unhide O7).later hHeld.1) ((unhide O8).later hHeld.1)).mono ?_
      rintro e v1 ⟨t1, rfl, o1, b1⟩
      rw [unhide HSB] at o1
      have cv1 := convO hsz o1
      have BB1 := hide (hHeld.1.trans (b1.mono hHeld.1.size))
      clear o1
      (try go_wp2_with fail)
      refine hK.out _ _ ?_ (fun hHeldN => ?_)
      · (try dsimp only); exact ⟨(unhide BB1), (Below.cell (p := ⟨wb.heap.size, 0, none⟩) ((unhide BB1)) ul).trans (unhide U0), (Below.cell (p := ⟨wb.heap.size, 1, none⟩) ((unhide BB1)) ul).trans (unhide U1)⟩
      clear hK K hHeld
      have hHeld := hHeldN; clear hHeldN
      (try simp only [Act.put, List.setIfInBounds_toArray, List.set_cons_zero, List.set_cons_succ])
      refine wpAnyH_ready (rs := [9]) (by kernel_rfl) (by simp) ?_
      refine AllReadyH.cons (by (simp only [List.getElem?_toArray, List.getElem?_cons_succ, List.getElem?_cons_zero]; rfl)) (fun K hK => ?_) AllReadyH.nil
      go_simp
      refine hK.out _ _ ?_ (fun hHeldN => ?_)
      · (try dsimp only); exact hHeld
      clear hK K hHeld
      have hHeld := hHeldN; clear hHeldN
      (try simp only [Act.put, List.setIfInBounds_toArray, List.set_cons_zero, List.set_cons_succ])
      refine wpAnyH_take (i := 12) (v := ?vw712) (by (simp only [List.getElem?_toArray, List.getElem?_cons_succ, List.getElem?_cons_zero]; rfl)) (by kernel_rfl) (by kernel_rfl) (by kernel_rfl) (fun _ _ _ h => h) (Or.inl ⟨by rfl, ?hyw712⟩) (by assumption) ?restw712
      case hyw712 => (intro w hSw; (try dsimp only at hSw); go_simp <;> with_reducible rfl)
      (try simp only [Act.put, List.setIfInBounds_toArray, List.set_cons_zero, List.set_cons_succ])
      refine wpAnyH_take (i := 13) (v := ?vw713) (by (simp only [List.getElem?_toArray, List.getElem?_cons_succ, List.getElem?_cons_zero]; rfl)) (by kernel_rfl) (by kernel_rfl) (by kernel_rfl) (fun _ _ _ h => h) (Or.inl ⟨by rfl, ?hyw713⟩) (by assumption) ?restw713
      case hyw713 => (intro w hSw; (try dsimp only at hSw); go_simp <;> with_reducible rfl)
      (try simp only [Act.put, List.setIfInBounds_toArray, List.set_cons_zero, List.set_cons_succ])
      refine wpAnyH_take (i := 14) (v := ?vw714) (by (simp only [List.getElem?_toArray, List.getElem?_cons_succ, List.getElem?_cons_zero]; rfl)) (by kernel_rfl) (by kernel_rfl) (by kernel_rfl) (fun _ _ _ h => h) (Or.inl ⟨by rfl, ?hyw714⟩) (by assumption) ?restw714
      case hyw714 => (intro w hSw; (try dsimp only at hSw); go_simp <;> with_reducible rfl)
      (try simp only [Act.put, List.setIfInBounds_toArray, List.set_cons_zero, List.set_cons_succ])
      refine wpAnyH_ready (rs := [15]) (by kernel_rfl) (by simp) ?_
      refine AllReadyH.cons (by (simp only [List.getElem?_toArray, List.getElem?_cons_succ, List.getElem?_cons_zero]; rfl)) (fun K hK => ?_) AllReadyH.nil
      go_simp
      refine (istateok_any p3 m3 q3 gs p4 m4 q4 gf true hk _ (by omega) (by omega) ((unhide O7).later hHeld.1) ((unhide O8).later hHeld.1)).mono ?_
      rintro e v2 ⟨rfl, b2⟩
      have BB2 := hide (hHeld.1.trans (b2.mono hHeld.1.size))
      (try go_wp2_with fail)
      refine hK.out _ _ ?_ (fun hHeldN => ?_)
      · (try dsimp only); exact ⟨(unhide BB2), (Below.cell (p := ⟨wb.heap.size, 0, none⟩) ((unhide BB2)) ul).trans (unhide U0), (Below.cell (p := ⟨wb.heap.size, 1, none⟩) ((unhide BB2)) ul).trans (unhide U1)⟩
      clear hK K hHeld
      have hHeld := hHeldN; clear hHeldN
      (try simp only [Act.put, List.setIfInBounds_toArray, List.set_cons_zero, List.set_cons_succ])
      refine wpAnyH_take (i := 16) (v := ?vw716) (by (simp only [List.getElem?_toArray, List.getElem?_cons_succ, List.getElem?_cons_zero]; rfl)) (by kernel_rfl) (by kernel_rfl) (by kernel_rfl) (fun _ _ _ h => h) (Or.inl ⟨by rfl, ?hyw716⟩) (by assumption) ?restw716
      case hyw716 => (intro w hSw; (try dsimp only at hSw); go_simp <;> with_reducible rfl)
      (try simp only [Act.put, List.setIfInBounds_toArray, List.set_cons_zero, List.set_cons_succ])
      refine wpAnyH_take (i := 17) (v := ?vw717) (by (simp only [List.getElem?_toArray, List.getElem?_cons_succ, List.getElem?_cons_zero]; rfl)) (by kernel_rfl) (by kernel_rfl) (by kernel_rfl) (fun _ _ _ h => h) (Or.inl ⟨by rfl, ?hyw717⟩) (by assumption) ?restw717
      case hyw717 => (intro w hSw; (try dsimp only at hSw); go_simp <;> with_reducible rfl)
      (try simp only [Act.put, List.setIfInBounds_toArray, List.set_cons_zero, List.set_cons_succ])
      refine wpAnyH_take (i := 18) (v := ?vw718) (by (simp only [List.getElem?_toArray, List.getElem?_cons_succ, List.getElem?_cons_zero]; rfl)) (by kernel_rfl) (by kernel_rfl) (by kernel_rfl) (fun _ _ _ h => h) (Or.inl ⟨by rfl, ?hyw718⟩) (by assumption) ?restw718
      case hyw718 => (intro w hSw; (try dsimp only at hSw); go_simp <;> with_reducible rfl)
      (try simp only [Act.put, List.setIfInBounds_toArray, List.set_cons_zero, List.set_cons_succ])
      refine wpAnyH_take (i := 19) (v := ?vw719) (by (simp only [List.getElem?_toArray, List.getElem?_cons_succ, List.getElem?_cons_zero]; rfl)) (by kernel_rfl) (by kernel_rfl) (by kernel_rfl) (fun _ _ _ h => h) (Or.inl ⟨by rfl, ?hyw719⟩) (by assumption) ?restw719
      case hyw719 => (intro w hSw; (try dsimp only at hSw); go_simp <;> with_reducible rfl)
      (try simp only [Act.put, List.setIfInBounds_toArray, List.set_cons_zero, List.set_cons_succ])
      refine wpAnyH_done (by kernel_rfl) ?_ _
      refine NoPanic.normal ?_
      clear hHeld
      go_wp2
      go_ret
      exact ⟨rfl, (unhide BD).trans ((unhide BB2).mono (unhide BD).size)⟩

/-! ### THE ROW's STEP: WRITTEN OUT: LEAVE IT -/
set_option maxRecDepth 100000 in
theorem lifted (os : Os) (started : os.Started) (H : Type) (enc : TypeId × Value → H) :
    ReturnsInHanded {} Try.checked os 3 .any (Rows.fnStateBytesSpec.pre6 enc Try.prog Try.f3 Rows.fnStateBytesRow.domain false) (Rows.fnStateBytesSpec.post enc Try.prog Try.f3 false true false false) := by
  refine returnsInHanded_of_change (C := Try.checked) own started (by kernel_rfl) Try.func3
    (ChangeSpec.witness6 (enc := enc) (C := Try.checked) false ⟨#[], #[.slice none 0 0], []⟩ 8 (by kernel_rfl) (by kernel_rfl) (by kernel_rfl) (by kernel_rfl)) ?_
  intro W base args ds gs before hval0 hW hcnd _
  have hval : ∀ (j : Nat) t v, Try.f3.params[j]? = some t → args[j]? = some v → Value.okWide Try.prog W .any base t v := hval0
  have hW' := hW
  obtain ⟨p, q, hA0, hV, rfl, hfz, hnd⟩ := hW
  have hA : DataW.TrodAll enc Try.prog W 0 (fun _ => true) true Try.f3.params.toList args.toList ds p := hA0
  rw [Try.params3] at hA hval
  obtain ⟨v0, vs0, d0, ds0, p0, q0, hargs, rfl, rfl, h0, r0⟩ := trodAll_cons hA
  obtain ⟨rfl, rfl, rfl⟩ := trodAll_nil r0
  obtain rfl : args = #[v0] := by cases args; simp_all
  obtain ⟨rfl, rfl⟩ := trodVars_none hV
  obtain ⟨a0, len0, cap0, rfl⟩ := okWide_slice Try.underlying22 (hval 0 22 v0 rfl rfl)
  have k0 := h0
  have lt0 : ∀ x ∈ p0, x.block < W.heap.size := by obtain ⟨m, hm⟩ := k0; exact DataW.trod_lt m _ _ _ hm
  obtain ⟨z0, w0⟩ : ∃ zs, IsRow .u8 W a0 len0 cap0 zs := by
    obtain ⟨fuel, hf⟩ := h0
    rcases open_ints Try.underlying22 Try.underlying5 (by kernel_rfl) hf with ⟨hcs, _⟩ | ⟨x, l, c, zs, hcs, _, hl, hm, hz, _, hcell, hwz⟩
    · simp [Value.cells] at hcs
      obtain ⟨rfl, rfl, rfl⟩ := hcs
      exact ⟨[], .inl ⟨rfl, rfl, rfl, rfl⟩⟩
    · simp [Value.cells] at hcs
      obtain ⟨rfl, rfl, rfl⟩ := hcs
      exact ⟨zs, .inr ⟨_, rfl, hl, hm, by simpa using hz, hcell, hwz⟩⟩
  clear hA0 hval0
  refine (walk a0 len0 cap0 z0 W w0).mono fun e W' ⟨he, bel⟩ => ?_
  subst he
  exact ⟨_, rfl, _, _, _, [], _, [], hW', trodAll_mk1 (shut_bool Try.underlying4 _), (trodAll_cons_mk (Below.trod laidOut (by kernel_rfl) (of_decide_eq_true (by kernel_rfl)) k0 bel lt0) trodAll_mk0), rfl, bel.frame _, fun h => by cases h⟩

theorem over : Rows.fnStateBytesRow.holds Try.pinned (OpenSpec.ofChange Rows.fnStateBytesSpec) :=
  OpenClaim.holds_of_wide 3 Try.f3 rfl rfl rfl rfl rfl rfl rfl ⟨rfl, rfl, rfl, rfl, rfl⟩ rfl rfl rfl rfl rfl (by kernel_rfl) Try.func3 (by kernel_rfl)
    (of_decide_eq_true (by kernel_rfl)) (by unfold Func.isWrapper; first | (rw [if_pos (by decide +kernel)]; kernel_rfl) | (rw [if_neg (by decide +kernel)]; exact ⟨rfl, rfl⟩))
    (fun os started H enc _ => lifted os started H enc)

theorem proved : Rows.FnStateBytesSaid := over
#print axioms proved
end Go.Proofs.Ytjlocbimkfocnaa.fnStateBytes
namespace Go.Proofs.Ytjlocbimkfocnaa
theorem fnStateBytes_holds : Rows.FnStateBytesSaid := fnStateBytes.proved
end Go.Proofs.Ytjlocbimkfocnaa
