/-
  FnSingles: at every code, a right state that is drawn is all its single items and its floors joined; Single answers as its model, of what is drawn. No conditions.
-/
import Derived.Test.YtdpaocikmijioaaRows
import Derived.Test.YtdpaocikmijioaaL3T
import Derived.Test.YtdpaocikmijioaaIStSame
import Derived.Test.YtdpaocikmijioaaIJoin
import Derived.Test.YtdpaocikmijioaaDrawB
import Derived.WalkKit
import Derived.ProofKit
import Derived.OpenShut
import Derived.ShutString
import Derived.ChangeOld
import Derived.Below
namespace Go.Proofs.Ytdpaocikmijioaa.fnSingles
open Go.ChangeShapes Go.WideShapes Go.ChangeAt Go.RowKit
open Go.ChangeMaps (open_string shut_string)
set_option linter.unusedVariables false

theorem own : ownKnob Try.prog.godebug = none := by kernel_rfl
theorem laidOut : laidOutB Try.prog = true := by kernel_rfl

/-- WHAT THE WALK IS TOLD OF A SLICE OF INTEGERS THAT CAME IN: it is nil; or it leads to a row of 'cap' cells, the numbers 'zs' (the first 'len' are its elements, the rest its spare room), each fitting its kind. -/
def IsRow (k : IntKind) (w : World) (a : Option Addr) (len cap : Nat) (zs : List Int) : Prop :=
  (a = none ∧ len = 0 ∧ cap = 0 ∧ zs = []) ∨
  ∃ x, a = some x ∧ len ≤ cap ∧ cap ≤ maxLen ∧ zs.length = cap ∧ (∀ i, i < zs.length → w.cell? (x.add i) = some (.int k (zs.getD i 0))) ∧ ∀ n ∈ zs, (Lit.int k n).wf = true

/-! ### STEP 1: THE WALK: the Go text returns true, AND WRITES NOTHING THAT WAS THERE: 'Below w.heap.size w w'' (Derived/Below.lean: '.refl', '.alloc', '.drew', '.setCell' at a new block, '.trans'). Open each 'IsRow' by 'rcases' AHEAD of 'go_enter'; part every test ahead of the walk. -/
set_option maxRecDepth 100000 in
set_option maxHeartbeats 4000000 in
theorem walk (a0 : Option Addr) (len0 cap0 : Nat) (z0 : List Int) (w : World) (w0 : IsRow .u8 w a0 len0 cap0 z0) :
    Calls Try.prog 5 #[.slice a0 len0 cap0] w fun e w' => e = .returned (.bool true) ∧ Below w.heap.size w w' := by
  obtain ⟨xs, hxl, hseg, hbd⟩ := seg_of_row w0
  subst hxl
  by_cases hbig : 1048576 < xs.length
  · clear w0 hseg hbd
    go_enter Try.func5, Try.ntmps5
    go_wp2
    go_ret
    exact ⟨rfl, Below.refl _ _⟩
  have hlen : xs.length ≤ 1048576 := by omega
  have HS0 := hide hseg
  have HD := hide hbd
  clear hseg hbd w0
  go_enter Try.func5, Try.ntmps5
  go_wp2_with fail
  refine (big_no _ _ _ _ hbig).mono ?_
  rintro e _ ⟨rfl, rfl⟩
  go_wp2_with fail
  refine (drawok_any _ xs _ hlen (unhide HD) (unhide HS0)).mono ?_
  rintro e w1 ⟨a1, n1, c1, a2, n2, c2, its, fls, rfl, t⟩
  go_upto_region 4 with fail
  obtain ⟨w2, hw2⟩ : ∃ W, W = w1.alloc (StB (.slice a1 n1 c1) (.slice a2 n2 c2)) := ⟨_, rfl⟩
  obtain ⟨bs, hbs⟩ : ∃ b, b = w1.heap.size := ⟨_, rfl⟩
  rw [← hw2, ← hbs]
  have VS := hide (show V3 w w2 bs (.slice a1 n1 c1) (.slice a2 n2 c2) its fls from by rw [hw2, hbs]; exact V3.new t.bel.size (Nat.le_refl _) t.oi t.of)
  have B2 := hide (show Below w.heap.size w w2 from by rw [hw2]; exact t.bel.alloc t.bel.size _)
  have NI := hide t.ni
  have l1 := t.li
  have l2 := t.lf
  obtain ⟨f1, f2⟩ := (unhide VS).len
  obtain ⟨h1, h2⟩ : n1 ≤ 6 ∧ n2 ≤ 6 := by omega
  have E1 := hide f1
  clear t hw2 hbs l1 l2 f1 f2
  obtain ⟨ok, hok⟩ : ∃ ok, Hid (okS its fls = ok) := ⟨_, hide rfl⟩
  obtain ⟨p0, p1⟩ := (unhide VS).cells
  go_wp2_with fail
  clear p0 p1
  refine (sstateok_any a1 n1 c1 its a2 n2 c2 fls ok hok _ (by omega) (by omega) ((unhide VS).oi.rw encI_len) ((unhide VS).of.rw encF_len)).mono ?_
  rintro e w3 ⟨rfl, b3⟩
  have VS3 := hide ((unhide VS).later b3)
  have B3 := hide ((unhide B2).trans (b3.mono (unhide B2).size))
  clear b3 VS B2
  obtain ⟨p0, p1⟩ := (unhide VS3).cells
  cases ok
  · go_wp2_with fail
    clear p0 p1
    refine (istateok_any a1 n1 c1 its a2 n2 c2 fls false hok _ (by omega) (by omega) ((unhide VS3).oi.rw encI_len) ((unhide VS3).of.rw encF_len)).mono ?_
    rintro e w4 ⟨rfl, b4⟩
    have B4 := hide ((unhide B3).trans (b4.mono (unhide B3).size))
    clear b4 VS3 B3
    go_wp2
    go_ret
    exact ⟨rfl, unhide B4⟩
  have OK := hide ((okS_iff _ _).1 (unhide hok))
  have hbs3 := (unhide VS3).lt
  have hw3 := (unhide B3).size
  clear p0 p1
  go_wp2
  go_loopw [5] (fun i wr => ∃ (k : Nat) (u1 : Option Addr) (m1 d1 : Nat) (u2 : Option Addr) (m2 d2 : Nat), k ≤ n1 ∧ i = .int .i64 k ∧ Below w.heap.size w wr ∧ V3 w wr bs (.slice a1 n1 c1) (.slice a2 n2 c2) its fls ∧ V3 w wr w3.heap.size (.slice u1 m1 d1) (.slice u2 m2 d2) (its.take k) []) (fun i _ => n1 - (intOf i).toNat)
  case atStart => exact ⟨0, none, 0, 0, none, 0, 0, Nat.zero_le _, rfl, (unhide B3).alloc hw3 _, (unhide VS3).alloc _, V3.new hw3 (Nat.le_refl _) (World.ownsRow_nil _ _ _ _) (World.ownsRow_nil _ _ _ _)⟩
  case round =>
    obtain ⟨k, u1, m1, d1, u2, m2, d2, hk, rfl, hB, hS, hA⟩ := hrel
    have VS := hide hS
    have VA := hide hA
    have B5 := hide hB
    obtain ⟨f1, f2⟩ := hA.len
    have hm1 : m1 ≤ 6 := by rw [f1, List.length_take]; omega
    have hm2 : m2 = 0 := f2
    subst hm2
    have hwr := hB.size
    have hbr := hS.lt
    have har := hA.lt
    obtain ⟨p0, p1⟩ := hS.cells
    obtain ⟨r0, r1⟩ := hA.cells
    clear hS hA hB f1 f2 VS3 B3
    by_cases hlt : k < n1
    · obtain ⟨x, q, off, hx, rfl, hq, hcap, hc⟩ := ((unhide VS).oi.rw encI_len).at hlt
      obtain ⟨t0, t1, t2, t3, t4, t5⟩ := item_cells hc
      have HC := hide (show wr.cell? ⟨bs, 0, none⟩ = some (.slice (some ⟨q, off, none⟩) n1 c1) ∧ wr.cell? ⟨bs, 1, none⟩ = some (.slice a2 n2 c2) ∧ wr.cell? ⟨q, off + k * 6, none⟩ = some (.int .i64 x.1) ∧ wr.cell? ⟨q, off + k * 6 + 1, none⟩ = some (.int .i64 x.2.1) ∧ wr.cell? ⟨q, off + k * 6 + 1 + 1, none⟩ = some (.int .i64 x.2.2.1) ∧ wr.cell? ⟨q, off + k * 6 + 1 + 2, none⟩ = some (.int .i64 x.2.2.2.1) ∧ wr.cell? ⟨q, off + k * 6 + 1 + 3, none⟩ = some (.int .i64 x.2.2.2.2.1) ∧ wr.cell? ⟨q, off + k * 6 + 1 + 4, none⟩ = some (.string x.2.2.2.2.2) from ⟨p0, p1, t0, t1, t2, t3, t4, t5⟩)
      have hxm : x ∈ its := List.mem_of_getElem? hx
      have h9 := unhide NI x hxm
      have hsz : x.2.2.2.2.2.size ≤ 281474976710656 := by omega
      have h0 : Hid (okS [(x.1, x.2)] [] = true) := hide ((okS_iff _ _).2 ((unhide OK).one hxm))
      have hn : Hid ((sgl true x.1 x.2).length = 1) := hide rfl
      have HJ : Hid ((okS (its.take k) [] && okS [x] []) = true) := hide (by rw [(okS_iff _ _).2 ((unhide OK).items k), (okS_iff _ _).2 ((unhide OK).one hxm)]; rfl)
      have HST := hide ((unhide OK).step hx)
      clear hc hx hxm h9 t0 t1 t2 t3 t4 t5 r0 r1
      go_upto_region 10 with fail
      clear p0 p1
      go_cut [6, 7] from 25 to 55 (fun p q' wx => ∃ (gb : Nat) (a : Option Addr) (c : Nat), p = .pointer (some ⟨gb, 0, none⟩) ∧ q' = .bool true ∧ Fin wr wx gb (.slice a 1 c) (.slice none 0 0) [x] [])
      case first =>
        have hdr : wr.heap.size ≤ wr.drew.heap.size := Nat.le_refl _
        go_region_held3 (fun W => Below wr.heap.size wr W ∧ W.cell? ⟨bs, 0, none⟩ = some (.slice (some ⟨q, off, none⟩) n1 c1) ∧ W.cell? ⟨bs, 1, none⟩ = some (.slice a2 n2 c2) ∧ W.cell? ⟨q, off + k * 6, none⟩ = some (.int .i64 x.1) ∧ W.cell? ⟨q, off + k * 6 + 1, none⟩ = some (.int .i64 x.2.1) ∧ W.cell? ⟨q, off + k * 6 + 1 + 1, none⟩ = some (.int .i64 x.2.2.1) ∧ W.cell? ⟨q, off + k * 6 + 1 + 2, none⟩ = some (.int .i64 x.2.2.2.1) ∧ W.cell? ⟨q, off + k * 6 + 1 + 3, none⟩ = some (.int .i64 x.2.2.2.2.1) ∧ W.cell? ⟨q, off + k * 6 + 1 + 4, none⟩ = some (.string x.2.2.2.2.2))
          (first | (with_reducible exact keep8 hbr hq HC (Below.refl _ _)) | (with_reducible exact keep8 hbr hq HC ((Below.refl _ _).drew)) | (with_reducible exact keep8 hbr hq HC (by assumption)) | (with_reducible exact keep8 hbr hq HC (kal (Below.refl _ _))) | (with_reducible exact keep8 hbr hq HC (kal ((Below.refl _ _).drew))) | (with_reducible exact keep8 hbr hq HC ((kal (Below.refl _ _)).drew)) | (with_reducible exact keep8 hbr hq HC (kal (by assumption))) | (with_reducible exact keep8 hbr hq HC (kset (by assumption) (by assumption))))
          (first
            | (go_at_call 20; refine (isingle_any x.1 x.2 hsz true h0 1 hn _).mono ?_; rintro e w8 ⟨ra1, rc1, rfl, o1, b8⟩; have O1 : Hid (OwI _ w8 (.slice ra1 1 rc1) [x]) := hide o1; clear o1; have bw8 := kb2 (by assumption) b8; (first | (with_reducible have M2 := hide (Bf.newD (P := wr) b8 (Nat.le_refl _)); clear b8; obtain ⟨q0, q1, qf⟩ := blk_cells2 (unhide M2).bx.blk) | (with_reducible have M2 := hide (Bf.new (P := wr) b8 (by omega)); clear b8; obtain ⟨q0, q1, qf⟩ := blk_cells2 (unhide M2).bx.blk) | clear b8)))
        all_goals
          go_wp2_with fail
          go_meet
          first
            | with_reducible exact ⟨_, _, _, rfl, rfl, Fin.set bw8 (by first | omega | exact size_allocD _ _) M2 O1 (own_nilF _ _)⟩
            | with_reducible exact ⟨_, _, _, rfl, rfl, Fin.new bw8 (by first | omega | exact Nat.le_refl _) O1 (own_nilF _ _)⟩
      case rest =>
        obtain ⟨gb, ra, rc, rfl, rfl, hf⟩ := hcut
        have VSc := hide ((unhide VS).later hf.bel)
        have VAc := hide ((unhide VA).later hf.bel)
        have VO := hide (show V3 w wc gb (.slice ra 1 rc) (.slice none 0 0) [x] [] from ⟨Nat.le_trans hwr hf.ge, hf.blk, Ow.base hf.o1 hwr, Ow.base hf.o2 hwr⟩)
        have Bc := hide ((unhide B5).trans (hf.bel.mono hwr))
        obtain ⟨r0, r1⟩ := (unhide VAc).cells
        obtain ⟨s0, s1⟩ := (unhide VO).cells
        clear hf VS VA B5 HC
        go_wp2_with fail
        clear r0 r1 s0 s1
        obtain ⟨z1, hz1⟩ : ∃ z, Hid ((jnI true (its.take k) [] [x] []).length = z) := ⟨_, hide rfl⟩
        obtain ⟨z2, hz2⟩ : ∃ z, Hid ((jnF true [] []).length = z) := ⟨_, hide rfl⟩
        refine (ijoin_any u1 m1 d1 (its.take k) u2 0 d2 [] ra 1 rc [x] none 0 0 [] true HJ z1 z2 hz1 hz2 _ (by omega) (by omega) (by omega) (by omega) ((unhide VAc).oi.rw encI_len) ((unhide VAc).of.rw encF_len) ((unhide VO).oi.rw encI_len) Rw.nil).mono ?_
        rintro e w9 ⟨ja, jc, jb, jd, rfl, o1, o2, b9⟩
        have o1' : OwI wc.heap.size w9 (.slice ja z1 jc) (its.take (k + 1)) := by rw [← (unhide HST).1]; exact o1
        have o2' : OwF wc.heap.size w9 (.slice jb z2 jd) [] := o2
        have VA9 := hide ((unhide VAc).later b9)
        have VAn := hide ((unhide VA9).put (unhide Bc).size o1' o2')
        have VSn := hide (((unhide VSc).later b9).aside (u1 := .slice ja z1 jc) (u2 := .slice jb z2 jd) (unhide VA9).k1 (by omega))
        have Bn := hide ((unhide VA9).bel ((unhide Bc).trans (b9.mono (unhide Bc).size)) (.slice ja z1 jc) (.slice jb z2 jd))
        obtain ⟨r0, r1, r2⟩ := blk_cells2 (unhide VA9).k1
        clear o1 o2 o1' o2' b9 VAc VSc VO Bc VA9
        go_wp2
        go_roundw
        case rel => exact ⟨k + 1, _, _, _, _, _, _, by omega, by go_num, unhide Bn, unhide VSn, unhide VAn⟩
        case measure => simp [intOf]; omega
    · have HTK : its.take k = its := List.take_of_length_le (by have := unhide E1; omega)
      have VA' := hide (show V3 w wr w3.heap.size (.slice u1 m1 d1) (.slice u2 0 d2) its [] from by have h := unhide VA; rw [HTK] at h; exact h)
      have HJ : Hid ((okS its [] && okS [] fls) = true) := hide (by
        have h := (unhide OK).items k
        rw [HTK] at h
        rw [(okS_iff _ _).2 h, (okS_iff _ _).2 (unhide OK).floors]; rfl)
      have HW := hide (unhide OK).whole
      clear HTK VA
      go_wp2_with fail
      clear p0 p1 r0 r1
      obtain ⟨z1, hz1⟩ : ∃ z, Hid ((jnI true its [] [] fls).length = z) := ⟨_, hide rfl⟩
      obtain ⟨z2, hz2⟩ : ∃ z, Hid ((jnF true [] fls).length = z) := ⟨_, hide rfl⟩
      refine (ijoin_any u1 m1 d1 its u2 0 d2 [] none 0 0 [] a2 n2 c2 fls true HJ z1 z2 hz1 hz2 _ (by omega) (by omega) (by omega) (by omega) ((unhide VA').oi.rw encI_len) ((unhide VA').of.rw encF_len) Rw.nil ((unhide VS).of.rw encF_len)).mono ?_
      rintro e w9 ⟨ja, jc, jb, jd, rfl, o1, o2, b9⟩
      have o1' : OwI wr.heap.size w9 (.slice ja z1 jc) its := by have h := o1; rw [show jnI true its [] [] fls = its from (unhide HW).1] at h; exact h
      have o2' : OwF wr.heap.size w9 (.slice jb z2 jd) fls := by have h := o2; rw [show jnF true [] fls = fls from (unhide HW).2] at h; exact h
      have VA9 := hide ((unhide VA').later b9)
      obtain ⟨r0, r1, r2⟩ := blk_cells2 (unhide VA9).k1
      have VAn := hide ((unhide VA9).put (unhide B5).size o1' o2')
      have VSn := hide (((unhide VS).later b9).aside (u1 := .slice ja z1 jc) (u2 := .slice jb z2 jd) (unhide VA9).k1 (by omega))
      have Bn := hide ((unhide VA9).bel ((unhide B5).trans (b9.mono (unhide B5).size)) (.slice ja z1 jc) (.slice jb z2 jd))
      clear o1 o2 o1' o2' b9 VA' VS B5 VA9
      go_upto_region 15 with fail
      obtain ⟨wa, hwa⟩ : ∃ W, W = (w9.setCell ⟨w3.heap.size, 0, none⟩ (.slice ja z1 jc)).setCell ⟨w3.heap.size, 1, none⟩ (.slice jb z2 jd) := ⟨_, rfl⟩
      rw [← hwa]
      rw [← hwa] at VAn VSn Bn
      clear hwa r0 r1 r2
      go_wp2_with fail
      refine (drawsingle_any _ xs _ hlen (unhide HD) ((unhide HS0).below (unhide Bn) (Nat.le_refl _))).mono ?_
      rintro e wb ⟨⟨id, ei, er, eb, ev, ed, rfl, hed⟩, bb⟩
      have VAb := hide ((unhide VAn).later bb)
      have VSb := hide ((unhide VSn).later bb)
      have Bb := hide ((unhide Bn).trans (bb.mono (unhide Bn).size))
      have HE9 := hide hed
      clear bb VAn VSn Bn hed
      go_upto_region 16 with fail
      obtain ⟨wc, hwc⟩ : ∃ W, W = wb.alloc (.cells #[.int .i64 ei, .int .i64 er, .int .i64 eb, .int .i64 ev, .string ed] 36) := ⟨_, rfl⟩
      obtain ⟨be, hbe⟩ : ∃ b, b = wb.heap.size := ⟨_, rfl⟩
      rw [← hwc, ← hbe]
      have bc : Below wb.heap.size wb wc := by rw [hwc]; exact (Below.refl _ _).alloc (Nat.le_refl _) _
      have KE := hide (show wc.heap[be]? = some (.cells #[.int .i64 ei, .int .i64 er, .int .i64 eb, .int .i64 ev, .string ed] 36 (0, 0)) from by rw [hwc, hbe]; exact heap_alloc_new _ _)
      have VAc := hide ((unhide VAb).later bc)
      have VSc := hide ((unhide VSb).later bc)
      have Bc := hide ((unhide Bb).trans (bc.mono (unhide Bb).size))
      obtain ⟨ok1, ho1⟩ : ∃ ok1, Hid (okS [(id, ((ei, er, eb, ev, ed) : Key))] [] = ok1) := ⟨_, hide rfl⟩
      obtain ⟨y1, hy1⟩ : ∃ y, Hid ((sgl ok1 id ((ei, er, eb, ev, ed) : Key)).length = y) := ⟨_, hide rfl⟩
      obtain ⟨p0, p1, p2, p3, p4, p5⟩ := blk_cells5 (unhide KE)
      have he9 := unhide HE9
      clear bc hwc hbe VAb VSb Bb HE9
      go_wp2_with fail
      clear p0 p1 p2 p3 p4 p5
      refine (isingle_any id ((ei, er, eb, ev, ed) : Key) (show ed.size ≤ 281474976710656 by omega) ok1 ho1 y1 hy1 _).mono ?_
      rintro e wd ⟨ga, gc, rfl, -, bd⟩
      have KEd := hide ((bd.block _ (Array.getElem?_eq_some_iff.1 (unhide KE)).1).trans (unhide KE))
      have VAd := hide ((unhide VAc).later bd)
      have VSd := hide ((unhide VSc).later bd)
      have Bd := hide ((unhide Bc).trans (bd.mono (unhide Bc).size))
      clear bd VAc VSc Bc KE
      go_upto_region 17 with fail
      obtain ⟨we, hwe⟩ : ∃ W, W = wd.alloc (StB (.slice ga y1 gc) (.slice none 0 0)) := ⟨_, rfl⟩
      rw [← hwe]
      have be' : Below wd.heap.size wd we := by rw [hwe]; exact (Below.refl _ _).alloc (Nat.le_refl _) _
      have KEe := hide ((be'.block _ (Array.getElem?_eq_some_iff.1 (unhide KEd)).1).trans (unhide KEd))
      have VAe := hide ((unhide VAd).later be')
      have VSe := hide ((unhide VSd).later be')
      have Be := hide ((unhide Bd).trans (be'.mono (unhide Bd).size))
      obtain ⟨p0, p1, p2, p3, p4, p5⟩ := blk_cells5 (unhide KEe)
      clear be' hwe VAd VSd Bd KEd
      go_wp2_with fail
      clear p0 p1 p2 p3 p4 p5
      refine (ssingle_any id ((ei, er, eb, ev, ed) : Key) ok1 ho1 y1 hy1 _).mono ?_
      rintro e wf ⟨ha, hc, rfl, -, bf⟩
      have VAf := hide ((unhide VAe).later bf)
      have VSf := hide ((unhide VSe).later bf)
      have Bf := hide ((unhide Be).trans (bf.mono (unhide Be).size))
      clear bf VAe VSe Be KEe
      go_upto_region 18 with fail
      obtain ⟨wg, hwg⟩ : ∃ W, W = wf.alloc (StB (.slice ha y1 hc) (.slice none 0 0)) := ⟨_, rfl⟩
      rw [← hwg]
      have bg : Below wf.heap.size wf wg := by rw [hwg]; exact (Below.refl _ _).alloc (Nat.le_refl _) _
      have VAg := hide ((unhide VAf).later bg)
      have VSg := hide ((unhide VSf).later bg)
      have Bg := hide ((unhide Bf).trans (bg.mono (unhide Bf).size))
      obtain ⟨g1, g2⟩ := (unhide VAg).len
      obtain ⟨i1, i2⟩ := (unhide VSg).len
      obtain ⟨j1, j2⟩ : z1 ≤ 6 ∧ z2 ≤ 6 := by omega
      obtain ⟨p0, p1⟩ := (unhide VAg).cells
      obtain ⟨q0, q1⟩ := (unhide VSg).cells
      clear bg hwg VAf VSf Bf g1 g2 i1 i2
      go_wp2_with fail
      clear p0 p1 q0 q1
      have HR : Hid ((decide (its = its) && decide (fls = fls)) = true) := hide (by simp)
      refine (isame_any ja z1 jc its jb z2 jd fls a1 n1 c1 its a2 n2 c2 fls true HR _ (by omega) (by omega) (by omega) (by omega) ((unhide VAg).oi.rw encI_len) ((unhide VAg).of.rw encF_len) ((unhide VSg).oi.rw encI_len) ((unhide VSg).of.rw encF_len)).mono ?_
      rintro e wh ⟨rfl, bh⟩
      have VSh := hide ((unhide VSg).later bh)
      have Bh := hide ((unhide Bg).trans (bh.mono (unhide Bg).size))
      clear bh VAg VSg Bg
      obtain ⟨q0, q1⟩ := (unhide VSh).cells
      go_wp2_with fail
      clear q0 q1
      refine (istateok_any a1 n1 c1 its a2 n2 c2 fls true hok _ (by omega) (by omega) ((unhide VSh).oi.rw encI_len) ((unhide VSh).of.rw encF_len)).mono ?_
      rintro e wi ⟨rfl, bi⟩
      have Bi := hide ((unhide Bh).trans (bi.mono (unhide Bh).size))
      have hee : (ok1 == ok1) = true := by simp
      clear bi VSh Bh
      go_wp2
      go_ret
      exact ⟨rfl, unhide Bi⟩

/-! ### THE ROW's STEP: WRITTEN OUT: LEAVE IT -/
set_option maxRecDepth 100000 in
theorem lifted (os : Os) (started : os.Started) (H : Type) (enc : TypeId × Value → H) :
    ReturnsInHanded {} Try.checked os 5 .any (Rows.fnSinglesSpec.pre6 enc Try.prog Try.f5 Rows.fnSinglesRow.domain false) (Rows.fnSinglesSpec.post enc Try.prog Try.f5 false true false false) := by
  refine returnsInHanded_of_change (C := Try.checked) own started (by kernel_rfl) Try.func5
    (ChangeSpec.witness6 (enc := enc) (C := Try.checked) false ⟨#[], #[.slice none 0 0], []⟩ 8 (by kernel_rfl) (by kernel_rfl) (by kernel_rfl) (by kernel_rfl)) ?_
  intro W base args ds gs before hval0 hW hcnd _
  have hval : ∀ (j : Nat) t v, Try.f5.params[j]? = some t → args[j]? = some v → Value.okWide Try.prog W .any base t v := hval0
  have hW' := hW
  obtain ⟨p, q, hA0, hV, rfl, hfz, hnd⟩ := hW
  have hA : DataW.TrodAll enc Try.prog W 0 (fun _ => true) true Try.f5.params.toList args.toList ds p := hA0
  rw [Try.params5] at hA hval
  obtain ⟨v0, vs0, d0, ds0, p0, q0, hargs, rfl, rfl, h0, r0⟩ := trodAll_cons hA
  obtain ⟨rfl, rfl, rfl⟩ := trodAll_nil r0
  obtain rfl : args = #[v0] := by cases args; simp_all
  obtain ⟨rfl, rfl⟩ := trodVars_none hV
  obtain ⟨a0, len0, cap0, rfl⟩ := okWide_slice Try.underlying22 (hval 0 22 v0 rfl rfl)
  have k0 := h0
  have lt0 : ∀ x ∈ p0, x.block < W.heap.size := by obtain ⟨m, hm⟩ := k0; exact DataW.trod_lt m _ _ _ hm
  obtain ⟨z0, w0⟩ : ∃ zs, IsRow .u8 W a0 len0 cap0 zs := by
    obtain ⟨fuel, hf⟩ := h0
    rcases open_ints Try.underlying22 Try.underlying5 (by kernel_rfl) hf with ⟨hcs, _⟩ | ⟨x, l, c, zs, hcs, _, hl, hm, hz, _, hcell, hwz⟩
    · simp [Value.cells] at hcs
      obtain ⟨rfl, rfl, rfl⟩ := hcs
      exact ⟨[], .inl ⟨rfl, rfl, rfl, rfl⟩⟩
    · simp [Value.cells] at hcs
      obtain ⟨rfl, rfl, rfl⟩ := hcs
      exact ⟨zs, .inr ⟨_, rfl, hl, hm, by simpa using hz, hcell, hwz⟩⟩
  clear hA0 hval0
  refine (walk a0 len0 cap0 z0 W w0).mono fun e W' ⟨he, bel⟩ => ?_
  subst he
  exact ⟨_, rfl, _, _, _, [], _, [], hW', trodAll_mk1 (shut_bool Try.underlying4 _), (trodAll_cons_mk (Below.trod laidOut (by kernel_rfl) (of_decide_eq_true (by kernel_rfl)) k0 bel lt0) trodAll_mk0), rfl, bel.frame _, fun h => by cases h⟩

theorem over : Rows.fnSinglesRow.holds Try.pinned (OpenSpec.ofChange Rows.fnSinglesSpec) :=
  OpenClaim.holds_of_wide 5 Try.f5 rfl rfl rfl rfl rfl rfl rfl ⟨rfl, rfl, rfl, rfl, rfl⟩ rfl rfl rfl rfl rfl (by kernel_rfl) Try.func5 (by kernel_rfl)
    (of_decide_eq_true (by kernel_rfl)) (by unfold Func.isWrapper; first | (rw [if_pos (by decide +kernel)]; kernel_rfl) | (rw [if_neg (by decide +kernel)]; exact ⟨rfl, rfl⟩))
    (fun os started H enc _ => lifted os started H enc)

theorem proved : Rows.FnSinglesSaid := over
#print axioms proved
end Go.Proofs.Ytdpaocikmijioaa.fnSingles
namespace Go.Proofs.Ytdpaocikmijioaa
theorem fnSingles_holds : Rows.FnSinglesSaid := fnSingles.proved
end Go.Proofs.Ytdpaocikmijioaa
