/-
  The program's StateText. No statement is proved here.
-/
import Derived.Test.YtdpaocikmijioadDoorSTx
import Derived.Test.YtdpaocikmijioadDoorApp2
import Derived.Test.YtdpaocikmijioadDoorStT
namespace Go.Proofs.YtdpaocikmijioadDoor
open Go.RowKit

def encZ (s : ByteArray) : List Value := [.string s]
theorem encZ_len (s : ByteArray) : (encZ s).length = 1 := rfl
theorem oneZ (s : ByteArray) : ∀ u ∈ encZ s, u.oneCell' = true := by
  intro u hu
  simp [encZ] at hu
  subst hu; rfl
abbrev OwZ (base : Nat) (w : World) (v : Value) (ws : List ByteArray) : Prop := Ow encZ 1 9 base w v ws
theorem Tryd.infoTxt : (Tryd.prog.info? 9).map (fun i => (i.zero, i.size, i.bytes)) = some (some (.string ⟨#[]⟩), 1, 16) := by kernel_rfl
theorem grown_low {B : Nat} {w0 W W' : World} {row : Option Nat} (hb : Below B w0 W) (h : W.grownBy W' row) (hB : B ≤ W.heap.size) (hs : ∀ i, row = some i → B ≤ i) : Below B w0 W' :=
  ⟨h.os.trans hb.os, h.tape.trans hb.tape, h.output.trans hb.output, Nat.le_trans hb.size h.size, fun i hi => (h.block i (Nat.lt_of_lt_of_le hi hB) (fun q => by have := hs i q.symm; omega)).trans (hb.block i hi)⟩
theorem kSI {w V : World} {g : Nat} {T : TypeId} {c0 c1 c2 c3 c4 c5 : Value} (b : Hid (Below w.heap.size w V)) (k : Hid (V.heap[g]? = some (.cells #[c0, c1, c2, c3, c4, c5] T (0, 0)) ∧ g < V.heap.size)) :
    Below w.heap.size w V ∧ V.cell? ⟨g, 0, none⟩ = some c0 ∧ V.cell? ⟨g, 1, none⟩ = some c1 ∧ V.cell? ⟨g, 2, none⟩ = some c2 ∧ V.cell? ⟨g, 3, none⟩ = some c3 ∧ V.cell? ⟨g, 4, none⟩ = some c4 ∧ V.cell? ⟨g, 5, none⟩ = some c5 := by
  obtain ⟨h0, h1, h2, h3, h4, h5, -⟩ := blk_cells6 (unhide k).1
  exact ⟨unhide b, h0, h1, h2, h3, h4, h5⟩
theorem kSF {w V : World} {g : Nat} {T : TypeId} {c0 c1 : Value} (b : Hid (Below w.heap.size w V)) (k : Hid (V.heap[g]? = some (.cells #[c0, c1] T (0, 0)) ∧ g < V.heap.size)) :
    Below w.heap.size w V ∧ V.cell? ⟨g, 0, none⟩ = some c0 ∧ V.cell? ⟨g, 1, none⟩ = some c1 := by
  obtain ⟨h0, h1, -⟩ := blk_cells2 (unhide k).1
  exact ⟨unhide b, h0, h1⟩
theorem kalB {w V : World} {o : Obj} (b : Hid (Below w.heap.size w V)) : Hid (Below w.heap.size w (V.alloc o)) := hide ((unhide b).alloc (unhide b).size _)
theorem kalK {V : World} {g : Nat} {o O : Obj} (k : Hid (V.heap[g]? = some O ∧ g < V.heap.size)) : Hid ((V.alloc o).heap[g]? = some O ∧ g < (V.alloc o).heap.size) := hide ⟨(Below.heap_alloc V o g (unhide k).2).trans (unhide k).1, by have := (unhide k).2; simp; omega⟩
theorem below_same {V W w1 : World} (h : Below V.heap.size V w1) (e : V.heap = W.heap ∧ V.os = W.os ∧ V.tape = W.tape ∧ V.output = W.output) : Below W.heap.size W w1 := by
  obtain ⟨e1, e2, e3, e4⟩ := e
  exact ⟨h.os.trans e2, h.tape.trans e3, h.output.trans e4, e1 ▸ h.size, fun k hk => (h.block k (e1 ▸ hk)).trans (by rw [e1])⟩
theorem itextK_any (e : Key) (h : FitK e) (hd : e.2.2.2.2.size ≤ 1048576) (w : World) (hT : Lib.TabIs Tryd.prog w "internal/strconv.uint64pow10" .u64 Lib.pow10Tab) : Calls Tryd.prog 26 #[.agg #[.int .i64 e.1, .int .i64 e.2.1, .int .i64 e.2.2.1, .int .i64 e.2.2.2.1, .string e.2.2.2.2]] w fun r w' => r = .returned (.string (textE e.1 e.2.1 e.2.2.1 e.2.2.2.1 e.2.2.2.2)) ∧ Below w.heap.size w w' :=
  itext_any _ _ _ _ _ h.1.1 h.1.2 h.2.2.1.1 h.2.2.1.2 h.2.2.2.1 h.2.2.2.2 hd w hT
theorem catsI {P : Program} (x : Itm) (hx : x.2.2.2.2.2.size ≤ 1048576) :
    (∀ W : World, (Op.stringOp .add (strOfNums (digs x.1)) ⟨#[61]⟩).run P W = .ok (.string (strOfNums (digs x.1) ++ ⟨#[61]⟩)) W) ∧ (∀ W : World, (Op.stringOp .add (strOfNums (digs x.1) ++ ⟨#[61]⟩) (textE x.2.1 x.2.2.1 x.2.2.2.1 x.2.2.2.2.1 x.2.2.2.2.2)).run P W = .ok (.string (strOfNums (digs x.1) ++ ⟨#[61]⟩ ++ textE x.2.1 x.2.2.1 x.2.2.2.1 x.2.2.2.2.1 x.2.2.2.2.2)) W) := by
  have e1 : (⟨#[61]⟩ : ByteArray).size = 1 := rfl
  have e2 := digs_size x.1
  have e3 := textE_size x.2.1 x.2.2.1 x.2.2.2.1 x.2.2.2.2.1 x.2.2.2.2.2
  refine ⟨?_, ?_⟩
  all_goals
    intro W
    exact run_string_add_sum W _ _ (by (try simp only [ByteArray.size_append]); omega)
theorem catsF {P : Program} (x : Flr) :
    (∀ W : World, (Op.stringOp .add ⟨#[45]⟩ (strOfNums (digs x.1))).run P W = .ok (.string (⟨#[45]⟩ ++ strOfNums (digs x.1))) W) ∧ (∀ W : World, (Op.stringOp .add (⟨#[45]⟩ ++ strOfNums (digs x.1)) ⟨#[60]⟩).run P W = .ok (.string (⟨#[45]⟩ ++ strOfNums (digs x.1) ++ ⟨#[60]⟩)) W) ∧
      (∀ W : World, (Op.stringOp .add (⟨#[45]⟩ ++ strOfNums (digs x.1) ++ ⟨#[60]⟩) (strOfNums (digs x.2))).run P W = .ok (.string (⟨#[45]⟩ ++ strOfNums (digs x.1) ++ ⟨#[60]⟩ ++ strOfNums (digs x.2))) W) := by
  have e1 : (⟨#[45]⟩ : ByteArray).size = 1 := rfl
  have e4 : (⟨#[60]⟩ : ByteArray).size = 1 := rfl
  have e2 := digs_size x.1
  have e3 := digs_size x.2
  refine ⟨?_, ?_, ?_⟩
  all_goals
    intro W
    exact run_string_add_sum W _ _ (by (try simp only [ByteArray.size_append]); omega)

theorem joinnone_any (a : Option Addr) (c : Nat) (w : World) : Calls Tryd.prog 27 #[.slice a 0 c, .string ⟨#[32]⟩] w fun e w' => e = .returned (.string ⟨#[]⟩) ∧ w = w' :=
  (Any.strings_Join_none Tryd.lays156 Tryd.Builder_Extra_156 a c ⟨#[32]⟩ w).mono fun _ _ ⟨h1, h2⟩ => ⟨h1, h2.symm⟩
theorem joinsome_any (g c : Nat) (ws : List ByteArray) (w : World) (hc : ∀ (j : Nat) (y : ByteArray), ws[j]? = some y → w.cell? ⟨g, 0 + j, none⟩ = some (.string y)) (hg : g < w.heap.size) (hN : ws.length ≤ 140737488355328) (hcap : ws.length ≤ c) (hlen : (Lib.join (ws.map (·.data.toList)) [32]).length ≤ 140737488355328) :
    Calls Tryd.prog 27 #[.slice (some ⟨g, 0, none⟩) ws.length c, .string ⟨#[32]⟩] w fun e w' => e = .returned (.string ⟨(Lib.join (ws.map (·.data.toList)) [32]).toArray⟩) ∧ Below w.heap.size w w' :=
  Tryd.strings_Join g 0 c ws ⟨#[32]⟩ w hc hg hN hcap hlen

set_option maxHeartbeats 8000000 in
set_option maxRecDepth 100000 in
theorem itx_any (ai : Option Addr) (ni ci : Nat) (xs : List Itm) (af : Option Addr) (nf cf : Nat) (fs : List Flr) (hfi : FitI xs) (hff : FitF fs) (hs : Sml xs) (w : World) (hT : Lib.TabIs Tryd.prog w "internal/strconv.uint64pow10" .u64 Lib.pow10Tab) (hni : ni ≤ 1048576) (hnf : nf ≤ 1048576) (hx : Rw encI 6 w (.slice ai ni ci) xs) (hf : Rw encF 2 w (.slice af nf cf) fs) :
    Calls Tryd.prog 15 #[.agg #[.slice ai ni ci, .slice af nf cf]] w fun e w' => e = .returned (.string (tx (xs.map wI ++ fs.map wF))) ∧ Below w.heap.size w w' := by
  obtain ⟨i1, gi, gz0, gz1, gz2⟩ := info_parts Tryd.infoTxt
  have HX := hide hx
  have HF := hide hf
  have HFI := hide hfi
  have HFF := hide hff
  have HS := hide hs
  have HT := hide hT
  clear hx hf hfi hff hs hT
  go_enter Tryd.func15, Tryd.ntmps15
  go_wp2
  go_loopw [3, 11] (fun v i wr => ∃ (k : Nat) (a2 : Option Addr) (n2 c2 : Nat), k ≤ ni ∧ i = .int .i64 k ∧ v = .slice a2 n2 c2 ∧ OwZ w.heap.size wr (.slice a2 n2 c2) ((xs.take k).map wI) ∧ Below w.heap.size w wr ∧ wr.heap[w.heap.size]? = some (.cells #[.slice ai ni ci, .slice af nf cf] 31 (0, 0))) (fun _ i _ => ni - (intOf i).toNat)
  case atStart => exact ⟨0, none, 0, 0, Nat.zero_le _, rfl, rfl, World.ownsRow_nil _ _ _ _, (Below.refl _ _).alloc (Nat.le_refl _) _, heap_alloc_new w _⟩
  case round =>
    obtain ⟨k, a2, n2, c2, hk, rfl, rfl, hown, hbel, hblk⟩ := hrel
    have HO := hide hown
    have HB := hide hbel
    have HK := hide hblk
    have hsz := hbel.size
    have hz0 : w.heap.size < wr.heap.size := (Array.getElem?_eq_some_iff.mp hblk).1
    have hn2 : Hid (n2 = ((xs.take k).map wI).length) := hide (hown.rw encZ_len).len.1
    have hn2l : n2 ≤ 1048576 := by have := unhide hn2; simp at this; omega
    obtain ⟨p0, p1, p2⟩ := blk_cells2 hblk
    clear hblk hown
    by_cases hlt : k < ni
    · obtain ⟨x, b, off, hx, rfl, hb, hcap, hc⟩ := (unhide HX).at hlt
      obtain ⟨c0, c1, c2', c3, c4, c5⟩ := item_cells (w := wr) (b := b) (off := off) (k := k) (x := x) (fun j hj => (hbel.cell (p := ⟨b, off + k * 6 + j, none⟩) hb).trans (hc j hj))
      obtain ⟨hxn, hxk⟩ := unhide HFI k x hx
      have hxs := unhide HS k x hx
      have hxk1 := hide hxk
      have HTK := hide (take_map_succ wI hx)
      have hn1 := hxn.1
      have hn3 := hxn.2
      obtain ⟨q1, q2⟩ := catsI (P := Tryd.prog) x hxs
      have hne := own_ne (unhide HO) (unhide HK) (by decide)
      clear hc hx hbel hxk hxn
      go_upto_region 5 with fail
      obtain ⟨V, hV⟩ : ∃ V, V = wr.alloc (.cells #[.int .i64 x.1, .int .i64 x.2.1, .int .i64 x.2.2.1, .int .i64 x.2.2.2.1, .int .i64 x.2.2.2.2.1, .string x.2.2.2.2.2] 50) := ⟨_, rfl⟩
      rw [← hV]
      have bV : Below wr.heap.size wr V := by rw [hV]; exact (Below.refl _ _).alloc (Nat.le_refl _) _
      have KX : Hid (V.heap[wr.heap.size]? = some (.cells #[.int .i64 x.1, .int .i64 x.2.1, .int .i64 x.2.2.1, .int .i64 x.2.2.2.1, .int .i64 x.2.2.2.2.1, .string x.2.2.2.2.2] 50 (0, 0)) ∧ wr.heap.size < V.heap.size) := by rw [hV]; exact hide ⟨heap_alloc_new _ _, by simp⟩
      have BX := hide ((unhide HB).trans (bV.mono hsz))
      have OX := hide ((unhide HO).later bV)
      have SX := hide (And.intro ((bV.block _ hz0).trans (unhide HK)) (Nat.lt_of_lt_of_le hz0 bV.size))
      have LX := hide (World.ownsRow.lt (unhide HO))
      have hzV := bV.size
      have KXD : Hid (V.drew.heap[wr.heap.size]? = some (.cells #[.int .i64 x.1, .int .i64 x.2.1, .int .i64 x.2.2.1, .int .i64 x.2.2.2.1, .int .i64 x.2.2.2.2.1, .string x.2.2.2.2.2] 50 (0, 0)) ∧ wr.heap.size < V.drew.heap.size) := KX
      have BXD : Hid (Below w.heap.size w V.drew) := hide (unhide BX).drew
      clear hV bV p0 p1 p2 c0 c1 c2' c3 c4 c5 HB HK HO
      go_region_held3 (fun W => Below w.heap.size w W ∧ W.cell? ⟨wr.heap.size, 0, none⟩ = some (.int .i64 x.1) ∧ W.cell? ⟨wr.heap.size, 1, none⟩ = some (.int .i64 x.2.1) ∧ W.cell? ⟨wr.heap.size, 2, none⟩ = some (.int .i64 x.2.2.1) ∧ W.cell? ⟨wr.heap.size, 3, none⟩ = some (.int .i64 x.2.2.2.1) ∧ W.cell? ⟨wr.heap.size, 4, none⟩ = some (.int .i64 x.2.2.2.2.1) ∧ W.cell? ⟨wr.heap.size, 5, none⟩ = some (.string x.2.2.2.2.2))
        (first | (with_reducible exact kSI BX KX) | (with_reducible exact kSI BXD KXD) | (with_reducible exact kSI BX1 KX1) | (with_reducible exact kSI BX2 KX2) | (with_reducible exact kSI (kalB BX2) (kalK KX2)) | (with_reducible exact kSI BX3 KX3))
        (first
          | (go_at_call 25; refine (idigits_any x.1 _ hn1 hn3 (tab_later (unhide HT) (unhide BXD) (tab_lt (unhide HT)))).mono ?_; rintro e w1 ⟨rfl, b1⟩; have b1' : Below V.heap.size V w1 := below_same b1 ⟨rfl, rfl, rfl, rfl⟩; have KX1 := hide (keptblk b1' KX); have SX1 := hide (keptblk b1' SX); have BX1 := hide ((unhide BX).trans (b1'.mono (unhide BX).size)); have OX1 := hide ((unhide OX).later b1'); have z1 := b1'.size; clear b1 b1')
          | (go_at_call 26; refine (itextK_any x.2 (unhide hxk1) hxs _ (tab_later (unhide HT) (unhide BX1) (tab_lt (unhide HT)))).mono ?_; rintro e w2 ⟨rfl, b2⟩; have KX2 := hide (keptblk b2 KX1); have SX2 := hide (keptblk b2 SX1); have BX2 := hide ((unhide BX1).trans (b2.mono (unhide BX1).size)); have OX2 := hide ((unhide OX1).later b2); have z2 := b2.size; clear b2)
          | (refine step_app1 encZ_len (by omega) oneZ 9 58 i1 _ 16 Tryd.underlying58 gi gz0 gz1 gz2 rfl (by omega) w2 (wI x) rfl _ _ rfl w.heap.size _ ((xs.take k).map wI) n2 hn2 rfl (unhide OX2) rfl (by omega) (by omega) ?_; intro a3 c3 w3 hO hG; have OX3 := hide hO; have BX3 := hide (grown_low (unhide BX2) hG (unhide BX2).size (fun i q => (unhide LX i q).1)); have KX3 := hide (And.intro ((hG.block _ (unhide KX2).2 (fun q => by have := unhide LX _ q.symm; omega)).trans (unhide KX2).1) (Nat.lt_of_lt_of_le (unhide KX2).2 hG.size)); have SX3 := hide ((hG.block _ (unhide SX2).2 (fun q => hne q.symm)).trans (unhide SX2).1); clear hO hG))
--@rest
      clear OX OX1 OX2 BX BXD BX1 BX2 KX KXD KX1 KX2 KX3 SX SX1 SX2 q1 q2
      go_wp2
      go_roundw
      case rel => exact ⟨k + 1, a3, n2 + 1, c3, by omega, by go_num, rfl, by rw [unhide HTK]; exact unhide OX3, unhide BX3, unhide SX3⟩
      case measure => simp [intOf]; omega
    · have HE : Hid (OwZ w.heap.size wr (.slice a2 n2 c2) (xs.map wI ++ (fs.take 0).map wF)) := by
        have e : xs.take k = xs := List.take_of_length_le (by have := (unhide HX).len.1; omega)
        have h := unhide HO
        rw [e] at h
        exact hide (by simpa using h)
      clear hbel HO hn2 hn2l
      go_wp2
      go_loopw [3, 30] (fun v i wr => ∃ (k : Nat) (a2 : Option Addr) (n2 c2 : Nat), k ≤ nf ∧ i = .int .i64 k ∧ v = .slice a2 n2 c2 ∧ OwZ w.heap.size wr (.slice a2 n2 c2) (xs.map wI ++ (fs.take k).map wF) ∧ Below w.heap.size w wr) (fun _ i _ => nf - (intOf i).toNat)
      case atStart => exact ⟨0, a2, n2, c2, Nat.zero_le _, rfl, rfl, unhide HE, unhide HB⟩
      case round =>
        clear p0 p1 p2 HB HK HE hsz hz0 hlt hk
        obtain ⟨k, a2, n2, c2, hk, rfl, rfl, hown, hbel⟩ := hrel
        have HO := hide hown
        have HB := hide hbel
        have hsz := hbel.size
        have hn2 : Hid (n2 = (xs.map wI ++ (fs.take k).map wF).length) := hide (hown.rw encZ_len).len.1
        have hn2l : n2 ≤ 2097152 := by have h1 := unhide hn2; have h2 := (unhide HX).len.1; rw [List.length_append, List.length_map, List.length_map, List.length_take] at h1; omega
        clear hown
        by_cases hlt : k < nf
        · obtain ⟨x, b, off, hx, rfl, hb, hcap, hc⟩ := (unhide HF).at hlt
          have c0 : wr.cell? ⟨b, off + k * 2, none⟩ = some (.int .i64 x.1) := (hbel.cell (p := ⟨b, off + k * 2 + 0, none⟩) hb).trans (hc 0 (by omega))
          have c1 : wr.cell? ⟨b, off + k * 2 + 1, none⟩ = some (.int .i64 x.2) := (hbel.cell (p := ⟨b, off + k * 2 + 1, none⟩) hb).trans (hc 1 (by omega))
          obtain ⟨⟨hn1, hn3⟩, hn4, hn5⟩ := unhide HFF k x hx
          have HTK := hide (take_map_succ wF hx)
          obtain ⟨q1, q2, q3⟩ := catsF (P := Tryd.prog) x
          clear hc hx hbel
          go_upto_region 10 with fail
          obtain ⟨V, hV⟩ : ∃ V, V = wr.alloc (.cells #[.int .i64 x.1, .int .i64 x.2] 53) := ⟨_, rfl⟩
          rw [← hV]
          have bV : Below wr.heap.size wr V := by rw [hV]; exact (Below.refl _ _).alloc (Nat.le_refl _) _
          have KX : Hid (V.heap[wr.heap.size]? = some (.cells #[.int .i64 x.1, .int .i64 x.2] 53 (0, 0)) ∧ wr.heap.size < V.heap.size) := by rw [hV]; exact hide ⟨heap_alloc_new _ _, by simp⟩
          have BX := hide ((unhide HB).trans (bV.mono hsz))
          have OX := hide ((unhide HO).later bV)
          have LX := hide (World.ownsRow.lt (unhide HO))
          have hzV := bV.size
          have KXD : Hid (V.drew.heap[wr.heap.size]? = some (.cells #[.int .i64 x.1, .int .i64 x.2] 53 (0, 0)) ∧ wr.heap.size < V.drew.heap.size) := KX
          have BXD : Hid (Below w.heap.size w V.drew) := hide (unhide BX).drew
          clear hV bV c0 c1 HB HO
          go_region_held3 (fun W => Below w.heap.size w W ∧ W.cell? ⟨wr.heap.size, 0, none⟩ = some (.int .i64 x.1) ∧ W.cell? ⟨wr.heap.size, 1, none⟩ = some (.int .i64 x.2))
            (first | (with_reducible exact kSF BX KX) | (with_reducible exact kSF BXD KXD) | (with_reducible exact kSF BX1 KX1) | (with_reducible exact kSF BX2 KX2) | (with_reducible exact kSF (kalB BX2) (kalK KX2)) | (with_reducible exact kSF BX3 KX3))
            (first
              | (go_at_call_of 25 (Value.int IntKind.i64 x.1); refine (idigits_any x.1 _ hn1 hn3 (tab_later (unhide HT) (unhide BXD) (tab_lt (unhide HT)))).mono ?_; rintro e w1 ⟨rfl, b1⟩; have b1' : Below V.heap.size V w1 := below_same b1 ⟨rfl, rfl, rfl, rfl⟩; have KX1 := hide (keptblk b1' KX); have BX1 := hide ((unhide BX).trans (b1'.mono (unhide BX).size)); have OX1 := hide ((unhide OX).later b1'); have z1 := b1'.size; clear b1 b1')
              | (go_at_call_of 25 (Value.int IntKind.i64 x.2); refine (idigits_any x.2 _ hn4 hn5 (tab_later (unhide HT) (unhide BX1) (tab_lt (unhide HT)))).mono ?_; rintro e w2 ⟨rfl, b2⟩; have KX2 := hide (keptblk b2 KX1); have BX2 := hide ((unhide BX1).trans (b2.mono (unhide BX1).size)); have OX2 := hide ((unhide OX1).later b2); have z2 := b2.size; clear b2)
              | (refine step_app1 encZ_len (by omega) oneZ 9 58 i1 _ 16 Tryd.underlying58 gi gz0 gz1 gz2 rfl (by omega) w2 (wF x) rfl _ _ rfl w.heap.size _ (xs.map wI ++ (fs.take k).map wF) n2 hn2 rfl (unhide OX2) rfl (by omega) (by omega) ?_; intro a3 c3 w3 hO hG; have OX3 := hide hO; have BX3 := hide (grown_low (unhide BX2) hG (unhide BX2).size (fun i q => (unhide LX i q).1)); have KX3 := hide (And.intro ((hG.block _ (unhide KX2).2 (fun q => by have := unhide LX _ q.symm; omega)).trans (unhide KX2).1) (Nat.lt_of_lt_of_le (unhide KX2).2 hG.size)); clear hO hG))
          clear OX OX1 OX2 BX BXD BX1 BX2 KX KXD KX1 KX2 KX3 q1 q2 q3
          go_wp2
          go_roundw
          case rel => exact ⟨k + 1, a3, n2 + 1, c3, by omega, by go_num, rfl, by rw [unhide HTK, ← List.append_assoc]; exact unhide OX3, unhide BX3⟩
          case measure => simp [intOf]; omega
        · have e : fs.take k = fs := List.take_of_length_le (by have := (unhide HF).len.1; omega)
          have HE : Hid (OwZ w.heap.size wr (.slice a2 n2 c2) (xs.map wI ++ fs.map wF)) := by
            have h := unhide HO
            rw [e] at h
            exact hide h
          have hsz2 := words_size (fs := fs) (unhide HS)
          have HTX := hide (tx_join (xs.map wI ++ fs.map wF) (fun y hy => (hsz2 y hy).2))
          have hlen : (Lib.join ((xs.map wI ++ fs.map wF).map (·.data.toList)) [32]).length ≤ 140737488355328 := by
            rw [join_size _ (fun y hy => (hsz2 y hy).2)]
            have := txF_size (fs := fs) (unhide HS) fs.length (by have := (unhide HX).len.1; omega) (by have := (unhide HF).len.1; omega)
            rw [List.take_length] at this
            omega
          have HLEN := hide hlen
          obtain ⟨ws, hws⟩ : ∃ ws, xs.map wI ++ fs.map wF = ws := ⟨_, rfl⟩
          have HTW : Hid (tx (xs.map wI ++ fs.map wF) = tx ws) := hide (by rw [hws])
          rw [hws] at HE HLEN HTX
          have hwl : ws.length ≤ 140737488355328 := by rw [← hws, List.length_append, List.length_map, List.length_map]; have := (unhide HX).len.1; have := (unhide HF).len.1; omega
          clear hbel HO hn2 e hsz2 hlen hws
          rcases (unhide HE).2 with ⟨hv, h0⟩ | ⟨g, cap, cur, hv, hg0, hg, hcap, _⟩
          · simp only [Value.slice.injEq] at hv
            obtain ⟨rfl, rfl, rfl⟩ := hv
            obtain rfl : ws = [] := List.eq_nil_of_length_eq_zero h0
            clear h0 HE HTX HLEN
            go_wp2_with fail
            refine (joinnone_any _ _ _).mono ?_
            rintro e w1 ⟨rfl, rfl⟩
            go_wp2
            go_ret
            exact ⟨congrArg (fun t => Ending.returned (Value.string t)) (unhide HTW).symm, unhide HB⟩
          · simp only [Value.slice.injEq] at hv
            obtain ⟨rfl, rfl, rfl⟩ := hv
            have hgs : g < wr.heap.size := (Array.getElem?_eq_some_iff.1 hg).1
            have HCL : Hid (∀ (j : Nat) (y : ByteArray), ws[j]? = some y → wr.cell? ⟨g, 0 + j, none⟩ = some (.string y)) := hide (fun j y hy => by
              have hj : j < ws.length := (List.getElem?_eq_some_iff.1 hy).1
              have h := World.ownsRow.cellAt (unhide HE) j (by omega)
              have h2 := flat_at encZ_len ws j y 0 hy (by omega)
              rw [Nat.mul_one, Nat.add_zero] at h2
              rw [Nat.zero_add, h, h2]
              rfl)
            have HTE := hide ((unhide HTW).trans (unhide HTX))
            clear hg HTW HTX
            go_wp2_with fail
            refine (joinsome_any g c2 ws _ (unhide HCL) hgs hwl hcap (unhide HLEN)).mono ?_
            rintro e w1 ⟨rfl, b1⟩
            have HB1 := hide ((unhide HB).trans (b1.mono hsz))
            clear b1 HCL HE HLEN
            generalize (Lib.join (ws.map (·.data.toList)) [32]).toArray = r at HTE ⊢
            go_wp2
            go_ret
            exact ⟨congrArg (fun t => Ending.returned (Value.string t)) (unhide HTE).symm, unhide HB1⟩
end Go.Proofs.YtdpaocikmijioadDoor
