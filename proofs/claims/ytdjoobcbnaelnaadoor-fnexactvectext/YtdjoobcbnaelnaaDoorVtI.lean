/-
  The program's VecText. No statement is proved here.
-/
import Derived.Test.YtdjoobcbnaelnaaDoorVtP
import Derived.Test.YtdjoobcbnaelnaaDoorItoa
import Derived.Test.YtdjoobcbnaelnaaDoorSRow
namespace Go.Proofs.YtdjoobcbnaelnaaDoor
open Go.RowKit

theorem joinnone8 (a : Option Addr) (c : Nat) (w : World) : Calls Tryd.prog 10 #[.slice a 0 c, .string ⟨#[44]⟩] w fun e w' => e = .returned (.string ⟨#[]⟩) ∧ w = w' :=
  (Any.strings_Join_none Tryd.lays156 Tryd.Builder_Extra_156 a c ⟨#[44]⟩ w).mono fun _ _ ⟨h1, h2⟩ => ⟨h1, h2.symm⟩
theorem joinsome8 (g c : Nat) (ws : List ByteArray) (w : World) (hc : ∀ (j : Nat) (y : ByteArray), ws[j]? = some y → w.cell? ⟨g, 0 + j, none⟩ = some (.string y)) (hg : g < w.heap.size) (hN : ws.length ≤ 140737488355328) (hcap : ws.length ≤ c) (hlen : (Lib.join (ws.map (·.data.toList)) [44]).length ≤ 140737488355328) :
    Calls Tryd.prog 10 #[.slice (some ⟨g, 0, none⟩) ws.length c, .string ⟨#[44]⟩] w fun e w' => e = .returned (.string ⟨(Lib.join (ws.map (·.data.toList)) [44]).toArray⟩) ∧ Below w.heap.size w w' :=
  Tryd.strings_Join g 0 c ws ⟨#[44]⟩ w hc hg hN hcap hlen
theorem words8 (ns : List Int) : (ns.map wN).map (·.data.toList) = ns.map wB := by rw [List.map_map]; rfl

set_option maxHeartbeats 4000000 in
set_option maxRecDepth 100000 in
theorem ivectext_any (a : Option Addr) (n c : Nat) (ns : List Int) (t : ByteArray) (ht : Hid (vtx ns = t)) (hfit : FitNs ns) (w : World) (hT : Lib.TabIs Tryd.prog w "internal/strconv.uint64pow10" .u64 Lib.pow10Tab) (hn : n ≤ 1048576) (h : RwN w (.slice a n c) ns) :
    Calls Tryd.prog 6 #[.slice a n c] w fun e w' => e = .returned (.string t) ∧ Below w.heap.size w w' := by
  obtain ⟨i1, gi, gz0, gz1, gz2⟩ := info_parts Tryd.infoText
  have HR := hide h
  have HN := hide h.len.1
  have HF := hide hfit
  have HT := hide hT
  clear h hfit hT
  go_enter Tryd.func6, Tryd.ntmps6
  go_wp2
  go_loopw [3, 8] (fun u i wr => ∃ (k : Nat) (a2 : Option Addr) (c2 : Nat), k ≤ n ∧ i = .int .i64 k ∧ u = .slice a2 k c2 ∧ OwX w.heap.size wr (.slice a2 k c2) ((ns.take k).map wN) ∧ Below w.heap.size w wr) (fun _ i _ => n - (intOf i).toNat)
  case atStart => exact ⟨0, none, 0, Nat.zero_le _, rfl, rfl, World.ownsRow_nil _ _ _ _, Below.refl _ _⟩
  case round =>
    obtain ⟨k, a2, c2, hk, rfl, rfl, hown, hbel⟩ := hrel
    have HO := hide hown
    have HB := hide hbel
    have hsz := hbel.size
    have HKL : Hid (k = ((ns.take k).map wN).length) := hide (hown.rw encX_len).len.1
    clear hown
    by_cases hlt : k < n
    · obtain ⟨z, b, off, hz, rfl, hb, hc, cz⟩ := ((unhide HR).later hbel).atN hlt
      obtain ⟨f1, f2⟩ := unhide HF k z hz
      have HE : Hid ((ns.take (k + 1)).map wN = (ns.take k).map wN ++ [strOfNums (digs z)]) := hide (by rw [take_next hz, List.map_append]; rfl)
      clear hz hbel
      go_wp2_with fail
      refine (idigits_any z _ f1 f2 (tab_later (unhide HT) (unhide HB) (tab_lt (unhide HT)))).mono ?_
      rintro e w2 ⟨rfl, b2⟩
      have HB2 := hide ((unhide HB).trans (b2.mono hsz))
      have HO2 := hide ((unhide HO).later b2)
      have hsz2 := (unhide HB2).size
      clear b2
      go_wp2_with (first | (at_builtin; refine wpList_app1 encX_len (by omega) oneX 9 28 i1 _ 16 Tryd.underlying28 gi gz0 gz1 gz2 rfl (by omega) w2 (strOfNums (digs z)) rfl _ _ rfl w.heap.size _ _ k HKL rfl (unhide HO2) rfl (by omega) hsz2 ?_; intro a8 c8 w4 hO hG; have HO4 := hide hO; have HB4 := hide ((unhide HB2).grown hG hsz2 (fun i q => by have := (World.ownsRow.lt (unhide HO2) i q).1; omega)); clear hO hG))
      go_roundw
      case rel => exact ⟨k + 1, a8, c8, by omega, by go_num, rfl, by rw [unhide HE]; exact unhide HO4, unhide HB4⟩
      case measure => simp [intOf]; omega
    · obtain rfl : n = k := by omega
      have HE : Hid ((ns.take n).map wN = ns.map wN) := hide (by rw [List.take_of_length_le (by have := unhide HN; omega)])
      by_cases h0 : n = 0
      · have HT0 : Hid (t = ⟨#[]⟩) := hide (by
          have : ns = [] := List.eq_nil_of_length_eq_zero (by have := unhide HN; omega)
          rw [← unhide ht, this, vtx_nil])
        have HJ : Hid (Calls Tryd.prog 10 #[.slice a2 n c2, .string ⟨#[44]⟩] wr fun e w' => e = .returned (.string ⟨#[]⟩) ∧ wr = w') := hide (by rw [h0]; exact joinnone8 a2 c2 wr)
        clear hbel h0
        go_wp2_with fail
        refine (unhide HJ).mono ?_
        rintro e _ ⟨rfl, rfl⟩
        go_wp2
        go_ret
        exact ⟨by rw [unhide HT0]; rfl, unhide HB⟩
      · obtain ⟨g, rfl, hg, hl, hcap, hcl⟩ := OwX.spread (unhide HO) (by omega)
        rw [unhide HE] at hl hcl
        have HC := hide hcl
        have HL := hide hl
        have HJ := hide (joinsome8 g c2 (ns.map wN) wr hcl hg (by omega) (by omega) (by rw [words8]; have := vtx_size ns; have := unhide HN; omega))
        have HJ2 : Hid (Calls Tryd.prog 10 #[.slice (some ⟨g, 0, none⟩) n c2, .string ⟨#[44]⟩] wr fun e w' => e = .returned (.string t) ∧ Below wr.heap.size wr w') := hide (by
          have h := unhide HJ
          rw [words8, ← unhide HL] at h
          rw [← unhide ht]
          exact h)
        clear hl hcl HJ hbel
        go_wp2_with fail
        refine (unhide HJ2).mono ?_
        rintro e w2 ⟨rfl, b2⟩
        have HB2 := hide ((unhide HB).trans (b2.mono hsz))
        clear b2
        go_wp2
        go_ret
        exact ⟨rfl, unhide HB2⟩
end Go.Proofs.YtdjoobcbnaelnaaDoor
