/-
  Reading a number: the list function 'getN' (the number that begins at that place and the place behind it, or none); the specification's GetNum and the program's readNum return what it says. No statement is proved here.
  The specification's GetNum returns what the list function 'getN' says. No statement is proved here.
  The specification's GetText returns what the list function 'getT' says. No statement is proved here.
-/
import Derived.Test.YtjlocbimkfocnaaMsX
namespace Go.Proofs.Ytjlocbimkfocnaa
open Go.RowKit

def gres : Option (Int × Int) → Value
  | none => .tuple #[.int .i64 0, .int .i64 0, .bool false]
  | some (n, p) => .tuple #[.int .i64 n, .int .i64 p, .bool true]

/-- How the reader ends: what is no number is a panic. -/
def rend : Option (Int × Int) → Ending
  | none => .panicked [{ v := .iface 9 (.string ⟨#[110, 111, 32, 110, 117, 109, 98, 101, 114]⟩), recovered := false }]
  | some (n, p) => .returned (.tuple #[.int .i64 n, .int .i64 p])
def Step (k : Nat) (u : Int) : Prop := (k = 0 ∧ u = 1) ∨ (k = 1 ∧ u = 128) ∨ (k = 2 ∧ u = 16384) ∨ (k = 3 ∧ u = 2097152) ∨ (k = 4 ∧ u = 268435456) ∨ (k = 5 ∧ u = 34359738368)
theorem rend_some {xs : List Int} {p n q n' q' : Int} (h : getN xs p = some (n, q)) (h1 : n' = n) (h2 : q' = q) : Ending.returned (.tuple #[.int .i64 n', .int .i64 q']) = rend (getN xs p) := by rw [h, h1, h2]; rfl
theorem rend_none {xs : List Int} {p : Int} (h : getN xs p = none) : Ending.panicked [{ v := .iface 9 (.string ⟨#[110, 111, 32, 110, 117, 109, 98, 101, 114]⟩), recovered := false }] = rend (getN xs p) := by rw [h]; rfl

theorem gres_some {xs : List Int} {p n q n' q' : Int} (h : getN xs p = some (n, q)) (h1 : n' = n) (h2 : q' = q) : Ending.returned (.tuple #[.int .i64 n', .int .i64 q', .bool true]) = .returned (gres (getN xs p)) := by rw [h, h1, h2]; rfl
theorem gres_none {xs : List Int} {p : Int} (h : getN xs p = none) : Ending.returned (.tuple #[.int .i64 0, .int .i64 0, .bool false]) = .returned (gres (getN xs p)) := by rw [h]; rfl

set_option maxHeartbeats 4000000 in
set_option maxRecDepth 100000 in
theorem readnum_any (v : Value) (xs : List Int) (p : Int) (w : World) (hlen : xs.length ≤ 140737488351232) (hbd : ∀ z ∈ xs, 0 ≤ z ∧ z ≤ 255) (hv : Seg w v xs) (hp : -9223372036854775808 ≤ p) (hp' : p ≤ 9223372036854775807) :
    Calls Try.prog 134 #[v, .int .i64 p] w fun e w' => e = rend (getN xs p) ∧ w = w' := by
  obtain ⟨a, cap, rfl, hcap, h⟩ := hv
  by_cases hneg : p < 0
  · have HG := hide (show getN xs p = none by simp [getN, hneg])
    clear h hbd
    go_enter Try.func134, Try.ntmps134
    go_wp2
    exact ⟨rfl, rend_none (unhide HG), rfl⟩
  · obtain ⟨q, rfl⟩ := Int.eq_ofNat_of_zero_le (show 0 ≤ p by omega)
    have hG : gnum 5 1 0 (xs.drop q) q = getN xs q := by simp [getN, hneg]
    have hcell : ∀ r : Nat, r < xs.length → ∃ b off, a = some ⟨b, off, none⟩ ∧ w.cell? ⟨b, off + r, none⟩ = some (.int .u8 (xs.getD r 0)) := by
      intro r hr
      rcases h with rfl | ⟨b, off, rfl, _, hc⟩
      · simp at hr
      · exact ⟨b, off, rfl, hc r hr⟩
    have HB := hide hbd
    have HG := hide hG
    clear hbd hG hneg
    have HC : Hid (xs = [] ∨ ∃ b off, a = some ⟨b, off, none⟩ ∧ ∀ r, r < xs.length → w.cell? ⟨b, off + r, none⟩ = some (.int .u8 (xs.getD r 0))) := by
      rcases h with h | ⟨b, off, h1, _, hc⟩
      · exact .inl h
      · exact .inr ⟨b, off, h1, hc⟩
    clear h hcell
    rcases unhide HC with rfl | ⟨b, off, rfl, hc⟩
    · have hg : getN [] (q : Int) = none := by rw [← unhide HG]; simp [gnum_nil]
      have HN := hide hg
      clear hg HG HB HC
      have hd : decide ((q : Int) < 0) = false := by simp
      go_enter Try.func134, Try.ntmps134
      go_wp2
      go_loop [1, 6, 7] (fun x n u => x = .int .i64 q ∧ n = .int .i64 0 ∧ u = .int .i64 1) (fun _ _ _ => 0)
      case atStart => exact ⟨rfl, rfl, rfl⟩
      case round =>
        obtain ⟨rfl, rfl, rfl⟩ := hrel
        have hd2 : decide ((q : Int) < 0) = false := by simp
        go_wp2
        exact ⟨rfl, rend_none (unhide HN), rfl⟩
    · have HD := hide hc
      clear hc HC
      have hd : decide ((q : Int) < 0) = false := by simp
      go_enter Try.func134, Try.ntmps134
      go_wp2
      go_loop [1, 6, 7] (fun x n u => ∃ (k r : Nat) (m c : Int), x = .int .i64 r ∧ n = .int .i64 m ∧ u = .int .i64 c ∧ Step k c ∧ 0 ≤ m ∧ m < c ∧ gnum (5 - k) c m (xs.drop r) r = getN xs q) (fun x _ _ => xs.length - (intOf x).toNat)
      case atStart => exact ⟨0, q, 0, 1, rfl, rfl, rfl, .inl ⟨rfl, rfl⟩, by omega, by omega, unhide HG⟩
      case round =>
        obtain ⟨k, r, m, c, rfl, rfl, rfl, hst, hm0, hm1, hrec⟩ := hrel
        have HR := hide hrec
        clear hrec HG
        by_cases hlt : r < xs.length
        · have hcx := unhide HD r hlt
          have hzb := unhide HB (xs.getD r 0) (by simp [hlt])
          have hdc := drop_cons xs r hlt
          have hdl : decide ((r : Int) < (xs.length : Int)) = true := by simp [hlt]
          generalize hz : xs.getD r 0 = z at hcx hzb hdc
          obtain ⟨hz0, hz1⟩ := hzb
          have HDC := hide hdc
          clear hz hdc
          rcases hst with ⟨rfl, rfl⟩ | ⟨rfl, rfl⟩ | ⟨rfl, rfl⟩ | ⟨rfl, rfl⟩ | ⟨rfl, rfl⟩ | ⟨rfl, rfl⟩
          · have hrr : gnum (4 + 1) 1 m (z :: xs.drop (r + 1)) r = getN xs q := by rw [← unhide HDC]; exact unhide HR
            have HRR := hide hrr
            clear hrr HR
            by_cases h128 : z < 128
            · by_cases hbig : 2147483647 < m + z * 1
              · exfalso
                omega
              · have hd1 : decide (2147483647 < m + z * 1) = false := by simpa using hbig
                have HN := hide ((unhide HRR).symm.trans (gnum_end 4 1 m z r _ h128 (by omega)))
                clear HRR
                by_cases hz : z = 0
                · have hd2 : (z == 0) = true := by simpa using hz
                  go_wp2
                  go_ret2
                  exact ⟨rend_some (unhide HN) (by omega) (by omega), rfl⟩
                · have hd2 : (z == 0) = false := by simpa using hz
                  go_wp2
                  go_ret2
                  exact ⟨rend_some (unhide HN) (by omega) (by omega), rfl⟩
            · have HN := hide ((gnum_more 4 1 m z r _ h128).symm.trans (unhide HRR))
              clear HRR
              go_wp2
              go_round
              case rel => exact ⟨1, r + 1, m + (z - 128) * 1, 1 * 128, by go_num, by first | rfl | exact int_eq (by omega), by first | rfl | exact int_eq (by omega), .inr (.inl ⟨rfl, rfl⟩), by omega, by omega, unhide HN⟩
              case measure => simp [intOf]; omega
          · have hrr : gnum (3 + 1) 128 m (z :: xs.drop (r + 1)) r = getN xs q := by rw [← unhide HDC]; exact unhide HR
            have HRR := hide hrr
            clear hrr HR
            by_cases h128 : z < 128
            · by_cases hbig : 2147483647 < m + z * 128
              · exfalso
                omega
              · have hd1 : decide (2147483647 < m + z * 128) = false := by simpa using hbig
                by_cases hz : z = 0
                · have HN := hide ((unhide HRR).symm.trans (gnum_bad 3 128 m z r _ h128 (.inr ⟨hz, by omega⟩)))
                  have hd2 : (z == 0) = true := by simpa using hz
                  clear HRR
                  subst hz
                  go_wp2
                  exact ⟨rfl, rend_none (unhide HN), rfl⟩
                · have HN := hide ((unhide HRR).symm.trans (gnum_end 3 128 m z r _ h128 (by omega)))
                  have hd2 : (z == 0) = false := by simpa using hz
                  clear HRR
                  go_wp2
                  go_ret2
                  exact ⟨rend_some (unhide HN) (by omega) (by omega), rfl⟩
            · have HN := hide ((gnum_more 3 128 m z r _ h128).symm.trans (unhide HRR))
              clear HRR
              go_wp2
              go_round
              case rel => exact ⟨2, r + 1, m + (z - 128) * 128, 128 * 128, by go_num, by first | rfl | exact int_eq (by omega), by first | rfl | exact int_eq (by omega), .inr (.inr (.inl ⟨rfl, rfl⟩)), by omega, by omega, unhide HN⟩
              case measure => simp [intOf]; omega
          · have hrr : gnum (2 + 1) 16384 m (z :: xs.drop (r + 1)) r = getN xs q := by rw [← unhide HDC]; exact unhide HR
            have HRR := hide hrr
            clear hrr HR
            by_cases h128 : z < 128
            · by_cases hbig : 2147483647 < m + z * 16384
              · exfalso
                omega
              · have hd1 : decide (2147483647 < m + z * 16384) = false := by simpa using hbig
                by_cases hz : z = 0
                · have HN := hide ((unhide HRR).symm.trans (gnum_bad 2 16384 m z r _ h128 (.inr ⟨hz, by omega⟩)))
                  have hd2 : (z == 0) = true := by simpa using hz
                  clear HRR
                  subst hz
                  go_wp2
                  exact ⟨rfl, rend_none (unhide HN), rfl⟩
                · have HN := hide ((unhide HRR).symm.trans (gnum_end 2 16384 m z r _ h128 (by omega)))
                  have hd2 : (z == 0) = false := by simpa using hz
                  clear HRR
                  go_wp2
                  go_ret2
                  exact ⟨rend_some (unhide HN) (by omega) (by omega), rfl⟩
            · have HN := hide ((gnum_more 2 16384 m z r _ h128).symm.trans (unhide HRR))
              clear HRR
              go_wp2
              go_round
              case rel => exact ⟨3, r + 1, m + (z - 128) * 16384, 16384 * 128, by go_num, by first | rfl | exact int_eq (by omega), by first | rfl | exact int_eq (by omega), .inr (.inr (.inr (.inl ⟨rfl, rfl⟩))), by omega, by omega, unhide HN⟩
              case measure => simp [intOf]; omega
          · have hrr : gnum (1 + 1) 2097152 m (z :: xs.drop (r + 1)) r = getN xs q := by rw [← unhide HDC]; exact unhide HR
            have HRR := hide hrr
            clear hrr HR
            by_cases h128 : z < 128
            · by_cases hbig : 2147483647 < m + z * 2097152
              · exfalso
                omega
              · have hd1 : decide (2147483647 < m + z * 2097152) = false := by simpa using hbig
                by_cases hz : z = 0
                · have HN := hide ((unhide HRR).symm.trans (gnum_bad 1 2097152 m z r _ h128 (.inr ⟨hz, by omega⟩)))
                  have hd2 : (z == 0) = true := by simpa using hz
                  clear HRR
                  subst hz
                  go_wp2
                  exact ⟨rfl, rend_none (unhide HN), rfl⟩
                · have HN := hide ((unhide HRR).symm.trans (gnum_end 1 2097152 m z r _ h128 (by omega)))
                  have hd2 : (z == 0) = false := by simpa using hz
                  clear HRR
                  go_wp2
                  go_ret2
                  exact ⟨rend_some (unhide HN) (by omega) (by omega), rfl⟩
            · have HN := hide ((gnum_more 1 2097152 m z r _ h128).symm.trans (unhide HRR))
              clear HRR
              go_wp2
              go_round
              case rel => exact ⟨4, r + 1, m + (z - 128) * 2097152, 2097152 * 128, by go_num, by first | rfl | exact int_eq (by omega), by first | rfl | exact int_eq (by omega), .inr (.inr (.inr (.inr (.inl ⟨rfl, rfl⟩)))), by omega, by omega, unhide HN⟩
              case measure => simp [intOf]; omega
          · have hrr : gnum (0 + 1) 268435456 m (z :: xs.drop (r + 1)) r = getN xs q := by rw [← unhide HDC]; exact unhide HR
            have HRR := hide hrr
            clear hrr HR
            by_cases h128 : z < 128
            · by_cases hbig : 2147483647 < m + z * 268435456
              · have HN := hide ((unhide HRR).symm.trans (gnum_bad 0 268435456 m z r _ h128 (.inl hbig)))
                have hd1 : decide (2147483647 < m + z * 268435456) = true := by simpa using hbig
                clear HRR
                go_wp2
                exact ⟨rfl, rend_none (unhide HN), rfl⟩
              · have hd1 : decide (2147483647 < m + z * 268435456) = false := by simpa using hbig
                by_cases hz : z = 0
                · have HN := hide ((unhide HRR).symm.trans (gnum_bad 0 268435456 m z r _ h128 (.inr ⟨hz, by omega⟩)))
                  have hd2 : (z == 0) = true := by simpa using hz
                  clear HRR
                  subst hz
                  go_wp2
                  exact ⟨rfl, rend_none (unhide HN), rfl⟩
                · have HN := hide ((unhide HRR).symm.trans (gnum_end 0 268435456 m z r _ h128 (by omega)))
                  have hd2 : (z == 0) = false := by simpa using hz
                  clear HRR
                  go_wp2
                  go_ret2
                  exact ⟨rend_some (unhide HN) (by omega) (by omega), rfl⟩
            · have HN := hide ((gnum_more 0 268435456 m z r _ h128).symm.trans (unhide HRR))
              clear HRR
              go_wp2
              go_round
              case rel => exact ⟨5, r + 1, m + (z - 128) * 268435456, 268435456 * 128, by go_num, by first | rfl | exact int_eq (by omega), by first | rfl | exact int_eq (by omega), .inr (.inr (.inr (.inr (.inr (⟨rfl, rfl⟩))))), by omega, by omega, unhide HN⟩
              case measure => simp [intOf]; omega
          · have HN := hide (show getN xs q = none from (unhide HR).symm)
            clear HR
            go_wp2
            exact ⟨rfl, rend_none (unhide HN), rfl⟩
        · have HN := hide (show getN xs q = none by rw [← unhide HR, List.drop_eq_nil_of_le (by omega), gnum_nil])
          have hdl : decide ((r : Int) < (xs.length : Int)) = false := by simp; omega
          clear HR
          go_wp2
          exact ⟨rfl, rend_none (unhide HN), rfl⟩

end Go.Proofs.Ytjlocbimkfocnaa

namespace Go.Proofs.Ytjlocbimkfocnaa
open Go.RowKit

theorem or_nat (a b : Nat) (ha : a < 9223372036854775808) (hb : b < 9223372036854775808) : bits .or .i64 (a : Int) (b : Int) = ((a ||| b : Nat) : Int) := by
  have hx : a ||| b < 2 ^ 63 := Nat.or_lt_two_pow (by omega) (by omega)
  have h1 : (BitVec.ofInt 64 (a : Int)).toNat = a := by
    rw [BitVec.ofInt_natCast, BitVec.toNat_ofNat]; exact Nat.mod_eq_of_lt (by omega)
  have h2 : (BitVec.ofInt 64 (b : Int)).toNat = b := by
    rw [BitVec.ofInt_natCast, BitVec.toNat_ofNat]; exact Nat.mod_eq_of_lt (by omega)
  show IntKind.i64.wrap ((BitVec.ofInt 64 (a : Int) ||| BitVec.ofInt 64 (b : Int)).toNat : Int) = _
  rw [BitVec.toNat_or, h1, h2, IntKind.wrap_i64]
  omega
theorem or_sum (s c : Nat) (m y : Int) (hc : c = 2 ^ s) (h0 : 0 ≤ m) (h1 : m < c) (hy : 0 ≤ y) (hb : m + y * c < 9223372036854775808) (hyc : 0 ≤ y * c) : bits BinOp.or IntKind.i64 m (y * c) = m + y * c := by
  obtain ⟨a, rfl⟩ := Int.eq_ofNat_of_zero_le h0
  obtain ⟨b, rfl⟩ := Int.eq_ofNat_of_zero_le hy
  have e : (b : Int) * (c : Int) = ((b * c : Nat) : Int) := by simp
  rw [e] at hb hyc ⊢
  rw [or_nat a (b * c) (by omega) (by omega)]
  have h := Nat.shiftLeft_add_eq_or_of_lt (b := a) (i := s) (by omega) b
  rw [Nat.shiftLeft_eq, ← hc] at h
  rw [Nat.or_comm, ← h]
  omega

set_option maxHeartbeats 4000000 in
set_option maxRecDepth 100000 in
theorem sgetnum_neg (a : Option Addr) (cap len : Nat) (xs : List Int) (p : Int) (w : World) (hp : p < 0) : Calls Try.prog 76 #[.slice a len cap, .int .i64 p] w fun e w' => e = .returned (gres (getN xs p)) ∧ w = w' := by
  have HN := hide (show getN xs p = none by simp [getN, hp])
  have hd : decide (p < 0) = true := by simpa using hp
  go_enter Try.func76, Try.ntmps76
  go_wp2
  go_loop [7, 8] (fun n i => n = .int .i64 0 ∧ i = .int .i64 0) (fun _ i => 0)
  case atStart => exact ⟨rfl, rfl⟩
  case round =>
    obtain ⟨rfl, rfl⟩ := hrel
    go_wp2
    go_ret3
    exact ⟨gres_none (unhide HN), rfl⟩

set_option maxHeartbeats 4000000 in
set_option maxRecDepth 100000 in
theorem sgetnum_nil (a : Option Addr) (cap : Nat) (q : Nat) (w : World) : Calls Try.prog 76 #[.slice a 0 cap, .int .i64 q] w fun e w' => e = .returned (gres (getN [] q)) ∧ w = w' := by
  have HN := hide (show getN [] (q : Int) = none by simp [getN, gnum_nil])
  have hd : decide ((q : Int) < 0) = false := by simp
  go_enter Try.func76, Try.ntmps76
  go_wp2
  go_loop [7, 8] (fun n i => n = .int .i64 0 ∧ i = .int .i64 0) (fun _ i => 0)
  case atStart => exact ⟨rfl, rfl⟩
  case round =>
    obtain ⟨rfl, rfl⟩ := hrel
    have hd : decide ((q : Int) < 0) = false := by simp
    go_wp2
    go_ret3
    exact ⟨gres_none (unhide HN), rfl⟩

set_option maxHeartbeats 4000000 in
set_option maxRecDepth 100000 in
theorem sgetnum_row (b off cap : Nat) (xs : List Int) (q : Nat) (w : World) (hlen : xs.length ≤ 140737488351232) (hq : (q : Int) ≤ 9223372036854775807)
    (HB : Hid (∀ z ∈ xs, 0 ≤ z ∧ z ≤ 255)) (HD : Hid (∀ r, r < xs.length → w.cell? ⟨b, off + r, none⟩ = some (.int .u8 (xs.getD r 0)))) (HG : Hid (gnum 5 1 0 (xs.drop q) q = getN xs q)) :
    Calls Try.prog 76 #[.slice (some ⟨b, off, none⟩) xs.length cap, .int .i64 q] w fun e w' => e = .returned (gres (getN xs q)) ∧ w = w' := by
  have hd : decide ((q : Int) < 0) = false := by simp
  go_enter Try.func76, Try.ntmps76
  go_wp2
  go_loop [7, 8] (fun n i => ∃ (k : Nat) (m c : Int), n = .int .i64 m ∧ i = .int .i64 k ∧ Step k c ∧ 0 ≤ m ∧ m < c ∧ gnum (5 - k) c m (xs.drop (q + k)) ((q + k : Nat) : Int) = getN xs q) (fun _ i => 5 - (intOf i).toNat)
  case atStart => exact ⟨0, 0, 1, rfl, rfl, .inl ⟨rfl, rfl⟩, by omega, by omega, unhide HG⟩
  case round =>
    obtain ⟨k, m, c, rfl, rfl, hst, hm0, hm1, hrec⟩ := hrel
    have HR := hide hrec
    clear hrec HG
    have hd : decide ((q : Int) < 0) = false := by simp
    rcases hst with ⟨rfl, rfl⟩ | ⟨rfl, rfl⟩ | ⟨rfl, rfl⟩ | ⟨rfl, rfl⟩ | ⟨rfl, rfl⟩ | ⟨rfl, rfl⟩
    · obtain rfl : m = 0 := by omega
      by_cases hlt : q < xs.length
      · have hcx := unhide HD q hlt
        have hzb := unhide HB (xs.getD q 0) (by simp [hlt])
        have hdc := drop_cons xs q hlt
        have hdl : decide ((xs.length : Int) ≤ (q : Int)) = false := by simp; omega
        generalize hz : xs.getD q 0 = z at hcx hzb hdc
        obtain ⟨hz0, hz1⟩ := hzb
        have hrr : gnum (4 + 1) 1 0 (z :: xs.drop (q + 1)) (q : Int) = getN xs q := by rw [← hdc]; exact unhide HR
        have HRR := hide hrr
        clear hz hdc hrr HR
        by_cases h128 : z < 128
        · have hmod : z % 128 = z := by omega
          have hor : bits BinOp.or IntKind.i64 0 z = z := by have := or_sum 0 1 0 z (by decide) (by omega) (by omega) (by omega) (by omega) (by omega); simpa using this
          by_cases hbig : 2147483647 < 0 + z * 1
          · exfalso
            omega
          · have hd1 : decide (2147483647 < z) = false := by simp; omega
            by_cases hz : z = 0
            · have HN := hide ((unhide HRR).symm.trans (gnum_end 4 1 0 z _ _ h128 (by omega)))
              clear HRR
              subst hz
              go_wp2
              go_ret3
              exact ⟨gres_some (unhide HN) (by omega) (by omega), rfl⟩
            · have hd2 : (z == 0) = false := by simpa using hz
              have HN := hide ((unhide HRR).symm.trans (gnum_end 4 1 0 z _ _ h128 (by omega)))
              clear HRR
              go_wp2
              go_ret3
              exact ⟨gres_some (unhide HN) (by omega) (by omega), rfl⟩
        · have hmod : z % 128 = z - 128 := by omega
          have hor : bits BinOp.or IntKind.i64 0 (z - 128) = z - 128 := by have := or_sum 0 1 0 (z - 128) (by decide) (by omega) (by omega) (by omega) (by omega) (by omega); simpa using this
          have HN := hide ((gnum_more 4 1 0 z _ _ h128).symm.trans (unhide HRR))
          clear HRR
          go_wp2
          go_round
          case rel => exact ⟨1, 0 + (z - 128) * 1, 1 * 128, by first | rfl | exact int_eq (by omega), by go_num, .inr (.inl ⟨rfl, rfl⟩), by omega, by omega, unhide HN⟩
          case measure => simp [intOf]
      · have HN := hide (show getN xs q = none by rw [← unhide HR, List.drop_eq_nil_of_le (by omega), gnum_nil])
        have hdl : decide ((xs.length : Int) ≤ (q : Int)) = true := by simp; omega
        clear HR
        go_wp2
        go_ret3
        exact ⟨gres_none (unhide HN), rfl⟩
    · by_cases hlt : q + 1 < xs.length
      · have hcx := unhide HD (q + 1) hlt
        have hzb := unhide HB (xs.getD (q + 1) 0) (by simp [hlt])
        have hdc := drop_cons xs (q + 1) hlt
        have hdl : decide ((xs.length : Int) - 1 ≤ (q : Int)) = false := by simp; omega
        generalize hz : xs.getD (q + 1) 0 = z at hcx hzb hdc
        obtain ⟨hz0, hz1⟩ := hzb
        have hrr : gnum (3 + 1) 128 m (z :: xs.drop (q + 1 + 1)) ((q + 1 : Nat) : Int) = getN xs q := by rw [← hdc]; exact unhide HR
        have HRR := hide hrr
        clear hz hdc hrr HR
        by_cases h128 : z < 128
        · have hmod : z % 128 = z := by omega
          have hor : bits BinOp.or IntKind.i64 m (z * 128) = m + z * 128 := by have := or_sum 7 128 m z (by decide) (by omega) (by omega) (by omega) (by omega) (by omega); simpa using this
          by_cases hbig : 2147483647 < m + z * 128
          · exfalso
            omega
          · have hd1 : decide (2147483647 < m + z * 128) = false := by simp; omega
            by_cases hz : z = 0
            · have hd2 : (z == 0) = true := by simpa using hz
              have HN := hide ((unhide HRR).symm.trans (gnum_bad 3 128 m z _ _ h128 (.inr ⟨hz, by omega⟩)))
              clear HRR
              go_wp2
              go_ret3
              exact ⟨gres_none (unhide HN), rfl⟩
            · have hd2 : (z == 0) = false := by simpa using hz
              have HN := hide ((unhide HRR).symm.trans (gnum_end 3 128 m z _ _ h128 (by omega)))
              clear HRR
              go_wp2
              go_ret3
              exact ⟨gres_some (unhide HN) (by omega) (by omega), rfl⟩
        · have hmod : z % 128 = z - 128 := by omega
          have hor : bits BinOp.or IntKind.i64 m ((z - 128) * 128) = m + (z - 128) * 128 := by have := or_sum 7 128 m (z - 128) (by decide) (by omega) (by omega) (by omega) (by omega) (by omega); simpa using this
          have HN := hide ((gnum_more 3 128 m z _ _ h128).symm.trans (unhide HRR))
          clear HRR
          go_wp2
          go_round
          case rel => exact ⟨2, m + (z - 128) * 128, 128 * 128, by first | rfl | exact int_eq (by omega), by go_num, .inr (.inr (.inl ⟨rfl, rfl⟩)), by omega, by omega, unhide HN⟩
          case measure => simp [intOf]
      · have HN := hide (show getN xs q = none by rw [← unhide HR, List.drop_eq_nil_of_le (by omega), gnum_nil])
        have hdl : decide ((xs.length : Int) - 1 ≤ (q : Int)) = true := by simp; omega
        clear HR
        go_wp2
        go_ret3
        exact ⟨gres_none (unhide HN), rfl⟩
    · by_cases hlt : q + 2 < xs.length
      · have hcx := unhide HD (q + 2) hlt
        have hzb := unhide HB (xs.getD (q + 2) 0) (by simp [hlt])
        have hdc := drop_cons xs (q + 2) hlt
        have hdl : decide ((xs.length : Int) - 2 ≤ (q : Int)) = false := by simp; omega
        generalize hz : xs.getD (q + 2) 0 = z at hcx hzb hdc
        obtain ⟨hz0, hz1⟩ := hzb
        have hrr : gnum (2 + 1) 16384 m (z :: xs.drop (q + 2 + 1)) ((q + 2 : Nat) : Int) = getN xs q := by rw [← hdc]; exact unhide HR
        have HRR := hide hrr
        clear hz hdc hrr HR
        by_cases h128 : z < 128
        · have hmod : z % 128 = z := by omega
          have hor : bits BinOp.or IntKind.i64 m (z * 16384) = m + z * 16384 := by have := or_sum 14 16384 m z (by decide) (by omega) (by omega) (by omega) (by omega) (by omega); simpa using this
          by_cases hbig : 2147483647 < m + z * 16384
          · exfalso
            omega
          · have hd1 : decide (2147483647 < m + z * 16384) = false := by simp; omega
            by_cases hz : z = 0
            · have hd2 : (z == 0) = true := by simpa using hz
              have HN := hide ((unhide HRR).symm.trans (gnum_bad 2 16384 m z _ _ h128 (.inr ⟨hz, by omega⟩)))
              clear HRR
              go_wp2
              go_ret3
              exact ⟨gres_none (unhide HN), rfl⟩
            · have hd2 : (z == 0) = false := by simpa using hz
              have HN := hide ((unhide HRR).symm.trans (gnum_end 2 16384 m z _ _ h128 (by omega)))
              clear HRR
              go_wp2
              go_ret3
              exact ⟨gres_some (unhide HN) (by omega) (by omega), rfl⟩
        · have hmod : z % 128 = z - 128 := by omega
          have hor : bits BinOp.or IntKind.i64 m ((z - 128) * 16384) = m + (z - 128) * 16384 := by have := or_sum 14 16384 m (z - 128) (by decide) (by omega) (by omega) (by omega) (by omega) (by omega); simpa using this
          have HN := hide ((gnum_more 2 16384 m z _ _ h128).symm.trans (unhide HRR))
          clear HRR
          go_wp2
          go_round
          case rel => exact ⟨3, m + (z - 128) * 16384, 16384 * 128, by first | rfl | exact int_eq (by omega), by go_num, .inr (.inr (.inr (.inl ⟨rfl, rfl⟩))), by omega, by omega, unhide HN⟩
          case measure => simp [intOf]
      · have HN := hide (show getN xs q = none by rw [← unhide HR, List.drop_eq_nil_of_le (by omega), gnum_nil])
        have hdl : decide ((xs.length : Int) - 2 ≤ (q : Int)) = true := by simp; omega
        clear HR
        go_wp2
        go_ret3
        exact ⟨gres_none (unhide HN), rfl⟩
    · by_cases hlt : q + 3 < xs.length
      · have hcx := unhide HD (q + 3) hlt
        have hzb := unhide HB (xs.getD (q + 3) 0) (by simp [hlt])
        have hdc := drop_cons xs (q + 3) hlt
        have hdl : decide ((xs.length : Int) - 3 ≤ (q : Int)) = false := by simp; omega
        generalize hz : xs.getD (q + 3) 0 = z at hcx hzb hdc
        obtain ⟨hz0, hz1⟩ := hzb
        have hrr : gnum (1 + 1) 2097152 m (z :: xs.drop (q + 3 + 1)) ((q + 3 : Nat) : Int) = getN xs q := by rw [← hdc]; exact unhide HR
        have HRR := hide hrr
        clear hz hdc hrr HR
        by_cases h128 : z < 128
        · have hmod : z % 128 = z := by omega
          have hor : bits BinOp.or IntKind.i64 m (z * 2097152) = m + z * 2097152 := by have := or_sum 21 2097152 m z (by decide) (by omega) (by omega) (by omega) (by omega) (by omega); simpa using this
          by_cases hbig : 2147483647 < m + z * 2097152
          · exfalso
            omega
          · have hd1 : decide (2147483647 < m + z * 2097152) = false := by simp; omega
            by_cases hz : z = 0
            · have hd2 : (z == 0) = true := by simpa using hz
              have HN := hide ((unhide HRR).symm.trans (gnum_bad 1 2097152 m z _ _ h128 (.inr ⟨hz, by omega⟩)))
              clear HRR
              go_wp2
              go_ret3
              exact ⟨gres_none (unhide HN), rfl⟩
            · have hd2 : (z == 0) = false := by simpa using hz
              have HN := hide ((unhide HRR).symm.trans (gnum_end 1 2097152 m z _ _ h128 (by omega)))
              clear HRR
              go_wp2
              go_ret3
              exact ⟨gres_some (unhide HN) (by omega) (by omega), rfl⟩
        · have hmod : z % 128 = z - 128 := by omega
          have hor : bits BinOp.or IntKind.i64 m ((z - 128) * 2097152) = m + (z - 128) * 2097152 := by have := or_sum 21 2097152 m (z - 128) (by decide) (by omega) (by omega) (by omega) (by omega) (by omega); simpa using this
          have HN := hide ((gnum_more 1 2097152 m z _ _ h128).symm.trans (unhide HRR))
          clear HRR
          go_wp2
          go_round
          case rel => exact ⟨4, m + (z - 128) * 2097152, 2097152 * 128, by first | rfl | exact int_eq (by omega), by go_num, .inr (.inr (.inr (.inr (.inl ⟨rfl, rfl⟩)))), by omega, by omega, unhide HN⟩
          case measure => simp [intOf]
      · have HN := hide (show getN xs q = none by rw [← unhide HR, List.drop_eq_nil_of_le (by omega), gnum_nil])
        have hdl : decide ((xs.length : Int) - 3 ≤ (q : Int)) = true := by simp; omega
        clear HR
        go_wp2
        go_ret3
        exact ⟨gres_none (unhide HN), rfl⟩
    · by_cases hlt : q + 4 < xs.length
      · have hcx := unhide HD (q + 4) hlt
        have hzb := unhide HB (xs.getD (q + 4) 0) (by simp [hlt])
        have hdc := drop_cons xs (q + 4) hlt
        have hdl : decide ((xs.length : Int) - 4 ≤ (q : Int)) = false := by simp; omega
        generalize hz : xs.getD (q + 4) 0 = z at hcx hzb hdc
        obtain ⟨hz0, hz1⟩ := hzb
        have hrr : gnum (0 + 1) 268435456 m (z :: xs.drop (q + 4 + 1)) ((q + 4 : Nat) : Int) = getN xs q := by rw [← hdc]; exact unhide HR
        have HRR := hide hrr
        clear hz hdc hrr HR
        by_cases h128 : z < 128
        · have hmod : z % 128 = z := by omega
          have hor : bits BinOp.or IntKind.i64 m (z * 268435456) = m + z * 268435456 := by have := or_sum 28 268435456 m z (by decide) (by omega) (by omega) (by omega) (by omega) (by omega); simpa using this
          by_cases hbig : 2147483647 < m + z * 268435456
          · have HN := hide ((unhide HRR).symm.trans (gnum_bad 0 268435456 m z _ _ h128 (.inl hbig)))
            have hd1 : decide (2147483647 < m + z * 268435456) = true := by simpa using hbig
            clear HRR
            by_cases hz : z = 0
            · have hd2 : (z == 0) = true := by simpa using hz
              go_wp2
              go_ret3
              exact ⟨gres_none (unhide HN), rfl⟩
            · have hd2 : (z == 0) = false := by simpa using hz
              go_wp2
              go_ret3
              exact ⟨gres_none (unhide HN), rfl⟩
          · have hd1 : decide (2147483647 < m + z * 268435456) = false := by simp; omega
            by_cases hz : z = 0
            · have hd2 : (z == 0) = true := by simpa using hz
              have HN := hide ((unhide HRR).symm.trans (gnum_bad 0 268435456 m z _ _ h128 (.inr ⟨hz, by omega⟩)))
              clear HRR
              go_wp2
              go_ret3
              exact ⟨gres_none (unhide HN), rfl⟩
            · have hd2 : (z == 0) = false := by simpa using hz
              have HN := hide ((unhide HRR).symm.trans (gnum_end 0 268435456 m z _ _ h128 (by omega)))
              clear HRR
              go_wp2
              go_ret3
              exact ⟨gres_some (unhide HN) (by omega) (by omega), rfl⟩
        · have hmod : z % 128 = z - 128 := by omega
          have hor : bits BinOp.or IntKind.i64 m ((z - 128) * 268435456) = m + (z - 128) * 268435456 := by have := or_sum 28 268435456 m (z - 128) (by decide) (by omega) (by omega) (by omega) (by omega) (by omega); simpa using this
          have HN := hide ((gnum_more 0 268435456 m z _ _ h128).symm.trans (unhide HRR))
          clear HRR
          go_wp2
          go_round
          case rel => exact ⟨5, m + (z - 128) * 268435456, 268435456 * 128, by first | rfl | exact int_eq (by omega), by go_num, .inr (.inr (.inr (.inr (.inr (⟨rfl, rfl⟩))))), by omega, by omega, unhide HN⟩
          case measure => simp [intOf]
      · have HN := hide (show getN xs q = none by rw [← unhide HR, List.drop_eq_nil_of_le (by omega), gnum_nil])
        have hdl : decide ((xs.length : Int) - 4 ≤ (q : Int)) = true := by simp; omega
        clear HR
        go_wp2
        go_ret3
        exact ⟨gres_none (unhide HN), rfl⟩
    · have HN := hide (show getN xs q = none from (unhide HR).symm)
      clear HR
      go_wp2
      go_ret3
      exact ⟨gres_none (unhide HN), rfl⟩

theorem sgetnum_any (v : Value) (xs : List Int) (p : Int) (w : World) (hlen : xs.length ≤ 140737488351232) (hbd : ∀ z ∈ xs, 0 ≤ z ∧ z ≤ 255) (hv : Seg w v xs) (hp' : p ≤ 9223372036854775807) :
    Calls Try.prog 76 #[v, .int .i64 p] w fun e w' => e = .returned (gres (getN xs p)) ∧ w = w' := by
  obtain ⟨a, cap, rfl, hcap, h⟩ := hv
  by_cases hneg : p < 0
  · exact sgetnum_neg a cap _ xs p w hneg
  · obtain ⟨q, rfl⟩ := Int.eq_ofNat_of_zero_le (show 0 ≤ p by omega)
    rcases h with rfl | ⟨b, off, rfl, _, hc⟩
    · exact sgetnum_nil a cap q w
    · exact sgetnum_row b off cap xs q w hlen hp' hbd hc (show gnum 5 1 0 (xs.drop q) q = getN xs q by simp [getN, hneg])
end Go.Proofs.Ytjlocbimkfocnaa

namespace Go.Proofs.Ytjlocbimkfocnaa
open Go.RowKit

set_option maxHeartbeats 2000000 in
set_option maxRecDepth 100000 in
theorem sgettext_some (v : Value) (xs : List Int) (p n q : Int) (w : World) (hlen : xs.length ≤ 140737488351232) (hbd : ∀ z ∈ xs, 0 ≤ z ∧ z ≤ 255) (hv : Seg w v xs) (hp' : p ≤ 9223372036854775807) (hg : getN xs p = some (n, q)) (hfit : n ≤ (xs.length : Int) - q) :
    Calls Try.prog 37 #[v, .int .i64 p] w fun e w' => e = .returned (.tuple #[.string (strOfNums ((xs.drop q.toNat).take n.toNat)), .int .i64 (q + n), .bool true]) ∧ w = w' := by
  have C := sgetnum_any v xs p w hlen hbd hv hp'
  rw [hg] at C
  simp only [gres] at C
  have HC := hide C
  obtain ⟨b1, b2, b3, b4⟩ := getN_bd xs p n q hbd hg
  obtain ⟨a, cap, rfl, hcap, h⟩ := hv
  have hne : xs ≠ [] := by intro he; subst he; simp at b4; omega
  rcases h with h | ⟨b, off, rfl, _, hc⟩
  · exact absurd h hne
  · obtain ⟨m, rfl⟩ := Int.eq_ofNat_of_zero_le b1
    obtain ⟨r, rfl⟩ := Int.eq_ofNat_of_zero_le (Int.le_of_lt b3)
    have hdl : decide ((xs.length : Int) - (r : Int) < (m : Int)) = false := by simp; omega
    have hm : ((xs.drop r).take m).length = m := by simp; omega
    have hcell : ∀ i, i < m → w.cell? ⟨b, off + r + i, none⟩ = some (.int .u8 (((xs.drop r).take m).getD i 0)) := by
      intro i hi
      have := hc (r + i) (by omega)
      rw [Nat.add_assoc, this]
      simp [hi]
    have hcv := run_convert_bytes_arg (P := Try.prog) w 22 5 Try.underlying22 Try.underlying5 b (off + r) m (cap - r) _ hm hcell 9 Try.underlying9
    by_cases hcr : cap = r
    · have hm0 : m = 0 := by omega
      subst hm0 hcr
      have hcw := run_convert_bytes_arg (P := Try.prog) w 22 5 Try.underlying22 Try.underlying5 b off 0 0 [] rfl (fun i hi => by omega) 9 Try.underlying9
      clear C hbd hg hc hm hcell hcv
      go_enter Try.func37, Try.ntmps37
      go_wp2_with (go_at_call 76; refine (unhide HC).mono ?_; rintro e _ ⟨rfl, rfl⟩)
      go_ret3
      exact ⟨by simp, rfl⟩
    · clear C hbd hg hc hm hcell
      generalize hL : (xs.drop (r : Int).toNat).take (m : Int).toNat = L
      simp only [Int.toNat_natCast] at hL
      rw [hL] at hcv
      clear hL
      go_enter Try.func37, Try.ntmps37
      go_wp2_with (go_at_call 76; refine (unhide HC).mono ?_; rintro e _ ⟨rfl, rfl⟩)
      go_ret3
      exact ⟨rfl, rfl⟩

set_option maxHeartbeats 2000000 in
set_option maxRecDepth 100000 in
theorem sgettext_none (v : Value) (xs : List Int) (p : Int) (w : World) (hlen : xs.length ≤ 140737488351232) (hbd : ∀ z ∈ xs, 0 ≤ z ∧ z ≤ 255) (hv : Seg w v xs) (hp' : p ≤ 9223372036854775807) (hg : getT xs p = none) :
    Calls Try.prog 37 #[v, .int .i64 p] w fun e w' => e = .returned (tres none) ∧ w = w' := by
  have C := sgetnum_any v xs p w hlen hbd hv hp'
  obtain ⟨a, cap, rfl, hcap, h⟩ := hv
  rcases hn : getN xs p with _ | ⟨n, q⟩
  · rw [hn] at C
    simp only [gres] at C
    have HC := hide C
    clear C hbd hg hn h
    go_enter Try.func37, Try.ntmps37
    go_wp2_with (go_at_call 76; refine (unhide HC).mono ?_; rintro e _ ⟨rfl, rfl⟩)
    go_ret3
    exact ⟨rfl, rfl⟩
  · rw [hn] at C
    simp only [gres] at C
    have HC := hide C
    obtain ⟨b1, b2, b3, b4⟩ := getN_bd xs p n q hbd hn
    have hbad : (xs.length : Int) - q < n := by
      unfold getT at hg
      rw [hn] at hg
      simp only at hg
      split at hg
      · assumption
      · simp at hg
    have hdl : decide ((xs.length : Int) - q < n) = true := by simpa using hbad
    clear C hbd hg hn h
    go_enter Try.func37, Try.ntmps37
    go_wp2_with (go_at_call 76; refine (unhide HC).mono ?_; rintro e _ ⟨rfl, rfl⟩)
    go_ret3
    exact ⟨rfl, rfl⟩

theorem sgettext_any (v : Value) (xs : List Int) (p : Int) (w : World) (hlen : xs.length ≤ 140737488351232) (hbd : ∀ z ∈ xs, 0 ≤ z ∧ z ≤ 255) (hv : Seg w v xs) (hp' : p ≤ 9223372036854775807) :
    Calls Try.prog 37 #[v, .int .i64 p] w fun e w' => e = .returned (tres (getT xs p)) ∧ w = w' := by
  rcases hg : getT xs p with _ | ⟨l, q⟩
  · exact sgettext_none v xs p w hlen hbd hv hp' hg
  · obtain ⟨n, r, h1, h2, rfl, rfl⟩ := getT_some xs p q l hg
    exact sgettext_some v xs p n r w hlen hbd hv hp' h1 h2

end Go.Proofs.Ytjlocbimkfocnaa
