/-
  Reading a number: the list function 'getN' (the number that begins at that place and the place behind it, or none); the specification's GetNum and the program's readNum return what it says. No statement is proved here.
-/
import Derived.Test.YtbajnnpihjmjmabMsX
namespace Go.Proofs.Ytbajnnpihjmjmab
open Go.RowKit

def gres : Option (Int × Int) → Value
  | none => .tuple #[.int .i64 0, .int .i64 0, .bool false]
  | some (n, p) => .tuple #[.int .i64 n, .int .i64 p, .bool true]

/-- How the reader ends: what is no number is a panic. -/
def rend : Option (Int × Int) → Ending
  | none => .panicked [{ v := .iface 9 (.string ⟨#[110, 111, 32, 110, 117, 109, 98, 101, 114]⟩), recovered := false }]
  | some (n, p) => .returned (.tuple #[.int .i64 n, .int .i64 p])
def Step (k : Nat) (u : Int) : Prop := (k = 0 ∧ u = 1) ∨ (k = 1 ∧ u = 128) ∨ (k = 2 ∧ u = 16384) ∨ (k = 3 ∧ u = 2097152) ∨ (k = 4 ∧ u = 268435456) ∨ (k = 5 ∧ u = 34359738368)
theorem rend_some {xs : List Int} {p n q n' q' : Int} (h : getN xs p = some (n, q)) (h1 : n' = n) (h2 : q' = q) : Ending.returned (.tuple #[.int .i64 n', .int .i64 q']) = rend (getN xs p) := by rw [h, h1, h2]; rfl
theorem rend_none {xs : List Int} {p : Int} (h : getN xs p = none) : Ending.panicked [{ v := .iface 9 (.string ⟨#[110, 111, 32, 110, 117, 109, 98, 101, 114]⟩), recovered := false }] = rend (getN xs p) := by rw [h]; rfl

theorem gres_some {xs : List Int} {p n q n' q' : Int} (h : getN xs p = some (n, q)) (h1 : n' = n) (h2 : q' = q) : Ending.returned (.tuple #[.int .i64 n', .int .i64 q', .bool true]) = .returned (gres (getN xs p)) := by rw [h, h1, h2]; rfl
theorem gres_none {xs : List Int} {p : Int} (h : getN xs p = none) : Ending.returned (.tuple #[.int .i64 0, .int .i64 0, .bool false]) = .returned (gres (getN xs p)) := by rw [h]; rfl

set_option maxHeartbeats 4000000 in
set_option maxRecDepth 100000 in
theorem readnum_any (v : Value) (xs : List Int) (p : Int) (w : World) (hlen : xs.length ≤ 140737488351232) (hbd : ∀ z ∈ xs, 0 ≤ z ∧ z ≤ 255) (hv : Seg w v xs) (hp : -9223372036854775808 ≤ p) (hp' : p ≤ 9223372036854775807) :
    Calls Try.prog 92 #[v, .int .i64 p] w fun e w' => e = rend (getN xs p) ∧ w = w' := by
  obtain ⟨a, cap, rfl, hcap, h⟩ := hv
  by_cases hneg : p < 0
  · have HG := hide (show getN xs p = none by simp [getN, hneg])
    clear h hbd
    go_enter Try.func92, Try.ntmps92
    go_wp2
    exact ⟨rfl, rend_none (unhide HG), rfl⟩
  · obtain ⟨q, rfl⟩ := Int.eq_ofNat_of_zero_le (show 0 ≤ p by omega)
    have hG : gnum 5 1 0 (xs.drop q) q = getN xs q := by simp [getN, hneg]
    have hcell : ∀ r : Nat, r < xs.length → ∃ b off, a = some ⟨b, off, none⟩ ∧ w.cell? ⟨b, off + r, none⟩ = some (.int .u8 (xs.getD r 0)) := by
      intro r hr
      rcases h with rfl | ⟨b, off, rfl, _, hc⟩
      · simp at hr
      · exact ⟨b, off, rfl, hc r hr⟩
    have HB := hide hbd
    have HG := hide hG
    clear hbd hG hneg
    have HC : Hid (xs = [] ∨ ∃ b off, a = some ⟨b, off, none⟩ ∧ ∀ r, r < xs.length → w.cell? ⟨b, off + r, none⟩ = some (.int .u8 (xs.getD r 0))) := by
      rcases h with h | ⟨b, off, h1, _, hc⟩
      · exact .inl h
      · exact .inr ⟨b, off, h1, hc⟩
    clear h hcell
    rcases unhide HC with rfl | ⟨b, off, rfl, hc⟩
    · have hg : getN [] (q : Int) = none := by rw [← unhide HG]; simp [gnum_nil]
      have HN := hide hg
      clear hg HG HB HC
      have hd : decide ((q : Int) < 0) = false := by simp
      go_enter Try.func92, Try.ntmps92
      go_wp2
      go_loop [1, 6, 7] (fun x n u => x = .int .i64 q ∧ n = .int .i64 0 ∧ u = .int .i64 1) (fun _ _ _ => 0)
      case atStart => exact ⟨rfl, rfl, rfl⟩
      case round =>
        obtain ⟨rfl, rfl, rfl⟩ := hrel
        have hd2 : decide ((q : Int) < 0) = false := by simp
        go_wp2
        exact ⟨rfl, rend_none (unhide HN), rfl⟩
    · have HD := hide hc
      clear hc HC
      have hd : decide ((q : Int) < 0) = false := by simp
      go_enter Try.func92, Try.ntmps92
      go_wp2
      go_loop [1, 6, 7] (fun x n u => ∃ (k r : Nat) (m c : Int), x = .int .i64 r ∧ n = .int .i64 m ∧ u = .int .i64 c ∧ Step k c ∧ 0 ≤ m ∧ m < c ∧ gnum (5 - k) c m (xs.drop r) r = getN xs q) (fun x _ _ => xs.length - (intOf x).toNat)
      case atStart => exact ⟨0, q, 0, 1, rfl, rfl, rfl, .inl ⟨rfl, rfl⟩, by omega, by omega, unhide HG⟩
      case round =>
        obtain ⟨k, r, m, c, rfl, rfl, rfl, hst, hm0, hm1, hrec⟩ := hrel
        have HR := hide hrec
        clear hrec HG
        by_cases hlt : r < xs.length
        · have hcx := unhide HD r hlt
          have hzb := unhide HB (xs.getD r 0) (by simp [hlt])
          have hdc := drop_cons xs r hlt
          have hdl : decide ((r : Int) < (xs.length : Int)) = true := by simp [hlt]
          generalize hz : xs.getD r 0 = z at hcx hzb hdc
          obtain ⟨hz0, hz1⟩ := hzb
          have HDC := hide hdc
          clear hz hdc
          rcases hst with ⟨rfl, rfl⟩ | ⟨rfl, rfl⟩ | ⟨rfl, rfl⟩ | ⟨rfl, rfl⟩ | ⟨rfl, rfl⟩ | ⟨rfl, rfl⟩
          · have hrr : gnum (4 + 1) 1 m (z :: xs.drop (r + 1)) r = getN xs q := by rw [← unhide HDC]; exact unhide HR
            have HRR := hide hrr
            clear hrr HR
            by_cases h128 : z < 128
            · by_cases hbig : 2147483647 < m + z * 1
              · exfalso
                omega
              · have hd1 : decide (2147483647 < m + z * 1) = false := by simpa using hbig
                have HN := hide ((unhide HRR).symm.trans (gnum_end 4 1 m z r _ h128 (by omega)))
                clear HRR
                by_cases hz : z = 0
                · have hd2 : (z == 0) = true := by simpa using hz
                  go_wp2
                  go_ret2
                  exact ⟨rend_some (unhide HN) (by omega) (by omega), rfl⟩
                · have hd2 : (z == 0) = false := by simpa using hz
                  go_wp2
                  go_ret2
                  exact ⟨rend_some (unhide HN) (by omega) (by omega), rfl⟩
            · have HN := hide ((gnum_more 4 1 m z r _ h128).symm.trans (unhide HRR))
              clear HRR
              go_wp2
              go_round
              case rel => exact ⟨1, r + 1, m + (z - 128) * 1, 1 * 128, by go_num, by first | rfl | exact int_eq (by omega), by first | rfl | exact int_eq (by omega), .inr (.inl ⟨rfl, rfl⟩), by omega, by omega, unhide HN⟩
              case measure => simp [intOf]; omega
          · have hrr : gnum (3 + 1) 128 m (z :: xs.drop (r + 1)) r = getN xs q := by rw [← unhide HDC]; exact unhide HR
            have HRR := hide hrr
            clear hrr HR
            by_cases h128 : z < 128
            · by_cases hbig : 2147483647 < m + z * 128
              · exfalso
                omega
              · have hd1 : decide (2147483647 < m + z * 128) = false := by simpa using hbig
                by_cases hz : z = 0
                · have HN := hide ((unhide HRR).symm.trans (gnum_bad 3 128 m z r _ h128 (.inr ⟨hz, by omega⟩)))
                  have hd2 : (z == 0) = true := by simpa using hz
                  clear HRR
                  subst hz
                  go_wp2
                  exact ⟨rfl, rend_none (unhide HN), rfl⟩
                · have HN := hide ((unhide HRR).symm.trans (gnum_end 3 128 m z r _ h128 (by omega)))
                  have hd2 : (z == 0) = false := by simpa using hz
                  clear HRR
                  go_wp2
                  go_ret2
                  exact ⟨rend_some (unhide HN) (by omega) (by omega), rfl⟩
            · have HN := hide ((gnum_more 3 128 m z r _ h128).symm.trans (unhide HRR))
              clear HRR
              go_wp2
              go_round
              case rel => exact ⟨2, r + 1, m + (z - 128) * 128, 128 * 128, by go_num, by first | rfl | exact int_eq (by omega), by first | rfl | exact int_eq (by omega), .inr (.inr (.inl ⟨rfl, rfl⟩)), by omega, by omega, unhide HN⟩
              case measure => simp [intOf]; omega
          · have hrr : gnum (2 + 1) 16384 m (z :: xs.drop (r + 1)) r = getN xs q := by rw [← unhide HDC]; exact unhide HR
            have HRR := hide hrr
            clear hrr HR
            by_cases h128 : z < 128
            · by_cases hbig : 2147483647 < m + z * 16384
              · exfalso
                omega
              · have hd1 : decide (2147483647 < m + z * 16384) = false := by simpa using hbig
                by_cases hz : z = 0
                · have HN := hide ((unhide HRR).symm.trans (gnum_bad 2 16384 m z r _ h128 (.inr ⟨hz, by omega⟩)))
                  have hd2 : (z == 0) = true := by simpa using hz
                  clear HRR
                  subst hz
                  go_wp2
                  exact ⟨rfl, rend_none (unhide HN), rfl⟩
                · have HN := hide ((unhide HRR).symm.trans (gnum_end 2 16384 m z r _ h128 (by omega)))
                  have hd2 : (z == 0) = false := by simpa using hz
                  clear HRR
                  go_wp2
                  go_ret2
                  exact ⟨rend_some (unhide HN) (by omega) (by omega), rfl⟩
            · have HN := hide ((gnum_more 2 16384 m z r _ h128).symm.trans (unhide HRR))
              clear HRR
              go_wp2
              go_round
              case rel => exact ⟨3, r + 1, m + (z - 128) * 16384, 16384 * 128, by go_num, by first | rfl | exact int_eq (by omega), by first | rfl | exact int_eq (by omega), .inr (.inr (.inr (.inl ⟨rfl, rfl⟩))), by omega, by omega, unhide HN⟩
              case measure => simp [intOf]; omega
          · have hrr : gnum (1 + 1) 2097152 m (z :: xs.drop (r + 1)) r = getN xs q := by rw [← unhide HDC]; exact unhide HR
            have HRR := hide hrr
            clear hrr HR
            by_cases h128 : z < 128
            · by_cases hbig : 2147483647 < m + z * 2097152
              · exfalso
                omega
              · have hd1 : decide (2147483647 < m + z * 2097152) = false := by simpa using hbig
                by_cases hz : z = 0
                · have HN := hide ((unhide HRR).symm.trans (gnum_bad 1 2097152 m z r _ h128 (.inr ⟨hz, by omega⟩)))
                  have hd2 : (z == 0) = true := by simpa using hz
                  clear HRR
                  subst hz
                  go_wp2
                  exact ⟨rfl, rend_none (unhide HN), rfl⟩
                · have HN := hide ((unhide HRR).symm.trans (gnum_end 1 2097152 m z r _ h128 (by omega)))
                  have hd2 : (z == 0) = false := by simpa using hz
                  clear HRR
                  go_wp2
                  go_ret2
                  exact ⟨rend_some (unhide HN) (by omega) (by omega), rfl⟩
            · have HN := hide ((gnum_more 1 2097152 m z r _ h128).symm.trans (unhide HRR))
              clear HRR
              go_wp2
              go_round
              case rel => exact ⟨4, r + 1, m + (z - 128) * 2097152, 2097152 * 128, by go_num, by first | rfl | exact int_eq (by omega), by first | rfl | exact int_eq (by omega), .inr (.inr (.inr (.inr (.inl ⟨rfl, rfl⟩)))), by omega, by omega, unhide HN⟩
              case measure => simp [intOf]; omega
          · have hrr : gnum (0 + 1) 268435456 m (z :: xs.drop (r + 1)) r = getN xs q := by rw [← unhide HDC]; exact unhide HR
            have HRR := hide hrr
            clear hrr HR
            by_cases h128 : z < 128
            · by_cases hbig : 2147483647 < m + z * 268435456
              · have HN := hide ((unhide HRR).symm.trans (gnum_bad 0 268435456 m z r _ h128 (.inl hbig)))
                have hd1 : decide (2147483647 < m + z * 268435456) = true := by simpa using hbig
                clear HRR
                go_wp2
                exact ⟨rfl, rend_none (unhide HN), rfl⟩
              · have hd1 : decide (2147483647 < m + z * 268435456) = false := by simpa using hbig
                by_cases hz : z = 0
                · have HN := hide ((unhide HRR).symm.trans (gnum_bad 0 268435456 m z r _ h128 (.inr ⟨hz, by omega⟩)))
                  have hd2 : (z == 0) = true := by simpa using hz
                  clear HRR
                  subst hz
                  go_wp2
                  exact ⟨rfl, rend_none (unhide HN), rfl⟩
                · have HN := hide ((unhide HRR).symm.trans (gnum_end 0 268435456 m z r _ h128 (by omega)))
                  have hd2 : (z == 0) = false := by simpa using hz
                  clear HRR
                  go_wp2
                  go_ret2
                  exact ⟨rend_some (unhide HN) (by omega) (by omega), rfl⟩
            · have HN := hide ((gnum_more 0 268435456 m z r _ h128).symm.trans (unhide HRR))
              clear HRR
              go_wp2
              go_round
              case rel => exact ⟨5, r + 1, m + (z - 128) * 268435456, 268435456 * 128, by go_num, by first | rfl | exact int_eq (by omega), by first | rfl | exact int_eq (by omega), .inr (.inr (.inr (.inr (.inr (⟨rfl, rfl⟩))))), by omega, by omega, unhide HN⟩
              case measure => simp [intOf]; omega
          · have HN := hide (show getN xs q = none from (unhide HR).symm)
            clear HR
            go_wp2
            exact ⟨rfl, rend_none (unhide HN), rfl⟩
        · have HN := hide (show getN xs q = none by rw [← unhide HR, List.drop_eq_nil_of_le (by omega), gnum_nil])
          have hdl : decide ((r : Int) < (xs.length : Int)) = false := by simp; omega
          clear HR
          go_wp2
          exact ⟨rfl, rend_none (unhide HN), rfl⟩

end Go.Proofs.Ytbajnnpihjmjmab
