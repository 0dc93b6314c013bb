/-
  Reading a text: both GetText (the program's and the specification's) return what the list function 'getT' says: the text that begins at that place and the place behind it, or none. No statement is proved here.
-/
import Derived.Test.YthpnidkhapcfoamSGet
import Derived.Laws.BytesArg
import Derived.WalkLawsBesides
import Derived.Defers
import Derived.Recover
namespace Go.Proofs.Ythpnidkhapcfoam
open Go.RowKit

def getT (xs : List Int) (p : Int) : Option (List Int × Int) :=
  match getN xs p with
  | none => none
  | some (n, q) => if (xs.length : Int) - q < n then none else some ((xs.drop q.toNat).take n.toNat, q + n)
def tres : Option (List Int × Int) → Value
  | none => .tuple #[.string ⟨#[]⟩, .int .i64 0, .bool false]
  | some (l, q) => .tuple #[.string (strOfNums l), .int .i64 q, .bool true]
def Panics (e : Ending) : Prop := ∃ t pv, e = .panicked [{ v := .iface t pv, recovered := false }]

theorem gnum_bd (f : Nat) (u m r n q : Int) (l : List Int) (hu : 0 < u) (hm : 0 ≤ m) (hl : ∀ z ∈ l, 0 ≤ z ∧ z ≤ 255) (h : gnum f u m l r = some (n, q)) : 0 ≤ n ∧ n ≤ 2147483647 ∧ r < q ∧ q ≤ r + l.length := by
  induction f generalizing u m r l with
  | zero => simp [gnum] at h
  | succ f ih =>
    cases l with
    | nil => simp [gnum] at h
    | cons d l =>
      have hd := hl d (by simp)
      by_cases h1 : d < 128
      · by_cases h2 : 2147483647 < m + d * u ∨ (d = 0 ∧ 1 < u)
        · rw [gnum_bad _ _ _ _ _ _ h1 h2] at h; simp at h
        · rw [gnum_end _ _ _ _ _ _ h1 h2] at h
          simp at h
          have := Int.mul_nonneg hd.1 (Int.le_of_lt hu)
          simp only [List.length_cons]
          omega
      · rw [gnum_more _ _ _ _ _ _ h1] at h
        have := Int.mul_nonneg (show 0 ≤ d - 128 by omega) (Int.le_of_lt hu)
        have := ih (u * 128) (m + (d - 128) * u) (r + 1) l (by omega) (by omega) (fun z hz => hl z (by simp [hz])) h
        simp only [List.length_cons]
        omega
theorem getN_bd (xs : List Int) (p n q : Int) (hl : ∀ z ∈ xs, 0 ≤ z ∧ z ≤ 255) (h : getN xs p = some (n, q)) : 0 ≤ n ∧ n ≤ 2147483647 ∧ 0 < q ∧ q ≤ xs.length := by
  unfold getN at h
  split at h
  · simp at h
  · rename_i hp
    have := gnum_bd 5 1 0 p n q (xs.drop p.toNat) (by omega) (by omega) (fun z hz => hl z (List.mem_of_mem_drop hz)) h
    have hne : xs.drop p.toNat ≠ [] := by intro he; rw [he, gnum_nil] at h; simp at h
    have hlt : p.toNat < xs.length := by
      rcases Nat.lt_or_ge p.toNat xs.length with h' | h'
      · exact h'
      · exact absurd (List.drop_eq_nil_of_le h') hne
    simp only [List.length_drop] at this
    omega

set_option maxHeartbeats 2000000 in
set_option maxRecDepth 100000 in
theorem readtext_some (v : Value) (xs : List Int) (p n q : Int) (w : World) (hlen : xs.length ≤ 140737488351232) (hbd : ∀ z ∈ xs, 0 ≤ z ∧ z ≤ 255) (hv : Seg w v xs) (hp : -9223372036854775808 ≤ p) (hp' : p ≤ 9223372036854775807) (hg : getN xs p = some (n, q)) (hfit : n ≤ (xs.length : Int) - q) :
    Calls Try.prog 19 #[v, .int .i64 p] w fun e w' => e = .returned (.tuple #[.string (strOfNums ((xs.drop q.toNat).take n.toNat)), .int .i64 (q + n)]) ∧ w = w' := by
  have C := readnum_any v xs p w hlen hbd hv hp hp'
  rw [hg] at C
  simp only [rend] at C
  have HC := hide C
  obtain ⟨b1, b2, b3, b4⟩ := getN_bd xs p n q hbd hg
  obtain ⟨a, cap, rfl, hcap, h⟩ := hv
  have hne : xs ≠ [] := by intro he; subst he; simp at b4; omega
  rcases h with h | ⟨b, off, rfl, _, hc⟩
  · exact absurd h hne
  · obtain ⟨m, rfl⟩ := Int.eq_ofNat_of_zero_le b1
    obtain ⟨r, rfl⟩ := Int.eq_ofNat_of_zero_le (Int.le_of_lt b3)
    have hdl : decide ((xs.length : Int) - (r : Int) < (m : Int)) = false := by simp; omega
    have hm : ((xs.drop r).take m).length = m := by simp; omega
    have hcell : ∀ i, i < m → w.cell? ⟨b, off + r + i, none⟩ = some (.int .u8 (((xs.drop r).take m).getD i 0)) := by
      intro i hi
      have := hc (r + i) (by omega)
      rw [Nat.add_assoc, this]
      simp [hi]
    have hcv := run_convert_bytes_arg (P := Try.prog) w 22 5 Try.underlying22 Try.underlying5 b (off + r) m (cap - r) _ hm hcell 9 Try.underlying9
    by_cases hcr : cap = r
    · have hm0 : m = 0 := by omega
      subst hm0 hcr
      have hcw := run_convert_bytes_arg (P := Try.prog) w 22 5 Try.underlying22 Try.underlying5 b off 0 0 [] rfl (fun i hi => by omega) 9 Try.underlying9
      clear C hbd hg hc hm hcell hcv
      go_enter Try.func19, Try.ntmps19
      go_wp2_with (go_at_call 21; refine (unhide HC).mono ?_; rintro e _ ⟨rfl, rfl⟩)
      go_ret2
      exact ⟨by simp, rfl⟩
    · clear C hbd hg hc hm hcell
      generalize hL : (xs.drop (r : Int).toNat).take (m : Int).toNat = L
      simp only [Int.toNat_natCast] at hL
      rw [hL] at hcv
      clear hL
      go_enter Try.func19, Try.ntmps19
      go_wp2_with (go_at_call 21; refine (unhide HC).mono ?_; rintro e _ ⟨rfl, rfl⟩)
      go_ret2
      exact ⟨rfl, rfl⟩

set_option maxHeartbeats 2000000 in
set_option maxRecDepth 100000 in
theorem readtext_none (v : Value) (xs : List Int) (p : Int) (w : World) (hlen : xs.length ≤ 140737488351232) (hbd : ∀ z ∈ xs, 0 ≤ z ∧ z ≤ 255) (hv : Seg w v xs) (hp : -9223372036854775808 ≤ p) (hp' : p ≤ 9223372036854775807) (hg : getT xs p = none) :
    Calls Try.prog 19 #[v, .int .i64 p] w fun e w' => Panics e ∧ w = w' := by
  have C := readnum_any v xs p w hlen hbd hv hp hp'
  obtain ⟨a, cap, rfl, hcap, h⟩ := hv
  rcases hn : getN xs p with _ | ⟨n, q⟩
  · rw [hn] at C
    simp only [rend] at C
    have HC := hide C
    clear C hbd hg hn h
    go_enter Try.func19, Try.ntmps19
    go_wp2_with (go_at_call 21; refine (unhide HC).mono ?_; rintro e _ ⟨rfl, rfl⟩)
    exact ⟨rfl, ⟨_, _, rfl⟩, rfl⟩
  · rw [hn] at C
    simp only [rend] at C
    have HC := hide C
    obtain ⟨b1, b2, b3, b4⟩ := getN_bd xs p n q hbd hn
    have hbad : (xs.length : Int) - q < n := by
      unfold getT at hg
      rw [hn] at hg
      simp only at hg
      split at hg
      · assumption
      · simp at hg
    have hdl : decide ((xs.length : Int) - q < n) = true := by simpa using hbad
    clear C hbd hg hn h
    go_enter Try.func19, Try.ntmps19
    go_wp2_with (go_at_call 21; refine (unhide HC).mono ?_; rintro e _ ⟨rfl, rfl⟩)
    exact ⟨rfl, ⟨_, _, rfl⟩, rfl⟩

set_option maxHeartbeats 2000000 in
set_option maxRecDepth 100000 in
theorem sgettext_some (v : Value) (xs : List Int) (p n q : Int) (w : World) (hlen : xs.length ≤ 140737488351232) (hbd : ∀ z ∈ xs, 0 ≤ z ∧ z ≤ 255) (hv : Seg w v xs) (hp' : p ≤ 9223372036854775807) (hg : getN xs p = some (n, q)) (hfit : n ≤ (xs.length : Int) - q) :
    Calls Try.prog 6 #[v, .int .i64 p] w fun e w' => e = .returned (.tuple #[.string (strOfNums ((xs.drop q.toNat).take n.toNat)), .int .i64 (q + n), .bool true]) ∧ w = w' := by
  have C := sgetnum_any v xs p w hlen hbd hv hp'
  rw [hg] at C
  simp only [gres] at C
  have HC := hide C
  obtain ⟨b1, b2, b3, b4⟩ := getN_bd xs p n q hbd hg
  obtain ⟨a, cap, rfl, hcap, h⟩ := hv
  have hne : xs ≠ [] := by intro he; subst he; simp at b4; omega
  rcases h with h | ⟨b, off, rfl, _, hc⟩
  · exact absurd h hne
  · obtain ⟨m, rfl⟩ := Int.eq_ofNat_of_zero_le b1
    obtain ⟨r, rfl⟩ := Int.eq_ofNat_of_zero_le (Int.le_of_lt b3)
    have hdl : decide ((xs.length : Int) - (r : Int) < (m : Int)) = false := by simp; omega
    have hm : ((xs.drop r).take m).length = m := by simp; omega
    have hcell : ∀ i, i < m → w.cell? ⟨b, off + r + i, none⟩ = some (.int .u8 (((xs.drop r).take m).getD i 0)) := by
      intro i hi
      have := hc (r + i) (by omega)
      rw [Nat.add_assoc, this]
      simp [hi]
    have hcv := run_convert_bytes_arg (P := Try.prog) w 22 5 Try.underlying22 Try.underlying5 b (off + r) m (cap - r) _ hm hcell 9 Try.underlying9
    by_cases hcr : cap = r
    · have hm0 : m = 0 := by omega
      subst hm0 hcr
      have hcw := run_convert_bytes_arg (P := Try.prog) w 22 5 Try.underlying22 Try.underlying5 b off 0 0 [] rfl (fun i hi => by omega) 9 Try.underlying9
      clear C hbd hg hc hm hcell hcv
      go_enter Try.func6, Try.ntmps6
      go_wp2_with (go_at_call 17; refine (unhide HC).mono ?_; rintro e _ ⟨rfl, rfl⟩)
      go_ret3
      exact ⟨by simp, rfl⟩
    · clear C hbd hg hc hm hcell
      generalize hL : (xs.drop (r : Int).toNat).take (m : Int).toNat = L
      simp only [Int.toNat_natCast] at hL
      rw [hL] at hcv
      clear hL
      go_enter Try.func6, Try.ntmps6
      go_wp2_with (go_at_call 17; refine (unhide HC).mono ?_; rintro e _ ⟨rfl, rfl⟩)
      go_ret3
      exact ⟨rfl, rfl⟩

set_option maxHeartbeats 2000000 in
set_option maxRecDepth 100000 in
theorem sgettext_none (v : Value) (xs : List Int) (p : Int) (w : World) (hlen : xs.length ≤ 140737488351232) (hbd : ∀ z ∈ xs, 0 ≤ z ∧ z ≤ 255) (hv : Seg w v xs) (hp' : p ≤ 9223372036854775807) (hg : getT xs p = none) :
    Calls Try.prog 6 #[v, .int .i64 p] w fun e w' => e = .returned (tres none) ∧ w = w' := by
  have C := sgetnum_any v xs p w hlen hbd hv hp'
  obtain ⟨a, cap, rfl, hcap, h⟩ := hv
  rcases hn : getN xs p with _ | ⟨n, q⟩
  · rw [hn] at C
    simp only [gres] at C
    have HC := hide C
    clear C hbd hg hn h
    go_enter Try.func6, Try.ntmps6
    go_wp2_with (go_at_call 17; refine (unhide HC).mono ?_; rintro e _ ⟨rfl, rfl⟩)
    go_ret3
    exact ⟨rfl, rfl⟩
  · rw [hn] at C
    simp only [gres] at C
    have HC := hide C
    obtain ⟨b1, b2, b3, b4⟩ := getN_bd xs p n q hbd hn
    have hbad : (xs.length : Int) - q < n := by
      unfold getT at hg
      rw [hn] at hg
      simp only at hg
      split at hg
      · assumption
      · simp at hg
    have hdl : decide ((xs.length : Int) - q < n) = true := by simpa using hbad
    clear C hbd hg hn h
    go_enter Try.func6, Try.ntmps6
    go_wp2_with (go_at_call 17; refine (unhide HC).mono ?_; rintro e _ ⟨rfl, rfl⟩)
    go_ret3
    exact ⟨rfl, rfl⟩

theorem getT_some (xs : List Int) (p q : Int) (l : List Int) (h : getT xs p = some (l, q)) : ∃ n r, getN xs p = some (n, r) ∧ n ≤ (xs.length : Int) - r ∧ l = (xs.drop r.toNat).take n.toNat ∧ q = r + n := by
  unfold getT at h
  rcases hn : getN xs p with _ | ⟨n, r⟩
  · rw [hn] at h; simp at h
  · rw [hn] at h
    simp only at h
    split at h
    · simp at h
    · rename_i hb
      simp at h
      exact ⟨n, r, rfl, by omega, h.1.symm, h.2.symm⟩

theorem sgettext_any (v : Value) (xs : List Int) (p : Int) (w : World) (hlen : xs.length ≤ 140737488351232) (hbd : ∀ z ∈ xs, 0 ≤ z ∧ z ≤ 255) (hv : Seg w v xs) (hp' : p ≤ 9223372036854775807) :
    Calls Try.prog 6 #[v, .int .i64 p] w fun e w' => e = .returned (tres (getT xs p)) ∧ w = w' := by
  rcases hg : getT xs p with _ | ⟨l, q⟩
  · exact sgettext_none v xs p w hlen hbd hv hp' hg
  · obtain ⟨n, r, h1, h2, rfl, rfl⟩ := getT_some xs p q l hg
    exact sgettext_some v xs p n r w hlen hbd hv hp' h1 h2

theorem catch_text_panicking (u : TypeId) (pv : Value) (older : List PanicEntry) (w : World) :
    CallsD Try.prog 18 #[] (.panicking ({ v := .iface u pv, recovered := false } :: older)) w fun e u' w' =>
      e = .returned (.tuple #[]) ∧ u' = .panicking ({ v := .iface u pv, recovered := true } :: older) ∧ w = w' := by
  refine callsD_of_wpS Try.func18 rfl fun c₀ cs hu => ?_
  apply wpS_region
  simp [wpOpsS, go_sem, recoverD, hu, Try.ntmps18, bodyPostS, results, Try.results18]
theorem catch_text_idle (w : World) :
    CallsD Try.prog 18 #[] .returning w fun e u' w' => e = .returned (.tuple #[]) ∧ u' = .returning ∧ w = w' := by
  refine callsD_of_wpS Try.func18 rfl fun c₀ cs hu => ?_
  apply wpS_region
  simp [wpOpsS, go_sem, recoverD, hu, Try.ntmps18, bodyPostS, results, Try.results18]
  cases c₀
  simp_all

set_option maxHeartbeats 1000000 in
theorem igettext_any (v : Value) (xs : List Int) (p : Int) (w : World) (hlen : xs.length ≤ 140737488351232) (hbd : ∀ z ∈ xs, 0 ≤ z ∧ z ≤ 255) (hv : Seg w v xs) (hp : -9223372036854775808 ≤ p) (hp' : p ≤ 9223372036854775807) :
    Calls Try.prog 8 #[v, .int .i64 p] w fun e w' => e = .returned (tres (getT xs p)) ∧ w = w' := by
  have hmf : ∀ (fn : Fn) (first cap : Array Value) (w : World), (Instr.makeFunc fn first cap).run Try.prog w = .ok (.func fn first cap) w := fun _ _ _ _ => rfl
  rcases hg : getT xs p with _ | ⟨l, q⟩
  · have HC := hide (readtext_none v xs p w hlen hbd hv hp hp' hg)
    clear hg hv hbd
    go_enter_defers Try.func8, Try.ntmps8
    go_wp2_with (go_at_call 19; refine (unhide HC).mono ?_; rintro e _ ⟨⟨t, pv, rfl⟩, rfl⟩)
    refine leaves_cons (f := 18) (args := #[]) (by simp) (by simp [go_sem]) ?_
    refine (catch_text_panicking _ _ [] _).mono ?_
    rintro e u' w'' ⟨rfl, rfl, rfl⟩
    simp [Leaves, settle, results, Try.results8, go_sem, tres]
  · obtain ⟨n, r, h1, h2, rfl, rfl⟩ := getT_some xs p q l hg
    have HC := hide (readtext_some v xs p n r w hlen hbd hv hp hp' h1 h2)
    clear hg hv hbd h1 h2
    go_enter_defers Try.func8, Try.ntmps8
    go_wp2_with (go_at_call 19; refine (unhide HC).mono ?_; rintro e _ ⟨rfl, rfl⟩)
    refine leaves_cons (f := 18) (args := #[]) (by simp) (by simp [go_sem]) ?_
    refine (catch_text_idle _).mono ?_
    rintro e u' w'' ⟨rfl, rfl, rfl⟩
    simp [Leaves, settle, results, Try.results8, go_sem, tres]
end Go.Proofs.Ythpnidkhapcfoam
