/- What is heard, the halves it leaves, when one knows: the numbers and lists alone. -/
import Derived.Test.YteamijcnejjmjaaStr5
import Derived.Test.YteamijcnejjmjaaStr7
set_option linter.unusedSimpArgs false
set_option linter.unusedVariables false
set_option maxRecDepth 100000
namespace Go.Proofs.Yteamijcnejjmjaa
open Go.RowKit Go.Maps

/-- From this half on a list is heard. -/
def hvB (h : Int) (L : List Int) (x : Int) : Bool := decide (hl h x L.length = L)
/-- Those of the first halves from which a list is heard. -/
def hvK (h : Int) (L : List Int) (k : Nat) : List Int := ((List.range k).map (fun n : Nat => (n : Int))).filter (hvB h L)
def hvs (h : Int) (L : List Int) : List Int := hvK h L (2 * h).toNat
theorem hvK_yes {h : Int} {L : List Int} {k : Nat} (e : hvB h L k = true) : hvK h L (k + 1) = hvK h L k ++ [(k : Int)] := by
  simp [hvK, List.range_succ, e]
theorem hvK_no {h : Int} {L : List Int} {k : Nat} (e : hvB h L k = false) : hvK h L (k + 1) = hvK h L k := by
  simp [hvK, List.range_succ, e]
theorem hvK_len (h : Int) (L : List Int) (k : Nat) : (hvK h L k).length ≤ k := by
  refine Nat.le_trans (List.length_filter_le _ _) (by simp)
theorem hvs_len {h : Int} (hh : 2 ≤ h ∧ h ≤ 24) (L : List Int) : (hvs h L).length ≤ 48 := Nat.le_trans (hvK_len h L _) (by omega)
theorem mem_hvs {h : Int} {L : List Int} {x : Int} : x ∈ hvs h L ↔ (allS h x && hvB h L x) = true := by
  simp only [hvs, hvK, List.mem_filter, List.mem_map, List.mem_range, Bool.and_eq_true, allS, decide_eq_true_eq]
  constructor
  · rintro ⟨⟨n, hn, rfl⟩, e⟩; exact ⟨by omega, e⟩
  · rintro ⟨hx, e⟩; exact ⟨⟨x.toNat, by omega, by omega⟩, e⟩
theorem range_lt (k : Nat) : ((List.range k).map (fun n : Nat => (n : Int))).Pairwise (· < ·) := by
  refine List.pairwise_map.2 (List.pairwise_lt_range.imp fun h => by omega)
theorem hvs_lt (h : Int) (L : List Int) : (hvs h L).Pairwise (· < ·) := (range_lt _).filter _
theorem hvs_nodup (h : Int) (L : List Int) : (hvs h L).Nodup := (hvs_lt h L).imp fun h => by omega
/-! ### One more number -/
theorem hl_succ (h x : Int) (n : Nat) : hl h x (n + 1) = hl h x n ++ [stM h (x + n)] := by simp [hl, List.range_succ]
theorem hvB_snoc (h : Int) (L : List Int) (t z : Int) : hvB h (L ++ [t]) z = (hvB h L z && (stM h (z + L.length) == t)) := by
  rw [Bool.eq_iff_iff]
  simp only [hvB, List.length_append, List.length_cons, List.length_nil, Nat.zero_add, hl_succ, decide_eq_true_eq, Bool.and_eq_true, beq_iff_eq]
  constructor
  · intro e
    have := List.append_inj' e rfl
    exact ⟨this.1, by simpa using this.2⟩
  · rintro ⟨a, b⟩
    rw [a, b]
theorem hvB_nil (h z : Int) : hvB h [] z = true := by simp [hvB, hl]
theorem hvB_self (h x : Int) (n : Nat) : hvB h (hl h x n) x = true := by simp [hvB, hl_length]

/-! ### When one knows -/
def kGood (h x : Int) (c : Nat) : Bool := (hvs h (hl h x c)).length == 1
def knF (h x : Int) : Nat → Nat → Nat
  | 0, _ => 0
  | f + 1, c => if kGood h x c then c else knF h x f (c + 1)
/-- At how many halves one has to listen. -/
def kn (h x : Int) : Nat := knF h x 60 1
theorem stM_top {h y : Int} (hh : 2 ≤ h ∧ h ≤ 24) : stM h y = h ↔ y % (2 * h) = 0 := by
  obtain ⟨m1, m2⟩ := mod_bd y hh
  unfold stM stA
  generalize y % (2 * h) = r at *
  split
  · omega
  · split <;> omega
theorem hvs_pos {h x : Int} (hx : 0 ≤ x ∧ x < 2 * h) (n : Nat) : x ∈ hvs h (hl h x n) := by
  rw [mem_hvs, hvB_self, Bool.and_true]; simpa [allS] using hx
theorem one_of {l : List Int} {x : Int} (hn : l.Nodup) (hx : x ∈ l) (h : ∀ z ∈ l, z = x) : l.length = 1 := by
  match l, hn, hx, h with
  | [a], _, _, _ => rfl
  | a :: b :: l, hn, _, h =>
    have e1 := h a (by simp)
    have e2 := h b (by simp)
    subst e1; subst e2
    simp at hn
theorem good_end {h x : Int} (hh : 2 ≤ h ∧ h ≤ 24) (hx : 0 ≤ x ∧ x < 2 * h) : kGood h x (2 * h).toNat = true := by
  simp only [kGood, beq_iff_eq]
  refine one_of (hvs_nodup _ _) (hvs_pos hx _) fun z hz => ?_
  rw [mem_hvs, Bool.and_eq_true] at hz
  obtain ⟨z1, z2⟩ := hz
  simp only [allS, decide_eq_true_eq] at z1
  simp only [hvB, hl_length, decide_eq_true_eq] at z2
  obtain ⟨j, hj, hjt⟩ := strikes hh (s := h) (by omega) (by omega) hx
  have hg : (hl h z (2 * h).toNat).getD j 0 = (hl h x (2 * h).toNat).getD j 0 := by rw [z2]
  rw [hl_get h z (by omega), hl_get h x (by omega), hjt] at hg
  have a := (stM_top hh).1 hg
  have b := (stM_top hh).1 hjt
  have c := Int.emod_emod_of_dvd
  have e : (z - x) % (2 * h) = 0 := by
    have : z - x = (z + j) - (x + j) := by omega
    rw [this, Int.sub_emod, a, b]; simp
  have := Int.dvd_of_emod_eq_zero e
  obtain ⟨q, hq⟩ := this
  have hq0 : q = 0 := by
    rcases Int.lt_trichotomy q 0 with hl | hl | hl
    · have : 2 * h * q ≤ 2 * h * (-1) := Int.mul_le_mul_of_nonneg_left (by omega) (by omega)
      omega
    · exact hl
    · have : 2 * h * 1 ≤ 2 * h * q := Int.mul_le_mul_of_nonneg_left (by omega) (by omega)
      omega
  subst hq0
  omega
theorem good_zero {h x : Int} (hh : 2 ≤ h ∧ h ≤ 24) : kGood h x 0 = false := by
  have e : hvs h (hl h x 0) = (List.range (2 * h).toNat).map (fun n : Nat => (n : Int)) := by
    simp only [hvs, hvK, show hl h x 0 = [] from rfl]
    exact List.filter_eq_self.2 fun z _ => hvB_nil h z
  simp only [kGood, e, List.length_map, List.length_range, beq_eq_false_iff_ne]
  omega
theorem least {p : Nat → Bool} : ∀ m, p m = true → ∃ N, N ≤ m ∧ p N = true ∧ ∀ j, j < N → p j = false := by
  intro m
  induction m using Nat.strongRecOn with
  | ind m ih =>
    intro hm
    by_cases h : ∃ j, j < m ∧ p j = true
    · obtain ⟨j, hj, hp⟩ := h
      obtain ⟨N, h1, h2⟩ := ih j hj hp
      exact ⟨N, by omega, h2⟩
    · refine ⟨m, Nat.le_refl _, hm, fun j hj => ?_⟩
      cases e : p j
      · rfl
      · exact absurd ⟨j, hj, e⟩ h
theorem knF_is {h x : Int} {N : Nat} (hN : kGood h x N = true) (hm : ∀ j, j < N → kGood h x j = false) : ∀ f c, c ≤ N → N < c + f → knF h x f c = N := by
  intro f
  induction f with
  | zero => intro c h1 h2; omega
  | succ f ih =>
    intro c h1 h2
    simp only [knF]
    by_cases hc : c = N
    · subst hc; rw [if_pos hN]
    · rw [if_neg (by rw [hm c (by omega)]; simp)]
      exact ih (c + 1) (by omega) (by omega)
theorem kn_spec {h x : Int} (hh : 2 ≤ h ∧ h ≤ 24) (hx : 0 ≤ x ∧ x < 2 * h) : 1 ≤ kn h x ∧ kn h x ≤ 48 ∧ kGood h x (kn h x) = true ∧ ∀ j, j < kn h x → kGood h x j = false := by
  obtain ⟨N, h1, h2, h3⟩ := least _ (good_end hh hx)
  have h0 : 1 ≤ N := by
    rcases Nat.eq_zero_or_pos N with e | e
    · subst e; rw [good_zero hh] at h2; cases h2
    · exact e
  have := knF_is h2 h3 60 1 h0 (by omega)
  unfold kn
  rw [this]
  exact ⟨h0, by omega, h2, h3⟩
theorem kn_more {h x : Int} (hh : 2 ≤ h ∧ h ≤ 24) (hx : 0 ≤ x ∧ x < 2 * h) {j : Nat} (hj : j < kn h x) : 1 < (hvs h (hl h x j)).length := by
  have h1 := (kn_spec hh hx).2.2.2 j hj
  simp only [kGood, beq_eq_false_iff_ne] at h1
  have h2 := List.length_pos_of_mem (hvs_pos hx j)
  omega
theorem kn_one {h x : Int} (hh : 2 ≤ h ∧ h ≤ 24) (hx : 0 ≤ x ∧ x < 2 * h) : (hvs h (hl h x (kn h x))).length = 1 := by
  simpa [kGood] using (kn_spec hh hx).2.2.1

/-! ### Halves whose number no other has -/
/-- How many of the first halves strike so often. -/
def cnt (h v : Int) : Nat → Nat
  | 0 => 0
  | k + 1 => cnt h v k + (if stM h k = v then 1 else 0)
theorem cnt_le (h v : Int) (k : Nat) : cnt h v k ≤ k := by
  induction k with
  | zero => simp [cnt]
  | succ k ih => simp only [cnt]; split <;> omega
/-- Of the first halves, how many are alone with their number. -/
def aloneK (h : Int) : Nat → Nat
  | 0 => 0
  | k + 1 => aloneK h k + (if (hvs h (hl h k 1)).length = 1 then 1 else 0)
theorem aloneK_le (h : Int) (k : Nat) : aloneK h k ≤ k := by
  induction k with
  | zero => simp [aloneK]
  | succ k ih => simp only [aloneK]; split <;> omega
theorem hvs_cntK (h v : Int) (k : Nat) : (hvK h [v] k).length = cnt h v k := by
  induction k with
  | zero => simp [hvK, cnt]
  | succ k ih =>
    have e : hvB h [v] k = (stM h k == v) := by
      have := hvB_snoc h [] v k
      simpa [hvB_nil] using this
    by_cases hv : stM h k = v
    · rw [hvK_yes (by rw [e]; simpa using hv)]; simp [cnt, ih, hv]
    · rw [hvK_no (by rw [e]; simpa using hv)]; simp [cnt, ih, hv]
theorem hl_one (h x : Int) : hl h x 1 = [stM h x] := by simp [hl]
/-- The same by counts alone. -/
def aloneC (h : Int) (R : Nat) : Nat → Nat
  | 0 => 0
  | k + 1 => aloneC h R k + (if cnt h (stM h k) R = 1 then 1 else 0)
theorem aloneK_C (h : Int) (k : Nat) : aloneK h k = aloneC h (2 * h).toNat k := by
  induction k with
  | zero => rfl
  | succ k ih => simp only [aloneK, aloneC, ih, hl_one, hvs, hvs_cntK]
theorem alone_all {h : Int} (hh : 2 ≤ h ∧ h ≤ 24) : (aloneK h (2 * h).toNat : Int) = h - 1 := by
  rw [aloneK_C]
  exact all_h (P := fun h => (aloneC h (2 * h).toNat (2 * h).toNat : Int) = h - 1) (by decide +kernel) hh
theorem cnt_one {h : Int} (hh : 2 ≤ h ∧ h ≤ 24) : cnt h 1 (2 * h).toNat ≠ 1 := all_h (P := fun h => cnt h 1 (2 * h).toNat ≠ 1) (by decide +kernel) hh
theorem cnt_other {h : Int} (hh : 2 ≤ h ∧ h ≤ 24) : ∀ j : Nat, j < (h - 1).toNat → cnt h (j + 2) (2 * h).toNat = 1 :=
  all_h (P := fun h => ∀ j : Nat, j < (h - 1).toNat → cnt h (j + 2) (2 * h).toNat = 1) (by decide +kernel) hh
theorem cnt_pos_bd {h v : Int} (hh : 2 ≤ h ∧ h ≤ 24) (k : Nat) (hc : 0 < cnt h v k) : 1 ≤ v ∧ v ≤ h := by
  induction k with
  | zero => simp [cnt] at hc
  | succ k ih =>
    simp only [cnt] at hc
    by_cases e : stM h k = v
    · have := stM_bd (h := h) k hh; omega
    · rw [if_neg e] at hc; exact ih (by omega)
end Go.Proofs.Yteamijcnejjmjaa
