/- What is seen: what the law on it (FnSeenTrue) wants of the numbers alone. -/
import Derived.Test.YticdmochedadbaaGreatSeen8
import Derived.Test.YticdmochedadbaaGreatLowSame
import Derived.Test.YticdmochedadbaaGreatLawW
import Derived.Test.YticdmochedadbaaGreatTr0
set_option linter.unusedSimpArgs false
set_option linter.unusedVariables false
set_option maxRecDepth 100000
namespace Go.Proofs.YticdmochedadbaaGreat
open Go.RowKit

theorem ask_bd {h n d : Int} (k : askB h n d = true) : (2 ≤ h ∧ h ≤ 24) ∧ goodB n d = true := by
  simp only [askB, Bool.and_eq_true] at k
  exact ⟨inB_bd k.1, k.2⟩
theorem long_good {h n d : Int} (k : askB h n d = true) : goodB (lowNum (n * h) d) (lowDen (n * h) d) = true := by
  obtain ⟨-, g⟩ := ask_bd k
  obtain ⟨d1, d2, -, -⟩ := goodB_bd g
  have b := low_bd (n * h) d d1
  exact good_low_of _ _ d1 (by omega)
theorem eqT_iff {a b c d : Int} : eqT a b c d = true ↔ a = c ∧ b = d := by simp [eqT]
/-- What is seen at a time is true, and shows that time. -/
theorem seen_ok {h n d a b c e : Int} (k : seenOfT h n d = (a, b, c, e, true)) : (a = n ∧ b = d ∧ c = lowNum (n * h) d ∧ e = lowDen (n * h) d) ∧ askB h n d = true ∧ seenB a b c e = true ∧ isTrueT h a b c e = (true, true) ∧
    timeSeenT h a b c e = (n, d, true) ∧ exchT a b c e = (c, e, a, b, true) ∧ isTrueT h c e a b = (trueB h c e a b, true) := by
  unfold seenOfT at k
  split at k
  · rename_i g
    simp only [Prod.mk.injEq, and_true] at k
    obtain ⟨rfl, rfl, rfl, rfl⟩ := k
    have gl := long_good g
    obtain ⟨hh, gg⟩ := ask_bd g
    have hi : inB h 2 24 = true := decide_eq_true hh
    have s1 : seenB n d (lowNum (n * h) d) (lowDen (n * h) d) = true := by unfold seenB; rw [gg, gl]; rfl
    have s2 : seenB (lowNum (n * h) d) (lowDen (n * h) d) n d = true := by unfold seenB; rw [gg, gl]; rfl
    have t1 : trueB h n d (lowNum (n * h) d) (lowDen (n * h) d) = true := by unfold trueB; exact eqT_iff.2 ⟨rfl, rfl⟩
    refine ⟨⟨rfl, rfl, rfl, rfl⟩, g, s1, ?_, ?_, ?_, ?_⟩
    · unfold isTrueT seAskB; rw [hi, s1, t1]; rfl
    · unfold timeSeenT seAskB; rw [hi, s1, t1]; rfl
    · unfold exchT; rw [if_pos s1]
    · unfold isTrueT seAskB; rw [hi, s2]; rfl
  · simp [fail5] at k
/-- A long hand that would do for the short one, of a time whose hands exchanged show a time: the two have one number of parts, which divides h² - 1. -/
theorem swap_back {h n d x y : Int} (hd : 1 ≤ d) (g : gc n d = 1) (e1 : x = lowNum (n * h) d) (e2 : y = lowDen (n * h) d) (t1 : lowNum (x * h) y = n) (t2 : lowDen (x * h) y = d) : y = d ∧ d ∣ h * h - 1 := by
  have b1 := low_bd (n * h) d hd
  obtain ⟨g1, k1, hg1, p1, p2⟩ := gc_split (n * h) d hd
  obtain ⟨g2, k2, hg2, q1, q2⟩ := gc_split (x * h) y (by omega)
  rw [← e2] at p1
  rw [← e1] at p2
  rw [t2] at q1
  rw [t1] at q2
  have hy : 1 ≤ y := by omega
  have hyd : y = d := by
    have a1 : 1 * y ≤ g1 * y := Int.mul_le_mul_of_nonneg_right hg1 (by omega)
    have a2 : 1 * d ≤ g2 * d := Int.mul_le_mul_of_nonneg_right hg2 (by omega)
    omega
  subst hyd
  have one : ∀ G : Int, y = G * y → G = 1 := fun G e => by
    have : (G - 1) * y = 0 := by rw [Int.sub_mul, ← e]; omega
    rcases Int.mul_eq_zero.1 this with h | h <;> omega
  have hG1 := one g1 p1
  have hG2 := one g2 q1
  subst hG1 hG2
  refine ⟨rfl, cop_dvd g ?_⟩
  refine ⟨k1 * h + k2, ?_⟩
  rw [Int.one_mul] at p2 q2
  have e3 : n * (h * h - 1) = (n * h) * h - n := by grind
  rw [e3, p2]
  have e4 : (y * k1 + x) * h - n = y * (k1 * h) + x * h - n := by grind
  rw [e4, q2]
  grind
theorem ex_val {h n d : Int} (g : askB h n d = true) : exTimeT h n d = if trueB h (lowNum (n * h) d) (lowDen (n * h) d) n d then (lowNum (n * h) d, lowDen (n * h) d, true) else fail3 := by
  unfold exTimeT; rw [g, Bool.true_and]
theorem ex_ask {h n d x y : Int} (k : exTimeT h n d = (x, y, true)) : askB h n d = true ∧ x = lowNum (n * h) d ∧ y = lowDen (n * h) d ∧ trueB h x y n d = true := by
  unfold exTimeT at k
  split at k
  · rename_i g
    rw [Bool.and_eq_true] at g
    simp only [Prod.mk.injEq, and_true] at k
    obtain ⟨rfl, rfl⟩ := k
    exact ⟨g.1, rfl, rfl, g.2⟩
  · simp [fail3] at k
/-- Exchanged and exchanged back. -/
theorem ex_back {h n d x y : Int} (k : exTimeT h n d = (x, y, true)) : exTimeT h x y = (n, d, true) ∧ d ∣ h * h - 1 := by
  obtain ⟨g, e1, e2, t⟩ := ex_ask k
  obtain ⟨hh, gg⟩ := ask_bd g
  have gl := long_good g
  rw [← e1, ← e2] at gl
  obtain ⟨d1, -, -, -, g1⟩ := (goodB_iff _ _).1 gg
  have t' := t
  unfold trueB at t'
  obtain ⟨t1, t2⟩ := eqT_iff.1 t'
  obtain ⟨-, hdv⟩ := swap_back d1 g1 e1 e2 t1 t2
  refine ⟨?_, hdv⟩
  have ga : askB h x y = true := by unfold askB; rw [gl, show inB h 2 24 = true from decide_eq_true hh]; rfl
  rw [ex_val ga, t1, t2]
  have : trueB h n d x y = true := by unfold trueB; exact eqT_iff.2 ⟨e1.symm, e2.symm⟩
  rw [if_pos this]
/-- A list in order, of turns, rises. -/
theorem rises_strict {L : List (Int × Int)} (hg : AllGood L) (hs : Strict L) : Rises L := by
  have hm : ∀ j, j < L.length → L.getD j (0, 0) ∈ L := fun j hj => by
    rw [List.getD_eq_getElem?_getD, List.getElem?_eq_getElem hj, Option.getD_some]
    exact List.getElem_mem hj
  refine ⟨fun j hj => ?_, fun j hj => ?_⟩
  · obtain ⟨b1, b2, b3, b4⟩ := goodB_bd (hg _ (hm j hj))
    exact ⟨⟨b3, b4⟩, b1, b2⟩
  · have h := (List.pairwise_iff_getElem.1 hs) j (j + 1) (by omega) hj (by omega)
    rw [List.getD_eq_getElem?_getD, List.getElem?_eq_getElem (by omega), Option.getD_some, List.getD_eq_getElem?_getD, List.getElem?_eq_getElem hj, Option.getD_some]
    rw [ltT_iff] at h
    omega
theorem ins_two (p q : Int × Int) : (insAll [p, q]).length = if p = q then 1 else 2 := by
  simp only [insAll, List.foldl_cons, List.foldl_nil, insU]
  by_cases h : p = q
  · subst h
    rw [ltT_irrefl]
    simp
  · rw [if_neg h, if_neg h]
    split <;> rfl
/-- The times that look alike: the time itself, and the one taken for it. -/
theorem alike_ok {h n d a b c e : Int} (k : seenOfT h n d = (a, b, c, e, true)) :
    (twoR h a b c e (c, e, a, b)).2 = true ∧ Rises (twoR h a b c e (c, e, a, b)).1 ∧ (n, d) ∈ (twoR h a b c e (c, e, a, b)).1 ∧
    (trueB h c e a b = false → (twoR h a b c e (c, e, a, b)).1.length = 1) ∧
    (trueB h c e a b = true → (c, e) ∈ (twoR h a b c e (c, e, a, b)).1 ∧ (twoR h a b c e (c, e, a, b)).1.length = if (c, e) = (n, d) then 1 else 2) := by
  obtain ⟨⟨rfl, rfl, e1, e2⟩, ga, sb, it, -, -, -⟩ := seen_ok k
  have t1 : trueB h a b c e = true := by unfold trueB; exact eqT_iff.2 ⟨e1.symm, e2.symm⟩
  have hsa : seAskB h a b c e = true := by unfold seAskB; rw [sb, show inB h 2 24 = true from decide_eq_true (ask_bd ga).1]; rfl
  have hacc : accT h (a, b, c, e) (c, e, a, b) 2 = (a, b) :: pickT h (c, e, a, b) := by
    simp [accT, pickT, t1]
  have hT : twoR h a b c e (c, e, a, b) = (insAll ((a, b) :: pickT h (c, e, a, b)), true) := by
    unfold twoR; rw [if_pos hsa, hacc]
  have hg : AllGood ((a, b) :: pickT h (c, e, a, b)) := by
    rw [← hacc]
    exact accT_good (show G4 (a, b, c, e) from sb) (exQ_good sb) 2
  obtain ⟨i0, i1, i2⟩ := insAll_good hg
  rw [hT]
  refine ⟨rfl, rises_strict i0 i1, (i2 _).2 (by simp), fun hf => ?_, fun ht => ⟨(i2 _).2 (by simp [pickT, ht]), ?_⟩⟩
  · simp [pickT, hf, insAll, insU]
  · show (insAll ((a, b) :: pickT h (c, e, a, b))).length = _
    rw [show pickT h (c, e, a, b) = [(c, e)] from by simp [pickT, ht], ins_two]
    by_cases hx : (a, b) = (c, e)
    · rw [if_pos hx, if_pos hx.symm]
    · rw [if_neg hx, if_neg (fun hy => hx hy.symm)]
/-- Parts of h² - 1, times h, twice: the same. -/
theorem low_back {h k N : Int} (hN : 1 ≤ N) (hh : h * h - 1 = N) : lowNum (lowNum (k * h) N * h) (lowDen (k * h) N) = lowNum k N ∧ lowDen (lowNum (k * h) N * h) (lowDen (k * h) N) = lowDen k N := by
  have b := low_bd (k * h) N hN
  obtain ⟨g, K, hg, p1, p2⟩ := gc_split (k * h) N hN
  generalize lowNum (k * h) N = x at *
  generalize lowDen (k * h) N = y at *
  refine (low_same (x * h) y k N (by omega) hN).2 ⟨k - K * h, ?_⟩
  refine Int.eq_of_mul_eq_mul_left (show g ≠ 0 by omega) ?_
  have t1 : g * (x * h * N - k * y) = (g * x) * h * N - k * (g * y) := by grind
  have t2 : g * (y * N * (k - K * h)) = (g * y) * N * (k - K * h) := by grind
  rw [t1, t2, ← p1]
  have t3 : g * x = k * h - N * K := by omega
  rw [t3]
  have t4 : (k * h - N * K) * h * N - k * N = k * (h * h - 1) * N - N * K * h * N := by grind
  rw [t4, hh]
  grind
theorem low_times {h k N : Int} (hN : 1 ≤ N) : lowNum (lowNum k N * h) (lowDen k N) = lowNum (k * h) N ∧ lowDen (lowNum k N * h) (lowDen k N) = lowDen (k * h) N := by
  have b := low_bd k N hN
  obtain ⟨g, K, hg, p1, p2⟩ := gc_split k N hN
  generalize lowNum k N = x at *
  generalize lowDen k N = y at *
  refine (low_same (x * h) y (k * h) N (by omega) hN).2 ⟨-(K * h), ?_⟩
  refine Int.eq_of_mul_eq_mul_left (show g ≠ 0 by omega) ?_
  have t1 : g * (x * h * N - k * h * y) = (g * x) * h * N - k * h * (g * y) := by grind
  have t2 : g * (y * N * -(K * h)) = (g * y) * N * -(K * h) := by grind
  rw [t1, t2, ← p1]
  have t3 : g * x = k - N * K := by omega
  rw [t3]
  grind
/-- Each part of h² - 1 can be taken for another, or for itself. -/
theorem ev_ex {h k : Int} (hh : 2 ≤ h ∧ h ≤ 24) : exTimeT h (lowNum k (h * h - 1)) (lowDen k (h * h - 1)) = (lowNum (k * h) (h * h - 1), lowDen (k * h) (h * h - 1), true) := by
  have hN : 3 ≤ h * h - 1 ∧ h * h - 1 ≤ 575 := by
    have a1 : 2 * 2 ≤ h * h := Int.mul_le_mul hh.1 hh.1 (by omega) (by omega)
    have a2 : h * h ≤ 24 * 24 := Int.mul_le_mul hh.2 hh.2 (by omega) (by omega)
    omega
  obtain ⟨N, e⟩ : ∃ N, h * h - 1 = N := ⟨_, rfl⟩
  rw [e] at hN ⊢
  have b := low_bd k N (by omega)
  have ga : askB h (lowNum k N) (lowDen k N) = true := by
    unfold askB
    rw [good_low_of k N (by omega) (by omega), show inB h 2 24 = true from decide_eq_true hh]; rfl
  obtain ⟨u1, u2⟩ := low_times (h := h) (k := k) (N := N) (by omega)
  obtain ⟨v1, v2⟩ := low_back (h := h) (k := k) (N := N) (by omega) e
  rw [ex_val ga, u1, u2]
  have : trueB h (lowNum (k * h) N) (lowDen (k * h) N) (lowNum k N) (lowDen k N) = true := by unfold trueB; exact eqT_iff.2 ⟨v1, v2⟩
  rw [if_pos this]
/-- .. for itself where h + 1 divides it. -/
theorem ev_self {h k : Int} (hh : 2 ≤ h ∧ h ≤ 24) : eqT (lowNum (k * h) (h * h - 1)) (lowDen (k * h) (h * h - 1)) (lowNum k (h * h - 1)) (lowDen k (h * h - 1)) = decide ((h + 1) ∣ k) := by
  have hN : 1 ≤ h * h - 1 := by
    have a1 : 2 * 2 ≤ h * h := Int.mul_le_mul hh.1 hh.1 (by omega) (by omega)
    omega
  have e : h * h - 1 = (h - 1) * (h + 1) := by grind
  have key := low_same (k * h) (h * h - 1) k (h * h - 1) hN hN
  rw [Bool.eq_iff_iff, eqT_iff, decide_eq_true_eq, key]
  generalize hM : h * h - 1 = M at *
  constructor
  · rintro ⟨c, hc⟩
    refine ⟨c, ?_⟩
    have t1 : k * h * M - k * M = M * (k * (h - 1)) := by grind
    rw [t1] at hc
    have t2 : M * M * c = M * (M * c) := by grind
    rw [t2] at hc
    have h1 := Int.eq_of_mul_eq_mul_left (show M ≠ 0 by omega) hc
    rw [e] at h1
    refine Int.eq_of_mul_eq_mul_left (show h - 1 ≠ 0 by omega) ?_
    have : (h - 1) * k = k * (h - 1) := Int.mul_comm _ _
    rw [this, h1]; grind
  · rintro ⟨c, rfl⟩
    exact ⟨c, by rw [e]; grind⟩
/-- How many of the first k parts are taken for others. -/
def uns (h : Int) : Nat → Int
  | 0 => 0
  | k + 1 => if (h + 1) ∣ (k : Int) then uns h k else uns h k + 1
theorem uns_is {h : Int} (hh : 2 ≤ h) : ∀ k : Nat, uns h k = k - (k + h) / (h + 1)
  | 0 => by
    have : h / (h + 1) = 0 := Int.ediv_eq_zero_of_lt (by omega) (by omega)
    simp [uns, this]
  | k + 1 => by
    have ih := uns_is hh k
    simp only [uns]
    by_cases hd : (h + 1) ∣ (k : Int)
    · rw [if_pos hd, ih]
      obtain ⟨m, hm⟩ := hd
      have e1 : ((k : Int) + h) / (h + 1) = m := by
        rw [hm, Int.add_comm, Int.add_mul_ediv_left _ _ (by omega), Int.ediv_eq_zero_of_lt (by omega) (by omega)]; omega
      have e2 : (((k + 1 : Nat) : Int) + h) / (h + 1) = m + 1 := by
        have : ((k + 1 : Nat) : Int) + h = 0 + (h + 1) * (m + 1) := by
          rw [Int.mul_add, ← hm]; omega
        rw [this, Int.add_mul_ediv_left _ _ (by omega)]; simp
      rw [e1, e2]; omega
    · rw [if_neg hd, ih]
      obtain ⟨q, r, hq, hr1, hr2⟩ : ∃ q r : Int, (k : Int) = (h + 1) * q + r ∧ 1 ≤ r ∧ r < h + 1 := by
        refine ⟨(k : Int) / (h + 1), (k : Int) % (h + 1), (Int.mul_ediv_add_emod _ _).symm, ?_, Int.emod_lt_of_pos _ (by omega)⟩
        have h0 := Int.emod_nonneg (k : Int) (show h + 1 ≠ 0 by omega)
        have h1 : ¬ (k : Int) % (h + 1) = 0 := fun e => hd (Int.dvd_of_emod_eq_zero e)
        omega
      have e1 : ((k : Int) + h) / (h + 1) = q + 1 := by
        have : (k : Int) + h = (r - 1) + (h + 1) * (q + 1) := by rw [Int.mul_add, hq]; omega
        rw [this, Int.add_mul_ediv_left _ _ (by omega), Int.ediv_eq_zero_of_lt (by omega) (by omega)]; omega
      have e2 : (((k + 1 : Nat) : Int) + h) / (h + 1) = q + 1 := by
        have : ((k + 1 : Nat) : Int) + h = r + (h + 1) * (q + 1) := by rw [Int.mul_add]; omega
        rw [this, Int.add_mul_ediv_left _ _ (by omega), Int.ediv_eq_zero_of_lt (by omega) (by omega)]; omega
      rw [e1, e2]; omega
theorem uns_all {h : Int} (hh : 2 ≤ h ∧ h ≤ 24) : uns h (h * h - 1).toNat = h * h - 1 - (h - 1) := by
  have a1 : 2 * 2 ≤ h * h := Int.mul_le_mul hh.1 hh.1 (by omega) (by omega)
  rw [uns_is hh.1, Int.toNat_of_nonneg (by omega)]
  have : (h * h - 1 + h) / (h + 1) = h - 1 := by
    have e : h * h - 1 + h = h + (h + 1) * (h - 1) := by grind
    rw [e, Int.add_mul_ediv_left _ _ (by omega), Int.ediv_eq_zero_of_lt (by omega) (by omega)]; omega
  rw [this]
/-- The times that are their own mirrored ones. -/
def ownChk (h : Int) : Bool := (evL 2).all fun x => (seenOfT h x.1 x.2).2.2.2.2 && decide (mirT (seenOfT h x.1 x.2).1 (seenOfT h x.1 x.2).2.1 (seenOfT h x.1 x.2).2.2.1 (seenOfT h x.1 x.2).2.2.2.1 = seenOfT h x.1 x.2)
theorem ownChk_all : ∀ i : Fin 23, ownChk ((i.val : Int) + 2) = true := by decide +kernel
theorem own_ok {h : Int} (hh : 2 ≤ h ∧ h ≤ 24) {x : Int × Int} (hx : x ∈ evL 2) : (seenOfT h x.1 x.2).2.2.2.2 = true ∧ mirT (seenOfT h x.1 x.2).1 (seenOfT h x.1 x.2).2.1 (seenOfT h x.1 x.2).2.2.1 (seenOfT h x.1 x.2).2.2.2.1 = seenOfT h x.1 x.2 := by
  have e := ownChk_all ⟨(h - 2).toNat, by omega⟩
  simp only [] at e
  rw [show (((h - 2).toNat : Nat) : Int) + 2 = h from by omega] at e
  unfold ownChk at e
  have := List.all_eq_true.1 e x hx
  simpa only [Bool.and_eq_true, decide_eq_true_eq] using this
/-- Equal parts of a turn rise. -/
theorem ev_rises {N : Int} (h1 : 1 ≤ N) (h2 : N ≤ 1000000) : Rises (evL N) := by
  unfold evL
  refine rises_map (fun j hj => ?_) (fun j hj => ?_)
  · have b := low_bd (j : Int) N h1
    have l := low_lt (j : Int) N h1
    show (0 ≤ lowNum j N ∧ lowNum j N ≤ 999999) ∧ 1 ≤ lowDen j N ∧ lowDen j N ≤ 1000000
    omega
  · have := low_rise (m1 := (j : Int)) (m2 := ((j + 1 : Nat) : Int)) h1 (by omega) (by omega) (by omega)
    exact this
end Go.Proofs.YticdmochedadbaaGreat
