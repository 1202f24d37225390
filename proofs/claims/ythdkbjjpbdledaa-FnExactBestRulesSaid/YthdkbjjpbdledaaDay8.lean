/- BestRules: by the program and by the model. -/
import Derived.Test.YthdkbjjpbdledaaRRow
import Derived.Test.YthdkbjjpbdledaaDay4
set_option linter.unusedSimpArgs false
set_option linter.unusedVariables false
set_option maxRecDepth 100000
namespace Go.Proofs.Ythdkbjjpbdledaa
open Go.RowKit

/-- The convergents from (l, y) on, (l', y') being the one ahead, as long as the years are at most most. -/
def cvL (most : Int) : Nat → Int → Int → Int → Int → Int → Int → List (Int × Int)
  | 0, _, _, _, _, _, _ => []
  | f + 1, num, den, l, y, l', y' => if y ≤ most then (l, y) :: (if num = 0 then [] else cvL most f (den % num) num (den / num * l + l') (den / num * y + y') l y) else []
theorem cvL_len (most : Int) (f : Nat) (num den l y l' y' : Int) : (cvL most f num den l y l' y').length ≤ f := by
  induction f generalizing num den l y l' y' with
  | zero => simp [cvL]
  | succ f ih =>
    simp only [cvL]
    split
    · split
      · simp
      · simpa using ih _ _ _ _ _ _
    · simp
/-- More fuel than needed changes nothing. -/
theorem cvL_more (most : Int) (f : Nat) : ∀ (num den l y l' y' : Int), 0 ≤ num → num < f → cvL most (f + 1) num den l y l' y' = cvL most f num den l y l' y' := by
  induction f with
  | zero => intro num den l y l' y' h0 h1; omega
  | succ f ih =>
    intro num den l y l' y' h0 h1
    rw [cvL]
    conv => rhs; rw [cvL]
    by_cases hn : num = 0
    · simp [hn]
    · have hm := Int.emod_lt_of_pos den (show 0 < num by omega)
      have hm0 := Int.emod_nonneg den hn
      rw [ih _ _ _ _ _ _ hm0 (by omega)]
/-- What holds of the two convergents. -/
def CvI (num den l y l' y' : Int) : Prop := 0 ≤ num ∧ num < den ∧ den ≤ 100000 ∧ 0 ≤ l ∧ l ≤ y ∧ 1 ≤ y ∧ 0 ≤ l' ∧ 0 ≤ y' ∧ y' ≤ y ∧ (l' ≤ y' ∨ (l = 0 ∧ l' = 1 ∧ y' = 0))
theorem CvI.next {num den l y l' y' : Int} (h : CvI num den l y l' y') (hn : num ≠ 0) : CvI (den % num) num (den / num * l + l') (den / num * y + y') l y ∧ 1 ≤ den / num ∧ den / num ≤ 100000 := by
  obtain ⟨h1, h2, h3, h4, h5, h6, h7, h8, h9, h10⟩ := h
  have m1 := Int.emod_lt_of_pos den (show 0 < num by omega)
  have m0 := Int.emod_nonneg den hn
  have q1 : 1 ≤ den / num := by
    have := Int.ediv_le_ediv (show 0 < num by omega) (show num ≤ den by omega)
    rw [Int.ediv_self hn] at this; exact this
  have q2 : den / num ≤ 100000 := Int.le_trans (Int.ediv_le_self _ (by omega)) h3
  generalize den / num = q at *
  have a1 : q * l ≤ q * y := Int.mul_le_mul_of_nonneg_left h5 (by omega)
  have a2 : 0 ≤ q * l := Int.mul_nonneg (by omega) h4
  have a3 : y ≤ q * y := by have := Int.mul_le_mul_of_nonneg_right q1 (show 0 ≤ y by omega); omega
  refine ⟨⟨m0, m1, by omega, by omega, ?_, by omega, h4, by omega, by omega, .inl h5⟩, q1, q2⟩
  rcases h10 with h | ⟨rfl, rfl, rfl⟩
  · omega
  · simp at *; omega
theorem cvL_stop {most : Int} (f : Nat) {num den l y l' y' : Int} (h : ¬ y ≤ most) : cvL most f num den l y l' y' = [] := by
  cases f <;> simp [cvL, h]
theorem cvL_zero {most : Int} {f : Nat} (hf : 0 < f) {den l y l' y' : Int} (h : y ≤ most) : cvL most f 0 den l y l' y' = [(l, y)] := by
  obtain ⟨f, rfl⟩ : ∃ k, f = k + 1 := ⟨f - 1, by omega⟩
  simp [cvL, h]
theorem cvL_go {most : Int} {f : Nat} {num den l y l' y' : Int} (hn : num ≠ 0) (h : y ≤ most) : cvL most (f + 1) num den l y l' y' = (l, y) :: cvL most f (den % num) num (den / num * l + l') (den / num * y + y') l y := by
  simp [cvL, h, hn]
def brB (num den most : Int) : Bool := frB num den && inB most 1 100000
def brL (num den most : Int) : List (Int × Int) := if brB num den most then cvL most (num.toNat + 1) num den 0 1 1 0 else []
theorem brL_len (num den most : Int) : (brL num den most).length ≤ 100001 := by
  unfold brL
  split
  · rename_i h
    simp only [brB, Bool.and_eq_true] at h
    have := frBd h.1
    exact Nat.le_trans (cvL_len _ _ _ _ _ _ _ _) (by omega)
  · simp
/-- What BestRules leaves. -/
def RulesOut (w0 : World) (L : List (Int × Int)) (ok : Bool) (e : Ending) (w' : World) : Prop :=
  ∃ v ts, e = .returned (.tuple #[v, .bool ok]) ∧ ts.map (·.2) = L ∧ RRow w' w0.heap.size v ts ∧ Below w0.heap.size w0 w'
theorem RulesOut.none {w0 w' : World} (h : Below w0.heap.size w0 w') : RulesOut w0 [] false (.returned (.tuple #[.slice none 0 0, .bool false])) w' :=
  ⟨_, [], rfl, rfl, RRow.nil _ _, h⟩
/-- The numbers of a round. -/
theorem cv_nums {num den l y l' y' : Int} (h : CvI num den l y l' y') (hn : num ≠ 0) (hy : y ≤ 100000) :
    (1 ≤ num ∧ num ≤ 100000) ∧ (1 ≤ den / num ∧ den / num ≤ 100000) ∧ (0 ≤ den / num * l ∧ den / num * l ≤ 10000000000) ∧ (0 ≤ den / num * y ∧ den / num * y ≤ 10000000000) ∧ (0 ≤ l' ∧ l' ≤ 100001) ∧ (0 ≤ y' ∧ y' ≤ 100000) := by
  obtain ⟨-, q1, q2⟩ := h.next hn
  obtain ⟨h1, h2, h3, h4, h5, h6, h7, h8, h9, h10⟩ := h
  have m1 := mulD (show 0 ≤ den / num by omega) q2 h4 (show l ≤ 100000 by omega)
  have m2 := mulD (show 0 ≤ den / num by omega) q2 (show 0 ≤ y by omega) hy
  omega
set_option maxHeartbeats 6400000 in
theorem implBestRules_any (num den most : Int) (w : World) :
    Calls Try.prog 47 #[.int .i64 num, .int .i64 den, .int .i64 most] w (RulesOut w (brL num den most) (brB num den most)) := by
  cases ga : frB num den
  · have HB := Lib.hid (show brB num den most = false from by simp [brB, ga])
    have HL := Lib.hid (show brL num den most = [] from by rw [brL, HB.out]; rfl)
    (go_enter Try.func47, Try.ntmps47)
    go_wp2_with fail
    refine (isPart_is num den ga _).mono ?_
    (rintro e1 w1 ⟨rfl, hb1⟩; obtain ⟨hc1, hf1⟩ := bcell hb1; have hz1 := hb1.size; (try simp only [World.size_alloc, World.size_setCell, World.size_drew] at hz1); have q1 : w.heap.size ≤ w1.heap.size := (by omega); (try have q1_0 : w.heap.size < w1.heap.size := (by omega)); (try have q1_1 : w.heap.size + 1 < w1.heap.size := (by omega)); (try have q1_2 : w.heap.size + 2 < w1.heap.size := (by omega)); (try have q1_3 : w.heap.size + 3 < w1.heap.size := (by omega)))
    go_wp2
    (refine bodyPost_ret (by simp [results, Try.results47, go_sem, *]; try rfl) rfl ?_)
    rw [HL.out, HB.out]
    exact RulesOut.none (by (repeat' (first | (with_reducible exact Below.refl _ _) | (with_reducible assumption) | (with_reducible refine Below.alloc ?_ ?_ _) | (with_reducible refine Below.drew ?_) | (with_reducible refine below_drewN ?_ _) | (with_reducible refine Below.setCell ?_ ?_ _) | (with_reducible refine below_call ?_ ?_ (by assumption)) | go_size)))
  · cases gb : inB most 1 100000
    · have HB := Lib.hid (show brB num den most = false from by simp [brB, ga, gb])
      have HL := Lib.hid (show brL num den most = [] from by rw [brL, HB.out]; rfl)
      (go_enter Try.func47, Try.ntmps47)
      go_wp2_with fail
      refine (isPart_is num den ga _).mono ?_
      (rintro e1 w1 ⟨rfl, hb1⟩; obtain ⟨hc1, hf1⟩ := bcell hb1; have hz1 := hb1.size; (try simp only [World.size_alloc, World.size_setCell, World.size_drew] at hz1); have q1 : w.heap.size ≤ w1.heap.size := (by omega); (try have q1_0 : w.heap.size < w1.heap.size := (by omega)); (try have q1_1 : w.heap.size + 1 < w1.heap.size := (by omega)); (try have q1_2 : w.heap.size + 2 < w1.heap.size := (by omega)); (try have q1_3 : w.heap.size + 3 < w1.heap.size := (by omega)))
      go_wp2_with fail
      refine (isWithin_is _ _ _ gb _).mono ?_
      (rintro e1 w1 ⟨rfl, rfl⟩)
      go_wp2
      (refine bodyPost_ret (by simp [results, Try.results47, go_sem, *]; try rfl) rfl ?_)
      rw [HL.out, HB.out]
      exact RulesOut.none (by (repeat' (first | (with_reducible exact Below.refl _ _) | (with_reducible assumption) | (with_reducible refine Below.alloc ?_ ?_ _) | (with_reducible refine Below.drew ?_) | (with_reducible refine below_drewN ?_ _) | (with_reducible refine Below.setCell ?_ ?_ _) | (with_reducible refine below_call ?_ ?_ (by assumption)) | go_size)))
    · obtain ⟨m1, m2⟩ := inBd gb
      obtain ⟨f1, f2, f3⟩ := frBd ga
      have HB := Lib.hid (show brB num den most = true from by simp [brB, ga, gb])
      have HL := Lib.hid (show brL num den most = cvL most (num.toNat + 1) num den 0 1 1 0 from by rw [brL, HB.out]; rfl)
      obtain ⟨i0, hi0, hz0, hz1, hz2⟩ := info_parts Try.infoInts
      have I0 := Lib.hid hi0
      have Z0 := Lib.hid hz0
      have Z1 := Lib.hid hz1
      have Z2 := Lib.hid hz2
      clear hi0 hz0 hz1 hz2
      (go_enter Try.func47, Try.ntmps47)
      go_wp2_with fail
      refine (isPart_is num den ga _).mono ?_
      (rintro e1 w1 ⟨rfl, hb1⟩; obtain ⟨hc1, hf1⟩ := bcell hb1; have hz1 := hb1.size; (try simp only [World.size_alloc, World.size_setCell, World.size_drew] at hz1); have q1 : w.heap.size ≤ w1.heap.size := (by omega); (try have q1_0 : w.heap.size < w1.heap.size := (by omega)); (try have q1_1 : w.heap.size + 1 < w1.heap.size := (by omega)); (try have q1_2 : w.heap.size + 2 < w1.heap.size := (by omega)); (try have q1_3 : w.heap.size + 3 < w1.heap.size := (by omega)))
      go_wp2_with fail
      refine (isWithin_is _ _ _ gb _).mono ?_
      (rintro e1 w1 ⟨rfl, rfl⟩)
      have hbw1 : Below w.heap.size w w1 := by (repeat' (first | (with_reducible exact Below.refl _ _) | (with_reducible assumption) | (with_reducible refine Below.alloc ?_ ?_ _) | (with_reducible refine Below.drew ?_) | (with_reducible refine below_drewN ?_ _) | (with_reducible refine Below.setCell ?_ ?_ _) | (with_reducible refine below_call ?_ ?_ (by assumption)) | go_size))
      have HS := Lib.hid (show CvI num den 0 1 1 0 by unfold CvI; omega)
      go_wp2
      go_loopw [0, 1, 8, 9, 10, 11, 12] (fun u0 u1 u8 u9 u10 u11 u12 wr => ∃ (n d l y l' y' : Int) (f : Nat) (ts : List (Nat × Int × Int)), u0 = .int .i64 n ∧ u1 = .int .i64 d ∧ u9 = .int .i64 l ∧ u10 = .int .i64 y ∧ u11 = .int .i64 l' ∧ u12 = .int .i64 y' ∧ CvI n d l y l' y' ∧ n < f ∧ f ≤ 100000 ∧ ts.length + f ≤ 100001 ∧ ts.map (·.2) ++ cvL most f n d l y l' y' = brL num den most ∧ RRow wr w.heap.size u8 ts ∧ Below w.heap.size w wr) (fun u0 _ _ _ _ _ _ _ => (intOf u0).toNat)
      case atStart => exact ⟨num, den, 0, 1, 1, 0, num.toNat + 1, [], rfl, rfl, rfl, rfl, rfl, rfl, HS.out, by omega, by omega, by simp; omega, by rw [HL.out]; rfl, RRow.nil _ _, hbw1⟩
      case round =>
        obtain ⟨n, d, l, y, l', y', f, ts, rfl, rfl, rfl, rfl, rfl, rfl, hcv, hf, hf2, hlen, hL, hrow, hbr⟩ := hrel
        have HC := Lib.hid hcv
        have HLL := Lib.hid hL
        have HR := Lib.hid hrow
        obtain ⟨c1, c2, c3, c4, c5, c6, c7, c8, c9, -⟩ := hcv
        have hzr := hbr.size
        clear hL hrow
        by_cases hy : y ≤ most
        · have HLT : ∀ k, u8.ownBlock = some k → w.heap.size ≤ k := fun k hk => (World.ownsRow.lt HR.out.1 k hk).1
          have key : ∀ g4 c4 w4, w4.ownsRow w.heap.size 52 1 (.slice (some ⟨g4, 0, none⟩) (ts.length + 1) c4) (ts.length + 1) ((ts.map fun t => sl2 t.1) ++ [sl2 wr.heap.size]) → ((wr.alloc (.cells #[.int .i64 l, .int .i64 y] 3)).alloc (.cells #[sl2 wr.heap.size] 52)).grownBy w4 u8.ownBlock → (u8.ownBlock = some g4 ∨ g4 = wr.heap.size + 2) → RRow w4 w.heap.size (.slice (some ⟨g4, 0, none⟩) (ts.length + 1) c4) (ts ++ [(wr.heap.size, l, y)]) ∧ Below w.heap.size w w4 := fun g4 c4 w4 h1 h2 h3 =>
            ⟨HR.out.push hzr h1 h2 h3, Below.grown (w := (wr.alloc (.cells #[.int .i64 l, .int .i64 y] 3)).alloc (.cells #[sl2 wr.heap.size] 52)) (by (repeat' (first | (with_reducible exact Below.refl _ _) | (with_reducible assumption) | (with_reducible refine Below.alloc ?_ ?_ _) | (with_reducible refine Below.drew ?_) | (with_reducible refine below_drewN ?_ _) | (with_reducible refine Below.setCell ?_ ?_ _) | (with_reducible refine below_call ?_ ?_ (by assumption)) | go_size))) h2 (by simp; omega) HLT⟩
          have KEY := Lib.hid key
          clear key
          by_cases hn : n = 0
          · subst hn
            have HE := Lib.hid (show (ts ++ [(wr.heap.size, l, y)]).map (·.2) = brL num den most by rw [← HLL.out, cvL_zero (by omega) hy]; simp)
            go_wp2_with (at_builtin; refine wpList_append_lies _ rfl _ _ _ rfl w.heap.size 52 i0 _ 1 24 Try.underlying46 I0.out Z0.out Z1.out Z2.out rfl (by omega) u8 ts.length (ts.map fun t => sl2 t.1) rfl ((HR.out.1.alloc _).alloc _) ⟨wr.heap.size + 1, 0, none⟩ 1 1 [sl2 wr.heap.size] rfl rfl (World.news_of_block (cs := #[sl2 wr.heap.size]) (t := 52) (fr := (0, 0)) (by simpa using heap_alloc_new (wr.alloc (.cells #[.int .i64 (l), .int .i64 (y)] 3)) _)) (by simp [Value.oneCell']) (by omega) (by unfold maxLen; omega) (by omega) (by simp; omega) (wr.heap.size + 2) (by simp) ?_; intro g4 c4 w4 hown4 hgrow4 hat4 hlt4)
            obtain ⟨hr4, hb4⟩ := KEY.out g4 c4 w4 hown4 hgrow4 hat4
            have HR4 := Lib.hid hr4
            clear hown4 hgrow4 hat4 hlt4 hr4
            go_wp2
            (refine bodyPost_ret (by simp [results, Try.results47, go_sem, *]; try rfl) rfl ?_)
            rw [HB.out]
            exact ⟨_, _, rfl, HE.out, HR4.out, hb4⟩
          · obtain ⟨⟨n1, n2⟩, ⟨q1, q2⟩, ⟨a1, a2⟩, ⟨a3, a4⟩, ⟨a5, a6⟩, a7, a8⟩ := cv_nums HC.out hn (by omega)
            have HN := Lib.hid (HC.out.next hn).1
            have HM := Lib.hid (Int.emod_lt_of_pos d (show 0 < n by omega))
            have HM0 := Lib.hid (Int.emod_nonneg d (show n ≠ 0 by omega))
            have v1 := dq64 (n := d) (g := n) (by omega) (by omega) n1
            have v2 := dt64 (n := d) (g := n) (by omega) n1 (by omega)
            have v3 : IntKind.i64.wrap (d / n * l) = d / n * l := dw64 (by omega)
            have v4 : IntKind.i64.wrap (d / n * y) = d / n * y := dw64 (by omega)
            have v5 : IntKind.i64.wrap (d / n * l + l') = d / n * l + l' := dw64 (by omega)
            have v6 : IntKind.i64.wrap (d / n * y + y') = d / n * y + y' := dw64 (by omega)
            have v7 : ¬ (n = 0) := hn
            have v8 : (n == 0) = false := by simpa using hn
            obtain ⟨f', rfl⟩ : ∃ k, f = k + 1 := ⟨f - 1, by omega⟩
            have HE := Lib.hid (show (ts ++ [(wr.heap.size, l, y)]).map (·.2) ++ cvL most f' (d % n) n (d / n * l + l') (d / n * y + y') l y = brL num den most by rw [← HLL.out, cvL_go hn hy]; simp)
            go_wp2_with (at_builtin; refine wpList_append_lies _ rfl _ _ _ rfl w.heap.size 52 i0 _ 1 24 Try.underlying46 I0.out Z0.out Z1.out Z2.out rfl (by omega) u8 ts.length (ts.map fun t => sl2 t.1) rfl ((HR.out.1.alloc _).alloc _) ⟨wr.heap.size + 1, 0, none⟩ 1 1 [sl2 wr.heap.size] rfl rfl (World.news_of_block (cs := #[sl2 wr.heap.size]) (t := 52) (fr := (0, 0)) (by simpa using heap_alloc_new (wr.alloc (.cells #[.int .i64 (l), .int .i64 (y)] 3)) _)) (by simp [Value.oneCell']) (by omega) (by unfold maxLen; omega) (by omega) (by simp; omega) (wr.heap.size + 2) (by simp) ?_; intro g4 c4 w4 hown4 hgrow4 hat4 hlt4)
            obtain ⟨hr4, hb4⟩ := KEY.out g4 c4 w4 hown4 hgrow4 hat4
            have HR4 := Lib.hid hr4
            clear hown4 hgrow4 hat4 hlt4 hr4
            go_wp2
            go_roundw
            case rel => exact ⟨d % n, n, d / n * l + l', d / n * y + y', l, y, f', _, rfl, rfl, rfl, rfl, rfl, rfl, HN.out, by have := HM.out; omega, by omega, by simp; omega, HE.out, HR4.out, hb4⟩
            case measure => have := HM.out; have := HM0.out; simp [intOf]; omega
        · have HE := Lib.hid (show ts.map (·.2) = brL num den most by rw [← HLL.out, cvL_stop f hy]; simp)
          go_wp2
          (refine bodyPost_ret (by simp [results, Try.results47, go_sem, *]; try rfl) rfl ?_)
          rw [HB.out]
          exact ⟨_, _, rfl, HE.out, HR.out, hbr⟩

set_option maxHeartbeats 6400000 in
theorem specBestRules_any (num den most : Int) (w : World) :
    Calls Try.prog 46 #[.int .i64 num, .int .i64 den, .int .i64 most] w (RulesOut w (brL num den most) (brB num den most)) := by
  cases ga : frB num den
  · have HB := Lib.hid (show brB num den most = false from by simp [brB, ga])
    have HL := Lib.hid (show brL num den most = [] from by rw [brL, HB.out]; rfl)
    (go_enter Try.func46, Try.ntmps46)
    go_wp2_with fail
    refine (daFrac_is num den ga _).mono ?_
    (rintro e1 w1 ⟨rfl, hb1⟩; obtain ⟨hc1, hf1⟩ := bcell hb1; have hz1 := hb1.size; (try simp only [World.size_alloc, World.size_setCell, World.size_drew] at hz1); have q1 : w.heap.size ≤ w1.heap.size := (by omega); (try have q1_0 : w.heap.size < w1.heap.size := (by omega)); (try have q1_1 : w.heap.size + 1 < w1.heap.size := (by omega)); (try have q1_2 : w.heap.size + 2 < w1.heap.size := (by omega)); (try have q1_3 : w.heap.size + 3 < w1.heap.size := (by omega)))
    go_wp2
    (refine bodyPost_ret (by simp [results, Try.results46, go_sem, *]; try rfl) rfl ?_)
    rw [HL.out, HB.out]
    exact RulesOut.none (by (repeat' (first | (with_reducible exact Below.refl _ _) | (with_reducible assumption) | (with_reducible refine Below.alloc ?_ ?_ _) | (with_reducible refine Below.drew ?_) | (with_reducible refine below_drewN ?_ _) | (with_reducible refine Below.setCell ?_ ?_ _) | (with_reducible refine below_call ?_ ?_ (by assumption)) | go_size)))
  · cases gb : inB most 1 100000
    · have HB := Lib.hid (show brB num den most = false from by simp [brB, ga, gb])
      have HL := Lib.hid (show brL num den most = [] from by rw [brL, HB.out]; rfl)
      (go_enter Try.func46, Try.ntmps46)
      go_wp2_with fail
      refine (daFrac_is num den ga _).mono ?_
      (rintro e1 w1 ⟨rfl, hb1⟩; obtain ⟨hc1, hf1⟩ := bcell hb1; have hz1 := hb1.size; (try simp only [World.size_alloc, World.size_setCell, World.size_drew] at hz1); have q1 : w.heap.size ≤ w1.heap.size := (by omega); (try have q1_0 : w.heap.size < w1.heap.size := (by omega)); (try have q1_1 : w.heap.size + 1 < w1.heap.size := (by omega)); (try have q1_2 : w.heap.size + 2 < w1.heap.size := (by omega)); (try have q1_3 : w.heap.size + 3 < w1.heap.size := (by omega)))
      go_wp2_with fail
      refine (l1In_is _ _ _ gb _).mono ?_
      (rintro e1 w1 ⟨rfl, rfl⟩)
      go_wp2
      (refine bodyPost_ret (by simp [results, Try.results46, go_sem, *]; try rfl) rfl ?_)
      rw [HL.out, HB.out]
      exact RulesOut.none (by (repeat' (first | (with_reducible exact Below.refl _ _) | (with_reducible assumption) | (with_reducible refine Below.alloc ?_ ?_ _) | (with_reducible refine Below.drew ?_) | (with_reducible refine below_drewN ?_ _) | (with_reducible refine Below.setCell ?_ ?_ _) | (with_reducible refine below_call ?_ ?_ (by assumption)) | go_size)))
    · obtain ⟨m1, m2⟩ := inBd gb
      obtain ⟨f1, f2, f3⟩ := frBd ga
      have HB := Lib.hid (show brB num den most = true from by simp [brB, ga, gb])
      have HL := Lib.hid (show brL num den most = cvL most (num.toNat + 1) num den 0 1 1 0 from by rw [brL, HB.out]; rfl)
      obtain ⟨i0, hi0, hz0, hz1, hz2⟩ := info_parts Try.infoInts
      have I0 := Lib.hid hi0
      have Z0 := Lib.hid hz0
      have Z1 := Lib.hid hz1
      have Z2 := Lib.hid hz2
      clear hi0 hz0 hz1 hz2
      (go_enter Try.func46, Try.ntmps46)
      go_wp2_with fail
      refine (daFrac_is num den ga _).mono ?_
      (rintro e1 w1 ⟨rfl, hb1⟩; obtain ⟨hc1, hf1⟩ := bcell hb1; have hz1 := hb1.size; (try simp only [World.size_alloc, World.size_setCell, World.size_drew] at hz1); have q1 : w.heap.size ≤ w1.heap.size := (by omega); (try have q1_0 : w.heap.size < w1.heap.size := (by omega)); (try have q1_1 : w.heap.size + 1 < w1.heap.size := (by omega)); (try have q1_2 : w.heap.size + 2 < w1.heap.size := (by omega)); (try have q1_3 : w.heap.size + 3 < w1.heap.size := (by omega)))
      go_wp2_with fail
      refine (l1In_is _ _ _ gb _).mono ?_
      (rintro e1 w1 ⟨rfl, rfl⟩)
      have hbw1 : Below w.heap.size w w1 := by (repeat' (first | (with_reducible exact Below.refl _ _) | (with_reducible assumption) | (with_reducible refine Below.alloc ?_ ?_ _) | (with_reducible refine Below.drew ?_) | (with_reducible refine below_drewN ?_ _) | (with_reducible refine Below.setCell ?_ ?_ _) | (with_reducible refine below_call ?_ ?_ (by assumption)) | go_size))
      have HS := Lib.hid (show CvI num den 0 1 1 0 by unfold CvI; omega)
      have hz1' := hbw1.size
      have HO := Lib.hid (RRow.one (w := w1) (b := w.heap.size) hz1' 0 1)
      go_wp2
      go_loopw [0, 1, 8, 9, 10, 11, 12] (fun u0 u1 u8 u9 u10 u11 u12 wr => ∃ (n d l y l' y' : Int) (f : Nat) (pre : List (Int × Int)) (ts : List (Nat × Int × Int)), u0 = .int .i64 n ∧ u1 = .int .i64 d ∧ u10 = .int .i64 l ∧ u11 = .int .i64 y ∧ u8 = .int .i64 l' ∧ u9 = .int .i64 y' ∧ CvI n d l y l' y' ∧ n < f ∧ f ≤ 100000 ∧ ts.length + f ≤ 100001 ∧ y ≤ most ∧ ts.map (·.2) = pre ++ [(l, y)] ∧ pre ++ cvL most f n d l y l' y' = brL num den most ∧ RRow wr w.heap.size u12 ts ∧ Below w.heap.size w wr) (fun u0 _ _ _ _ _ _ _ => (intOf u0).toNat)
      case atStart => exact ⟨num, den, 0, 1, 1, 0, num.toNat + 1, [], _, rfl, rfl, rfl, rfl, rfl, rfl, HS.out, by omega, by omega, by simp; omega, by omega, rfl, by rw [HL.out]; rfl, HO.out, by (repeat' (first | (with_reducible exact Below.refl _ _) | (with_reducible assumption) | (with_reducible refine Below.alloc ?_ ?_ _) | (with_reducible refine Below.drew ?_) | (with_reducible refine below_drewN ?_ _) | (with_reducible refine Below.setCell ?_ ?_ _) | (with_reducible refine below_call ?_ ?_ (by assumption)) | go_size))⟩
      case round =>
        obtain ⟨n, d, l, y, l', y', f, pre, ts, rfl, rfl, rfl, rfl, rfl, rfl, hcv, hf, hf2, hlen, hy, hT, hL, hrow, hbr⟩ := hrel
        have HC := Lib.hid hcv
        have HLL := Lib.hid hL
        have HT := Lib.hid hT
        have HR := Lib.hid hrow
        obtain ⟨c1, c2, c3, c4, c5, c6, c7, c8, c9, -⟩ := hcv
        have hzr := hbr.size
        clear hL hrow hT
        by_cases hn : n = 0
        · subst hn
          have HE := Lib.hid (show ts.map (·.2) = brL num den most by rw [HT.out, ← HLL.out, cvL_zero (by omega) hy])
          go_wp2
          (refine bodyPost_ret (by simp [results, Try.results46, go_sem, *]; try rfl) rfl ?_)
          rw [HB.out]
          exact ⟨_, _, rfl, HE.out, HR.out, hbr⟩
        · obtain ⟨⟨n1, n2⟩, ⟨q1, q2⟩, ⟨a1, a2⟩, ⟨a3, a4⟩, ⟨a5, a6⟩, a7, a8⟩ := cv_nums HC.out hn (by omega)
          have HN := Lib.hid (HC.out.next hn).1
          have HM := Lib.hid (Int.emod_lt_of_pos d (show 0 < n by omega))
          have HM0 := Lib.hid (Int.emod_nonneg d (show n ≠ 0 by omega))
          have v1 := dq64 (n := d) (g := n) (by omega) (by omega) n1
          have v2 := dt64 (n := d) (g := n) (by omega) n1 (by omega)
          have v3 : IntKind.i64.wrap (d / n * l) = d / n * l := dw64 (by omega)
          have v4 : IntKind.i64.wrap (d / n * y) = d / n * y := dw64 (by omega)
          have v5 : IntKind.i64.wrap (d / n * l + l') = d / n * l + l' := dw64 (by omega)
          have v6 : IntKind.i64.wrap (d / n * y + y') = d / n * y + y' := dw64 (by omega)
          have v7 : ¬ (n = 0) := hn
          have v8 : (n == 0) = false := by simpa using hn
          have v9 : 0 < n := by omega
          obtain ⟨f', rfl⟩ : ∃ k, f = k + 1 := ⟨f - 1, by omega⟩
          have HG := Lib.hid (show (pre ++ [(l, y)]) ++ cvL most f' (d % n) n (d / n * l + l') (d / n * y + y') l y = brL num den most by rw [← HLL.out, cvL_go hn hy]; simp)
          by_cases hy2 : d / n * y + y' ≤ most
          · have HLT : ∀ k, u12.ownBlock = some k → w.heap.size ≤ k := fun k hk => (World.ownsRow.lt HR.out.1 k hk).1
            have key : ∀ g4 c4 w4, w4.ownsRow w.heap.size 52 1 (.slice (some ⟨g4, 0, none⟩) (ts.length + 1) c4) (ts.length + 1) ((ts.map fun t => sl2 t.1) ++ [sl2 wr.heap.size]) → ((wr.alloc (.cells #[.int .i64 (d / n * l + l'), .int .i64 (d / n * y + y')] 3)).alloc (.cells #[sl2 wr.heap.size] 52)).grownBy w4 u12.ownBlock → (u12.ownBlock = some g4 ∨ g4 = wr.heap.size + 2) → RRow w4 w.heap.size (.slice (some ⟨g4, 0, none⟩) (ts.length + 1) c4) (ts ++ [(wr.heap.size, d / n * l + l', d / n * y + y')]) ∧ Below w.heap.size w w4 := fun g4 c4 w4 h1 h2 h3 =>
              ⟨HR.out.push hzr h1 h2 h3, Below.grown (w := (wr.alloc (.cells #[.int .i64 (d / n * l + l'), .int .i64 (d / n * y + y')] 3)).alloc (.cells #[sl2 wr.heap.size] 52)) (by (repeat' (first | (with_reducible exact Below.refl _ _) | (with_reducible assumption) | (with_reducible refine Below.alloc ?_ ?_ _) | (with_reducible refine Below.drew ?_) | (with_reducible refine below_drewN ?_ _) | (with_reducible refine Below.setCell ?_ ?_ _) | (with_reducible refine below_call ?_ ?_ (by assumption)) | go_size))) h2 (by simp; omega) HLT⟩
            have KEY := Lib.hid key
            clear key
            have HE := Lib.hid (show (ts ++ [(wr.heap.size, d / n * l + l', d / n * y + y')]).map (·.2) = (pre ++ [(l, y)]) ++ [(d / n * l + l', d / n * y + y')] by rw [List.map_append, HT.out]; rfl)
            go_wp2_with (at_builtin; refine wpList_append_lies _ rfl _ _ _ rfl w.heap.size 52 i0 _ 1 24 Try.underlying46 I0.out Z0.out Z1.out Z2.out rfl (by omega) u12 ts.length (ts.map fun t => sl2 t.1) rfl ((HR.out.1.alloc _).alloc _) ⟨wr.heap.size + 1, 0, none⟩ 1 1 [sl2 wr.heap.size] rfl rfl (World.news_of_block (cs := #[sl2 wr.heap.size]) (t := 52) (fr := (0, 0)) (by simpa using heap_alloc_new (wr.alloc (.cells #[.int .i64 (d / n * l + l'), .int .i64 (d / n * y + y')] 3)) _)) (by simp [Value.oneCell']) (by omega) (by unfold maxLen; omega) (by omega) (by simp; omega) (wr.heap.size + 2) (by simp) ?_; intro g4 c4 w4 hown4 hgrow4 hat4 hlt4)
            obtain ⟨hr4, hb4⟩ := KEY.out g4 c4 w4 hown4 hgrow4 hat4
            have HR4 := Lib.hid hr4
            clear hown4 hgrow4 hat4 hlt4 hr4
            go_wp2
            go_roundw
            case rel => exact ⟨d % n, n, d / n * l + l', d / n * y + y', l, y, f', pre ++ [(l, y)], _, rfl, rfl, rfl, rfl, rfl, rfl, HN.out, by have := HM.out; omega, by omega, by simp; omega, hy2, HE.out, HG.out, HR4.out, hb4⟩
            case measure => have := HM.out; have := HM0.out; simp [intOf]; omega
          · have HE := Lib.hid (show ts.map (·.2) = brL num den most by rw [HT.out, ← HG.out, cvL_stop f' hy2, List.append_nil])
            go_wp2
            (refine bodyPost_ret (by simp [results, Try.results46, go_sem, *]; try rfl) rfl ?_)
            rw [HB.out]
            exact ⟨_, _, rfl, HE.out, HR.out, hbr⟩

end Go.Proofs.Ythdkbjjpbdledaa
