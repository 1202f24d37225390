/- All motion works: by the model, a row of rows. -/
import Derived.Test.YtaifcemdabcfjaaFmI
set_option linter.unusedSimpArgs false
set_option linter.unusedVariables false
set_option maxRecDepth 100000
namespace Go.Proofs.Ytaifcemdabcfjaa
open Go.RowKit

theorem Try.infoPairs : (Try.prog.info? 31).map (fun i => (i.zero, i.size, i.bytes)) = some (some (.slice none 0 0), 1, 24) := by kernel_rfl
abbrev trV (x : Nat × Tr) : Value := .slice (some ⟨x.1, 0, none⟩) 2 2
/-- A row of trains, each in a block of its own. -/
def TrRow (w : World) (b : Nat) (v : Value) (ts : List (Nat × Tr)) : Prop :=
  w.ownsRow b 31 1 v ts.length (ts.map trV) ∧ ∀ x, x ∈ ts → TrAt b x w ∧ v.ownBlock ≠ some x.1
/-- What the loops know: the works that have been found. -/
def WkI (w wr : World) (v : Value) (LL : List Tr) (m : Nat) : Prop := ∃ ts : List (Nat × Tr), ts.map (·.2) = LL ∧ ts.length ≤ m ∧ TrRow wr w.heap.size v ts ∧ Below w.heap.size w wr
def WL (h : Int) (n i j k : Nat) : List Tr := (PL 1 h n i j k).filter sameB
theorem WL_start (h : Int) (n : Nat) : WL h n 0 0 0 = [] := by rw [WL, PL_start]; rfl
theorem WL_col (h : Int) (n i j : Nat) : WL h n i j n = WL h n i (j + 1) 0 := by rw [WL, PL_col]; rfl
theorem WL_row (h : Int) (n i : Nat) : WL h n i n 0 = WL h n (i + 1) 0 0 := by rw [WL, PL_row]; rfl
theorem WL_end {h : Int} (hh : 1 ≤ h) {n : Nat} (hn : n ≤ 115) : WL h n n 0 0 = worksL h n := by rw [WL, PL_end (by omega) hh hn]; rfl
theorem WL_next {h : Int} {n i j k : Nat} {a b c : Int} (ha : a = 6 + (i : Int)) (hb : b = 6 + (j : Int)) (hc : c = 6 + (k : Int)) (hh : 1 ≤ h) :
    WL h n i j (k + 1) = WL h n i j k ++ (if (6 ≤ a + b - c ∧ a + b - c ≤ 5 + (n : Int)) ∧ a * c * h = b * (a + b - c) then [((a, b), (c, a + b - c))] else []) := by
  have e1 : c * (h * a) = a * c * h := by grind
  have e2 : (1 : Int) * b = b := by omega
  have hbp : 0 < b := by omega
  cases hcand : candB (1 * (6 + (j : Int))) (h * (6 + (i : Int))) (5 + (n : Int)) (6 + (k : Int))
  · rw [WL, PL_no hcand]
    rw [if_neg, List.append_nil]; · rfl
    rintro ⟨⟨d1, d2⟩, d3⟩
    rw [candB, decide_eq_false_iff_not, ← ha, ← hb, ← hc, e1, e2] at hcand
    refine hcand ?_
    rw [d3, Int.mul_emod_right, Int.mul_ediv_cancel_left _ (by omega)]
    exact ⟨rfl, d1, d2⟩
  · rw [WL, PL_yes hcand, List.filter_append]
    rw [candB, decide_eq_true_eq, ← ha, ← hb, ← hc, e1, e2] at hcand
    obtain ⟨c1, c2, c3⟩ := hcand
    rw [← ha, ← hb, ← hc, e1, e2]
    have hq : a * c * h = b * (a * c * h / b) := (Int.mul_ediv_cancel' (Int.dvd_of_emod_eq_zero c1)).symm
    generalize a * c * h / b = q at *
    congr 1
    by_cases hs : a + b = c + q
    · obtain rfl : q = a + b - c := by omega
      rw [if_pos ⟨⟨c2, c3⟩, hq⟩]
      simp [sameB, sumT]; omega
    · rw [if_neg]
      · simp [sameB, sumT]; omega
      · rintro ⟨-, h3⟩
        rw [hq] at h3
        have := Int.eq_of_mul_eq_mul_left (show b ≠ 0 by omega) h3
        omega
theorem WkI.same {w wr : World} {v : Value} {LL LL' : List Tr} {m m' : Nat} (h : WkI w wr v LL m) (e : LL' = LL) (hm : m ≤ m') : WkI w wr v LL' m' := by
  obtain ⟨ts, h1, h2, h3⟩ := h
  exact ⟨ts, h1.trans e.symm, by omega, h3⟩
set_option maxRecDepth 100000 in
set_option maxHeartbeats 6400000 in
theorem geWorks_any (h : Int) (n : Nat) (hh : 2 ≤ h ∧ h ≤ 24) (hn : n ≤ 115) (w : World) :
    Calls Try.prog 94 #[.int .i64 h, .int .i64 (5 + (n : Int))] w fun e w' => ∃ v, e = .returned v ∧ WkI w w' v (worksL h n) 1520875 := by
  obtain ⟨hh1, hh2⟩ := hh
  have n0 : (0 : Int) ≤ (n : Int) := Int.natCast_nonneg _
  have n1 : (n : Int) ≤ 115 := by omega
  obtain ⟨i0, hi0, hz0, hz1, hz2⟩ := info_parts Try.infoPairs
  have I0 := Lib.hid hi0
  have Z0 := Lib.hid hz0
  have Z1 := Lib.hid hz1
  have Z2 := Lib.hid hz2
  clear hi0 hz0 hz1 hz2
  (go_enter Try.func94, Try.ntmps94)
  go_wp2
  go_loopw [5, 6] (fun v va wr => ∃ (i : Nat) (a : Int), a = 6 + (i : Int) ∧ va = .int .i64 a ∧ a ≤ 6 + (n : Int) ∧ WkI w wr v (WL h n i 0 0) (i * 13225)) (fun _ va _ => (6 + n) - (intOf va).toNat)
  case atStart => exact ⟨0, 6, rfl, rfl, by omega, ⟨[], by rw [WL_start]; rfl, by simp, ⟨World.ownsRow_nil _ _ _ _, by simp⟩, Below.refl _ _⟩⟩
  case round =>
    obtain ⟨i, a, ha, rfl, ha2, hP1⟩ := hrel
    obtain ⟨wa, hwa⟩ : ∃ wo : World, wo = wr := ⟨_, rfl⟩
    subst hwa
    have a1 : 6 ≤ a := by omega
    have hi2 : a ≤ 5 + (n : Int) → i < n := fun h => by omega
    have hi3 : ¬ a ≤ 5 + (n : Int) → i = n := fun h => by omega
    have HA := Lib.hid ha
    have HP1 := Lib.hid hP1
    clear ha hP1
    by_cases hlt : a ≤ 5 + (n : Int)
    · have hin := hi2 hlt
      have hd1 : decide (a ≤ 5 + (n : Int)) = true := by rw [decide_eq_true_eq]; exact hlt
      go_wp2
      go_loopw [5, 7] (fun v vb wr => ∃ (j : Nat) (b : Int), b = 6 + (j : Int) ∧ vb = .int .i64 b ∧ b ≤ 6 + (n : Int) ∧ WkI w wr v (WL h n i j 0) (i * 13225 + j * 115)) (fun _ vb _ => (6 + n) - (intOf vb).toNat)
      case atStart => exact ⟨0, 6, rfl, rfl, by omega, HP1.out.same rfl (by omega)⟩
      case round =>
        clear HP1
        obtain ⟨j, b, hb, rfl, hb2, hP2⟩ := hrel
        obtain ⟨wb, hwb⟩ : ∃ wo : World, wo = wr := ⟨_, rfl⟩
        subst hwb
        have b1 : 6 ≤ b := by omega
        have hj2 : b ≤ 5 + (n : Int) → j < n := fun h => by omega
        have hj3 : ¬ b ≤ 5 + (n : Int) → j = n := fun h => by omega
        have HB := Lib.hid hb
        have HP2 := Lib.hid hP2
        clear hb hP2
        by_cases hlt2 : b ≤ 5 + (n : Int)
        · have hjn := hj2 hlt2
          have hd2 : decide (b ≤ 5 + (n : Int)) = true := by rw [decide_eq_true_eq]; exact hlt2
          go_wp2
          go_loopw [5, 8] (fun v vc wr => ∃ (k : Nat) (c : Int), c = 6 + (k : Int) ∧ vc = .int .i64 c ∧ c ≤ 6 + (n : Int) ∧ WkI w wr v (WL h n i j k) (i * 13225 + j * 115 + k)) (fun _ vc _ => (6 + n) - (intOf vc).toNat)
          case atStart => exact ⟨0, 6, rfl, rfl, by omega, HP2.out⟩
          case round =>
            clear HP2
            obtain ⟨k, c, hc, rfl, hc2, hP3⟩ := hrel
            have c1 : 6 ≤ c := by omega
            have hk2 : c ≤ 5 + (n : Int) → k < n := fun h => by omega
            have hk3 : ¬ c ≤ 5 + (n : Int) → k = n := fun h => by omega
            have HC := Lib.hid hc
            have HP3 := Lib.hid hP3
            clear hc hP3
            by_cases hlt3 : c ≤ 5 + (n : Int)
            · have hkn := hk2 hlt3
              have HX := Lib.hid (WL_next (h := h) (n := n) HA.out HB.out HC.out (by omega))
              have Wd : IntKind.i64.wrap (a + b - c) = a + b - c := w64 ⟨by omega, by omega⟩
              have Wd0 : IntKind.i64.wrap (a + b) = a + b := w64 ⟨by omega, by omega⟩
              cases hbb : inB (a + b - c) 6 (5 + (n : Int))
              · have hE := HX.out
                rw [if_neg (by rintro ⟨⟨x, y⟩, -⟩; simp [inB] at hbb; omega), List.append_nil] at hE
                have HE := Lib.hid hE
                clear hE HX
                go_wp2_with fail
                refine (l1In_is _ _ _ hbb _).mono ?_
                (rintro e1 w1 ⟨rfl, rfl⟩)
                go_wp2
                go_roundw
                case rel => exact ⟨k + 1, c + 1, by have := HC.out; omega, rfl, by omega, HP3.out.same HE.out (by omega)⟩
                case measure => simp [intOf]; omega
              · obtain ⟨d1, d2⟩ := inB_bd hbb
                obtain ⟨m1, m2⟩ := mulb (show 0 ≤ a by omega) (show a ≤ 120 by omega) (show 0 ≤ c by omega) (show c ≤ 120 by omega)
                obtain ⟨m3, m4⟩ := mulb m1 m2 (show 0 ≤ h by omega) hh2
                obtain ⟨m5, m6⟩ := mulb (show 0 ≤ b by omega) (show b ≤ 120 by omega) (show 0 ≤ a + b - c by omega) (show a + b - c ≤ 120 by omega)
                have W1 : IntKind.i64.wrap (a * c) = a * c := w64 ⟨by omega, by omega⟩
                have W2 : IntKind.i64.wrap (a * c * h) = a * c * h := w64 ⟨by omega, by omega⟩
                have W3 : IntKind.i64.wrap (b * (a + b - c)) = b * (a + b - c) := w64 ⟨by omega, by omega⟩
                by_cases heq : a * c * h = b * (a + b - c)
                · have hE := HX.out
                  rw [if_pos ⟨⟨d1, d2⟩, heq⟩] at hE
                  have HE := Lib.hid hE
                  clear hE HX
                  obtain ⟨ts, t1, t2, ⟨hown, htr⟩, hbel⟩ := HP3.out
                  have HO := Lib.hid hown
                  have HT := Lib.hid htr
                  have hz := hbel.size
                  have HLT : ∀ k, (u5 : Value).ownBlock = some k → w.heap.size ≤ k := fun k hk => (World.ownsRow.lt hown k hk).1
                  have HLU : ∀ k, (u5 : Value).ownBlock = some k → k < wr.heap.size := fun k hk => (World.ownsRow.lt hown k hk).2
                  have hN : TrAt w.heap.size (wr.heap.size, ((a, b), (c, a + b - c))) (wr.alloc (Obj.cells #[Value.int .i64 a, Value.int .i64 b, Value.int .i64 c, Value.int .i64 (a + b - c)] 25)) :=
                    World.ownsRow_lit (size := 2) wr #[Value.int .i64 a, Value.int .i64 b, Value.int .i64 c, Value.int .i64 (a + b - c)] 2 (by omega) (by unfold maxLen; omega) rfl
                  have HN := Lib.hid hN
                  have tl : ts.length ≤ 1520875 := by omega
                  clear hown htr hN
                  go_wp2_with fail
                  refine (l1In_is _ _ _ hbb _).mono ?_
                  (rintro e1 w1 ⟨rfl, rfl⟩)
                  go_wp2_with (at_builtin; refine wpList_append_lies _ rfl _ _ _ rfl w.heap.size 31 i0 _ 1 24 Try.underlying50 I0.out Z0.out Z1.out Z2.out rfl (by omega) u5 ts.length _ rfl ((HO.out.alloc _).alloc _) ⟨wr.heap.size + 1, 0, none⟩ 1 1 [.slice (some ⟨wr.heap.size, 0, none⟩) 2 2] rfl rfl (World.news_of_block (cs := #[.slice (some ⟨wr.heap.size, 0, none⟩) 2 2]) (t := 31) (fr := (0, 0)) (by simpa using heap_alloc_new (wr.alloc (Obj.cells #[Value.int .i64 a, Value.int .i64 b, Value.int .i64 c, Value.int .i64 (a + b - c)] 25)) _)) (by simp [Value.oneCell']) (by omega) (by unfold maxLen; omega) (by omega) (by simp; omega) (wr.heap.size + 2) (by simp) ?_; intro g cap w4 hown3 hgrow hat hlt3)
                  go_roundw
                  case rel =>
                    have hb2' : Below w.heap.size w ((wr.alloc (Obj.cells #[Value.int .i64 a, Value.int .i64 b, Value.int .i64 c, Value.int .i64 (a + b - c)] 25)).alloc (Obj.cells #[Value.slice (some ⟨wr.heap.size, 0, none⟩) 2 2] 31)) := by (repeat' (first | (with_reducible exact Below.refl _ _) | (with_reducible assumption) | (with_reducible refine Below.alloc ?_ ?_ _) | (with_reducible refine Below.drew ?_) | (with_reducible refine below_drewN ?_ _) | (with_reducible refine Below.setCell ?_ ?_ _) | (with_reducible refine below_call ?_ ?_ (by assumption)) | go_size))
                    refine ⟨k + 1, c + 1, by have := HC.out; omega, rfl, by omega, ts ++ [(wr.heap.size, ((a, b), (c, a + b - c)))], by rw [HE.out, List.map_append, t1]; rfl, by simp; omega, ⟨by rw [List.length_append, List.map_append]; exact hown3, ?_⟩, Below.grown hb2' hgrow (by simp; omega) HLT⟩
                    intro x hx
                    rcases List.mem_append.1 hx with hx | hx
                    · obtain ⟨p1, p2⟩ := HT.out x hx
                      have p3 := p1.lt
                      refine ⟨p1.same ?_, ?_⟩
                      · refine (hgrow.block x.1 (by simp; omega) (fun e => p2 e.symm)).trans ?_
                        exact (show Below wr.heap.size wr ((wr.alloc (Obj.cells #[Value.int .i64 a, Value.int .i64 b, Value.int .i64 c, Value.int .i64 (a + b - c)] 25)).alloc (Obj.cells #[Value.slice (some ⟨wr.heap.size, 0, none⟩) 2 2] 31)) by (repeat' (first | (with_reducible exact Below.refl _ _) | (with_reducible assumption) | (with_reducible refine Below.alloc ?_ ?_ _) | (with_reducible refine Below.drew ?_) | (with_reducible refine below_drewN ?_ _) | (with_reducible refine Below.setCell ?_ ?_ _) | (with_reducible refine below_call ?_ ?_ (by assumption)) | go_size))).block x.1 p3
                      · intro e
                        have eg : g = x.1 := by simpa [Value.ownBlock] using e
                        rcases hat with hat | hat
                        · rw [eg] at hat; exact p2 hat
                        · omega
                    · obtain rfl : x = (wr.heap.size, ((a, b), (c, a + b - c))) := by simpa using hx
                      refine ⟨HN.out.same ?_, ?_⟩
                      · refine (hgrow.block wr.heap.size (by simp only [World.size_alloc]; omega) (fun e => by have := HLU _ e.symm; omega)).trans ?_
                        exact (show Below (wr.heap.size + 1) (wr.alloc (Obj.cells #[Value.int .i64 a, Value.int .i64 b, Value.int .i64 c, Value.int .i64 (a + b - c)] 25)) ((wr.alloc (Obj.cells #[Value.int .i64 a, Value.int .i64 b, Value.int .i64 c, Value.int .i64 (a + b - c)] 25)).alloc (Obj.cells #[Value.slice (some ⟨wr.heap.size, 0, none⟩) 2 2] 31)) by (repeat' (first | (with_reducible exact Below.refl _ _) | (with_reducible assumption) | (with_reducible refine Below.alloc ?_ ?_ _) | (with_reducible refine Below.drew ?_) | (with_reducible refine below_drewN ?_ _) | (with_reducible refine Below.setCell ?_ ?_ _) | (with_reducible refine below_call ?_ ?_ (by assumption)) | go_size))).block wr.heap.size (by omega)
                      · intro e
                        have eg : g = wr.heap.size := by simpa [Value.ownBlock] using e
                        rcases hat with hat | hat
                        · rw [eg] at hat; have := HLU _ hat; omega
                        · omega
                  case measure => simp [intOf]; omega
                · have hE := HX.out
                  rw [if_neg (by rintro ⟨-, x⟩; exact heq x), List.append_nil] at hE
                  have HE := Lib.hid hE
                  clear hE HX
                  go_wp2_with fail
                  refine (l1In_is _ _ _ hbb _).mono ?_
                  (rintro e1 w1 ⟨rfl, rfl⟩)
                  go_wp2
                  go_roundw
                  case rel => exact ⟨k + 1, c + 1, by have := HC.out; omega, rfl, by omega, HP3.out.same HE.out (by omega)⟩
                  case measure => simp [intOf]; omega
            · have hkn := hk3 hlt3
              have hE := HP3.out
              rw [hkn, WL_col] at hE
              have HE := Lib.hid hE
              clear hE
              go_wp2
              go_roundw
              case rel => exact ⟨j + 1, b + 1, by have := HB.out; omega, rfl, by omega, HE.out.same rfl (by omega)⟩
              case measure => simp [intOf]; omega
        · have hjn := hj3 hlt2
          have hE := HP2.out
          rw [hjn, WL_row] at hE
          have HE := Lib.hid hE
          clear hE
          go_wp2
          go_roundw
          case rel => exact ⟨i + 1, a + 1, by have := HA.out; omega, rfl, by omega, HE.out.same rfl (by omega)⟩
          case measure => simp [intOf]; omega
    · have hin := hi3 hlt
      have hE := HP1.out
      rw [hin, WL_end (by omega) hn] at hE
      have HE := Lib.hid hE
      clear hE
      go_wp2
      go_ret
      exact ⟨_, rfl, HE.out.same rfl (by omega)⟩
end Go.Proofs.Ytaifcemdabcfjaa
