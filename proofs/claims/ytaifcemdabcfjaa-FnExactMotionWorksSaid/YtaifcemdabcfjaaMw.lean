/- All motion works: by the program and by the model. -/
import Derived.Test.YtaifcemdabcfjaaFm2
import Derived.Maps.OwnIn
set_option linter.unusedSimpArgs false
set_option linter.unusedVariables false
set_option maxRecDepth 100000
namespace Go.Proofs.Ytaifcemdabcfjaa
open Go.RowKit Go.Shelf
attribute [local go_sem] Oper.semAt_some

theorem ownsRow_same {W W' : World} {b n s : Nat} {e : TypeId} {v : Value} {xs : List Value} (h : W.ownsRow b e s v n xs) (hb : ∀ k, v.ownBlock = some k → W'.heap[k]? = W.heap[k]?) : W'.ownsRow b e s v n xs := by
  refine ⟨h.1, ?_⟩
  rcases h.2 with hn | ⟨g, cap, cur, h1, h2, h3, h4⟩
  · exact .inl hn
  · exact .inr ⟨g, cap, cur, h1, h2, (hb g (by rw [h1]; rfl)).trans h3, h4⟩
theorem TrRow.same {W W' : World} {b : Nat} {v : Value} {ts : List (Nat × Tr)} (h : TrRow W b v ts) (hb : ∀ k, v.ownBlock = some k → W'.heap[k]? = W.heap[k]?) (hx : ∀ x, x ∈ ts → W'.heap[x.1]? = W.heap[x.1]?) : TrRow W' b v ts :=
  ⟨ownsRow_same h.1 hb, fun x hm => ⟨(h.2 x hm).1.same (hx x hm), (h.2 x hm).2⟩⟩
def mwR (h most : Int) : List Tr × Bool := if askW h most then (if (worksL h (most - 5).toNat).length ≤ 200 then (worksL h (most - 5).toNat, true) else ([], false)) else ([], false)
/-- What is handed back of works and whether there are so many at most. -/
def WorksOut (w0 : World) (r : List Tr × Bool) (e : Ending) (w' : World) : Prop :=
  ∃ v ts, e = .returned (.tuple #[v, .bool r.2]) ∧ ts.map (·.2) = r.1 ∧ TrRow w' w0.heap.size v ts ∧ (ts.map (·.1)).Nodup ∧ Below w0.heap.size w0 w'
theorem WorksOut.none {w0 w' : World} (h : Below w0.heap.size w0 w') : WorksOut w0 ([], false) (.returned (.tuple #[.slice none 0 0, .bool false])) w' :=
  ⟨_, [], rfl, rfl, ⟨World.ownsRow_nil _ _ _ _, by simp⟩, by simp, h⟩
/-- What the loop knows. -/
def MwI (w : World) (pre : List (Nat × Tr)) (M : Nat → Prop) (V : World) : Prop :=
  ∃ v, (pre.length ≤ 200 ∧ (pre.map (·.1)).Nodup) ∧ (M (w.heap.size + 2) ∧ M w.heap.size ∧ M (w.heap.size + 1) ∧ (∀ k, v.ownBlock = some k → M k ∧ w.heap.size + 2 < k) ∧ (∀ x, x ∈ pre → M x.1 ∧ w.heap.size + 2 < x.1) ∧ (∀ k, M k → w.heap.size ≤ k)) ∧ Below w.heap.size w V ∧ CellsAt V [(w.heap.size + 2, 0, v), (w.heap.size, 0, .slice none 0 0), (w.heap.size + 1, 0, .bool false)] ∧ TrRow V w.heap.size v pre
set_option maxRecDepth 100000 in
set_option maxHeartbeats 6400000 in
theorem implMotionWorks_any (h most : Int) (w : World) :
    Calls Try.prog 51 #[.int .i64 h, .int .i64 most] w (WorksOut w (mwR h most)) := by
  obtain ⟨i0, hi0, hz0, hz1, hz2⟩ := info_parts Try.infoPairs
  have I0 := Lib.hid hi0
  have Z0 := Lib.hid hz0
  have Z1 := Lib.hid hz1
  have Z2 := Lib.hid hz2
  clear hi0 hz0 hz1 hz2
  refine (callsIn_wide (n := 0)).1 (callsIn_of_wp_marks Try.func51 rfl trivial ?_ rfl)
  simp only [Try.ntmps51, List.size_toArray, List.length_cons, List.length_nil, Nat.reduceAdd, Nat.reduceSub, Array.replicate_succ, Array.replicate_zero, List.push_toArray, List.append_toArray, List.nil_append, List.cons_append]
  cases hh : inB h 2 24
  · have HM := Lib.hid (show mwR h most = ([], false) from by simp [mwR, askW, hh])
    gi_wp2
    refine ⟨trivial, rfl, (callsIn_wide.2 (isDial_is h hh _)).mono ?_⟩
    rintro e1 w1 ⟨rfl, rfl⟩
    gi_wp2
    refine ⟨trivial, ?_⟩
    gi_wp2
    refine ⟨.tuple #[.slice none 0 0, .bool false], ?_, ?_⟩
    · simp [results, Try.f51, go_sem]
    · rw [HM.out]; exact WorksOut.none (by (repeat' (first | (with_reducible exact Below.refl _ _) | (with_reducible assumption) | (with_reducible refine Below.alloc ?_ ?_ _) | (with_reducible refine Below.drew ?_) | (with_reducible refine below_drewN ?_ _) | (with_reducible refine Below.setCell ?_ ?_ _) | (with_reducible refine below_call ?_ ?_ (by assumption)) | go_size)))
  · cases hw : wheelB most
    · have HM := Lib.hid (show mwR h most = ([], false) from by simp [mwR, askW, hw])
      gi_wp2
      refine ⟨trivial, rfl, (callsIn_wide.2 (isDial_is h hh _)).mono ?_⟩
      rintro e1 w1 ⟨rfl, rfl⟩
      gi_wp2
      refine ⟨trivial, rfl, (callsIn_wide.2 (isTeeth_is most hw _)).mono ?_⟩
      rintro e1 w1 ⟨rfl, rfl⟩
      gi_wp2
      refine ⟨.tuple #[.slice none 0 0, .bool false], ?_, ?_⟩
      · simp [results, Try.f51, go_sem]
      · rw [HM.out]; exact WorksOut.none (by (repeat' (first | (with_reducible exact Below.refl _ _) | (with_reducible assumption) | (with_reducible refine Below.alloc ?_ ?_ _) | (with_reducible refine Below.drew ?_) | (with_reducible refine below_drewN ?_ _) | (with_reducible refine Below.setCell ?_ ?_ _) | (with_reducible refine below_call ?_ ?_ (by assumption)) | go_size)))
    · have ha : askW h most = true := by simp [askW, hh, hw]
      obtain ⟨⟨h1, h2⟩, m1, m2⟩ := askW_bd ha
      obtain ⟨n, rfl, hn, hn2⟩ := fm_n ha
      have HM := Lib.hid (show mwR h (5 + (n : Int)) = if (worksL h n).length ≤ 200 then (worksL h n, true) else ([], false) from by rw [mwR, if_pos ha, hn2])
      gi_wp2
      refine ⟨trivial, rfl, (callsIn_wide.2 (isDial_is h hh _)).mono ?_⟩
      rintro e1 w1 ⟨rfl, rfl⟩
      gi_wp2
      refine ⟨trivial, rfl, (callsIn_wide.2 (isTeeth_is _ hw _)).mono ?_⟩
      rintro e1 w1 ⟨rfl, rfl⟩
      gi_wp2
      refine ⟨trivial, rfl, (callsIn_wide.2 (worksOf_makes _ _ _)).mono ?_⟩
      rintro e2 w2 ⟨rfl, hw2⟩
      have hb2 : Below w.heap.size w w2 := by rw [hw2]; (repeat' (first | (with_reducible exact Below.refl _ _) | (with_reducible assumption) | (with_reducible refine Below.alloc ?_ ?_ _) | (with_reducible refine Below.drew ?_) | (with_reducible refine below_drewN ?_ _) | (with_reducible refine Below.setCell ?_ ?_ _) | (with_reducible refine below_call ?_ ?_ (by assumption)) | go_size))
      have hs2 : w2.heap.size = w.heap.size + 5 := by rw [hw2]; simp
      simp only [World.size_alloc] at hw2 ⊢
      have hc2 : CellsAt w2 [(w.heap.size + 3, 0, .int .i64 h), (w.heap.size + 4, 0, .int .i64 (5 + (n : Int)))] := by
        rw [hw2]
        intro p hp
        simp only [List.mem_cons, List.not_mem_nil, or_false] at hp
        rcases hp with rfl | rfl
        all_goals exact ⟨by (simp only [World.size_alloc]; omega), by go_simp, by go_simp⟩

      have hcT : CellsAt w2 [(w.heap.size + 2, 0, .slice none 0 0), (w.heap.size, 0, .slice none 0 0), (w.heap.size + 1, 0, .bool false)] := by
        rw [hw2]
        intro p hp
        simp only [List.mem_cons, List.not_mem_nil, or_false] at hp
        rcases hp with rfl | rfl | rfl
        all_goals exact ⟨by (simp only [World.size_alloc]; omega), by go_simp, by go_simp⟩

      clear hw2
      gi_wp2
      refine range_outer rfl (enters_of Try.func108 (by kernel_rfl) rfl) (worksOf_seqs h ⟨by omega, by omega⟩ n hn (w.heap.size + 3) (w.heap.size + 4) w2 hc2) (Below.refl _ _) (fun _ => rfl)
        (fun pre M V => MwI w pre M V) (fun c pre M V => c = .ret ∧ 201 ≤ pre.length ∧ Below w.heap.size w V ∧ CellsAt V [(w.heap.size, 0, .slice none 0 0), (w.heap.size + 1, 0, .bool false)])
        ?hI ?hIx (fun k => k = w.heap.size + 2 ∨ k = w.heap.size ∨ k = w.heap.size + 1) ?hM0 ?hO ?h0 ?hround ?hdone ?hstop
      case hI =>
        rintro s M A A' ⟨v, m0, ⟨m1, m2, m3, m4, m5, m6⟩, hb, hc, hr⟩ hk
        rw [hs2] at hk
        refine ⟨v, m0, ⟨m1, m2, m3, m4, m5, m6⟩, Below.low hb hk (Nat.le_refl _) (by omega), hc.low hk (by simp), hr.same (fun k e => hk.mine (World.ownsRow.lt hr.1 k e).2 (m4 k e).1) (fun x hx => hk.mine (hr.2 x hx).1.lt (m5 x hx).1)⟩
      case hIx =>
        rintro c s M A A' ⟨rfl, h1, hb, hc⟩ hk
        rw [hs2] at hk
        exact ⟨rfl, h1, Below.low hb hk (Nat.le_refl _) (by omega), hc.low hk (by simp)⟩
      case hM0 => rintro k (rfl | rfl | rfl) <;> omega
      case hO => rintro k (rfl | rfl) <;> exact ⟨by omega, by omega⟩
      case h0 => exact ⟨_, ⟨by simp, by simp⟩, ⟨.inl rfl, .inr (.inl rfl), .inr (.inr rfl), fun k e => by simp [Value.ownBlock] at e, by simp, fun k hk => by omega⟩, hb2, hcT, ⟨World.ownsRow_nil _ _ _ _, by simp⟩⟩
      case hround =>
        rintro l pre ⟨g, t⟩ M V hl hMl hMb hlt ⟨v, ⟨m0, mN⟩, ⟨m1, m2, m3, m4, m5, m6⟩, hb, hc, hr⟩ hv htx hsp
        obtain ⟨q1, q2, q3, q4⟩ := htx g rfl
        have hz := hb.size
        obtain ⟨ra, rc, rfl, -⟩ := hr.inn
        gi_wp2
        refine ⟨Below.refl _ _, fun W2 ht2 => ?_⟩
        obtain ⟨hk2, hs0, -⟩ := ht2
        have hl2 : w.heap.size + 5 ≤ l := by omega
        have hc2 := hc.kept hk2 (by simp; omega)
        have b2 : Below w.heap.size w W2 := hb.trans (hk2.below hz (fun k hk e => by omega))
        have hr2 : TrRow W2 w.heap.size (.slice ra pre.length rc) pre := hr.same (fun k e => hk2.block k (World.ownsRow.lt hr.1 k e).2 (by rintro rfl; exact hMl (m4 _ e).1)) (fun x hx => hk2.block _ (hr.2 x hx).1.lt (by rintro rfl; exact hMl (m5 x hx).1))
        have hv2 : TrAt w2.heap.size (g, t) W2 := hv.same (hk2.block g q2 q4)
        have hgx := hv2.lt
        have hsz : V.heap.size ≤ W2.heap.size := hk2.size
        have rc0 : W2.cell? ⟨w.heap.size + 2, 0, none⟩ = some (.slice ra pre.length rc) := (hc2 (w.heap.size + 2, 0, .slice ra pre.length rc) (by simp)).2.1
        have rf0 : W2.frozen? ⟨w.heap.size + 2, 0, none⟩ = false := (hc2 (w.heap.size + 2, 0, .slice ra pre.length rc) (by simp)).2.2
        have rs0 : w.heap.size + 2 < W2.heap.size := (hc2 (w.heap.size + 2, 0, .slice ra pre.length rc) (by simp)).1
        have rc1 : W2.cell? ⟨w.heap.size, 0, none⟩ = some (.slice none 0 0) := (hc2 (w.heap.size, 0, .slice none 0 0) (by simp)).2.1
        have rf1 : W2.frozen? ⟨w.heap.size, 0, none⟩ = false := (hc2 (w.heap.size, 0, .slice none 0 0) (by simp)).2.2
        have rs1 : w.heap.size < W2.heap.size := (hc2 (w.heap.size, 0, .slice none 0 0) (by simp)).1
        have rc2 : W2.cell? ⟨w.heap.size + 1, 0, none⟩ = some (.bool false) := (hc2 (w.heap.size + 1, 0, .bool false) (by simp)).2.1
        have rf2 : W2.frozen? ⟨w.heap.size + 1, 0, none⟩ = false := (hc2 (w.heap.size + 1, 0, .bool false) (by simp)).2.2
        have rs2 : w.heap.size + 1 < W2.heap.size := (hc2 (w.heap.size + 1, 0, .bool false) (by simp)).1
        clear hc hc2 hk2 hr hv
        have HR := Lib.hid hr2
        have HV := Lib.hid hv2
        by_cases hlen : pre.length = 200
        · have hl3 : (pre.length : Int) = 200 := by omega
          have hpp := Lib.hid (show 201 ≤ (pre ++ [(g, t)]).length by simp; omega)
          clear hr2 hv2 hs0
          gi_wp2
          refine ⟨fun k => k = w.heap.size ∨ k = w.heap.size + 1, ?_, fun k hk => ⟨.inl (by rcases hk with rfl | rfl <;> assumption), by rcases hk with rfl | rfl <;> simp <;> omega⟩, rfl, hpp.out, by (repeat' (first | (with_reducible exact Below.refl _ _) | (with_reducible assumption) | (with_reducible refine Below.alloc ?_ ?_ _) | (with_reducible refine Below.drew ?_) | (with_reducible refine below_drewN ?_ _) | (with_reducible refine Below.setCell ?_ ?_ _) | (with_reducible refine below_call ?_ ?_ (by assumption)) | go_size)), ?_⟩
          · refine Kept.setCell (Kept.setCell (Kept.refl _ _) (.inl m2)) (.inl m3)
          · intro p hp
            simp only [List.mem_cons, List.not_mem_nil, or_false] at hp
            rcases hp with rfl | rfl
            all_goals exact ⟨by (simp; omega), by go_simp, by go_simp⟩

        · have hl3 : ¬ (pre.length : Int) = 200 := by omega
          clear hs0 hv2
          have hm0 : pre.length < 200 := by omega
          gi_wp2_with (gi_at_builtin; refine wpListIn_append_own_at _ rfl _ _ 50 rfl w.heap.size 31 i0 _ 1 24 Try.underlying50 I0.out Z0.out Z1.out Z2.out rfl (by omega) _ pre.length (pre.map trV) rfl ?hown ⟨W2.heap.size, 0, none⟩ 1 1 [.slice (some ⟨g, 0, none⟩) 2 2] rfl rfl ?news ?one ?h63 ?hb ?hbase ?rest)
          case hown => exact HR.out.1.alloc _
          case news => exact (World.news_of_block (cs := #[.slice (some ⟨g, 0, none⟩) 2 2]) (t := 31) (fr := (0, 0)) (by simpa using heap_alloc_new W2 _))
          case one => simp [Value.oneCell']
          case h63 => unfold maxLen; omega
          case hb => omega
          case hbase => simp; omega
          intro v5 w5 hown5 hgrow5 hnil5 hat5
          obtain ⟨g5, c5, rfl⟩ : ∃ g5 c5, v5 = .slice (some ⟨g5, 0, none⟩) (pre.length + 1) c5 := by
            rcases hown5.2 with ⟨-, hn5⟩ | ⟨g5, c5, cur5, e5, -⟩
            · omega
            · exact ⟨_, _, e5⟩
          have hz5 := hgrow5.size
          simp only [World.size_alloc] at hz5 hat5
          have bl5 : ∀ k, k < W2.heap.size → (Value.slice ra pre.length rc).ownBlock ≠ some k → w5.heap[k]? = W2.heap[k]? := (fun k hk hne => (hgrow5.block k (by simp; omega) (fun e => hne e.symm)).trans ((show Below W2.heap.size W2 (W2.alloc (Obj.cells #[.slice (some ⟨g, 0, none⟩) 2 2] 31)) by (repeat' (first | (with_reducible exact Below.refl _ _) | (with_reducible assumption) | (with_reducible refine Below.alloc ?_ ?_ _) | (with_reducible refine Below.drew ?_) | (with_reducible refine below_drewN ?_ _) | (with_reducible refine Below.setCell ?_ ?_ _) | (with_reducible refine below_call ?_ ?_ (by assumption)) | go_size))).block k hk))
          have t0 : w5.cell? ⟨w.heap.size + 2, 0, none⟩ = some (.slice ra pre.length rc) := (World.cell?_of_block (bl5 (w.heap.size + 2) rs0 (fun e => by have := (m4 _ e).2; omega))).trans rc0
          have t1 : w5.frozen? ⟨w.heap.size + 2, 0, none⟩ = false := (World.frozen?_of_block (bl5 (w.heap.size + 2) rs0 (fun e => by have := (m4 _ e).2; omega))).trans rf0
          have t2 : w.heap.size + 2 < w5.heap.size := by omega
          have t3 : w5.cell? ⟨w.heap.size, 0, none⟩ = some (.slice none 0 0) := (World.cell?_of_block (bl5 w.heap.size rs1 (fun e => by have := (m4 _ e).2; omega))).trans rc1
          have t4 : w5.frozen? ⟨w.heap.size, 0, none⟩ = false := (World.frozen?_of_block (bl5 w.heap.size rs1 (fun e => by have := (m4 _ e).2; omega))).trans rf1
          have t5 : w5.cell? ⟨w.heap.size + 1, 0, none⟩ = some (.bool false) := (World.cell?_of_block (bl5 (w.heap.size + 1) rs2 (fun e => by have := (m4 _ e).2; omega))).trans rc2
          have t6 : w5.frozen? ⟨w.heap.size + 1, 0, none⟩ = false := (World.frozen?_of_block (bl5 (w.heap.size + 1) rs2 (fun e => by have := (m4 _ e).2; omega))).trans rf2
          have HO5 := Lib.hid hown5
          have HG5 := Lib.hid hgrow5
          have HA5 := Lib.hid hat5
          have HB5 := Lib.hid bl5
          clear hown5 hgrow5 hnil5 hat5 bl5
          gi_wp2
          have k5 : Kept M W2 w5 := Kept.trans (M := fun _ => False) (Kept.of_below (show Below W2.heap.size W2 (W2.alloc (Obj.cells #[.slice (some ⟨g, 0, none⟩) 2 2] 31)) by (repeat' (first | (with_reducible exact Below.refl _ _) | (with_reducible assumption) | (with_reducible refine Below.alloc ?_ ?_ _) | (with_reducible refine Below.drew ?_) | (with_reducible refine below_drewN ?_ _) | (with_reducible refine Below.setCell ?_ ?_ _) | (with_reducible refine below_call ?_ ?_ (by assumption)) | go_size)))) (Kept.of_grown (M := M) HG5.out (fun k e => (m4 k e).1)) (fun _ _ h => h.elim) (fun _ _ h => h)
          have b5 : Below w.heap.size w w5 := b2.trans (k5.below b2.size (fun k hk h => by have := m6 k h; omega))
          have own5 : ∀ k, (Value.slice (some ⟨g5, 0, none⟩) (pre.length + 1) c5).ownBlock = some k → (M k ∨ V.heap.size ≤ k) ∧ w.heap.size + 2 < k ∧ k < w5.heap.size ∧ k ≠ g ∧ ∀ x, x ∈ pre → k ≠ x.1 := fun k e => by
            have hlt5 := (World.ownsRow.lt HO5.out k e).2
            rcases HA5.out with h' | h'
            · rw [h'] at e
              obtain ⟨y1, y2⟩ := m4 k e
              exact ⟨.inl y1, y2, hlt5, fun e' => q3 (e' ▸ y1), fun x hx e' => (HR.out.2 x hx).2 (e' ▸ e)⟩
            · rw [h'] at e
              obtain rfl : W2.heap.size + 1 = k := by simpa using e
              exact ⟨.inr (by omega), by omega, hlt5, by omega, fun x hx => by have := (HR.out.2 x hx).1.lt; omega⟩
          refine ⟨fun k => M k ∨ k = g ∨ (Value.slice (some ⟨g5, 0, none⟩) (pre.length + 1) c5).ownBlock = some k, Kept.setCell k5 (.inl m1), ?_, (show MwI _ _ _ _ from ⟨.slice (some ⟨g5, 0, none⟩) (pre.length + 1) c5, ⟨by simp; omega, ?_⟩, ⟨.inl m1, .inl m2, .inl m3, fun k e => ⟨.inr (.inr e), (own5 k e).2.1⟩, ?_, ?_⟩, by (repeat' (first | (with_reducible exact Below.refl _ _) | (with_reducible assumption) | (with_reducible refine Below.alloc ?_ ?_ _) | (with_reducible refine Below.drew ?_) | (with_reducible refine below_drewN ?_ _) | (with_reducible refine Below.setCell ?_ ?_ _) | (with_reducible refine below_call ?_ ?_ (by assumption)) | go_size)), ?_, ?_⟩)⟩
          · rintro k (h' | rfl | h')
            · exact ⟨.inl h', by have := hMb k h'; simp; omega⟩
            · exact ⟨.inr (.inl rfl), by simp; omega⟩
            · obtain ⟨y1, -, y3, -⟩ := own5 k h'
              exact ⟨y1.imp_right .inr, by simpa using y3⟩
          · rw [List.map_append]
            refine List.nodup_append.2 ⟨mN, by simp, ?_⟩
            intro a ha b hb2 e
            obtain ⟨x, hx, rfl⟩ := List.mem_map.1 ha
            obtain rfl : b = g := by simpa using hb2
            exact q3 (e ▸ (m5 x hx).1)
          · intro x hx
            rcases List.mem_append.1 hx with hx | hx
            · exact ⟨.inl (m5 x hx).1, (m5 x hx).2⟩
            · obtain rfl : x = (g, t) := by simpa using hx
              exact ⟨.inr (.inl rfl), by simp only; omega⟩
          · rintro k (h' | rfl | h')
            · exact m6 k h'
            · omega
            · have := (own5 k h').2.1; omega
          · intro p hp
            simp only [List.mem_cons, List.not_mem_nil, or_false] at hp
            rcases hp with rfl | rfl | rfl
            all_goals exact ⟨by (simp; omega), by go_simp, by go_simp⟩

          · have hrow5 : TrRow w5 w.heap.size (.slice (some ⟨g5, 0, none⟩) (pre.length + 1) c5) (pre ++ [(g, t)]) := by
              refine ⟨by rw [List.length_append, List.map_append]; exact HO5.out, ?_⟩
              intro x hx
              rcases List.mem_append.1 hx with hx | hx
              · obtain ⟨p1, p2⟩ := HR.out.2 x hx
                exact ⟨p1.same (HB5.out x.1 p1.lt p2), fun e => (own5 _ e).2.2.2.2 x hx rfl⟩
              · obtain rfl : x = (g, t) := by simpa using hx
                exact ⟨(HV.out.mono (by omega)).same (HB5.out g hgx (fun e => q3 (m4 _ e).1)), fun e => (own5 _ e).2.2.2.1 rfl⟩
            refine hrow5.same (fun k e => setCell_far w5 (by have := (own5 k e).2.1; omega)) (fun x hx => setCell_far w5 ?_)
            rcases List.mem_append.1 hx with hx | hx
            · have := (m5 x hx).2; omega
            · obtain rfl : x = (g, t) := by simpa using hx
              simp only; omega
      case hdone =>
        rintro Dd xs M V hD hMD hMb hS ⟨v, ⟨m0, mN⟩, ⟨m1, m2, m3, m4, m5, m6⟩, hb, hcc, hr⟩ hK
        have hz := hb.size
        have hDl := (Array.getElem?_eq_some_iff.1 hK).1
        obtain ⟨ra, rc, rfl, -⟩ := hr.inn
        have HR := Lib.hid hr
        have hle : (worksL h n).length ≤ 200 := by rw [← hS]; simpa using m0
        have HQ := Lib.hid (show mwR h (5 + (n : Int)) = (worksL h n, true) by rw [HM.out, if_pos hle])
        have rc0 : V.cell? ⟨w.heap.size + 2, 0, none⟩ = some (.slice ra xs.length rc) := (hcc (w.heap.size + 2, 0, .slice ra xs.length rc) (by simp)).2.1
        have rf0 : V.frozen? ⟨w.heap.size + 2, 0, none⟩ = false := (hcc (w.heap.size + 2, 0, .slice ra xs.length rc) (by simp)).2.2
        have rs0 : w.heap.size + 2 < V.heap.size := (hcc (w.heap.size + 2, 0, .slice ra xs.length rc) (by simp)).1
        have rc1 : V.cell? ⟨w.heap.size, 0, none⟩ = some (.slice none 0 0) := (hcc (w.heap.size, 0, .slice none 0 0) (by simp)).2.1
        have rf1 : V.frozen? ⟨w.heap.size, 0, none⟩ = false := (hcc (w.heap.size, 0, .slice none 0 0) (by simp)).2.2
        have rs1 : w.heap.size < V.heap.size := (hcc (w.heap.size, 0, .slice none 0 0) (by simp)).1
        have rc2 : V.cell? ⟨w.heap.size + 1, 0, none⟩ = some (.bool false) := (hcc (w.heap.size + 1, 0, .bool false) (by simp)).2.1
        have rf2 : V.frozen? ⟨w.heap.size + 1, 0, none⟩ = false := (hcc (w.heap.size + 1, 0, .bool false) (by simp)).2.2
        have rs2 : w.heap.size + 1 < V.heap.size := (hcc (w.heap.size + 1, 0, .bool false) (by simp)).1
        clear hr hcc
        gi_wp2
        have hkk : Kept (fun k => k = w.heap.size ∨ k = w.heap.size + 1) V ((V.setCell ⟨w.heap.size, 0, none⟩ (.slice ra xs.length rc)).setCell ⟨w.heap.size + 1, 0, none⟩ (.bool true)) := by (repeat' (first | (with_reducible exact Kept.refl _ _) | (with_reducible assumption) | (with_reducible refine Kept.setCell ?_ ?_) | (with_reducible refine Kept.alloc ?_) | (with_reducible refine Kept.drew ?_) | (exact .inl (by assumption)) | (exact .inl (by simp; done)) | (exact .inl (by omega)) | (exact .inr (by go_size))))
        have hc7 : CellsAt ((V.setCell ⟨w.heap.size, 0, none⟩ (.slice ra xs.length rc)).setCell ⟨w.heap.size + 1, 0, none⟩ (.bool true)) [(w.heap.size, 0, .slice ra xs.length rc), (w.heap.size + 1, 0, .bool true)] := by
          intro p hp
          simp only [List.mem_cons, List.not_mem_nil, or_false] at hp
          rcases hp with rfl | rfl
          all_goals exact ⟨by go_size, by go_simp, by go_simp⟩

        have hbb : Below w.heap.size w ((V.setCell ⟨w.heap.size, 0, none⟩ (.slice ra xs.length rc)).setCell ⟨w.heap.size + 1, 0, none⟩ (.bool true)) := by (repeat' (first | (with_reducible exact Below.refl _ _) | (with_reducible assumption) | (with_reducible refine Below.alloc ?_ ?_ _) | (with_reducible refine Below.drew ?_) | (with_reducible refine below_drewN ?_ _) | (with_reducible refine Below.setCell ?_ ?_ _) | (with_reducible refine below_call ?_ ?_ (by assumption)) | go_size))
        generalize ((V.setCell ⟨w.heap.size, 0, none⟩ (.slice ra xs.length rc)).setCell ⟨w.heap.size + 1, 0, none⟩ (.bool true)) = W9 at *
        have hK' := (hkk.block Dd hDl (by omega)).trans hK
        refine ⟨by simp, .inl ⟨_, _, rfl, run_takeDeferred hK', ?_⟩⟩
        have hc9 := hc7.kept (Kept.putObj (M := fun k => k = Dd) W9 Dd (.deferred none) rfl) (by simp; omega)
        have hb9 : Below w.heap.size w (W9.putObj Dd (.deferred none)) := hbb.trans ((Kept.putObj (M := fun k => k = Dd) W9 Dd (.deferred none) rfl).below hbb.size (fun k hk e => by omega))
        have hk9 : Kept (fun k => (k = w.heap.size ∨ k = w.heap.size + 1) ∨ k = Dd) V (W9.putObj Dd (.deferred none)) := Kept.trans hkk (Kept.putObj (M := fun k => k = Dd) W9 Dd (.deferred none) rfl) (fun _ _ h => .inl h) (fun _ _ h => .inr h)
        have hr9 : TrRow (W9.putObj Dd (.deferred none)) w.heap.size (.slice ra xs.length rc) xs := HR.out.same
          (fun k e => hk9.block k (World.ownsRow.lt HR.out.1 k e).2 (fun h' => by have y := m4 k e; rcases h' with (h' | h') | h' <;> first | omega | exact hMD (h' ▸ y.1)))
          (fun x hx => hk9.block _ (HR.out.2 x hx).1.lt (fun h' => by have y := m5 x hx; rcases h' with (h' | h') | h' <;> first | omega | exact hMD (h' ▸ y.1)))
        have qc0 : (W9.putObj Dd (.deferred none)).cell? ⟨w.heap.size, 0, none⟩ = some (.slice ra xs.length rc) := (hc9 (w.heap.size, 0, .slice ra xs.length rc) (by simp)).2.1
        have qf0 : (W9.putObj Dd (.deferred none)).frozen? ⟨w.heap.size, 0, none⟩ = false := (hc9 (w.heap.size, 0, .slice ra xs.length rc) (by simp)).2.2
        have qs0 : w.heap.size < (W9.putObj Dd (.deferred none)).heap.size := (hc9 (w.heap.size, 0, .slice ra xs.length rc) (by simp)).1
        have qc1 : (W9.putObj Dd (.deferred none)).cell? ⟨w.heap.size + 1, 0, none⟩ = some (.bool true) := (hc9 (w.heap.size + 1, 0, .bool true) (by simp)).2.1
        have qf1 : (W9.putObj Dd (.deferred none)).frozen? ⟨w.heap.size + 1, 0, none⟩ = false := (hc9 (w.heap.size + 1, 0, .bool true) (by simp)).2.2
        have qs1 : w.heap.size + 1 < (W9.putObj Dd (.deferred none)).heap.size := (hc9 (w.heap.size + 1, 0, .bool true) (by simp)).1
        refine ⟨.tuple #[.slice ra xs.length rc, .bool true], ?_, ?_⟩
        · simp [results, Try.f51, go_sem, qc0, qc1]
        · rw [HQ.out]
          exact ⟨_, xs, rfl, hS, hr9, mN, hb9⟩
      case hstop =>
        rintro Dd c pre M V hD hMD hMb hsp ⟨rfl, hlen, hb, hcc⟩ hK
        have hz := hb.size
        have hle : ¬ (worksL h n).length ≤ 200 := by
          have := hsp.length_le
          simp at this
          omega
        have HQ := Lib.hid (show mwR h (5 + (n : Int)) = ([], false) by rw [HM.out, if_neg hle])
        gi_wp2
        refine ⟨by simp, .inl ⟨_, _, rfl, run_takeDeferred hK, ?_⟩⟩
        have hc9 := hcc.kept (Kept.putObj (M := fun k => k = Dd) V Dd (.deferred none) rfl) (by simp; omega)
        have hb9 : Below w.heap.size w (V.putObj Dd (.deferred none)) := hb.trans ((Kept.putObj (M := fun k => k = Dd) V Dd (.deferred none) rfl).below hb.size (fun k hk e => by omega))
        have qc0 : (V.putObj Dd (.deferred none)).cell? ⟨w.heap.size, 0, none⟩ = some (.slice none 0 0) := (hc9 (w.heap.size, 0, .slice none 0 0) (by simp)).2.1
        have qf0 : (V.putObj Dd (.deferred none)).frozen? ⟨w.heap.size, 0, none⟩ = false := (hc9 (w.heap.size, 0, .slice none 0 0) (by simp)).2.2
        have qs0 : w.heap.size < (V.putObj Dd (.deferred none)).heap.size := (hc9 (w.heap.size, 0, .slice none 0 0) (by simp)).1
        have qc1 : (V.putObj Dd (.deferred none)).cell? ⟨w.heap.size + 1, 0, none⟩ = some (.bool false) := (hc9 (w.heap.size + 1, 0, .bool false) (by simp)).2.1
        have qf1 : (V.putObj Dd (.deferred none)).frozen? ⟨w.heap.size + 1, 0, none⟩ = false := (hc9 (w.heap.size + 1, 0, .bool false) (by simp)).2.2
        have qs1 : w.heap.size + 1 < (V.putObj Dd (.deferred none)).heap.size := (hc9 (w.heap.size + 1, 0, .bool false) (by simp)).1
        refine ⟨.tuple #[.slice none 0 0, .bool false], ?_, ?_⟩
        · simp [results, Try.f51, go_sem, qc0, qc1]
        · rw [HQ.out]
          exact WorksOut.none hb9
end Go.Proofs.Ytaifcemdabcfjaa
