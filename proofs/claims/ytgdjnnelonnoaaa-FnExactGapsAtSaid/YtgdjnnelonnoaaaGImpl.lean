/- The gaps between hands, by the program. -/
import Derived.Test.YtgdjnnelonnoaaaGaps
import Derived.Laws.ResultCell
set_option linter.unusedSimpArgs false
set_option linter.unusedVariables false
set_option maxRecDepth 100000
namespace Go.Proofs.Ytgdjnnelonnoaaa
open Go.RowKit Go.Shelf Go.Lib Go.Sort

theorem new_range (w : World) (cs : Array Value) (T : TypeId) : (w.alloc (.cells cs T)).rangeAt w.heap.size 0 cs.toList ∧ (w.alloc (.cells cs T)).there w.heap.size 0 cs.size := by
  have h := cells_of_block (heap_alloc_new w (.cells cs T))
  refine ⟨fun j v hj => ?_, fun j hj => ?_⟩
  · rw [Nat.zero_add, h.1 j, ← hj]
    simp
  · rw [Nat.zero_add, h.1 j, h.2 j]
    simp [hj]
theorem all_flat (A : List (Int × Int)) : ((flat A).toArray.all (·.oneCell')) = true := by
  have h : ∀ v ∈ flat A, v.oneCell' = true := by
    intro v hv
    induction A with
    | nil => simp [flat] at hv
    | cons t ts ih =>
      simp only [flat, List.mem_cons] at hv
      rcases hv with rfl | rfl | h
      · rfl
      · rfl
      · exact ih h
  rw [Array.all_eq_true]
  intro i hi
  exact h _ (by simp)
theorem size_flat {A : List (Int × Int)} (h : A.length = 12) : (flat A).toArray.size = 24 := by simp [flat_length, h]
theorem info_flat {A : List (Int × Int)} (h : A.length = 12) : (Try.prog.info? 79).map (·.size) = some (flat A).length := by rw [Try.infoArr, flat_length, h]
theorem info_flat2 {A : List (Int × Int)} (h : A.length = 12) : (Try.prog.info? 79).map (·.size) = some (flat A).toArray.size := by rw [Try.infoArr, List.size_toArray, flat_length, h]
theorem setCells_below {w0 w : World} {B b : Nat} {cs : List Value} (h : RowKit.Below B w0 w) (hb : B ≤ b) : RowKit.Below B w0 (w.setCells b 0 cs) := by
  have key : ∀ (cs : List Value) (o : Nat) (w : World), RowKit.Below B w0 w → RowKit.Below B w0 (w.setCells b o cs) := by
    intro cs
    induction cs with
    | nil => intro o w h; exact h
    | cons v cs ih =>
      intro o w h
      rw [World.setCells]
      refine ih _ _ ?_
      exact Below.setCell h hb _
  exact key cs 0 w h
/-- slices.SortFunc at the first n of an array's twelve turns. -/
theorem sortArr_any (b n : Nat) (dk : List (Int × Int)) (w : World) (hr : w.rangeAt b 0 (flat dk)) (ht : w.there b 0 24) (hd : dk.length = 12) (hn : n ≤ 12) (hb : b < w.heap.size) (gl : AllGood (dk.take n)) :
    Calls Try.prog 82 #[.slice (some ⟨b, 0, none⟩) n 12, .func (.func 80) #[] #[]] w fun e w' => e = .returned (.tuple #[]) ∧ w'.rangeAt b 0 (flat (sortT (dk.take n) ++ dk.drop n)) ∧ w.grownBy w' (some b) := by
  obtain ⟨d, hdd⟩ := lift_gt (dk.take n) gl
  have hPl : (dk.take n).length = n := by simp; omega
  have hdl : d.length = n := by rw [← hPl, ← hdd]; simp
  have hsp : flat dk = flat (dk.take n) ++ flat (dk.drop n) := by rw [← flat_append, List.take_append_drop]
  have hfl : (flat (dk.take n)).length = n * 2 := by rw [flat_length, hPl]
  have hH : Holds id w b 0 (flat (dk.take n)).toArray := by
    intro j hj
    have hj' : j < (flat (dk.take n)).length := by simpa using hj
    refine ⟨?_, (ht j (by omega)).2⟩
    rw [hr j (flat (dk.take n))[j] (by rw [hsp, List.getElem?_append_left hj', List.getElem?_eq_getElem hj'])]
    simp [getElem!_pos, hj']
  have hHK : HoldsK encT 2 w b 0 d.toArray := by
    unfold HoldsK
    rw [flatK_flat, hdd]
    exact hH
  have h := sortFunc_holds b 0 12 d.toArray w hHK hb (by simp; omega)
  rw [List.size_toArray, hdl] at h
  refine h.mono ?_
  rintro e w' ⟨he, m, os, hw⟩
  have hw2 : w' = grow (putRow id (Sort.ahead w m) b 0 (flat (sortT (dk.take n))).toArray) os := by
    rw [hw]
    unfold sortWorldK putRowK
    rw [flatK_flat, sortGT_map, hdd]
  have hsl : (flat (sortT (dk.take n))).length = n * 2 := by rw [flat_length, sortT_len, hPl]
  refine ⟨he, fun j v hj => ?_, ?_⟩
  · rw [hw2, Nat.zero_add, cell?_grow _ _ _ (by simpa using hb)]
    rw [flat_append] at hj
    by_cases hlt : j < n * 2
    · rw [List.getElem?_append_left (by omega)] at hj
      have h2 := holds_putRow id (Sort.ahead w m) b 0 (flat (dk.take n)).toArray (flat (sortT (dk.take n))).toArray hH (by simp [hsl, hfl]) j (by simp [hsl]; exact hlt)
      rw [Nat.zero_add] at h2
      rw [h2.1, ← hj]
      have hj' : j < (flat (sortT (dk.take n))).length := by omega
      simp [getElem!_pos, hj', List.getElem?_eq_getElem hj']
    · rw [List.getElem?_append_right (by omega), hsl] at hj
      rw [cell?_putRow_other id _ b 0 _ _ (.inr (.inr (by simp [hsl]; omega)))]
      have h3 := hr j v (by rw [hsp, List.getElem?_append_right (by omega), hfl]; exact hj)
      rw [Nat.zero_add] at h3
      exact h3
  · rw [hw2]
    refine ⟨rfl, rfl, rfl, by simp, fun k hk hne => ?_⟩
    rw [heap_grow_old _ _ (by simpa using hk)]
    have : b ≠ k := fun e => hne (by rw [e])
    simp [putRow, mapBlock, Sort.ahead, Array.getElem?_modify, this]
theorem there_grown {w w' : World} {b b' n : Nat} (h : w.there b 0 n) (hg : w.grownBy w' (some b')) (hne : b ≠ b') (hlt : b < w.heap.size) : w'.there b 0 n := fun j hj => by
  have h1 := World.grownBy.cell_far hg ⟨b, 0 + j, none⟩ hlt (by simpa using hne)
  have h2 := World.grownBy.frozen_far hg ⟨b, 0 + j, none⟩ hlt (by simpa using hne)
  rw [h1, h2]
  exact h j hj

set_option maxHeartbeats 1600000 in
theorem sortedPlaces_any (a : Option Addr) (c : Nat) (L : List (Int × Int × Int)) (tn td : Int) (w : World) (hin : HIn w a L) (hl : L.length ≤ 1048576) :
    Calls Try.prog 87 #[.slice a L.length c, tv tn td] w fun e w' => (∃ A : List (Int × Int), A.length = 12 ∧ e = .returned (.tuple #[.agg (flat A).toArray, .bool (spOk L tn td)]) ∧ (spOk L tn td = true → ∀ j, j < L.length → A.getD j (0, 0) = (spL L tn td).getD j (0, 0))) ∧ RowKit.Below w.heap.size w w' := by
  have X1 := Lib.hid hin
  clear hin
  cases hlen : inB L.length 1 12
  · have HF : Hid (spOk L tn td = false) := by show _ = _; simp [spOk, hlen]
    (go_enter Try.func87, Try.ntmps87)
    go_wp2_with fail
    have X0 := X1
    have hin2 := X1.out
    refine (isWithin_is _ _ _ hlen _).mono ?_
    (rintro e1 w1 ⟨rfl, rfl⟩)
    have n1 := new_range ((w.alloc (Obj.cells #[Value.int .i64 tn, Value.int .i64 td] 27)).alloc (Obj.cells #[Value.int .i64 0, Value.int .i64 0, Value.int .i64 0, Value.int .i64 0, Value.int .i64 0, Value.int .i64 0, Value.int .i64 0, Value.int .i64 0, Value.int .i64 0, Value.int .i64 0, Value.int .i64 0, Value.int .i64 0, Value.int .i64 0, Value.int .i64 0, Value.int .i64 0, Value.int .i64 0, Value.int .i64 0, Value.int .i64 0, Value.int .i64 0, Value.int .i64 0, Value.int .i64 0, Value.int .i64 0, Value.int .i64 0, Value.int .i64 0] 79)) #[Value.int .i64 0, Value.int .i64 0, Value.int .i64 0, Value.int .i64 0, Value.int .i64 0, Value.int .i64 0, Value.int .i64 0, Value.int .i64 0, Value.int .i64 0, Value.int .i64 0, Value.int .i64 0, Value.int .i64 0, Value.int .i64 0, Value.int .i64 0, Value.int .i64 0, Value.int .i64 0, Value.int .i64 0, Value.int .i64 0, Value.int .i64 0, Value.int .i64 0, Value.int .i64 0, Value.int .i64 0, Value.int .i64 0, Value.int .i64 0] 79
    have n2 := new_range (w.alloc (Obj.cells #[Value.int .i64 tn, Value.int .i64 td] 27)) #[Value.int .i64 0, Value.int .i64 0, Value.int .i64 0, Value.int .i64 0, Value.int .i64 0, Value.int .i64 0, Value.int .i64 0, Value.int .i64 0, Value.int .i64 0, Value.int .i64 0, Value.int .i64 0, Value.int .i64 0, Value.int .i64 0, Value.int .i64 0, Value.int .i64 0, Value.int .i64 0, Value.int .i64 0, Value.int .i64 0, Value.int .i64 0, Value.int .i64 0, Value.int .i64 0, Value.int .i64 0, Value.int .i64 0, Value.int .i64 0] 79
    have b3 : RowKit.Below ((w.alloc (Obj.cells #[Value.int .i64 tn, Value.int .i64 td] 27)).alloc (Obj.cells #[Value.int .i64 0, Value.int .i64 0, Value.int .i64 0, Value.int .i64 0, Value.int .i64 0, Value.int .i64 0, Value.int .i64 0, Value.int .i64 0, Value.int .i64 0, Value.int .i64 0, Value.int .i64 0, Value.int .i64 0, Value.int .i64 0, Value.int .i64 0, Value.int .i64 0, Value.int .i64 0, Value.int .i64 0, Value.int .i64 0, Value.int .i64 0, Value.int .i64 0, Value.int .i64 0, Value.int .i64 0, Value.int .i64 0, Value.int .i64 0] 79)).heap.size ((w.alloc (Obj.cells #[Value.int .i64 tn, Value.int .i64 td] 27)).alloc (Obj.cells #[Value.int .i64 0, Value.int .i64 0, Value.int .i64 0, Value.int .i64 0, Value.int .i64 0, Value.int .i64 0, Value.int .i64 0, Value.int .i64 0, Value.int .i64 0, Value.int .i64 0, Value.int .i64 0, Value.int .i64 0, Value.int .i64 0, Value.int .i64 0, Value.int .i64 0, Value.int .i64 0, Value.int .i64 0, Value.int .i64 0, Value.int .i64 0, Value.int .i64 0, Value.int .i64 0, Value.int .i64 0, Value.int .i64 0, Value.int .i64 0] 79)) (((w.alloc (Obj.cells #[Value.int .i64 tn, Value.int .i64 td] 27)).alloc (Obj.cells #[Value.int .i64 0, Value.int .i64 0, Value.int .i64 0, Value.int .i64 0, Value.int .i64 0, Value.int .i64 0, Value.int .i64 0, Value.int .i64 0, Value.int .i64 0, Value.int .i64 0, Value.int .i64 0, Value.int .i64 0, Value.int .i64 0, Value.int .i64 0, Value.int .i64 0, Value.int .i64 0, Value.int .i64 0, Value.int .i64 0, Value.int .i64 0, Value.int .i64 0, Value.int .i64 0, Value.int .i64 0, Value.int .i64 0, Value.int .i64 0] 79)).alloc (Obj.cells #[Value.int .i64 0, Value.int .i64 0, Value.int .i64 0, Value.int .i64 0, Value.int .i64 0, Value.int .i64 0, Value.int .i64 0, Value.int .i64 0, Value.int .i64 0, Value.int .i64 0, Value.int .i64 0, Value.int .i64 0, Value.int .i64 0, Value.int .i64 0, Value.int .i64 0, Value.int .i64 0, Value.int .i64 0, Value.int .i64 0, Value.int .i64 0, Value.int .i64 0, Value.int .i64 0, Value.int .i64 0, Value.int .i64 0, Value.int .i64 0] 79)) := by (repeat' (first | (with_reducible exact Below.refl _ _) | (with_reducible assumption) | (with_reducible refine Below.alloc ?_ ?_ _) | (with_reducible refine Below.drew ?_) | (with_reducible refine below_drewN ?_ _) | (with_reducible refine Below.setCell ?_ ?_ _) | (with_reducible refine below_call ?_ ?_ (by assumption)) | go_size))
    have HT4 := Lib.hid (there_below n2.2 b3 (by simp))
    have HT6 := Lib.hid n1.2
    have HR6 := Lib.hid (show (((w.alloc (Obj.cells #[Value.int .i64 tn, Value.int .i64 td] 27)).alloc (Obj.cells #[Value.int .i64 0, Value.int .i64 0, Value.int .i64 0, Value.int .i64 0, Value.int .i64 0, Value.int .i64 0, Value.int .i64 0, Value.int .i64 0, Value.int .i64 0, Value.int .i64 0, Value.int .i64 0, Value.int .i64 0, Value.int .i64 0, Value.int .i64 0, Value.int .i64 0, Value.int .i64 0, Value.int .i64 0, Value.int .i64 0, Value.int .i64 0, Value.int .i64 0, Value.int .i64 0, Value.int .i64 0, Value.int .i64 0, Value.int .i64 0] 79)).alloc (Obj.cells #[Value.int .i64 0, Value.int .i64 0, Value.int .i64 0, Value.int .i64 0, Value.int .i64 0, Value.int .i64 0, Value.int .i64 0, Value.int .i64 0, Value.int .i64 0, Value.int .i64 0, Value.int .i64 0, Value.int .i64 0, Value.int .i64 0, Value.int .i64 0, Value.int .i64 0, Value.int .i64 0, Value.int .i64 0, Value.int .i64 0, Value.int .i64 0, Value.int .i64 0, Value.int .i64 0, Value.int .i64 0, Value.int .i64 0, Value.int .i64 0] 79)).rangeAt ((w.alloc (Obj.cells #[Value.int .i64 tn, Value.int .i64 td] 27)).alloc (Obj.cells #[Value.int .i64 0, Value.int .i64 0, Value.int .i64 0, Value.int .i64 0, Value.int .i64 0, Value.int .i64 0, Value.int .i64 0, Value.int .i64 0, Value.int .i64 0, Value.int .i64 0, Value.int .i64 0, Value.int .i64 0, Value.int .i64 0, Value.int .i64 0, Value.int .i64 0, Value.int .i64 0, Value.int .i64 0, Value.int .i64 0, Value.int .i64 0, Value.int .i64 0, Value.int .i64 0, Value.int .i64 0, Value.int .i64 0, Value.int .i64 0] 79)).heap.size 0 (flat (List.replicate 12 (0, 0))) from n1.1)
    have HB := Lib.hid (show RowKit.Below w.heap.size w (((w.alloc (Obj.cells #[Value.int .i64 tn, Value.int .i64 td] 27)).alloc (Obj.cells #[Value.int .i64 0, Value.int .i64 0, Value.int .i64 0, Value.int .i64 0, Value.int .i64 0, Value.int .i64 0, Value.int .i64 0, Value.int .i64 0, Value.int .i64 0, Value.int .i64 0, Value.int .i64 0, Value.int .i64 0, Value.int .i64 0, Value.int .i64 0, Value.int .i64 0, Value.int .i64 0, Value.int .i64 0, Value.int .i64 0, Value.int .i64 0, Value.int .i64 0, Value.int .i64 0, Value.int .i64 0, Value.int .i64 0, Value.int .i64 0] 79)).alloc (Obj.cells #[Value.int .i64 0, Value.int .i64 0, Value.int .i64 0, Value.int .i64 0, Value.int .i64 0, Value.int .i64 0, Value.int .i64 0, Value.int .i64 0, Value.int .i64 0, Value.int .i64 0, Value.int .i64 0, Value.int .i64 0, Value.int .i64 0, Value.int .i64 0, Value.int .i64 0, Value.int .i64 0, Value.int .i64 0, Value.int .i64 0, Value.int .i64 0, Value.int .i64 0, Value.int .i64 0, Value.int .i64 0, Value.int .i64 0, Value.int .i64 0] 79)) from by (repeat' (first | (with_reducible exact Below.refl _ _) | (with_reducible assumption) | (with_reducible refine Below.alloc ?_ ?_ _) | (with_reducible refine Below.drew ?_) | (with_reducible refine below_drewN ?_ _) | (with_reducible refine Below.setCell ?_ ?_ _) | (with_reducible refine below_call ?_ ?_ (by assumption)) | go_size)))
    have k0 : (((w.alloc (Obj.cells #[Value.int .i64 tn, Value.int .i64 td] 27)).alloc (Obj.cells #[Value.int .i64 0, Value.int .i64 0, Value.int .i64 0, Value.int .i64 0, Value.int .i64 0, Value.int .i64 0, Value.int .i64 0, Value.int .i64 0, Value.int .i64 0, Value.int .i64 0, Value.int .i64 0, Value.int .i64 0, Value.int .i64 0, Value.int .i64 0, Value.int .i64 0, Value.int .i64 0, Value.int .i64 0, Value.int .i64 0, Value.int .i64 0, Value.int .i64 0, Value.int .i64 0, Value.int .i64 0, Value.int .i64 0, Value.int .i64 0] 79)).alloc (Obj.cells #[Value.int .i64 0, Value.int .i64 0, Value.int .i64 0, Value.int .i64 0, Value.int .i64 0, Value.int .i64 0, Value.int .i64 0, Value.int .i64 0, Value.int .i64 0, Value.int .i64 0, Value.int .i64 0, Value.int .i64 0, Value.int .i64 0, Value.int .i64 0, Value.int .i64 0, Value.int .i64 0, Value.int .i64 0, Value.int .i64 0, Value.int .i64 0, Value.int .i64 0, Value.int .i64 0, Value.int .i64 0, Value.int .i64 0, Value.int .i64 0] 79)).cell? ⟨w.heap.size, 0, none⟩ = some (.int .i64 tn) := by go_simp
    have k1 : (((w.alloc (Obj.cells #[Value.int .i64 tn, Value.int .i64 td] 27)).alloc (Obj.cells #[Value.int .i64 0, Value.int .i64 0, Value.int .i64 0, Value.int .i64 0, Value.int .i64 0, Value.int .i64 0, Value.int .i64 0, Value.int .i64 0, Value.int .i64 0, Value.int .i64 0, Value.int .i64 0, Value.int .i64 0, Value.int .i64 0, Value.int .i64 0, Value.int .i64 0, Value.int .i64 0, Value.int .i64 0, Value.int .i64 0, Value.int .i64 0, Value.int .i64 0, Value.int .i64 0, Value.int .i64 0, Value.int .i64 0, Value.int .i64 0] 79)).alloc (Obj.cells #[Value.int .i64 0, Value.int .i64 0, Value.int .i64 0, Value.int .i64 0, Value.int .i64 0, Value.int .i64 0, Value.int .i64 0, Value.int .i64 0, Value.int .i64 0, Value.int .i64 0, Value.int .i64 0, Value.int .i64 0, Value.int .i64 0, Value.int .i64 0, Value.int .i64 0, Value.int .i64 0, Value.int .i64 0, Value.int .i64 0, Value.int .i64 0, Value.int .i64 0, Value.int .i64 0, Value.int .i64 0, Value.int .i64 0, Value.int .i64 0] 79)).cell? ⟨w.heap.size, 1, none⟩ = some (.int .i64 td) := by go_simp
    have hsz : (((w.alloc (Obj.cells #[Value.int .i64 tn, Value.int .i64 td] 27)).alloc (Obj.cells #[Value.int .i64 0, Value.int .i64 0, Value.int .i64 0, Value.int .i64 0, Value.int .i64 0, Value.int .i64 0, Value.int .i64 0, Value.int .i64 0, Value.int .i64 0, Value.int .i64 0, Value.int .i64 0, Value.int .i64 0, Value.int .i64 0, Value.int .i64 0, Value.int .i64 0, Value.int .i64 0, Value.int .i64 0, Value.int .i64 0, Value.int .i64 0, Value.int .i64 0, Value.int .i64 0, Value.int .i64 0, Value.int .i64 0, Value.int .i64 0] 79)).alloc (Obj.cells #[Value.int .i64 0, Value.int .i64 0, Value.int .i64 0, Value.int .i64 0, Value.int .i64 0, Value.int .i64 0, Value.int .i64 0, Value.int .i64 0, Value.int .i64 0, Value.int .i64 0, Value.int .i64 0, Value.int .i64 0, Value.int .i64 0, Value.int .i64 0, Value.int .i64 0, Value.int .i64 0, Value.int .i64 0, Value.int .i64 0, Value.int .i64 0, Value.int .i64 0, Value.int .i64 0, Value.int .i64 0, Value.int .i64 0, Value.int .i64 0] 79)).heap.size = w.heap.size + 1 + 1 + 1 := by simp
    have e6 : ((w.alloc (Obj.cells #[Value.int .i64 tn, Value.int .i64 td] 27)).alloc (Obj.cells #[Value.int .i64 0, Value.int .i64 0, Value.int .i64 0, Value.int .i64 0, Value.int .i64 0, Value.int .i64 0, Value.int .i64 0, Value.int .i64 0, Value.int .i64 0, Value.int .i64 0, Value.int .i64 0, Value.int .i64 0, Value.int .i64 0, Value.int .i64 0, Value.int .i64 0, Value.int .i64 0, Value.int .i64 0, Value.int .i64 0, Value.int .i64 0, Value.int .i64 0, Value.int .i64 0, Value.int .i64 0, Value.int .i64 0, Value.int .i64 0] 79)).heap.size = w.heap.size + 1 + 1 := by simp
    have e4 : (w.alloc (Obj.cells #[Value.int .i64 tn, Value.int .i64 td] 27)).heap.size = w.heap.size + 1 := by simp
    rw [e4] at HT4
    rw [e6] at HT6 HR6
    clear n1 n2 b3 e4 e6
    generalize ((w.alloc (Obj.cells #[Value.int .i64 tn, Value.int .i64 td] 27)).alloc (Obj.cells #[Value.int .i64 0, Value.int .i64 0, Value.int .i64 0, Value.int .i64 0, Value.int .i64 0, Value.int .i64 0, Value.int .i64 0, Value.int .i64 0, Value.int .i64 0, Value.int .i64 0, Value.int .i64 0, Value.int .i64 0, Value.int .i64 0, Value.int .i64 0, Value.int .i64 0, Value.int .i64 0, Value.int .i64 0, Value.int .i64 0, Value.int .i64 0, Value.int .i64 0, Value.int .i64 0, Value.int .i64 0, Value.int .i64 0, Value.int .i64 0] 79)).alloc (Obj.cells #[Value.int .i64 0, Value.int .i64 0, Value.int .i64 0, Value.int .i64 0, Value.int .i64 0, Value.int .i64 0, Value.int .i64 0, Value.int .i64 0, Value.int .i64 0, Value.int .i64 0, Value.int .i64 0, Value.int .i64 0, Value.int .i64 0, Value.int .i64 0, Value.int .i64 0, Value.int .i64 0, Value.int .i64 0, Value.int .i64 0, Value.int .i64 0, Value.int .i64 0, Value.int .i64 0, Value.int .i64 0, Value.int .i64 0, Value.int .i64 0] 79) = w3 at *
    obtain ⟨A, hAl, hR⟩ : ∃ A : List (Int × Int), A.length = 12 ∧ w3.rangeAt (w.heap.size + 1 + 1) 0 (flat A) := ⟨List.replicate 12 (0, 0), rfl, HR6.out⟩
    have HR := Lib.hid hR
    clear hR HR6
    go_wp2_with (first
      | (refine wpList_load_mid rfl 79 (.tmp 6) rfl (w.heap.size + 1 + 1) 0 rfl (flat A) _ HR.out Try.underlying79 rfl (info_flat hAl) ?_)
      | (refine wpList_store_mid rfl 79 (.tmp 4) (.tmp 15) rfl (w.heap.size + 1) 0 (flat A).toArray rfl rfl (by rw [size_flat hAl]; exact HT4.out) (info_flat2 hAl) (all_flat _) ?_))
    have hld : ((w3).setCells (w.heap.size + 1) 0 (flat A).toArray.toList).rangeAt (w.heap.size + 1) 0 (flat A) := by
      have h := World.rangeAt_setCells_same (w3) (w.heap.size + 1) 0 (flat A).toArray.toList (by simpa [flat_length, hAl] using HT4.out)
      simpa using h
    refine bodyPost_ret (v := .tuple #[.agg (flat A).toArray, .bool false]) ?_ rfl ?_
    · rw [results_cell_tmp rfl]
      simp [asAddr, Result.andThen, run_loadVar_mid _ _ _ _ _ _ hld Try.underlying79 rfl (info_flat hAl)]

    rw [HF.out]
    exact ⟨⟨A, hAl, rfl, fun h => by cases h⟩, setCells_below HB.out (by omega)⟩
  · have hn := inB_bd hlen
    have hnn : L.length ≤ 12 := by omega
    (go_enter Try.func87, Try.ntmps87)
    go_wp2_with fail
    have X0 := X1
    have hin2 := X1.out
    refine (isWithin_is _ _ _ hlen _).mono ?_
    (rintro e1 w1 ⟨rfl, rfl⟩)
    have n1 := new_range ((w.alloc (Obj.cells #[Value.int .i64 tn, Value.int .i64 td] 27)).alloc (Obj.cells #[Value.int .i64 0, Value.int .i64 0, Value.int .i64 0, Value.int .i64 0, Value.int .i64 0, Value.int .i64 0, Value.int .i64 0, Value.int .i64 0, Value.int .i64 0, Value.int .i64 0, Value.int .i64 0, Value.int .i64 0, Value.int .i64 0, Value.int .i64 0, Value.int .i64 0, Value.int .i64 0, Value.int .i64 0, Value.int .i64 0, Value.int .i64 0, Value.int .i64 0, Value.int .i64 0, Value.int .i64 0, Value.int .i64 0, Value.int .i64 0] 79)) #[Value.int .i64 0, Value.int .i64 0, Value.int .i64 0, Value.int .i64 0, Value.int .i64 0, Value.int .i64 0, Value.int .i64 0, Value.int .i64 0, Value.int .i64 0, Value.int .i64 0, Value.int .i64 0, Value.int .i64 0, Value.int .i64 0, Value.int .i64 0, Value.int .i64 0, Value.int .i64 0, Value.int .i64 0, Value.int .i64 0, Value.int .i64 0, Value.int .i64 0, Value.int .i64 0, Value.int .i64 0, Value.int .i64 0, Value.int .i64 0] 79
    have n2 := new_range (w.alloc (Obj.cells #[Value.int .i64 tn, Value.int .i64 td] 27)) #[Value.int .i64 0, Value.int .i64 0, Value.int .i64 0, Value.int .i64 0, Value.int .i64 0, Value.int .i64 0, Value.int .i64 0, Value.int .i64 0, Value.int .i64 0, Value.int .i64 0, Value.int .i64 0, Value.int .i64 0, Value.int .i64 0, Value.int .i64 0, Value.int .i64 0, Value.int .i64 0, Value.int .i64 0, Value.int .i64 0, Value.int .i64 0, Value.int .i64 0, Value.int .i64 0, Value.int .i64 0, Value.int .i64 0, Value.int .i64 0] 79
    have b3 : RowKit.Below ((w.alloc (Obj.cells #[Value.int .i64 tn, Value.int .i64 td] 27)).alloc (Obj.cells #[Value.int .i64 0, Value.int .i64 0, Value.int .i64 0, Value.int .i64 0, Value.int .i64 0, Value.int .i64 0, Value.int .i64 0, Value.int .i64 0, Value.int .i64 0, Value.int .i64 0, Value.int .i64 0, Value.int .i64 0, Value.int .i64 0, Value.int .i64 0, Value.int .i64 0, Value.int .i64 0, Value.int .i64 0, Value.int .i64 0, Value.int .i64 0, Value.int .i64 0, Value.int .i64 0, Value.int .i64 0, Value.int .i64 0, Value.int .i64 0] 79)).heap.size ((w.alloc (Obj.cells #[Value.int .i64 tn, Value.int .i64 td] 27)).alloc (Obj.cells #[Value.int .i64 0, Value.int .i64 0, Value.int .i64 0, Value.int .i64 0, Value.int .i64 0, Value.int .i64 0, Value.int .i64 0, Value.int .i64 0, Value.int .i64 0, Value.int .i64 0, Value.int .i64 0, Value.int .i64 0, Value.int .i64 0, Value.int .i64 0, Value.int .i64 0, Value.int .i64 0, Value.int .i64 0, Value.int .i64 0, Value.int .i64 0, Value.int .i64 0, Value.int .i64 0, Value.int .i64 0, Value.int .i64 0, Value.int .i64 0] 79)) (((w.alloc (Obj.cells #[Value.int .i64 tn, Value.int .i64 td] 27)).alloc (Obj.cells #[Value.int .i64 0, Value.int .i64 0, Value.int .i64 0, Value.int .i64 0, Value.int .i64 0, Value.int .i64 0, Value.int .i64 0, Value.int .i64 0, Value.int .i64 0, Value.int .i64 0, Value.int .i64 0, Value.int .i64 0, Value.int .i64 0, Value.int .i64 0, Value.int .i64 0, Value.int .i64 0, Value.int .i64 0, Value.int .i64 0, Value.int .i64 0, Value.int .i64 0, Value.int .i64 0, Value.int .i64 0, Value.int .i64 0, Value.int .i64 0] 79)).alloc (Obj.cells #[Value.int .i64 0, Value.int .i64 0, Value.int .i64 0, Value.int .i64 0, Value.int .i64 0, Value.int .i64 0, Value.int .i64 0, Value.int .i64 0, Value.int .i64 0, Value.int .i64 0, Value.int .i64 0, Value.int .i64 0, Value.int .i64 0, Value.int .i64 0, Value.int .i64 0, Value.int .i64 0, Value.int .i64 0, Value.int .i64 0, Value.int .i64 0, Value.int .i64 0, Value.int .i64 0, Value.int .i64 0, Value.int .i64 0, Value.int .i64 0] 79)) := by (repeat' (first | (with_reducible exact Below.refl _ _) | (with_reducible assumption) | (with_reducible refine Below.alloc ?_ ?_ _) | (with_reducible refine Below.drew ?_) | (with_reducible refine below_drewN ?_ _) | (with_reducible refine Below.setCell ?_ ?_ _) | (with_reducible refine below_call ?_ ?_ (by assumption)) | go_size))
    have HT4 := Lib.hid (there_below n2.2 b3 (by simp))
    have HT6 := Lib.hid n1.2
    have HR6 := Lib.hid (show (((w.alloc (Obj.cells #[Value.int .i64 tn, Value.int .i64 td] 27)).alloc (Obj.cells #[Value.int .i64 0, Value.int .i64 0, Value.int .i64 0, Value.int .i64 0, Value.int .i64 0, Value.int .i64 0, Value.int .i64 0, Value.int .i64 0, Value.int .i64 0, Value.int .i64 0, Value.int .i64 0, Value.int .i64 0, Value.int .i64 0, Value.int .i64 0, Value.int .i64 0, Value.int .i64 0, Value.int .i64 0, Value.int .i64 0, Value.int .i64 0, Value.int .i64 0, Value.int .i64 0, Value.int .i64 0, Value.int .i64 0, Value.int .i64 0] 79)).alloc (Obj.cells #[Value.int .i64 0, Value.int .i64 0, Value.int .i64 0, Value.int .i64 0, Value.int .i64 0, Value.int .i64 0, Value.int .i64 0, Value.int .i64 0, Value.int .i64 0, Value.int .i64 0, Value.int .i64 0, Value.int .i64 0, Value.int .i64 0, Value.int .i64 0, Value.int .i64 0, Value.int .i64 0, Value.int .i64 0, Value.int .i64 0, Value.int .i64 0, Value.int .i64 0, Value.int .i64 0, Value.int .i64 0, Value.int .i64 0, Value.int .i64 0] 79)).rangeAt ((w.alloc (Obj.cells #[Value.int .i64 tn, Value.int .i64 td] 27)).alloc (Obj.cells #[Value.int .i64 0, Value.int .i64 0, Value.int .i64 0, Value.int .i64 0, Value.int .i64 0, Value.int .i64 0, Value.int .i64 0, Value.int .i64 0, Value.int .i64 0, Value.int .i64 0, Value.int .i64 0, Value.int .i64 0, Value.int .i64 0, Value.int .i64 0, Value.int .i64 0, Value.int .i64 0, Value.int .i64 0, Value.int .i64 0, Value.int .i64 0, Value.int .i64 0, Value.int .i64 0, Value.int .i64 0, Value.int .i64 0, Value.int .i64 0] 79)).heap.size 0 (flat (List.replicate 12 (0, 0))) from n1.1)
    have HB := Lib.hid (show RowKit.Below w.heap.size w (((w.alloc (Obj.cells #[Value.int .i64 tn, Value.int .i64 td] 27)).alloc (Obj.cells #[Value.int .i64 0, Value.int .i64 0, Value.int .i64 0, Value.int .i64 0, Value.int .i64 0, Value.int .i64 0, Value.int .i64 0, Value.int .i64 0, Value.int .i64 0, Value.int .i64 0, Value.int .i64 0, Value.int .i64 0, Value.int .i64 0, Value.int .i64 0, Value.int .i64 0, Value.int .i64 0, Value.int .i64 0, Value.int .i64 0, Value.int .i64 0, Value.int .i64 0, Value.int .i64 0, Value.int .i64 0, Value.int .i64 0, Value.int .i64 0] 79)).alloc (Obj.cells #[Value.int .i64 0, Value.int .i64 0, Value.int .i64 0, Value.int .i64 0, Value.int .i64 0, Value.int .i64 0, Value.int .i64 0, Value.int .i64 0, Value.int .i64 0, Value.int .i64 0, Value.int .i64 0, Value.int .i64 0, Value.int .i64 0, Value.int .i64 0, Value.int .i64 0, Value.int .i64 0, Value.int .i64 0, Value.int .i64 0, Value.int .i64 0, Value.int .i64 0, Value.int .i64 0, Value.int .i64 0, Value.int .i64 0, Value.int .i64 0] 79)) from by (repeat' (first | (with_reducible exact Below.refl _ _) | (with_reducible assumption) | (with_reducible refine Below.alloc ?_ ?_ _) | (with_reducible refine Below.drew ?_) | (with_reducible refine below_drewN ?_ _) | (with_reducible refine Below.setCell ?_ ?_ _) | (with_reducible refine below_call ?_ ?_ (by assumption)) | go_size)))
    have k0 : (((w.alloc (Obj.cells #[Value.int .i64 tn, Value.int .i64 td] 27)).alloc (Obj.cells #[Value.int .i64 0, Value.int .i64 0, Value.int .i64 0, Value.int .i64 0, Value.int .i64 0, Value.int .i64 0, Value.int .i64 0, Value.int .i64 0, Value.int .i64 0, Value.int .i64 0, Value.int .i64 0, Value.int .i64 0, Value.int .i64 0, Value.int .i64 0, Value.int .i64 0, Value.int .i64 0, Value.int .i64 0, Value.int .i64 0, Value.int .i64 0, Value.int .i64 0, Value.int .i64 0, Value.int .i64 0, Value.int .i64 0, Value.int .i64 0] 79)).alloc (Obj.cells #[Value.int .i64 0, Value.int .i64 0, Value.int .i64 0, Value.int .i64 0, Value.int .i64 0, Value.int .i64 0, Value.int .i64 0, Value.int .i64 0, Value.int .i64 0, Value.int .i64 0, Value.int .i64 0, Value.int .i64 0, Value.int .i64 0, Value.int .i64 0, Value.int .i64 0, Value.int .i64 0, Value.int .i64 0, Value.int .i64 0, Value.int .i64 0, Value.int .i64 0, Value.int .i64 0, Value.int .i64 0, Value.int .i64 0, Value.int .i64 0] 79)).cell? ⟨w.heap.size, 0, none⟩ = some (.int .i64 tn) := by go_simp
    have k1 : (((w.alloc (Obj.cells #[Value.int .i64 tn, Value.int .i64 td] 27)).alloc (Obj.cells #[Value.int .i64 0, Value.int .i64 0, Value.int .i64 0, Value.int .i64 0, Value.int .i64 0, Value.int .i64 0, Value.int .i64 0, Value.int .i64 0, Value.int .i64 0, Value.int .i64 0, Value.int .i64 0, Value.int .i64 0, Value.int .i64 0, Value.int .i64 0, Value.int .i64 0, Value.int .i64 0, Value.int .i64 0, Value.int .i64 0, Value.int .i64 0, Value.int .i64 0, Value.int .i64 0, Value.int .i64 0, Value.int .i64 0, Value.int .i64 0] 79)).alloc (Obj.cells #[Value.int .i64 0, Value.int .i64 0, Value.int .i64 0, Value.int .i64 0, Value.int .i64 0, Value.int .i64 0, Value.int .i64 0, Value.int .i64 0, Value.int .i64 0, Value.int .i64 0, Value.int .i64 0, Value.int .i64 0, Value.int .i64 0, Value.int .i64 0, Value.int .i64 0, Value.int .i64 0, Value.int .i64 0, Value.int .i64 0, Value.int .i64 0, Value.int .i64 0, Value.int .i64 0, Value.int .i64 0, Value.int .i64 0, Value.int .i64 0] 79)).cell? ⟨w.heap.size, 1, none⟩ = some (.int .i64 td) := by go_simp
    have hsz : (((w.alloc (Obj.cells #[Value.int .i64 tn, Value.int .i64 td] 27)).alloc (Obj.cells #[Value.int .i64 0, Value.int .i64 0, Value.int .i64 0, Value.int .i64 0, Value.int .i64 0, Value.int .i64 0, Value.int .i64 0, Value.int .i64 0, Value.int .i64 0, Value.int .i64 0, Value.int .i64 0, Value.int .i64 0, Value.int .i64 0, Value.int .i64 0, Value.int .i64 0, Value.int .i64 0, Value.int .i64 0, Value.int .i64 0, Value.int .i64 0, Value.int .i64 0, Value.int .i64 0, Value.int .i64 0, Value.int .i64 0, Value.int .i64 0] 79)).alloc (Obj.cells #[Value.int .i64 0, Value.int .i64 0, Value.int .i64 0, Value.int .i64 0, Value.int .i64 0, Value.int .i64 0, Value.int .i64 0, Value.int .i64 0, Value.int .i64 0, Value.int .i64 0, Value.int .i64 0, Value.int .i64 0, Value.int .i64 0, Value.int .i64 0, Value.int .i64 0, Value.int .i64 0, Value.int .i64 0, Value.int .i64 0, Value.int .i64 0, Value.int .i64 0, Value.int .i64 0, Value.int .i64 0, Value.int .i64 0, Value.int .i64 0] 79)).heap.size = w.heap.size + 1 + 1 + 1 := by simp
    have e6 : ((w.alloc (Obj.cells #[Value.int .i64 tn, Value.int .i64 td] 27)).alloc (Obj.cells #[Value.int .i64 0, Value.int .i64 0, Value.int .i64 0, Value.int .i64 0, Value.int .i64 0, Value.int .i64 0, Value.int .i64 0, Value.int .i64 0, Value.int .i64 0, Value.int .i64 0, Value.int .i64 0, Value.int .i64 0, Value.int .i64 0, Value.int .i64 0, Value.int .i64 0, Value.int .i64 0, Value.int .i64 0, Value.int .i64 0, Value.int .i64 0, Value.int .i64 0, Value.int .i64 0, Value.int .i64 0, Value.int .i64 0, Value.int .i64 0] 79)).heap.size = w.heap.size + 1 + 1 := by simp
    have e4 : (w.alloc (Obj.cells #[Value.int .i64 tn, Value.int .i64 td] 27)).heap.size = w.heap.size + 1 := by simp
    rw [e4] at HT4
    rw [e6] at HT6 HR6
    clear n1 n2 b3 e4 e6
    generalize ((w.alloc (Obj.cells #[Value.int .i64 tn, Value.int .i64 td] 27)).alloc (Obj.cells #[Value.int .i64 0, Value.int .i64 0, Value.int .i64 0, Value.int .i64 0, Value.int .i64 0, Value.int .i64 0, Value.int .i64 0, Value.int .i64 0, Value.int .i64 0, Value.int .i64 0, Value.int .i64 0, Value.int .i64 0, Value.int .i64 0, Value.int .i64 0, Value.int .i64 0, Value.int .i64 0, Value.int .i64 0, Value.int .i64 0, Value.int .i64 0, Value.int .i64 0, Value.int .i64 0, Value.int .i64 0, Value.int .i64 0, Value.int .i64 0] 79)).alloc (Obj.cells #[Value.int .i64 0, Value.int .i64 0, Value.int .i64 0, Value.int .i64 0, Value.int .i64 0, Value.int .i64 0, Value.int .i64 0, Value.int .i64 0, Value.int .i64 0, Value.int .i64 0, Value.int .i64 0, Value.int .i64 0, Value.int .i64 0, Value.int .i64 0, Value.int .i64 0, Value.int .i64 0, Value.int .i64 0, Value.int .i64 0, Value.int .i64 0, Value.int .i64 0, Value.int .i64 0, Value.int .i64 0, Value.int .i64 0, Value.int .i64 0] 79) = w3 at *
    obtain ⟨A, hAl, hR⟩ : ∃ A : List (Int × Int), A.length = 12 ∧ w3.rangeAt (w.heap.size + 1 + 1) 0 (flat A) := ⟨List.replicate 12 (0, 0), rfl, HR6.out⟩
    have HR := Lib.hid hR
    clear hR HR6
    clear X1
    have X1 := Lib.hid (HIn.below hin2 HB.out)
    clear hin2
    go_wp2
    go_loopw [18] (fun i wr => ∃ (k : Nat) (dk : List (Int × Int)), k ≤ L.length ∧ i = .int .i64 k ∧ dk.length = 12 ∧ wr.rangeAt (w.heap.size + 1 + 1) 0 (flat dk) ∧ wr.there (w.heap.size + 1 + 1) 0 24 ∧ wr.there (w.heap.size + 1) 0 24 ∧ RowKit.Below w.heap.size w wr ∧ w.heap.size + 1 + 1 + 1 ≤ wr.heap.size ∧ wr.cell? ⟨w.heap.size, 0, none⟩ = some (.int .i64 tn) ∧ wr.cell? ⟨w.heap.size, 1, none⟩ = some (.int .i64 td) ∧ ∀ j, j < k → (plR tn td (L.getD j (0, 0, 0))).2.2 = true ∧ dk.getD j (0, 0) = plH tn td (L.getD j (0, 0, 0))) (fun i _ => L.length - (intOf i).toNat)
    case atStart => exact ⟨0, A, Nat.zero_le _, rfl, hAl, HR.out, HT6.out, HT4.out, HB.out, by omega, k0, k1, fun j hj => absurd hj (Nat.not_lt_zero _)⟩
    case round =>
      obtain ⟨k, dk, hk, rfl, hdl, hrg, ht6, ht4, hbr, hzz, q0, q1, hall⟩ := hrel
      have RG := Lib.hid hrg
      have T6 := Lib.hid ht6
      have T4 := Lib.hid ht4
      have HA := Lib.hid hall
      clear hrg ht6 ht4 hall k0 k1 HT4 HT6 HR
      have hzr := hbr.size
      have i0' : (0 : Int) ≤ (k : Int) := Int.natCast_nonneg _
      by_cases hlt : k < L.length
      · have i1 : (k : Int) < (L.length : Int) := by omega
        have i2 : (k : Int) < 12 := by omega
        obtain ⟨b, off, rfl, u0, e2, e3, e4⟩ := X0.out k hlt
        obtain ⟨hcr, hfr⟩ := bcell hbr
        have f2 := (hcr b (off + k * 3) u0).trans e2
        have f3 := (hcr b (off + k * 3 + 1) u0).trans e3
        have f4 := (hcr b (off + k * 3 + 2) u0).trans e4
        have u1 : b < wr.heap.size := by omega
        have s0 : w.heap.size < wr.heap.size := by omega
        have s1 : w.heap.size + 1 < wr.heap.size := by omega
        have s2 : w.heap.size + 1 + 1 < wr.heap.size := by omega
        have d0 := (range_flat RG.out (show k < dk.length by omega)).1
        have d1 := (range_flat RG.out (show k < dk.length by omega)).2
        have z0 : wr.frozen? ⟨w.heap.size + 1 + 1, k * 2, none⟩ = false := by have h := (T6.out (k * 2) (by omega)).2; rwa [Nat.zero_add] at h
        have z1 : wr.frozen? ⟨w.heap.size + 1 + 1, k * 2 + 1, none⟩ = false := by have h := (T6.out (k * 2 + 1) (by omega)).2; rwa [Nat.zero_add] at h
        have HN : Hid ((plR tn td (L.getD k (0, 0, 0))).2.2 = true → ∀ x, x = plH tn td (L.getD k (0, 0, 0)) → ∀ j, j < k + 1 → (plR tn td (L.getD j (0, 0, 0))).2.2 = true ∧ (dk.set k x).getD j (0, 0) = plH tn td (L.getD j (0, 0, 0))) := fun ho x hx j hj => by
          by_cases hjk : j = k
          · subst hjk
            refine ⟨ho, ?_⟩
            rw [List.getD_eq_getElem?_getD, List.getElem?_set_self (by omega), hx]; rfl
          · have e : (dk.set k x).getD j (0, 0) = dk.getD j (0, 0) := by
              rw [List.getD_eq_getElem?_getD, List.getElem?_set_ne (fun e => hjk e.symm), ← List.getD_eq_getElem?_getD]
            rw [e]
            exact HA.out j (by omega)
        have HF0 : Hid ((plR tn td (L.getD k (0, 0, 0))).2.2 = false → spOk L tn td = false) := fun ho => by
          rw [← Bool.not_eq_true]
          intro hs
          simp only [spOk, Bool.and_eq_true] at hs
          have := all_get.1 hs.2 k hlt
          rw [ho] at this; cases this
        have HPL : Hid (plH tn td (L.getD k (0, 0, 0)) = ((plR tn td (L.getD k (0, 0, 0))).1, (plR tn td (L.getD k (0, 0, 0))).2.1)) := rfl
        clear e2 e3 e4 hcr hfr
        generalize (dk.getD k (0, 0)).1 = o1 at d0
        generalize (dk.getD k (0, 0)).2 = o2 at d1
        generalize hz : L.getD k (0, 0, 0) = z at *
        clear hz
        obtain ⟨x, y, v⟩ := z
        simp only at f2 f3 f4
        have HK : Hid (plR tn td (x, y, v) = plR tn td (x, y, v)) := rfl
        generalize hr : plR tn td (x, y, v) = r at *
        have HR' := Lib.hid hr
        clear hr HK
        obtain ⟨p, q, okk⟩ := r
        simp only at HN HF0 HPL
        cases okk with
        | false =>
          have HF := Lib.hid (HF0.out rfl)
          go_wp2_with fail
          refine (implHandAt_r x y v tn td HR'.out _).mono ?_
          rintro e2' w2 ⟨rfl, hb2⟩
          have hz2 := hb2.size
          simp only [World.size_alloc, World.size_setCell] at hz2
          have hbw : RowKit.Below wr.heap.size wr w2 := Below.trans (b := _) (by (repeat' (first | (with_reducible exact Below.refl _ _) | (with_reducible assumption) | (with_reducible refine Below.alloc ?_ ?_ _) | (with_reducible refine Below.drew ?_) | (with_reducible refine below_drewN ?_ _) | (with_reducible refine Below.setCell ?_ ?_ _) | (with_reducible refine below_call ?_ ?_ (by assumption)) | go_size))) (hb2.mono (by simp only [World.size_alloc, World.size_setCell]; omega))
          have hbz : RowKit.Below w.heap.size w w2 := hbr.trans (hbw.mono hbr.size)
          have hb9 : RowKit.Below wr.heap.size wr (w2.alloc (Obj.cells #[Value.int .i64 p, Value.int .i64 q] 27)) := hbw.alloc hbw.size _
          have HR9 := Lib.hid (range_below RG.out hb9 s2)
          have HT9 := Lib.hid (there_below T4.out hb9 s1)
          clear f2 f3 f4 d0 d1 z0 z1 q0 q1 hb9
          go_wp2_with (first
            | (refine wpList_load_mid rfl 79 (.tmp 6) rfl (w.heap.size + 1 + 1) 0 rfl (flat dk) _ HR9.out Try.underlying79 rfl (info_flat hdl) ?_)
            | (refine wpList_store_mid rfl 79 (.tmp 4) (.tmp 31) rfl (w.heap.size + 1) 0 (flat dk).toArray rfl rfl (by rw [size_flat hdl]; exact HT9.out) (info_flat2 hdl) (all_flat _) ?_))
          have hld : ((w2.alloc (Obj.cells #[Value.int .i64 p, Value.int .i64 q] 27)).setCells (w.heap.size + 1) 0 (flat dk).toArray.toList).rangeAt (w.heap.size + 1) 0 (flat dk) := by
            have h := World.rangeAt_setCells_same (w2.alloc (Obj.cells #[Value.int .i64 p, Value.int .i64 q] 27)) (w.heap.size + 1) 0 (flat dk).toArray.toList (by simpa [flat_length, hdl] using HT9.out)
            simpa using h
          refine bodyPost_ret (v := .tuple #[.agg (flat dk).toArray, .bool false]) ?_ rfl ?_
          · rw [results_cell_tmp rfl]
            simp [asAddr, Result.andThen, run_loadVar_mid _ _ _ _ _ _ hld Try.underlying79 rfl (info_flat hdl)]

          rw [HF.out]
          exact ⟨⟨dk, hdl, rfl, fun h => by cases h⟩, setCells_below (hbz.alloc (by have := hbz.size; omega) _) (by omega)⟩
        | true =>
          have HNN := Lib.hid (HN.out rfl (p, q) HPL.out.symm)
          go_wp2_with fail
          refine (implHandAt_r x y v tn td HR'.out _).mono ?_
          rintro e2' w2 ⟨rfl, hb2⟩
          have hz2 := hb2.size
          simp only [World.size_alloc, World.size_setCell] at hz2
          have hbw : RowKit.Below wr.heap.size wr w2 := Below.trans (b := _) (by (repeat' (first | (with_reducible exact Below.refl _ _) | (with_reducible assumption) | (with_reducible refine Below.alloc ?_ ?_ _) | (with_reducible refine Below.drew ?_) | (with_reducible refine below_drewN ?_ _) | (with_reducible refine Below.setCell ?_ ?_ _) | (with_reducible refine below_call ?_ ?_ (by assumption)) | go_size))) (hb2.mono (by simp only [World.size_alloc, World.size_setCell]; omega))
          obtain ⟨hcw, hfw⟩ := bcell hbw
          have d0' := (hcw _ (k * 2) s2).trans d0
          have d1' := (hcw _ (k * 2 + 1) s2).trans d1
          have z0' := (hfw _ (k * 2) s2).trans z0
          have z1' := (hfw _ (k * 2 + 1) s2).trans z1
          have g2 : w.heap.size + 1 + 1 < w2.heap.size := by omega
          have q0' := (hcw _ 0 s0).trans q0
          have q1' := (hcw _ 1 s0).trans q1
          clear f2 f3 f4 d0 d1 z0 z1 q0 q1 hcw hfw hb2
          go_wp2
          go_roundw
          case rel =>
            have hbz : RowKit.Below w.heap.size w w2 := hbr.trans (hbw.mono hbr.size)
            have hA : ∀ (W : World) (o : Obj), RowKit.Below W.heap.size W (W.alloc o) := fun W o => (Below.refl _ _).alloc (Nat.le_refl _) _
            have hfl : (flat dk).length = 24 := by rw [flat_length, hdl]
            have r1 := range_set (k := k * 2) (v := .int .i64 p) (range_below RG.out hbw s2) (by omega)
            have r2 := range_set (k := k * 2 + 1) (v := .int .i64 q) r1 (by rw [List.length_set]; omega)
            rw [flat_set] at r2
            refine ⟨k + 1, dk.set k (p, q), by omega, by go_num, by simpa using hdl, range_below r2 (hA _ _) (by simpa using g2), there_below (there_set (there_set (there_below T6.out hbw s2))) (hA _ _) (by simpa using g2), there_below (there_set (there_set (there_below T4.out hbw s1))) (hA _ _) (by simp; omega), by (repeat' (first | (with_reducible exact Below.refl _ _) | (with_reducible assumption) | (with_reducible refine Below.alloc ?_ ?_ _) | (with_reducible refine Below.drew ?_) | (with_reducible refine below_drewN ?_ _) | (with_reducible refine Below.setCell ?_ ?_ _) | (with_reducible refine below_call ?_ ?_ (by assumption)) | go_size)), by simp; omega, ?_, ?_, HNN.out⟩
            · have g0 : w.heap.size < w2.heap.size := by omega
              refine ((bcell (hA _ _)).1 _ _ (by simpa using g0)).trans ?_
              exact (World.cell?_setCell_other _ _ _ _ (by simp)).trans ((World.cell?_setCell_other _ _ _ _ (by simp)).trans q0')
            · have g0 : w.heap.size < w2.heap.size := by omega
              refine ((bcell (hA _ _)).1 _ _ (by simpa using g0)).trans ?_
              exact (World.cell?_setCell_other _ _ _ _ (by simp)).trans ((World.cell?_setCell_other _ _ _ _ (by simp)).trans q1')
          case measure => simp [intOf]; omega
      · obtain rfl : k = L.length := by omega
        have s1 : w.heap.size + 1 < wr.heap.size := by omega
        have s2 : w.heap.size + 1 + 1 < wr.heap.size := by omega
        have hOK := fun j hj => (HA.out j hj).1
        have HF := Lib.hid (show spOk L tn td = true from by
          simp only [spOk, hlen, Bool.true_and]
          exact all_get.2 hOK)
        have hT : dk.take L.length = L.map (plH tn td) := by
          apply List.ext_getElem (by simp; omega)
          intro i h1 h2
          have hi : i < L.length := by simpa using h2
          have h := (HA.out i hi).2
          simpa [List.getD_eq_getElem?_getD, hi, show i < dk.length by omega] using h
        have gl : AllGood (dk.take L.length) := by rw [hT]; exact pl_all hOK
        have HS := Lib.hid (sortArr_any (w.heap.size + 1 + 1) L.length dk wr RG.out T6.out hdl hnn s2 gl)
        have HTT := Lib.hid hT
        have i2 : (L.length : Int) ≤ 12 := by omega
        clear gl hT hOK
        go_wp2_with fail
        refine HS.out.mono ?_
        rintro e4 w4 ⟨rfl, hr4, hg4⟩
        obtain ⟨A2, hA2, hA3, hr5⟩ : ∃ A2 : List (Int × Int), A2.length = 12 ∧ (∀ j, j < L.length → A2.getD j (0, 0) = (spL L tn td).getD j (0, 0)) ∧ w4.rangeAt (w.heap.size + 1 + 1) 0 (flat A2) := by
          refine ⟨_, ?_, fun j hj => ?_, hr4⟩
          · rw [List.length_append, sortT_len, List.length_take, List.length_drop]; omega
          · rw [HTT.out]
            have hj' : j < (sortT (L.map (plH tn td))).length := by rw [sortT_len]; simpa using hj
            rw [List.getD_eq_getElem?_getD, List.getElem?_append_left hj', ← List.getD_eq_getElem?_getD]; rfl
        have HR9 := Lib.hid hr5
        have HT9 := Lib.hid (there_grown T4.out hg4 (by omega) s1)
        have HB9 := Lib.hid (show RowKit.Below w.heap.size w w4 from Below.grown (w := wr) hbr hg4 (by omega) (fun j hj => some_le hj (by omega)))
        have HA3 := Lib.hid hA3
        clear hr4 hr5 hg4 hA3
        go_wp2_with (first
          | (refine wpList_load_mid rfl 79 (.tmp 6) rfl (w.heap.size + 1 + 1) 0 rfl (flat A2) _ HR9.out Try.underlying79 rfl (info_flat hA2) ?_)
          | (refine wpList_store_mid rfl 79 (.tmp 4) (.tmp 40) rfl (w.heap.size + 1) 0 (flat A2).toArray rfl rfl (by rw [size_flat hA2]; exact HT9.out) (info_flat2 hA2) (all_flat _) ?_))
        have hld : ((w4).setCells (w.heap.size + 1) 0 (flat A2).toArray.toList).rangeAt (w.heap.size + 1) 0 (flat A2) := by
          have h := World.rangeAt_setCells_same (w4) (w.heap.size + 1) 0 (flat A2).toArray.toList (by simpa [flat_length, hA2] using HT9.out)
          simpa using h
        refine bodyPost_ret (v := .tuple #[.agg (flat A2).toArray, .bool true]) ?_ rfl ?_
        · rw [results_cell_tmp rfl]
          simp [asAddr, Result.andThen, run_loadVar_mid _ _ _ _ _ _ hld Try.underlying79 rfl (info_flat hA2)]

        rw [HF.out]
        exact ⟨⟨A2, hA2, rfl, fun _ => HA3.out⟩, setCells_below HB9.out (by omega)⟩
end Go.Proofs.Ytgdjnnelonnoaaa
