/- Puzzles: how one is opened. -/
import Derived.Test.YtcpgjjmamclklaaPz2
import Derived.Test.YtcpgjjmamclklaaOrder
import Derived.OwnWalk
import Derived.Test.YtcpgjjmamclklaaPivot
import Derived.Deep.AppendLies
import Derived.Laws.OwnMore
set_option linter.unusedSimpArgs false
set_option linter.unusedVariables false
set_option maxRecDepth 100000
namespace Go.Proofs.Ytcpgjjmamclklaa
open Go.RowKit

theorem leaves_tmps {P : Program} {fn : Func} {t1 t2 : Array Value} {R : Ending → World → Prop} (h : results fn t1 = results fn t2) : ∀ (ds : List Deferred) (u : FrameMode) (w : World), Leaves P fn t1 R ds u w → Leaves P fn t2 R ds u w
  | [], .returning, w, hl => by simpa only [Leaves, h] using hl
  | [], .panicking _, _, hl => hl
  | [], .run, _, hl => hl
  | _ :: ds, _, _, ⟨hu, fv, cap, f, args, e1, e2, h3⟩ => ⟨hu, fv, cap, f, args, e1, e2, h3.mono fun e u' w' => match e with
    | .returned _ => leaves_tmps h ds _ w'
    | .panicked _ => leaves_tmps h ds _ w'
    | .outgrown => id⟩
theorem results_put (t : Array Value) (d : Nat) (v : Value) (h2 : d ≠ 2) (h3 : d ≠ 3) : results Try.f68 (t.setIfInBounds d v) = results Try.f68 t := by
  simp only [results, Try.results68]
  simp [Array.getElem?_setIfInBounds, h2, h3, Ne.symm h2, Ne.symm h3]
theorem Try.infoParts : (Try.prog.info? 66).map (fun i => (i.zero, i.size, i.bytes)) = some (some (.agg #[.int .i64 0, .int .i64 0, .int .i64 0]), 3, 24) := by kernel_rfl
theorem take3_next {L : List (Int × Int × Int)} {k : Nat} (hk : k < L.length) : L.take (k + 1) = L.take k ++ [L.getD k (0, 0, 0)] := by
  rw [List.take_add_one]
  simp [List.getD_eq_getElem?_getD, hk]
theorem all3_next {L : List (Int × Int × Int)} {k : Nat} {p : Int × Int × Int → Bool} (hk : k < L.length) (h : (L.take k).all p = true) (hp : p (L.getD k (0, 0, 0)) = true) : (L.take (k + 1)).all p = true := by
  rw [take3_next hk, List.all_append, h]
  simpa using hp
theorem all3_fail {L : List (Int × Int × Int)} {k : Nat} {p : Int × Int × Int → Bool} (hk : k < L.length) (hp : p (L.getD k (0, 0, 0)) = false) : L.all p = false := by
  rw [List.getD_eq_getElem?_getD, List.getElem?_eq_getElem hk] at hp
  rw [List.all_eq_false]
  exact ⟨L[k], List.getElem_mem hk, by simpa using hp⟩
theorem wp_call_panics {P : Program} {o : Oper} {a : Act} {w : World} {f : FuncId} {args : Array Value} {K : Act → World → Prop} {Q : Exit → Act → World → Prop} (h : (execOp a.eval o).run P w = .ok (.enter f args) w)
    (hc : Calls P f args w fun e w'' => ∃ ch, e = .panicked ch ∧ Q (.panic ch) a w'') : o.wp P a w K Q := by
  unfold Oper.wp
  rw [h]
  exact hc.mono fun e w'' ⟨ch, he, hk⟩ => by subst he; exact hk
theorem wpOp_store {P : Program} {ops : Array Oper} {Q : Exit → Act → World → Prop} {K : Act → World → Prop} {i : Nat} {o : Oper} {a : Act} {w w' : World} (hi : ops[i]? = some o) (hw : Region.wanted o (yielded ops a.tmps) = true) (hr : (execOp a.eval o).run P w = .ok .skip w') (hK : K (a.put o.dst undef) w') : wpOp P ops Q i K a w := by
  refine wpOp_wp hi hw ?_
  unfold Oper.wp
  rw [hr]
  exact hK
theorem cell_of_heap {w w' : World} {b o : Nat} (h : w'.heap[b]? = w.heap[b]?) : w'.cell? ⟨b, o, none⟩ = w.cell? ⟨b, o, none⟩ := by simp only [World.cell?, h]
theorem frozen_of_heap {w w' : World} {b o : Nat} (h : w'.heap[b]? = w.heap[b]?) : w'.frozen? ⟨b, o, none⟩ = w.frozen? ⟨b, o, none⟩ := by simp only [World.frozen?, h]
/-- What the door hands back. -/
def OpenOut (w0 : World) (h : Int) (L : List (Int × Int × Int)) (e : Ending) (w' : World) : Prop :=
  Below w0.heap.size w0 w' ∧ ((okZ h L = true ∧ ∃ v, e = .returned (.tuple #[pzv h v, .bool true]) ∧ ARow w' w0.heap.size v L) ∨ (okZ h L = false ∧ e = .returned (.tuple #[pzv 0 (.slice none 0 0), .bool false])))
set_option maxHeartbeats 3200000 in
theorem openPuzzle_any (h : Int) (a : Option Addr) (c : Nat) (L : List (Int × Int × Int)) (hm : L.length ≤ maxLen) (w : World) (hin : CIn w a L) :
    Calls Try.prog 68 #[pzv h (.slice a L.length c)] w (OpenOut w h L) := by
  have hmf : ∀ (fn : Fn) (first cap : Array Value) (w : World), (Instr.makeFunc fn first cap).run Try.prog w = .ok (.func fn first cap) w := fun _ _ _ _ => rfl
  have X := Lib.hid hin
  clear hin
  unfold maxLen at hm
  cases ga : inB h 2 24
  · have HM := Lib.hid (show okZ h L = false from by simp [okZ, ga])
    go_enter_defers Try.func68, Try.ntmps68
    go_wp2_with fail
    refine (zIsDial_is _ ga _).mono ?_
    (rintro e1 w1 ⟨rfl, rfl⟩)
    go_wp2
    refine leaves_cons (f := 103) (args := #[.pointer (some ⟨w.heap.size + 1, 0, none⟩), .pointer (some ⟨w.heap.size + 1 + 1, 0, none⟩)]) (by simp) (by simp [go_sem]) ?_
    refine (catch_idle _ _ _).mono ?_
    rintro e u' w'' ⟨rfl, rfl, rfl⟩
    simp [Leaves, settle, results, Try.results68, go_sem]
    exact ⟨by (repeat' (first | (with_reducible exact Below.refl _ _) | (with_reducible assumption) | (with_reducible refine Below.alloc ?_ ?_ _) | (with_reducible refine Below.drew ?_) | (with_reducible refine below_drewN ?_ _) | (with_reducible refine Below.setCell ?_ ?_ _) | (with_reducible refine below_call ?_ ?_ (by assumption)) | go_size)), .inr ⟨HM.out, rfl⟩⟩
  · have hh := inB_bd ga
    by_cases hl : L.length ≤ 6
    · have hl' : ¬ (6 : Int) < (L.length : Int) := by omega
      have HZ : Hid (L.all (okC h) = true → okZ h L = true) := Lib.hid (fun hx => by simp [okZ, ga, hl, hx])
      obtain ⟨i0, hi0, hz0, hz1, hz2⟩ := info_parts Try.infoParts
      have I0 := Lib.hid hi0
      have Z0 := Lib.hid hz0
      have Z1 := Lib.hid hz1
      have Z2 := Lib.hid hz2
      clear hi0 hz0 hz1 hz2
      go_enter_defers Try.func68, Try.ntmps68
      go_wp2_with fail
      refine (zIsDial_is _ ga _).mono ?_
      (rintro e1 w1 ⟨rfl, rfl⟩)
      go_wp2
      go_loopw [24] (fun i wr => ∃ (k : Nat) (v : Value), k ≤ L.length ∧ i = .int .i64 k ∧ (L.take k).all (okC h) = true ∧ ARow wr (w.heap.size + 3) v (L.take k) ∧ wr.cell? ⟨w.heap.size + 1, 0, none⟩ = some (.int .i64 h) ∧ wr.cell? ⟨w.heap.size + 1, 1, none⟩ = some v ∧ wr.cell? ⟨w.heap.size + 1 + 1, 0, none⟩ = some (.bool false) ∧ wr.cell? ⟨w.heap.size, 0, none⟩ = some (.int .i64 h) ∧ wr.frozen? ⟨w.heap.size + 1, 0, none⟩ = false ∧ wr.frozen? ⟨w.heap.size + 1, 1, none⟩ = false ∧ wr.frozen? ⟨w.heap.size + 1 + 1, 0, none⟩ = false ∧ w.heap.size + 3 ≤ wr.heap.size ∧ Below w.heap.size w wr) (fun i _ => L.length - (intOf i).toNat)
      case atStart => exact ⟨0, .slice none 0 0, Nat.zero_le _, rfl, by simp, ARow.nil _ _, by go_simp, by go_simp, by go_simp, by go_simp, by go_simp, by go_simp, by go_simp, by go_size, by (repeat' (first | (with_reducible exact Below.refl _ _) | (with_reducible assumption) | (with_reducible refine Below.alloc ?_ ?_ _) | (with_reducible refine Below.drew ?_) | (with_reducible refine below_drewN ?_ _) | (with_reducible refine Below.setCell ?_ ?_ _) | (with_reducible refine below_call ?_ ?_ (by assumption)) | go_size))⟩
      case round =>
        obtain ⟨k, v, hk, rfl, hall, hrow, c0, c1, c2, c3, z0, z1, z2, hz3, hbr⟩ := hrel
        have HA := Lib.hid hall
        have HR := Lib.hid hrow
        clear hall hrow
        obtain ⟨hcr, hfr⟩ := bcell hbr
        have k0' : (0 : Int) ≤ (k : Int) := Int.natCast_nonneg _
        have p0 : w.heap.size < wr.heap.size := by omega
        have p1 : w.heap.size + 1 < wr.heap.size := by omega
        have p2 : w.heap.size + 1 + 1 < wr.heap.size := by omega
        have p3 : w.heap.size < wr.heap.size + 1 := by omega
        have p4 : w.heap.size + 1 < wr.heap.size + 1 := by omega
        have p5 : w.heap.size + 1 + 1 < wr.heap.size + 1 := by omega
        by_cases hlt : k < L.length
        · have k1 : (k : Int) < (L.length : Int) := by omega
          obtain ⟨b, off, rfl, e1, e2, e3, e4⟩ := X.out k hlt
          have f2 := (hcr b (off + k * 3) e1).trans e2
          have f3 := (hcr b (off + k * 3 + 1) e1).trans e3
          have f4 := (hcr b (off + k * 3 + 2) e1).trans e4
          have u1 : b < wr.heap.size := by omega
          have HN : Hid (okC h (L.getD k (0, 0, 0)) = true → (L.take (k + 1)).all (okC h) = true) := Lib.hid (fun hx => all3_next hlt HA.out hx)
          have HF : Hid (okC h (L.getD k (0, 0, 0)) = false → okZ h L = false) := Lib.hid (fun hx => by unfold okZ; rw [all3_fail hlt hx]; simp)
          have HT : Hid (L.take (k + 1) = L.take k ++ [L.getD k (0, 0, 0)]) := Lib.hid (take3_next hlt)
          clear e2 e3 e4 hcr hfr
          generalize L.getD k (0, 0, 0) = t at *
          obtain ⟨x, y, z⟩ := t
          simp only at f2 f3 f4
          cases hq : okC h (x, y, z)
          · have HQ := Lib.hid (HF.out hq)
            have HC := Lib.hid (fun W => mustBe_no x y z h hh hq W)
            clear HN HT hq
            go_wp2_with fail
            have g0 : (wr.alloc (.cells #[.int .i64 x, .int .i64 y, .int .i64 z] 25)).cell? ⟨w.heap.size, 0, none⟩ = some (.int .i64 h) := by go_simp
            have g1 : (wr.alloc (.cells #[.int .i64 x, .int .i64 y, .int .i64 z] 25)).cell? ⟨w.heap.size + 1, 0, none⟩ = some (.int .i64 h) := by go_simp
            have g2 : (wr.alloc (.cells #[.int .i64 x, .int .i64 y, .int .i64 z] 25)).cell? ⟨w.heap.size + 1, 1, none⟩ = some v := by go_simp
            have g3 : (wr.alloc (.cells #[.int .i64 x, .int .i64 y, .int .i64 z] 25)).cell? ⟨w.heap.size + 1 + 1, 0, none⟩ = some (.bool false) := by go_simp
            have g4 : (wr.alloc (.cells #[.int .i64 x, .int .i64 y, .int .i64 z] 25)).cell? ⟨wr.heap.size, 0, none⟩ = some (.int .i64 x) := by go_simp
            have g5 : (wr.alloc (.cells #[.int .i64 x, .int .i64 y, .int .i64 z] 25)).cell? ⟨wr.heap.size, 1, none⟩ = some (.int .i64 y) := by go_simp
            have g6 : (wr.alloc (.cells #[.int .i64 x, .int .i64 y, .int .i64 z] 25)).cell? ⟨wr.heap.size, 2, none⟩ = some (.int .i64 z) := by go_simp
            have g7 : (wr.alloc (.cells #[.int .i64 x, .int .i64 y, .int .i64 z] 25)).frozen? ⟨w.heap.size + 1, 0, none⟩ = false := by go_simp
            have g8 : (wr.alloc (.cells #[.int .i64 x, .int .i64 y, .int .i64 z] 25)).frozen? ⟨w.heap.size + 1, 1, none⟩ = false := by go_simp
            have g9 : (wr.alloc (.cells #[.int .i64 x, .int .i64 y, .int .i64 z] 25)).frozen? ⟨w.heap.size + 1 + 1, 0, none⟩ = false := by go_simp
            have hzE : (wr.alloc (.cells #[.int .i64 x, .int .i64 y, .int .i64 z] 25)).heap.size = wr.heap.size + 1 := by simp
            have hbE : Below w.heap.size w (wr.alloc (.cells #[.int .i64 x, .int .i64 y, .int .i64 z] 25)) := by (repeat' (first | (with_reducible exact Below.refl _ _) | (with_reducible assumption) | (with_reducible refine Below.alloc ?_ ?_ _) | (with_reducible refine Below.drew ?_) | (with_reducible refine below_drewN ?_ _) | (with_reducible refine Below.setCell ?_ ?_ _) | (with_reducible refine below_call ?_ ?_ (by assumption)) | go_size))
            have HRE : Hid (ARow (wr.alloc (.cells #[.int .i64 x, .int .i64 y, .int .i64 z] 25)) (w.heap.size + 3) v (L.take k)) := Lib.hid (HR.out.below (by (repeat' (first | (with_reducible exact Below.refl _ _) | (with_reducible assumption) | (with_reducible refine Below.alloc ?_ ?_ _) | (with_reducible refine Below.drew ?_) | (with_reducible refine below_drewN ?_ _) | (with_reducible refine Below.setCell ?_ ?_ _) | (with_reducible refine below_call ?_ ?_ (by assumption)) | go_size))))
            clear c0 c1 c2 c3 z0 z1 z2 f2 f3 f4 HR hbr
            generalize (wr.alloc (.cells #[.int .i64 x, .int .i64 y, .int .i64 z] 25)) = E at *
            have hSB : ∀ W, Below E.heap.size E W → W.cell? ⟨w.heap.size, 0, none⟩ = some (.int .i64 h) ∧ W.cell? ⟨wr.heap.size, 0, none⟩ = some (.int .i64 x) ∧ W.cell? ⟨wr.heap.size, 1, none⟩ = some (.int .i64 y) ∧ W.cell? ⟨wr.heap.size, 2, none⟩ = some (.int .i64 z) := fun W hb => by
              have hc := (bcell hb).1
              exact ⟨(hc _ _ (by omega)).trans g0, (hc _ _ (by omega)).trans g4, (hc _ _ (by omega)).trans g5, (hc _ _ (by omega)).trans g6⟩
            have hBd : Below E.heap.size E E.drew := (Below.refl _ _).drew
            have hS1 := hSB _ hBd
            have HSB := Lib.hid hSB
            clear hSB
            refine wp_region_held (by kernel_rfl) (S := fun W => W.cell? ⟨w.heap.size, 0, none⟩ = some (.int .i64 h) ∧ W.cell? ⟨wr.heap.size, 0, none⟩ = some (.int .i64 x) ∧ W.cell? ⟨wr.heap.size, 1, none⟩ = some (.int .i64 y) ∧ W.cell? ⟨wr.heap.size, 2, none⟩ = some (.int .i64 z)) ?_
            refine take_first (i := 0) (v := .pointer (some ⟨w.heap.size + 1, 1, none⟩)) 28 rfl rfl (by kernel_rfl) (by kernel_rfl) (by kernel_rfl) (fun ch a w h => leaves_tmps (results_put a.tmps 28 _ (by decide) (by decide)) _ _ _ h) (by rfl) ?_ (by assumption) ?_
            · intro wq hq
              obtain ⟨s0, s1, s2, s3⟩ := hq
              go_simp
              try rfl
            simp only [Act.put, List.setIfInBounds_toArray, List.set_cons_zero, List.set_cons_succ]
            refine take_first (i := 2) (v := .pointer (some ⟨w.heap.size, 0, none⟩)) 30 rfl rfl (by kernel_rfl) (by kernel_rfl) (by kernel_rfl) (fun ch a w h => leaves_tmps (results_put a.tmps 30 _ (by decide) (by decide)) _ _ _ h) (by rfl) ?_ (by assumption) ?_
            · intro wq hq
              obtain ⟨s0, s1, s2, s3⟩ := hq
              go_simp
              try rfl
            simp only [Act.put, List.setIfInBounds_toArray, List.set_cons_zero, List.set_cons_succ]
            refine take_first (i := 3) (v := .int .i64 h) 31 rfl rfl (by kernel_rfl) (by kernel_rfl) (by kernel_rfl) (fun ch a w h => leaves_tmps (results_put a.tmps 31 _ (by decide) (by decide)) _ _ _ h) (by rfl) ?_ (by assumption) ?_
            · intro wq hq
              obtain ⟨s0, s1, s2, s3⟩ := hq
              go_simp
              try rfl
            simp only [Act.put, List.setIfInBounds_toArray, List.set_cons_zero, List.set_cons_succ]
            refine take_first (i := 4) (v := kv x y z) 32 rfl rfl (by kernel_rfl) (by kernel_rfl) (by kernel_rfl) (fun ch a w h => leaves_tmps (results_put a.tmps 32 _ (by decide) (by decide)) _ _ _ h) (by rfl) ?_ (by assumption) ?_
            · intro wq hq
              obtain ⟨s0, s1, s2, s3⟩ := hq
              go_simp
              try rfl
            simp only [Act.put, List.setIfInBounds_toArray, List.set_cons_zero, List.set_cons_succ]
            refine wpAnyH_all (rs := [1, 5]) (by kernel_rfl) (by decide) (List.forall_mem_cons.2 ⟨?_, List.forall_mem_cons.2 ⟨?_, fun _ h => absurd h List.not_mem_nil⟩⟩)
            · have y1 : (E.drew).cell? ⟨w.heap.size + 1, 1, none⟩ = some v := ((bcell hBd).1 _ _ (by omega)).trans g2
              refine wpOp_value (v := v) (w' := E.drew) 29 rfl rfl rfl (by go_simp; try rfl) ⟨HSB.out _ hBd, ?_⟩
              clear y1
              simp only [Act.put, List.setIfInBounds_toArray, List.set_cons_zero, List.set_cons_succ]
              refine wpAnyH_all (rs := [5]) (by kernel_rfl) (by decide) (List.forall_mem_cons.2 ⟨?_, fun _ h => absurd h List.not_mem_nil⟩)
              refine wpOp_wp rfl rfl (wp_call_panics (f := 104) (args := #[.int .i64 h, kv x y z]) (by go_simp) ((HC.out _).mono ?_))
              rintro e2 w2 ⟨rfl, hb2⟩
              refine ⟨_, rfl, ?_⟩
              have hE2 : Below E.heap.size E w2 := hBd.trans (hb2.mono hBd.size)
              have hz2 := hE2.size
              obtain ⟨hc2, hf2⟩ := bcell hE2
              have y0 := (hc2 _ _ (by omega)).trans g1
              have y1 := (hc2 _ _ (by omega)).trans g2
              have y2 := (hc2 _ _ (by omega)).trans g3
              have x0 := (hf2 _ _ (by omega)).trans g7
              have x1 := (hf2 _ _ (by omega)).trans g8
              have x2 := (hf2 _ _ (by omega)).trans g9
              have hbw : Below w.heap.size w w2 := hbE.trans (hE2.mono hbE.size)
              clear hc2 hf2 hS1
              refine leaves_cons (f := 103) (args := #[.pointer (some ⟨w.heap.size + 1, 0, none⟩), .pointer (some ⟨w.heap.size + 1 + 1, 0, none⟩)]) (by simp) (by simp [go_sem]) ?_
              refine (catch_raised (w.heap.size + 1) (w.heap.size + 1 + 1) x y z _ _ y0 y1 y2 x0 x1 x2 (by omega) (by omega) (by omega)).mono ?_
              rintro e u' w'' ⟨rfl, rfl, rfl⟩
              have r0 : w.heap.size + 1 < w2.heap.size := by omega
              have r1 : w.heap.size + 1 + 1 < w2.heap.size := by omega
              simp [Leaves, settle, results, Try.results68, go_sem, y0, y1, y2, x0, x1, x2, r0, r1]
              exact ⟨by (repeat' (first | (with_reducible exact Below.refl _ _) | (with_reducible assumption) | (with_reducible refine Below.alloc ?_ ?_ _) | (with_reducible refine Below.drew ?_) | (with_reducible refine below_drewN ?_ _) | (with_reducible refine Below.setCell ?_ ?_ _) | (with_reducible refine below_call ?_ ?_ (by assumption)) | go_size)), .inr ⟨HQ.out, rfl⟩⟩

            · refine wpOp_wp rfl rfl (wp_call_panics (f := 104) (args := #[.int .i64 h, kv x y z]) (by go_simp) ((HC.out _).mono ?_))
              rintro e2 w2 ⟨rfl, hb2⟩
              refine ⟨_, rfl, ?_⟩
              have hE2 : Below E.heap.size E w2 := hBd.trans (hb2.mono hBd.size)
              have hz2 := hE2.size
              obtain ⟨hc2, hf2⟩ := bcell hE2
              have y0 := (hc2 _ _ (by omega)).trans g1
              have y1 := (hc2 _ _ (by omega)).trans g2
              have y2 := (hc2 _ _ (by omega)).trans g3
              have x0 := (hf2 _ _ (by omega)).trans g7
              have x1 := (hf2 _ _ (by omega)).trans g8
              have x2 := (hf2 _ _ (by omega)).trans g9
              have hbw : Below w.heap.size w w2 := hbE.trans (hE2.mono hbE.size)
              clear hc2 hf2 hS1
              refine leaves_cons (f := 103) (args := #[.pointer (some ⟨w.heap.size + 1, 0, none⟩), .pointer (some ⟨w.heap.size + 1 + 1, 0, none⟩)]) (by simp) (by simp [go_sem]) ?_
              refine (catch_raised (w.heap.size + 1) (w.heap.size + 1 + 1) x y z _ _ y0 y1 y2 x0 x1 x2 (by omega) (by omega) (by omega)).mono ?_
              rintro e u' w'' ⟨rfl, rfl, rfl⟩
              have r0 : w.heap.size + 1 < w2.heap.size := by omega
              have r1 : w.heap.size + 1 + 1 < w2.heap.size := by omega
              simp [Leaves, settle, results, Try.results68, go_sem, y0, y1, y2, x0, x1, x2, r0, r1]
              exact ⟨by (repeat' (first | (with_reducible exact Below.refl _ _) | (with_reducible assumption) | (with_reducible refine Below.alloc ?_ ?_ _) | (with_reducible refine Below.drew ?_) | (with_reducible refine below_drewN ?_ _) | (with_reducible refine Below.setCell ?_ ?_ _) | (with_reducible refine below_call ?_ ?_ (by assumption)) | go_size)), .inr ⟨HQ.out, rfl⟩⟩

          · have HQ := Lib.hid (HN.out hq)
            have HC := Lib.hid (fun W => mustBe_yes x y z h hh hq W)
            clear HF hq
            have HLTR := Lib.hid (fun j (hj : (v : Value).ownBlock = some j) => (World.ownsRow.lt HR.out j hj).2)
            go_wp2_with fail
            have g0 : (wr.alloc (.cells #[.int .i64 x, .int .i64 y, .int .i64 z] 25)).cell? ⟨w.heap.size, 0, none⟩ = some (.int .i64 h) := by go_simp
            have g1 : (wr.alloc (.cells #[.int .i64 x, .int .i64 y, .int .i64 z] 25)).cell? ⟨w.heap.size + 1, 0, none⟩ = some (.int .i64 h) := by go_simp
            have g2 : (wr.alloc (.cells #[.int .i64 x, .int .i64 y, .int .i64 z] 25)).cell? ⟨w.heap.size + 1, 1, none⟩ = some v := by go_simp
            have g3 : (wr.alloc (.cells #[.int .i64 x, .int .i64 y, .int .i64 z] 25)).cell? ⟨w.heap.size + 1 + 1, 0, none⟩ = some (.bool false) := by go_simp
            have g4 : (wr.alloc (.cells #[.int .i64 x, .int .i64 y, .int .i64 z] 25)).cell? ⟨wr.heap.size, 0, none⟩ = some (.int .i64 x) := by go_simp
            have g5 : (wr.alloc (.cells #[.int .i64 x, .int .i64 y, .int .i64 z] 25)).cell? ⟨wr.heap.size, 1, none⟩ = some (.int .i64 y) := by go_simp
            have g6 : (wr.alloc (.cells #[.int .i64 x, .int .i64 y, .int .i64 z] 25)).cell? ⟨wr.heap.size, 2, none⟩ = some (.int .i64 z) := by go_simp
            have g7 : (wr.alloc (.cells #[.int .i64 x, .int .i64 y, .int .i64 z] 25)).frozen? ⟨w.heap.size + 1, 0, none⟩ = false := by go_simp
            have g8 : (wr.alloc (.cells #[.int .i64 x, .int .i64 y, .int .i64 z] 25)).frozen? ⟨w.heap.size + 1, 1, none⟩ = false := by go_simp
            have g9 : (wr.alloc (.cells #[.int .i64 x, .int .i64 y, .int .i64 z] 25)).frozen? ⟨w.heap.size + 1 + 1, 0, none⟩ = false := by go_simp
            have hzE : (wr.alloc (.cells #[.int .i64 x, .int .i64 y, .int .i64 z] 25)).heap.size = wr.heap.size + 1 := by simp
            have hbE : Below w.heap.size w (wr.alloc (.cells #[.int .i64 x, .int .i64 y, .int .i64 z] 25)) := by (repeat' (first | (with_reducible exact Below.refl _ _) | (with_reducible assumption) | (with_reducible refine Below.alloc ?_ ?_ _) | (with_reducible refine Below.drew ?_) | (with_reducible refine below_drewN ?_ _) | (with_reducible refine Below.setCell ?_ ?_ _) | (with_reducible refine below_call ?_ ?_ (by assumption)) | go_size))
            have HRE : Hid (ARow (wr.alloc (.cells #[.int .i64 x, .int .i64 y, .int .i64 z] 25)) (w.heap.size + 3) v (L.take k)) := Lib.hid (HR.out.below (by (repeat' (first | (with_reducible exact Below.refl _ _) | (with_reducible assumption) | (with_reducible refine Below.alloc ?_ ?_ _) | (with_reducible refine Below.drew ?_) | (with_reducible refine below_drewN ?_ _) | (with_reducible refine Below.setCell ?_ ?_ _) | (with_reducible refine below_call ?_ ?_ (by assumption)) | go_size))))
            clear c0 c1 c2 c3 z0 z1 z2 f2 f3 f4 HR hbr
            generalize (wr.alloc (.cells #[.int .i64 x, .int .i64 y, .int .i64 z] 25)) = E at *
            have hSB : ∀ W, Below E.heap.size E W → W.cell? ⟨w.heap.size, 0, none⟩ = some (.int .i64 h) ∧ W.cell? ⟨wr.heap.size, 0, none⟩ = some (.int .i64 x) ∧ W.cell? ⟨wr.heap.size, 1, none⟩ = some (.int .i64 y) ∧ W.cell? ⟨wr.heap.size, 2, none⟩ = some (.int .i64 z) := fun W hb => by
              have hc := (bcell hb).1
              exact ⟨(hc _ _ (by omega)).trans g0, (hc _ _ (by omega)).trans g4, (hc _ _ (by omega)).trans g5, (hc _ _ (by omega)).trans g6⟩
            have hBd : Below E.heap.size E E.drew := (Below.refl _ _).drew
            have hS1 := hSB _ hBd
            have HSB := Lib.hid hSB
            clear hSB
            refine wp_region_held (by kernel_rfl) (S := fun W => W.cell? ⟨w.heap.size, 0, none⟩ = some (.int .i64 h) ∧ W.cell? ⟨wr.heap.size, 0, none⟩ = some (.int .i64 x) ∧ W.cell? ⟨wr.heap.size, 1, none⟩ = some (.int .i64 y) ∧ W.cell? ⟨wr.heap.size, 2, none⟩ = some (.int .i64 z)) ?_
            refine take_first (i := 0) (v := .pointer (some ⟨w.heap.size + 1, 1, none⟩)) 28 rfl rfl (by kernel_rfl) (by kernel_rfl) (by kernel_rfl) (fun ch a w h => leaves_tmps (results_put a.tmps 28 _ (by decide) (by decide)) _ _ _ h) (by rfl) ?_ (by assumption) ?_
            · intro wq hq
              obtain ⟨s0, s1, s2, s3⟩ := hq
              go_simp
              try rfl
            simp only [Act.put, List.setIfInBounds_toArray, List.set_cons_zero, List.set_cons_succ]
            refine take_first (i := 2) (v := .pointer (some ⟨w.heap.size, 0, none⟩)) 30 rfl rfl (by kernel_rfl) (by kernel_rfl) (by kernel_rfl) (fun ch a w h => leaves_tmps (results_put a.tmps 30 _ (by decide) (by decide)) _ _ _ h) (by rfl) ?_ (by assumption) ?_
            · intro wq hq
              obtain ⟨s0, s1, s2, s3⟩ := hq
              go_simp
              try rfl
            simp only [Act.put, List.setIfInBounds_toArray, List.set_cons_zero, List.set_cons_succ]
            refine take_first (i := 3) (v := .int .i64 h) 31 rfl rfl (by kernel_rfl) (by kernel_rfl) (by kernel_rfl) (fun ch a w h => leaves_tmps (results_put a.tmps 31 _ (by decide) (by decide)) _ _ _ h) (by rfl) ?_ (by assumption) ?_
            · intro wq hq
              obtain ⟨s0, s1, s2, s3⟩ := hq
              go_simp
              try rfl
            simp only [Act.put, List.setIfInBounds_toArray, List.set_cons_zero, List.set_cons_succ]
            refine take_first (i := 4) (v := kv x y z) 32 rfl rfl (by kernel_rfl) (by kernel_rfl) (by kernel_rfl) (fun ch a w h => leaves_tmps (results_put a.tmps 32 _ (by decide) (by decide)) _ _ _ h) (by rfl) ?_ (by assumption) ?_
            · intro wq hq
              obtain ⟨s0, s1, s2, s3⟩ := hq
              go_simp
              try rfl
            simp only [Act.put, List.setIfInBounds_toArray, List.set_cons_zero, List.set_cons_succ]
            refine wpAnyH_all (rs := [1, 5]) (by kernel_rfl) (by decide) (List.forall_mem_cons.2 ⟨?_, List.forall_mem_cons.2 ⟨?_, fun _ h => absurd h List.not_mem_nil⟩⟩)
            · have y1 : (E.drew).cell? ⟨w.heap.size + 1, 1, none⟩ = some v := ((bcell hBd).1 _ _ (by omega)).trans g2
              refine wpOp_value (v := v) (w' := E.drew) 29 rfl rfl rfl (by go_simp; try rfl) ⟨HSB.out _ hBd, ?_⟩
              clear y1
              simp only [Act.put, List.setIfInBounds_toArray, List.set_cons_zero, List.set_cons_succ]
              refine wpAnyH_all (rs := [5]) (by kernel_rfl) (by decide) (List.forall_mem_cons.2 ⟨?_, fun _ h => absurd h List.not_mem_nil⟩)
              refine wpOp_wp rfl rfl (wp_call_at 33 rfl (f := 104) (args := #[.int .i64 h, kv x y z]) (by go_simp) ((HC.out _).mono ?_))
              rintro e2 w2 ⟨rfl, hb2⟩
              have hE2 : Below E.heap.size E w2 := hBd.trans (hb2.mono hBd.size)
              have hz2 := hE2.size
              refine ⟨_, rfl, HSB.out _ hE2, ?_⟩
              simp only [Act.put, List.setIfInBounds_toArray, List.set_cons_zero, List.set_cons_succ]
              refine wpAnyH_all (rs := [6]) (by kernel_rfl) (by decide) (List.forall_mem_cons.2 ⟨?_, fun _ h => absurd h List.not_mem_nil⟩)
              have hE3 : Below E.heap.size E (w2.alloc (.cells #[.int .i64 x, .int .i64 y, .int .i64 z] 66)) := by (repeat' (first | (with_reducible exact Below.refl _ _) | (with_reducible assumption) | (with_reducible refine Below.alloc ?_ ?_ _) | (with_reducible refine Below.drew ?_) | (with_reducible refine below_drewN ?_ _) | (with_reducible refine Below.setCell ?_ ?_ _) | (with_reducible refine below_call ?_ ?_ (by assumption)) | go_size))
              refine wpOp_value (v := .slice (some ⟨w2.heap.size, 0, none⟩) 1 1) (w' := w2.alloc (.cells #[.int .i64 x, .int .i64 y, .int .i64 z] 66)) 34 rfl rfl rfl (by go_simp; try rfl) ⟨HSB.out _ hE3, ?_⟩
              simp only [Act.put, List.setIfInBounds_toArray, List.set_cons_zero, List.set_cons_succ]
              refine wpAnyH_all (rs := [7]) (by kernel_rfl) (by decide) (List.forall_mem_cons.2 ⟨?_, fun _ h => absurd h List.not_mem_nil⟩)
              have hkl : (L.take k).length = k := by rw [List.length_take]; omega
              have HO2 : w2.ownsRow (w.heap.size + 3) 66 3 v k (flat3 (L.take k)) := by have := HRE.out.below hE2; unfold ARow at this; rwa [hkl] at this
              have HLT : ∀ j, (v : Value).ownBlock = some j → w.heap.size + 3 ≤ j ∧ j < wr.heap.size := fun j hj => by have := World.ownsRow.lt HRE.out j hj; have := HLTR.out j hj; omega
              refine wpOp_wp rfl rfl ?_
              refine wp_append_lies _ _ _ _ rfl (w.heap.size + 3) 66 i0 _ 3 24 Try.underlying70 I0.out Z0.out Z1.out Z2.out rfl (by omega) v k _ rfl (HO2.alloc _) ⟨w2.heap.size, 0, none⟩ 1 1 [.int .i64 x, .int .i64 y, .int .i64 z] rfl rfl (World.news_of_block (cs := #[.int .i64 x, .int .i64 y, .int .i64 z]) (t := 66) (fr := (0, 0)) (by simpa using heap_alloc_new w2 _)) (by simp [Value.oneCell']) (by omega) (by unfold maxLen; omega) (by omega) (by simp; omega) (w2.heap.size + 1) (by simp) fun g cap w4 hown3 hgrow hat hlt3 => ?_
              have hb4 : Below w.heap.size w w4 := Below.grown (w := w2.alloc (.cells #[.int .i64 x, .int .i64 y, .int .i64 z] 66)) (hbE.trans (hE3.mono hbE.size)) hgrow (by simp; omega) (fun j hj => by have := HLT j hj; omega)
              have hz4 := hgrow.size
              simp only [World.size_alloc] at hz4
              have kc : ∀ b o, b < w.heap.size + 3 ∨ b = wr.heap.size → w4.cell? ⟨b, o, none⟩ = E.cell? ⟨b, o, none⟩ := fun b o hb => by
                have h1 : w4.heap[b]? = (w2.alloc (.cells #[.int .i64 x, .int .i64 y, .int .i64 z] 66)).heap[b]? := hgrow.block b (by simp; omega) (fun e => by have := HLT b e.symm; omega)
                rw [cell_of_heap h1]
                exact (bcell hE3).1 _ _ (by omega)
              have kf : ∀ b o, b < w.heap.size + 3 → w4.frozen? ⟨b, o, none⟩ = E.frozen? ⟨b, o, none⟩ := fun b o hb => by
                have h1 : w4.heap[b]? = (w2.alloc (.cells #[.int .i64 x, .int .i64 y, .int .i64 z] 66)).heap[b]? := hgrow.block b (by simp; omega) (fun e => by have := HLT b e.symm; omega)
                rw [frozen_of_heap h1]
                exact (bcell hE3).2 _ _ (by omega)
              have v0 := (kc _ 0 (.inl (show w.heap.size < _ by omega))).trans g0
              have v1 := (kc _ 0 (.inl (show w.heap.size + 1 < _ by omega))).trans g1
              have v2 := (kc _ 1 (.inl (show w.heap.size + 1 < _ by omega))).trans g2
              have v3 := (kc _ 0 (.inl (show w.heap.size + 1 + 1 < _ by omega))).trans g3
              have v4 := (kc _ 0 (.inr rfl)).trans g4
              have v5 := (kc _ 1 (.inr rfl)).trans g5
              have v6 := (kc _ 2 (.inr rfl)).trans g6
              have v7 := (kf _ 0 (show w.heap.size + 1 < _ by omega)).trans g7
              have v8 := (kf _ 1 (show w.heap.size + 1 < _ by omega)).trans g8
              have v9 := (kf _ 0 (show w.heap.size + 1 + 1 < _ by omega)).trans g9
              have OWN := Lib.hid hown3
              clear kc kf hown3 hgrow hat HO2 hE3
              refine ⟨⟨v0, v4, v5, v6⟩, ?_⟩
              simp only [Act.put, List.getElem_toArray, List.getElem_cons_succ, List.getElem_cons_zero, List.setIfInBounds_toArray, List.set_cons_zero, List.set_cons_succ]
              refine wpAnyH_all (rs := [8]) (by kernel_rfl) (by decide) (List.forall_mem_cons.2 ⟨?_, fun _ h => absurd h List.not_mem_nil⟩)
              refine wpOp_value (v := .pointer (some ⟨w.heap.size + 1, 1, none⟩)) (w' := w4) 36 rfl rfl rfl (by go_simp; try rfl) ⟨⟨v0, v4, v5, v6⟩, ?_⟩
              simp only [Act.put, List.setIfInBounds_toArray, List.set_cons_zero, List.set_cons_succ]
              refine wpAnyH_all (rs := [9]) (by kernel_rfl) (by decide) (List.forall_mem_cons.2 ⟨?_, fun _ h => absurd h List.not_mem_nil⟩)
              refine wpOp_store rfl rfl (w' := w4.setCell ⟨w.heap.size + 1, 1, none⟩ (.slice (some ⟨g, 0, none⟩) (k + 1) cap)) (by go_simp; try rfl) ⟨⟨?_, ?_, ?_, ?_⟩, ?_⟩
              · go_simp
              · go_simp
              · go_simp
              · go_simp
              refine wpAnyH_done (by kernel_rfl) ?_ _
              go_wp2
              go_roundw
              case rel =>
                have hl4 : (L.take (k + 1)).length = k + 1 := by rw [List.length_take]; omega
                refine ⟨k + 1, .slice (some ⟨g, 0, none⟩) (k + 1) cap, by omega, by go_num, HQ.out, ARow.set ?_ (by first | omega | (simp; done) | (simp; omega)) _, by go_simp, by go_simp, by go_simp, by go_simp, by go_simp, by go_simp, by go_simp, by first | omega | (simp; done) | (simp; omega), by (repeat' (first | (with_reducible exact Below.refl _ _) | (with_reducible assumption) | (with_reducible refine Below.alloc ?_ ?_ _) | (with_reducible refine Below.drew ?_) | (with_reducible refine below_drewN ?_ _) | (with_reducible refine Below.setCell ?_ ?_ _) | (with_reducible refine below_call ?_ ?_ (by assumption)) | go_size))⟩
                unfold ARow
                rw [hl4, HT.out, flat3_append]
                exact OWN.out
              case measure => simp [intOf]; omega

            · refine wpOp_wp rfl rfl (wp_call_at 33 rfl (f := 104) (args := #[.int .i64 h, kv x y z]) (by go_simp) ((HC.out _).mono ?_))
              rintro e2 w2 ⟨rfl, hb2⟩
              have hE2 : Below E.heap.size E w2 := hBd.trans (hb2.mono hBd.size)
              have hz2 := hE2.size
              refine ⟨_, rfl, HSB.out _ hE2, ?_⟩
              simp only [Act.put, List.setIfInBounds_toArray, List.set_cons_zero, List.set_cons_succ]
              refine wpAnyH_all (rs := [1, 6]) (by kernel_rfl) (by decide) (List.forall_mem_cons.2 ⟨?_, List.forall_mem_cons.2 ⟨?_, fun _ h => absurd h List.not_mem_nil⟩⟩)
              · have y1 : (w2).cell? ⟨w.heap.size + 1, 1, none⟩ = some v := ((bcell hE2).1 _ _ (by omega)).trans g2
                refine wpOp_value (v := v) (w' := w2) 29 rfl rfl rfl (by go_simp; try rfl) ⟨HSB.out _ hE2, ?_⟩
                clear y1
                simp only [Act.put, List.setIfInBounds_toArray, List.set_cons_zero, List.set_cons_succ]
                refine wpAnyH_all (rs := [6]) (by kernel_rfl) (by decide) (List.forall_mem_cons.2 ⟨?_, fun _ h => absurd h List.not_mem_nil⟩)
                have hE3 : Below E.heap.size E (w2.alloc (.cells #[.int .i64 x, .int .i64 y, .int .i64 z] 66)) := by (repeat' (first | (with_reducible exact Below.refl _ _) | (with_reducible assumption) | (with_reducible refine Below.alloc ?_ ?_ _) | (with_reducible refine Below.drew ?_) | (with_reducible refine below_drewN ?_ _) | (with_reducible refine Below.setCell ?_ ?_ _) | (with_reducible refine below_call ?_ ?_ (by assumption)) | go_size))
                refine wpOp_value (v := .slice (some ⟨w2.heap.size, 0, none⟩) 1 1) (w' := w2.alloc (.cells #[.int .i64 x, .int .i64 y, .int .i64 z] 66)) 34 rfl rfl rfl (by go_simp; try rfl) ⟨HSB.out _ hE3, ?_⟩
                simp only [Act.put, List.setIfInBounds_toArray, List.set_cons_zero, List.set_cons_succ]
                refine wpAnyH_all (rs := [7]) (by kernel_rfl) (by decide) (List.forall_mem_cons.2 ⟨?_, fun _ h => absurd h List.not_mem_nil⟩)
                have hkl : (L.take k).length = k := by rw [List.length_take]; omega
                have HO2 : w2.ownsRow (w.heap.size + 3) 66 3 v k (flat3 (L.take k)) := by have := HRE.out.below hE2; unfold ARow at this; rwa [hkl] at this
                have HLT : ∀ j, (v : Value).ownBlock = some j → w.heap.size + 3 ≤ j ∧ j < wr.heap.size := fun j hj => by have := World.ownsRow.lt HRE.out j hj; have := HLTR.out j hj; omega
                refine wpOp_wp rfl rfl ?_
                refine wp_append_lies _ _ _ _ rfl (w.heap.size + 3) 66 i0 _ 3 24 Try.underlying70 I0.out Z0.out Z1.out Z2.out rfl (by omega) v k _ rfl (HO2.alloc _) ⟨w2.heap.size, 0, none⟩ 1 1 [.int .i64 x, .int .i64 y, .int .i64 z] rfl rfl (World.news_of_block (cs := #[.int .i64 x, .int .i64 y, .int .i64 z]) (t := 66) (fr := (0, 0)) (by simpa using heap_alloc_new w2 _)) (by simp [Value.oneCell']) (by omega) (by unfold maxLen; omega) (by omega) (by simp; omega) (w2.heap.size + 1) (by simp) fun g cap w4 hown3 hgrow hat hlt3 => ?_
                have hb4 : Below w.heap.size w w4 := Below.grown (w := w2.alloc (.cells #[.int .i64 x, .int .i64 y, .int .i64 z] 66)) (hbE.trans (hE3.mono hbE.size)) hgrow (by simp; omega) (fun j hj => by have := HLT j hj; omega)
                have hz4 := hgrow.size
                simp only [World.size_alloc] at hz4
                have kc : ∀ b o, b < w.heap.size + 3 ∨ b = wr.heap.size → w4.cell? ⟨b, o, none⟩ = E.cell? ⟨b, o, none⟩ := fun b o hb => by
                  have h1 : w4.heap[b]? = (w2.alloc (.cells #[.int .i64 x, .int .i64 y, .int .i64 z] 66)).heap[b]? := hgrow.block b (by simp; omega) (fun e => by have := HLT b e.symm; omega)
                  rw [cell_of_heap h1]
                  exact (bcell hE3).1 _ _ (by omega)
                have kf : ∀ b o, b < w.heap.size + 3 → w4.frozen? ⟨b, o, none⟩ = E.frozen? ⟨b, o, none⟩ := fun b o hb => by
                  have h1 : w4.heap[b]? = (w2.alloc (.cells #[.int .i64 x, .int .i64 y, .int .i64 z] 66)).heap[b]? := hgrow.block b (by simp; omega) (fun e => by have := HLT b e.symm; omega)
                  rw [frozen_of_heap h1]
                  exact (bcell hE3).2 _ _ (by omega)
                have v0 := (kc _ 0 (.inl (show w.heap.size < _ by omega))).trans g0
                have v1 := (kc _ 0 (.inl (show w.heap.size + 1 < _ by omega))).trans g1
                have v2 := (kc _ 1 (.inl (show w.heap.size + 1 < _ by omega))).trans g2
                have v3 := (kc _ 0 (.inl (show w.heap.size + 1 + 1 < _ by omega))).trans g3
                have v4 := (kc _ 0 (.inr rfl)).trans g4
                have v5 := (kc _ 1 (.inr rfl)).trans g5
                have v6 := (kc _ 2 (.inr rfl)).trans g6
                have v7 := (kf _ 0 (show w.heap.size + 1 < _ by omega)).trans g7
                have v8 := (kf _ 1 (show w.heap.size + 1 < _ by omega)).trans g8
                have v9 := (kf _ 0 (show w.heap.size + 1 + 1 < _ by omega)).trans g9
                have OWN := Lib.hid hown3
                clear kc kf hown3 hgrow hat HO2 hE3
                refine ⟨⟨v0, v4, v5, v6⟩, ?_⟩
                simp only [Act.put, List.getElem_toArray, List.getElem_cons_succ, List.getElem_cons_zero, List.setIfInBounds_toArray, List.set_cons_zero, List.set_cons_succ]
                refine wpAnyH_all (rs := [8]) (by kernel_rfl) (by decide) (List.forall_mem_cons.2 ⟨?_, fun _ h => absurd h List.not_mem_nil⟩)
                refine wpOp_value (v := .pointer (some ⟨w.heap.size + 1, 1, none⟩)) (w' := w4) 36 rfl rfl rfl (by go_simp; try rfl) ⟨⟨v0, v4, v5, v6⟩, ?_⟩
                simp only [Act.put, List.setIfInBounds_toArray, List.set_cons_zero, List.set_cons_succ]
                refine wpAnyH_all (rs := [9]) (by kernel_rfl) (by decide) (List.forall_mem_cons.2 ⟨?_, fun _ h => absurd h List.not_mem_nil⟩)
                refine wpOp_store rfl rfl (w' := w4.setCell ⟨w.heap.size + 1, 1, none⟩ (.slice (some ⟨g, 0, none⟩) (k + 1) cap)) (by go_simp; try rfl) ⟨⟨?_, ?_, ?_, ?_⟩, ?_⟩
                · go_simp
                · go_simp
                · go_simp
                · go_simp
                refine wpAnyH_done (by kernel_rfl) ?_ _
                go_wp2
                go_roundw
                case rel =>
                  have hl4 : (L.take (k + 1)).length = k + 1 := by rw [List.length_take]; omega
                  refine ⟨k + 1, .slice (some ⟨g, 0, none⟩) (k + 1) cap, by omega, by go_num, HQ.out, ARow.set ?_ (by first | omega | (simp; done) | (simp; omega)) _, by go_simp, by go_simp, by go_simp, by go_simp, by go_simp, by go_simp, by go_simp, by first | omega | (simp; done) | (simp; omega), by (repeat' (first | (with_reducible exact Below.refl _ _) | (with_reducible assumption) | (with_reducible refine Below.alloc ?_ ?_ _) | (with_reducible refine Below.drew ?_) | (with_reducible refine below_drewN ?_ _) | (with_reducible refine Below.setCell ?_ ?_ _) | (with_reducible refine below_call ?_ ?_ (by assumption)) | go_size))⟩
                  unfold ARow
                  rw [hl4, HT.out, flat3_append]
                  exact OWN.out
                case measure => simp [intOf]; omega

              · have hE3 : Below E.heap.size E (w2.alloc (.cells #[.int .i64 x, .int .i64 y, .int .i64 z] 66)) := by (repeat' (first | (with_reducible exact Below.refl _ _) | (with_reducible assumption) | (with_reducible refine Below.alloc ?_ ?_ _) | (with_reducible refine Below.drew ?_) | (with_reducible refine below_drewN ?_ _) | (with_reducible refine Below.setCell ?_ ?_ _) | (with_reducible refine below_call ?_ ?_ (by assumption)) | go_size))
                refine wpOp_value (v := .slice (some ⟨w2.heap.size, 0, none⟩) 1 1) (w' := w2.alloc (.cells #[.int .i64 x, .int .i64 y, .int .i64 z] 66)) 34 rfl rfl rfl (by go_simp; try rfl) ⟨HSB.out _ hE3, ?_⟩
                simp only [Act.put, List.setIfInBounds_toArray, List.set_cons_zero, List.set_cons_succ]
                refine wpAnyH_all (rs := [1]) (by kernel_rfl) (by decide) (List.forall_mem_cons.2 ⟨?_, fun _ h => absurd h List.not_mem_nil⟩)
                have y1 : (w2.alloc (.cells #[.int .i64 x, .int .i64 y, .int .i64 z] 66)).cell? ⟨w.heap.size + 1, 1, none⟩ = some v := ((bcell hE3).1 _ _ (by omega)).trans g2
                refine wpOp_value (v := v) (w' := w2.alloc (.cells #[.int .i64 x, .int .i64 y, .int .i64 z] 66)) 29 rfl rfl rfl (by go_simp; try rfl) ⟨HSB.out _ hE3, ?_⟩
                clear y1
                simp only [Act.put, List.setIfInBounds_toArray, List.set_cons_zero, List.set_cons_succ]
                refine wpAnyH_all (rs := [7]) (by kernel_rfl) (by decide) (List.forall_mem_cons.2 ⟨?_, fun _ h => absurd h List.not_mem_nil⟩)
                have hkl : (L.take k).length = k := by rw [List.length_take]; omega
                have HO2 : w2.ownsRow (w.heap.size + 3) 66 3 v k (flat3 (L.take k)) := by have := HRE.out.below hE2; unfold ARow at this; rwa [hkl] at this
                have HLT : ∀ j, (v : Value).ownBlock = some j → w.heap.size + 3 ≤ j ∧ j < wr.heap.size := fun j hj => by have := World.ownsRow.lt HRE.out j hj; have := HLTR.out j hj; omega
                refine wpOp_wp rfl rfl ?_
                refine wp_append_lies _ _ _ _ rfl (w.heap.size + 3) 66 i0 _ 3 24 Try.underlying70 I0.out Z0.out Z1.out Z2.out rfl (by omega) v k _ rfl (HO2.alloc _) ⟨w2.heap.size, 0, none⟩ 1 1 [.int .i64 x, .int .i64 y, .int .i64 z] rfl rfl (World.news_of_block (cs := #[.int .i64 x, .int .i64 y, .int .i64 z]) (t := 66) (fr := (0, 0)) (by simpa using heap_alloc_new w2 _)) (by simp [Value.oneCell']) (by omega) (by unfold maxLen; omega) (by omega) (by simp; omega) (w2.heap.size + 1) (by simp) fun g cap w4 hown3 hgrow hat hlt3 => ?_
                have hb4 : Below w.heap.size w w4 := Below.grown (w := w2.alloc (.cells #[.int .i64 x, .int .i64 y, .int .i64 z] 66)) (hbE.trans (hE3.mono hbE.size)) hgrow (by simp; omega) (fun j hj => by have := HLT j hj; omega)
                have hz4 := hgrow.size
                simp only [World.size_alloc] at hz4
                have kc : ∀ b o, b < w.heap.size + 3 ∨ b = wr.heap.size → w4.cell? ⟨b, o, none⟩ = E.cell? ⟨b, o, none⟩ := fun b o hb => by
                  have h1 : w4.heap[b]? = (w2.alloc (.cells #[.int .i64 x, .int .i64 y, .int .i64 z] 66)).heap[b]? := hgrow.block b (by simp; omega) (fun e => by have := HLT b e.symm; omega)
                  rw [cell_of_heap h1]
                  exact (bcell hE3).1 _ _ (by omega)
                have kf : ∀ b o, b < w.heap.size + 3 → w4.frozen? ⟨b, o, none⟩ = E.frozen? ⟨b, o, none⟩ := fun b o hb => by
                  have h1 : w4.heap[b]? = (w2.alloc (.cells #[.int .i64 x, .int .i64 y, .int .i64 z] 66)).heap[b]? := hgrow.block b (by simp; omega) (fun e => by have := HLT b e.symm; omega)
                  rw [frozen_of_heap h1]
                  exact (bcell hE3).2 _ _ (by omega)
                have v0 := (kc _ 0 (.inl (show w.heap.size < _ by omega))).trans g0
                have v1 := (kc _ 0 (.inl (show w.heap.size + 1 < _ by omega))).trans g1
                have v2 := (kc _ 1 (.inl (show w.heap.size + 1 < _ by omega))).trans g2
                have v3 := (kc _ 0 (.inl (show w.heap.size + 1 + 1 < _ by omega))).trans g3
                have v4 := (kc _ 0 (.inr rfl)).trans g4
                have v5 := (kc _ 1 (.inr rfl)).trans g5
                have v6 := (kc _ 2 (.inr rfl)).trans g6
                have v7 := (kf _ 0 (show w.heap.size + 1 < _ by omega)).trans g7
                have v8 := (kf _ 1 (show w.heap.size + 1 < _ by omega)).trans g8
                have v9 := (kf _ 0 (show w.heap.size + 1 + 1 < _ by omega)).trans g9
                have OWN := Lib.hid hown3
                clear kc kf hown3 hgrow hat HO2 hE3
                refine ⟨⟨v0, v4, v5, v6⟩, ?_⟩
                simp only [Act.put, List.getElem_toArray, List.getElem_cons_succ, List.getElem_cons_zero, List.setIfInBounds_toArray, List.set_cons_zero, List.set_cons_succ]
                refine wpAnyH_all (rs := [8]) (by kernel_rfl) (by decide) (List.forall_mem_cons.2 ⟨?_, fun _ h => absurd h List.not_mem_nil⟩)
                refine wpOp_value (v := .pointer (some ⟨w.heap.size + 1, 1, none⟩)) (w' := w4) 36 rfl rfl rfl (by go_simp; try rfl) ⟨⟨v0, v4, v5, v6⟩, ?_⟩
                simp only [Act.put, List.setIfInBounds_toArray, List.set_cons_zero, List.set_cons_succ]
                refine wpAnyH_all (rs := [9]) (by kernel_rfl) (by decide) (List.forall_mem_cons.2 ⟨?_, fun _ h => absurd h List.not_mem_nil⟩)
                refine wpOp_store rfl rfl (w' := w4.setCell ⟨w.heap.size + 1, 1, none⟩ (.slice (some ⟨g, 0, none⟩) (k + 1) cap)) (by go_simp; try rfl) ⟨⟨?_, ?_, ?_, ?_⟩, ?_⟩
                · go_simp
                · go_simp
                · go_simp
                · go_simp
                refine wpAnyH_done (by kernel_rfl) ?_ _
                go_wp2
                go_roundw
                case rel =>
                  have hl4 : (L.take (k + 1)).length = k + 1 := by rw [List.length_take]; omega
                  refine ⟨k + 1, .slice (some ⟨g, 0, none⟩) (k + 1) cap, by omega, by go_num, HQ.out, ARow.set ?_ (by first | omega | (simp; done) | (simp; omega)) _, by go_simp, by go_simp, by go_simp, by go_simp, by go_simp, by go_simp, by go_simp, by first | omega | (simp; done) | (simp; omega), by (repeat' (first | (with_reducible exact Below.refl _ _) | (with_reducible assumption) | (with_reducible refine Below.alloc ?_ ?_ _) | (with_reducible refine Below.drew ?_) | (with_reducible refine below_drewN ?_ _) | (with_reducible refine Below.setCell ?_ ?_ _) | (with_reducible refine below_call ?_ ?_ (by assumption)) | go_size))⟩
                  unfold ARow
                  rw [hl4, HT.out, flat3_append]
                  exact OWN.out
                case measure => simp [intOf]; omega

        · obtain rfl : k = L.length := by omega
          have HQ := Lib.hid (HZ.out (by have := HA.out; rwa [List.take_length] at this))
          rw [List.take_length] at HR
          obtain ⟨a1, cc, rfl, -⟩ := HR.out.inn
          clear hcr hfr HA
          go_wp2
          refine leaves_cons (f := 103) (args := #[.pointer (some ⟨w.heap.size + 1, 0, none⟩), .pointer (some ⟨w.heap.size + 1 + 1, 0, none⟩)]) (by simp) (by simp [go_sem]) ?_
          refine (catch_idle _ _ _).mono ?_
          rintro e u' w'' ⟨rfl, rfl, rfl⟩

          simp [Leaves, settle, results, Try.results68, go_sem, c0, c1, c2, z0, z1, z2, p0, p1, p2]
          exact ⟨by (repeat' (first | (with_reducible exact Below.refl _ _) | (with_reducible assumption) | (with_reducible refine Below.alloc ?_ ?_ _) | (with_reducible refine Below.drew ?_) | (with_reducible refine below_drewN ?_ _) | (with_reducible refine Below.setCell ?_ ?_ _) | (with_reducible refine below_call ?_ ?_ (by assumption)) | go_size)), .inl ⟨HQ.out, _, rfl, (((HR.out.set (a := ⟨w.heap.size + 1, 0, none⟩) (by show w.heap.size + 1 < _; omega) _).set (a := ⟨w.heap.size + 1, 1, none⟩) (by show w.heap.size + 1 < _; omega) _).set (a := ⟨w.heap.size + 1 + 1, 0, none⟩) (by show w.heap.size + 1 + 1 < _; omega) _).below (by (repeat' (first | (with_reducible exact Below.refl _ _) | (with_reducible assumption) | (with_reducible refine Below.alloc ?_ ?_ _) | (with_reducible refine Below.drew ?_) | (with_reducible refine below_drewN ?_ _) | (with_reducible refine Below.setCell ?_ ?_ _) | (with_reducible refine below_call ?_ ?_ (by assumption)) | go_size))) |>.mono (by omega)⟩⟩
    · have hl' : (6 : Int) < (L.length : Int) := by omega
      have HM := Lib.hid (show okZ h L = false from by simp [okZ, hl])
      go_enter_defers Try.func68, Try.ntmps68
      go_wp2_with fail
      refine (zIsDial_is _ ga _).mono ?_
      (rintro e1 w1 ⟨rfl, rfl⟩)
      go_wp2
      refine leaves_cons (f := 103) (args := #[.pointer (some ⟨w.heap.size + 1, 0, none⟩), .pointer (some ⟨w.heap.size + 1 + 1, 0, none⟩)]) (by simp) (by simp [go_sem]) ?_
      refine (catch_idle _ _ _).mono ?_
      rintro e u' w'' ⟨rfl, rfl, rfl⟩

      simp [Leaves, settle, results, Try.results68, go_sem]
      exact ⟨by (repeat' (first | (with_reducible exact Below.refl _ _) | (with_reducible assumption) | (with_reducible refine Below.alloc ?_ ?_ _) | (with_reducible refine Below.drew ?_) | (with_reducible refine below_drewN ?_ _) | (with_reducible refine Below.setCell ?_ ?_ _) | (with_reducible refine below_call ?_ ?_ (by assumption)) | go_size)), .inr ⟨HM.out, rfl⟩⟩
end Go.Proofs.Ytcpgjjmamclklaa
