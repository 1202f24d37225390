/- What a text tells, by the program's way and by the model's: the same. -/
import Derived.Test.YtnokjdcgokfdhaaDoorPtM
set_option linter.unusedSimpArgs false
set_option linter.unusedVariables false
set_option maxRecDepth 100000
namespace Go.Proofs.YtnokjdcgokfdhaaDoor
open Go.RowKit

/-- A text split at each occurrence of a byte. -/
def splitL (x : UInt8) : List UInt8 → List (List UInt8)
  | [] => [[]]
  | c :: r => if c = x then [] :: splitL x r else ((c :: (splitL x r).headD []) :: (splitL x r).tail)
theorem splitL_ne (x : UInt8) (l : List UInt8) : 1 ≤ (splitL x l).length := by
  cases l with
  | nil => simp [splitL]
  | cons c r => unfold splitL; split <;> simp
theorem splitL_at {x : UInt8} {b : List UInt8} : ∀ {a : List UInt8}, ¬ x ∈ a → splitL x (a ++ x :: b) = a :: splitL x b
  | [], _ => by simp [splitL]
  | c :: a, h => by
    have h1 : ¬ c = x := fun e => h (by simp [e])
    have h2 : ¬ x ∈ a := fun e => h (by simp [e])
    rw [List.cons_append, splitL, if_neg h1, splitL_at h2]
    rfl
theorem splitL_no {x : UInt8} : ∀ {a : List UInt8}, ¬ x ∈ a → splitL x a = [a]
  | [], _ => by simp [splitL]
  | c :: a, h => by
    have h1 : ¬ c = x := fun e => h (by simp [e])
    have h2 : ¬ x ∈ a := fun e => h (by simp [e])
    rw [splitL, if_neg h1, splitL_no h2]
    rfl
theorem splitL_short (x : UInt8) : ∀ (l : List UInt8) (y : List UInt8), y ∈ splitL x l → y.length ≤ l.length
  | [], y, h => by
    have : y = [] := by simpa [splitL] using h
    subst this; simp
  | c :: r, y, h => by
    unfold splitL at h
    split at h
    · rcases List.mem_cons.1 h with rfl | h
      · simp
      · have := splitL_short x r y h
        simp; omega
    · have hne := splitL_ne x r
      have ih := splitL_short x r
      generalize splitL x r = R at *
      cases R with
      | nil => simp at hne
      | cons z zs =>
        simp only [List.headD_cons, List.tail_cons] at h
        rcases List.mem_cons.1 h with rfl | h
        · have := ih z (by simp)
          simp; omega
        · have := ih y (by simp [h])
          simp; omega
theorem splitL_two {x : UInt8} {l : List UInt8} (h : (splitL x l).length = 2) : ∃ a b, l = a ++ x :: b ∧ splitL x l = [a, b] := by
  by_cases hx : x ∈ l
  · obtain ⟨a, b, rfl, ha⟩ := List.eq_append_cons_of_mem hx
    rw [splitL_at ha] at h ⊢
    by_cases hb : x ∈ b
    · obtain ⟨a', b', rfl, ha'⟩ := List.eq_append_cons_of_mem hb
      rw [splitL_at ha'] at h
      have := splitL_ne x b'
      simp only [List.length_cons] at h
      omega
    · exact ⟨a, b, rfl, by rw [splitL_no hb]⟩
  · rw [splitL_no hx] at h
    simp at h

/-- The number of two digits at a place. -/
def numAt (s : List UInt8) (i : Nat) : Int := 10 * (((s.getD i 0).toNat : Int) - 48) + (((s.getD (i + 1) 0).toNat : Int) - 48)
def headOk (s : List UInt8) : Bool := isDig (s.getD 0 0) && isDig (s.getD 1 0) && decide (s.getD 2 0 = 58) && isDig (s.getD 3 0) && isDig (s.getD 4 0) && decide (s.getD 5 0 = 58) && isDig (s.getD 6 0) && isDig (s.getD 7 0)
def secAt (s : List UInt8) : Int := (numAt s 0 * 60 + numAt s 3) * 60 + numAt s 6
def fitB (h : Int) (s : List UInt8) : Bool := decide (numAt s 0 < h) && decide (numAt s 3 ≤ 59) && decide (numAt s 6 ≤ 59)
def partB (p q : Int) : Bool := decide (2 ≤ q) && inB p 1 (q - 1) && decide (gc p q = 1)
/-- The time with a text, by the model's way. -/
def modelT (h : Int) (s : List UInt8) : Int × Int × Bool :=
  if 8 ≤ s.length ∧ s.length ≤ 22 ∧ headOk s = true ∧ fitB h s = true then
    if 8 < s.length then
      if s.getD 8 0 = 43 ∧ (splitL 47 (s.drop 9)).length = 2 ∧ partB (readN ((splitL 47 (s.drop 9)).getD 0 [])) (readN ((splitL 47 (s.drop 9)).getD 1 [])) = true then
        mk (secAt s * readN ((splitL 47 (s.drop 9)).getD 1 []) + readN ((splitL 47 (s.drop 9)).getD 0 [])) (h * 3600 * readN ((splitL 47 (s.drop 9)).getD 1 []))
      else fail3
    else mk (secAt s * 1 + 0) (h * 3600 * 1)
  else fail3
def specT (h : Int) (s : List UInt8) : Int × Int × Bool := if inB h 2 24 then modelT h s else fail3

def secL (s : List UInt8) : Int × Bool :=
  if s.length = 8 then
    match Lib.atoiAll (s.take 2), Lib.atoiAll ((s.drop 3).take 2), Lib.atoiAll (s.drop 6) with
    | .ok a, .ok b, .ok c => (a * 3600 + b * 60 + c, true)
    | _, _, _ => fail2
  else fail2
def partL (s : List UInt8) : Int × Int × Bool :=
  if s = [] then (0, 1, true) else
    match Lib.atoiAll (Lib.cut s [47]).1, Lib.atoiAll (Lib.cut s [47]).2.1 with
    | .ok p, .ok q => if goodB p q then (p, q, true) else fail3
    | _, _ => fail3
def bothT (h : Int) (s : List UInt8) (a : Int × Bool) (b : Int × Int × Bool) : Int × Int × Bool :=
  if inB h 2 24 = true ∧ a.2 = true ∧ b.2.2 = true then
    if (mk (a.1 * b.2.1 + b.1) (h * 3600 * b.2.1)).2.2 = true ∧ timeL (mk (a.1 * b.2.1 + b.1) (h * 3600 * b.2.1)).1 (mk (a.1 * b.2.1 + b.1) (h * 3600 * b.2.1)).2.1 h = s then mk (a.1 * b.2.1 + b.1) (h * 3600 * b.2.1) else fail3
  else fail3
/-- The time with a text, by the program's way. -/
def implT (h : Int) (s : List UInt8) : Int × Int × Bool := bothT h s (secL (Lib.cut s [43]).1) (partL (Lib.cut s [43]).2.1)

theorem mk_good {m D n d : Int} (hD : 1 ≤ D) (h : mk m D = (n, d, true)) : n = lowNum m D ∧ d = lowDen m D ∧ goodB n d = true := by
  unfold mk at h
  split at h
  · rename_i hl
    obtain ⟨rfl, h2⟩ := Prod.mk.inj h
    obtain ⟨rfl, -⟩ := Prod.mk.inj h2
    obtain ⟨b1, b2, b3⟩ := low_bd m D hD
    exact ⟨rfl, rfl, (goodB_iff _ _).2 ⟨b2, hl, b1, low_lt m D hD, gc_low m D hD⟩⟩
  · cases h
theorem mk_or (m D : Int) : mk m D = fail3 ∨ ∃ n d, mk m D = (n, d, true) := by
  unfold mk
  split
  · exact .inr ⟨_, _, rfl⟩
  · exact .inl rfl
theorem eight {s : List UInt8} (h : 8 ≤ s.length) : ∃ a b c d e f g i r, s = a :: b :: c :: d :: e :: f :: g :: i :: r := by
  match s, h with
  | a :: b :: c :: d :: e :: f :: g :: i :: r, _ => exact ⟨a, b, c, d, e, f, g, i, r, rfl⟩
theorem digs {a b : UInt8} (ha : isDig a = true) (hb : isDig b = true) {n : Int} (hn : n = 10 * ((a.toNat : Int) - 48) + ((b.toNat : Int) - 48)) : d1 n = a ∧ d2 n = b := by
  have h1 := (isDig_iff a).1 ha
  have h2 := (isDig_iff b).1 hb
  unfold d1 d2
  rw [show (48 + n / 10).toNat = a.toNat by omega, show (48 + n % 10).toNat = b.toNat by omega, UInt8.ofNat_toNat, UInt8.ofNat_toNat]
  exact ⟨rfl, rfl⟩
theorem d1_nat {n : Int} (h0 : 0 ≤ n) (h : n < 100) : ((d1 n).toNat : Int) = 48 + n / 10 ∧ ((d2 n).toNat : Int) = 48 + n % 10 := by
  unfold d1 d2
  rw [byte_of _ (by omega), byte_of _ (by omega)]
  omega
theorem d1_dig {n : Int} (h0 : 0 ≤ n) (h : n < 100) : isDig (d1 n) = true ∧ isDig (d2 n) = true := by
  obtain ⟨e1, e2⟩ := d1_nat h0 h
  exact ⟨(isDig_iff _).2 (by omega), (isDig_iff _).2 (by omega)⟩

/-- A time that the model reads has the text. -/
theorem model_sound {h n d : Int} {s : List UInt8} (hh : inB h 2 24 = true) (hm : modelT h s = (n, d, true)) : askB h n d = true ∧ timeL n d h = s := by
  have hb := inB_bd hh
  unfold modelT at hm
  split at hm
  · rename_i hc
    obtain ⟨hl, hl2, hk, hf⟩ := hc
    obtain ⟨b0, b1, b2, b3, b4, b5, b6, b7, r, rfl⟩ := eight hl
    simp only [headOk, List.getD_cons_zero, List.getD_cons_succ, Bool.and_eq_true, decide_eq_true_eq] at hk
    obtain ⟨⟨⟨⟨⟨⟨⟨k0, k1⟩, rfl⟩, k3⟩, k4⟩, rfl⟩, k6⟩, k7⟩ := hk
    simp only [fitB, Bool.and_eq_true, decide_eq_true_eq] at hf
    obtain ⟨⟨f0, f1⟩, f2⟩ := hf
    have e0 : numAt (b0 :: b1 :: 58 :: b3 :: b4 :: 58 :: b6 :: b7 :: r) 0 = 10 * ((b0.toNat : Int) - 48) + ((b1.toNat : Int) - 48) := rfl
    have e3 : numAt (b0 :: b1 :: 58 :: b3 :: b4 :: 58 :: b6 :: b7 :: r) 3 = 10 * ((b3.toNat : Int) - 48) + ((b4.toNat : Int) - 48) := rfl
    have e6 : numAt (b0 :: b1 :: 58 :: b3 :: b4 :: 58 :: b6 :: b7 :: r) 6 = 10 * ((b6.toNat : Int) - 48) + ((b7.toNat : Int) - 48) := rfl
    have g0 := (isDig_iff _).1 k0
    have g1 := (isDig_iff _).1 k1
    have g3 := (isDig_iff _).1 k3
    have g4 := (isDig_iff _).1 k4
    have g6 := (isDig_iff _).1 k6
    have g7 := (isDig_iff _).1 k7
    have core : ∀ p q : Int, 0 ≤ p → p < q → gc p q = 1 → mk (secAt (b0 :: b1 :: 58 :: b3 :: b4 :: 58 :: b6 :: b7 :: r) * q + p) (h * 3600 * q) = (n, d, true) → fracL p q = r → askB h n d = true ∧ timeL n d h = b0 :: b1 :: 58 :: b3 :: b4 :: 58 :: b6 :: b7 :: r := by
      intro p q p0 p1 hc hm hr
      have hD : 1 ≤ h * 3600 * q := Int.mul_pos (by omega) (by omega)
      obtain ⟨en, ed, hg⟩ := mk_good hD hm
      have hsec : secAt (b0 :: b1 :: 58 :: b3 :: b4 :: 58 :: b6 :: b7 :: r) = (numAt (b0 :: b1 :: 58 :: b3 :: b4 :: 58 :: b6 :: b7 :: r) 0 * 60 + numAt (b0 :: b1 :: 58 :: b3 :: b4 :: 58 :: b6 :: b7 :: r) 3) * 60 + numAt (b0 :: b1 :: 58 :: b3 :: b4 :: 58 :: b6 :: b7 :: r) 6 := rfl
      generalize secAt (b0 :: b1 :: 58 :: b3 :: b4 :: 58 :: b6 :: b7 :: r) = sec at *
      have ta := take_apart (s := sec) (p := p) (q := q) (h := h) hb.1 (by omega) (by omega) p0 p1 hc
      simp only at ta
      rw [← en, ← ed] at ta
      obtain ⟨t1, t2, t3⟩ := ta
      have hd : 1 ≤ d := ((goodB_iff _ _).1 hg).1
      obtain ⟨x1, x2, x3⟩ := hms_sec n d h hd
      rw [t1] at x1 x2 x3
      obtain ⟨u0, u1⟩ := digs (n := hourN n d h) k0 k1 (by omega)
      obtain ⟨u3, u4⟩ := digs (n := minuteN n d h) k3 k4 (by omega)
      obtain ⟨u6, u7⟩ := digs (n := secondN n d h) k6 k7 (by omega)
      refine ⟨by simp [askB, hh, hg], ?_⟩
      have : fracL (lowNum (n * (h * 3600)) d) (lowDen (n * (h * 3600)) d) = r := by
        unfold parN at t2; unfold parD at t3
        rw [t2, t3, hr]
      unfold timeL hmsL
      rw [this, u0, u1, u3, u4, u6, u7]
      rfl
    split at hm
    · rename_i h8
      split at hm
      · rename_i hc
        obtain ⟨h43, h2, hp⟩ := hc
        match r, h8 with
        | c :: r, _ =>
          have h43' : c = 43 := h43
          subst h43'
          have hdr : List.drop 9 (b0 :: b1 :: 58 :: b3 :: b4 :: 58 :: b6 :: b7 :: 43 :: r) = r := rfl
          rw [hdr] at h2 hp hm
          obtain ⟨x, y, rfl, hxy⟩ := splitL_two h2
          rw [hxy] at hp hm
          simp only [List.getD_cons_zero, List.getD_cons_succ] at hp hm
          simp only [partB, Bool.and_eq_true, decide_eq_true_eq] at hp
          obtain ⟨⟨q2, pb⟩, hc⟩ := hp
          have pb := inB_bd pb
          have cx : canonB x = true := by
            cases hx : canonB x
            · rw [readN, if_neg (by rw [hx]; simp)] at pb; omega
            · rfl
          have cy : canonB y = true := by
            cases hy : canonB y
            · rw [readN, if_neg (by rw [hy]; simp)] at q2; omega
            · rfl
          refine core _ _ (by omega) (by omega) hc hm ?_
          unfold fracL
          rw [if_pos (by omega), (dec_read cx).1, (dec_read cy).1]
          simp
      · cases hm
    · rename_i h8
      have hr : r = [] := by
        cases r with
        | nil => rfl
        | cons c r => simp at h8
      subst hr
      exact core 0 1 (by omega) (by omega) (by decide) hm rfl
  · cases hm

theorem hms_len (n d h : Int) : (hmsL n d h).length = 8 := rfl
theorem frac_no (q : Int) : fracL 0 q = [] := rfl
theorem frac_yes {p q : Int} (h : 0 < p) : fracL p q = 43 :: (dec p ++ 47 :: dec q) := by
  unfold fracL
  rw [if_pos h]
  simp
theorem d47 : isDig 47 = false := by decide
theorem d43 : isDig 43 = false := by decide
theorem mk_put {n d h : Int} (hb : askB h n d = true) : mk (secN n d h * parD n d h + parN n d h) (h * 3600 * parD n d h) = (n, d, true) := by
  obtain ⟨e1, e2⟩ := put_back hb
  have h1 := askB_bd hb
  unfold mk
  rw [e1, e2, if_pos (by omega)]
/-- The model reads a time from its text. -/
theorem model_complete {h n d : Int} (hb : askB h n d = true) : modelT h (timeL n d h) = (n, d, true) := by
  have H := hms_bd hb
  have h1 := askB_bd hb
  have hs := sec_bd hb
  obtain ⟨p0, p1, p2, p3⟩ := par_bd hb
  obtain ⟨x1, x2, x3⟩ := hms_sec n d h h1.2.1
  have hsm := sec_of_hms n d h h1.2.1
  have hmk := mk_put hb
  have E : timeL n d h = d1 (hourN n d h) :: d2 (hourN n d h) :: 58 :: d1 (minuteN n d h) :: d2 (minuteN n d h) :: 58 :: d1 (secondN n d h) :: d2 (secondN n d h) :: fracL (parN n d h) (parD n d h) := rfl
  obtain ⟨⟨u0, u1⟩, ⟨v0, v1⟩, w0, w1⟩ := H
  obtain ⟨a1, a2⟩ := d1_nat u0 u1
  obtain ⟨a3, a4⟩ := d1_nat v0 v1
  obtain ⟨a5, a6⟩ := d1_nat w0 w1
  obtain ⟨g1, g2⟩ := d1_dig u0 u1
  obtain ⟨g3, g4⟩ := d1_dig v0 v1
  obtain ⟨g5, g6⟩ := d1_dig w0 w1
  have n0 : numAt (timeL n d h) 0 = hourN n d h := by
    rw [E]
    show 10 * (((d1 (hourN n d h)).toNat : Int) - 48) + (((d2 (hourN n d h)).toNat : Int) - 48) = _
    omega
  have n3 : numAt (timeL n d h) 3 = minuteN n d h := by
    rw [E]
    show 10 * (((d1 (minuteN n d h)).toNat : Int) - 48) + (((d2 (minuteN n d h)).toNat : Int) - 48) = _
    omega
  have n6 : numAt (timeL n d h) 6 = secondN n d h := by
    rw [E]
    show 10 * (((d1 (secondN n d h)).toNat : Int) - 48) + (((d2 (secondN n d h)).toNat : Int) - 48) = _
    omega
  have hk : headOk (timeL n d h) = true := by
    rw [E]
    simp [headOk, g1, g2, g3, g4, g5, g6]
  have hf : fitB h (timeL n d h) = true := by
    unfold fitB
    rw [n0, n3, n6]
    simp only [Bool.and_eq_true, decide_eq_true_eq]
    omega
  have hsec : secAt (timeL n d h) = secN n d h := by
    unfold secAt
    rw [n0, n3, n6]
    omega
  have hdrop : (timeL n d h).drop 9 = (fracL (parN n d h) (parD n d h)).drop 1 := rfl
  have h8 : (timeL n d h).getD 8 0 = (fracL (parN n d h) (parD n d h)).getD 0 0 := rfl
  have hlen : (timeL n d h).length = 8 + (fracL (parN n d h) (parD n d h)).length := by
    rw [E]
    simp only [List.length_cons]
    omega
  unfold modelT
  rw [hsec, hdrop, h8, hlen]
  generalize parN n d h = p at *
  generalize parD n d h = q at *
  by_cases hp : 0 < p
  · have l1 := dec_six p0 (by omega)
    have l2 := dec_six (n := q) (by omega) p2
    have l3 := dec_ne p0
    have l4 := dec_ne (n := q) (by omega)
    have hl : (fracL p q).length = 2 + (dec p).length + (dec q).length := by rw [frac_yes hp]; simp; omega
    rw [if_pos ⟨by omega, by omega, hk, hf⟩, if_pos (by omega), frac_yes hp]
    have hsp : splitL 47 ((43 :: (dec p ++ 47 :: dec q)).drop 1) = [dec p, dec q] := by
      show splitL 47 (dec p ++ 47 :: dec q) = _
      rw [splitL_at (not_dig (dec_all p0) d47), splitL_no (not_dig (dec_all (by omega)) d47)]
    rw [hsp]
    simp only [List.getD_cons_zero, List.getD_cons_succ]
    rw [read_dec p0 (by omega), read_dec (n := q) (by omega) p2, if_pos ⟨by simp, by simp, by simp [partB, inB, p3]; omega⟩]
    exact hmk
  · obtain rfl : p = 0 := by omega
    have hq : q = 1 := by
      unfold gc at p3
      rw [Int.gcd_zero_left] at p3
      omega
    subst hq
    rw [frac_no, if_pos ⟨by simp, by simp, hk, hf⟩, if_neg (by simp)]
    exact hmk

/-- The program's way gives a time with the text or none. -/
theorem both_sound {h n d : Int} {s : List UInt8} {a : Int × Bool} {b : Int × Int × Bool} (hq : b.2.2 = true → 1 ≤ b.2.1) (hm : bothT h s a b = (n, d, true)) : askB h n d = true ∧ timeL n d h = s := by
  unfold bothT at hm
  split at hm
  · rename_i hc
    have hb := inB_bd hc.1
    have := hq hc.2.2
    split at hm
    · rename_i ht
      obtain ⟨-, -, hg⟩ := mk_good (Int.mul_pos (by omega) (by omega)) hm
      rw [hm] at ht
      exact ⟨by simp [askB, hc.1, hg], ht.2⟩
    · cases hm
  · cases hm
theorem partL_pos (s : List UInt8) (h : (partL s).2.2 = true) : 1 ≤ (partL s).2.1 := by
  unfold partL at h ⊢
  split
  · decide
  · rename_i hs
    rw [if_neg hs] at h
    split at h
    · rename_i p q e1 e2
      split at h
      · rename_i hg
        rw [if_pos hg]
        exact ((goodB_iff _ _).1 hg).1
      · cases h
    · cases h
theorem impl_sound {h n d : Int} {s : List UInt8} (hm : implT h s = (n, d, true)) : askB h n d = true ∧ timeL n d h = s :=
  both_sound (partL_pos _) hm
theorem impl_complete {h n d : Int} (hb : askB h n d = true) : implT h (timeL n d h) = (n, d, true) := by
  have H := hms_bd hb
  have h1 := askB_bd hb
  obtain ⟨p0, p1, p2, p3⟩ := par_bd hb
  have hsm := sec_of_hms n d h h1.2.1
  have hmk := mk_put hb
  have E : timeL n d h = hmsL n d h ++ fracL (parN n d h) (parD n d h) := rfl
  obtain ⟨⟨u0, u1⟩, ⟨v0, v1⟩, w0, w1⟩ := H
  have at2 : ∀ m : Int, 0 ≤ m → m < 100 → Lib.atoiAll [d1 m, d2 m] = .ok m := fun m m0 m1 => by
    obtain ⟨a1, a2⟩ := d1_nat m0 m1
    obtain ⟨g1, g2⟩ := d1_dig m0 m1
    have hv : valF 0 [d1 m, d2 m] = m := by
      show 10 * (10 * 0 + (((d1 m).toNat : Int) - 48)) + (((d2 m).toNat : Int) - 48) = m
      omega
    rw [atoi_digits (by simp [g1, g2]) (by simp) (by rw [hv]; omega), hv]
  have hsec : secL (hmsL n d h) = (secN n d h, true) := by
    unfold secL
    rw [if_pos (hms_len n d h)]
    have t1 : (hmsL n d h).take 2 = [d1 (hourN n d h), d2 (hourN n d h)] := rfl
    have t2 : ((hmsL n d h).drop 3).take 2 = [d1 (minuteN n d h), d2 (minuteN n d h)] := rfl
    have t3 : (hmsL n d h).drop 6 = [d1 (secondN n d h), d2 (secondN n d h)] := rfl
    rw [t1, t2, t3, at2 _ u0 u1, at2 _ v0 v1, at2 _ w0 w1]
    simp only [hsm]
  have hno : ¬ (43 : UInt8) ∈ hmsL n d h := by
    obtain ⟨g1, g2⟩ := d1_dig u0 u1
    obtain ⟨g3, g4⟩ := d1_dig v0 v1
    obtain ⟨g5, g6⟩ := d1_dig w0 w1
    have hne : ∀ x : UInt8, isDig x = true → ¬ (43 : UInt8) = x := fun x hx e => by rw [← e] at hx; cases hx
    unfold hmsL
    simp only [List.mem_cons, List.not_mem_nil, or_false, not_or]
    exact ⟨hne _ g1, hne _ g2, by decide, hne _ g3, hne _ g4, by decide, hne _ g5, hne _ g6⟩
  have fin : ∀ P : Int × Int × Bool, P = (parN n d h, parD n d h, true) → bothT h (timeL n d h) (secN n d h, true) P = (n, d, true) := by
    rintro P rfl
    unfold bothT
    rw [if_pos ⟨by simp only [askB, Bool.and_eq_true] at hb; exact hb.1, rfl, rfl⟩]
    simp only
    rw [hmk, if_pos ⟨rfl, rfl⟩]
  unfold implT
  by_cases hp : 0 < parN n d h
  · have hc : Lib.cut (timeL n d h) [43] = (hmsL n d h, dec (parN n d h) ++ 47 :: dec (parD n d h), true) := by
      rw [E, frac_yes hp]
      exact cut_at hno
    rw [hc]
    simp only
    rw [hsec]
    refine fin _ ?_
    unfold partL
    rw [if_neg (by simp), cut_at (not_dig (dec_all p0) d47)]
    simp only
    rw [atoi_dec p0 (by omega), atoi_dec (n := parD n d h) (by omega) (by omega)]
    simp only
    rw [if_pos ((goodB_iff _ _).2 ⟨by omega, by omega, p0, by omega, p3⟩)]
  · have hz : parN n d h = 0 := by omega
    have hq : parD n d h = 1 := by
      rw [hz] at p3
      unfold gc at p3
      rw [Int.gcd_zero_left] at p3
      omega
    have hc : Lib.cut (timeL n d h) [43] = (hmsL n d h, [], false) := by
      rw [E, hz, frac_no, List.append_nil]
      exact cut_no hno
    rw [hc]
    simp only
    rw [hsec]
    refine fin _ ?_
    rw [hz, hq]
    rfl
theorem model_or (h : Int) (s : List UInt8) : modelT h s = fail3 ∨ ∃ n d, modelT h s = (n, d, true) := by
  unfold modelT
  split
  · split
    · split
      · exact mk_or _ _
      · exact .inl rfl
    · exact mk_or _ _
  · exact .inl rfl
theorem both_or (h : Int) (s : List UInt8) (a : Int × Bool) (b : Int × Int × Bool) : bothT h s a b = fail3 ∨ ∃ n d, bothT h s a b = (n, d, true) := by
  unfold bothT
  split
  · split
    · exact mk_or _ _
    · exact .inl rfl
  · exact .inl rfl
/-- The two ways are one. -/
theorem impl_model (h : Int) (s : List UInt8) : implT h s = specT h s := by
  unfold specT
  rcases both_or h s (secL (Lib.cut s [43]).1) (partL (Lib.cut s [43]).2.1) with hi | ⟨n, d, hi⟩
  · split
    · rename_i hh
      rcases model_or h s with hm | ⟨n, d, hm⟩
      · rw [hm]; exact hi
      · obtain ⟨ha, hs⟩ := model_sound hh hm
        have := impl_complete ha
        rw [hs] at this
        rw [hm]; exact this
    · exact hi
  · obtain ⟨ha, hs⟩ := impl_sound (show implT h s = (n, d, true) from hi)
    rw [if_pos (by simp only [askB, Bool.and_eq_true] at ha; exact ha.1)]
    have := model_complete ha
    rw [hs] at this
    rw [this]; exact hi
end Go.Proofs.YtnokjdcgokfdhaaDoor
