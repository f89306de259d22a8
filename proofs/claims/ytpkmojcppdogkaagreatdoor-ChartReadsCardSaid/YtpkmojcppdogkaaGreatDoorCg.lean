/- Maps of pressure: what is as defined, distances, bounds, and fields, as mathematics. -/
import Derived.Test.YtpkmojcppdogkaaGreatDoorCe
set_option linter.unusedVariables false
set_option linter.unusedSimpArgs false
namespace Go.Proofs.YtpkmojcppdogkaaGreatDoor
open Go.RowKit
/-- The numbers of a map. -/
structure Mp where
  wd : Int
  rw : Int
  sl : Int
@[reducible] def mpV (m : Mp) (S : Value) : Value := .agg #[.int .i64 m.wd, .int .i64 m.rw, .int .i64 m.sl, S]
@[reducible] def mpBox (m : Mp) (S : Value) : Obj := .cells #[.int .i64 m.wd, .int .i64 m.rw, .int .i64 m.sl, S] 24
def betw (n lo hi : Int) : Bool := decide (lo ≤ n) && decide (n ≤ hi)
theorem betw_iff {n lo hi : Int} : betw n lo hi = true ↔ lo ≤ n ∧ n ≤ hi := by simp [betw]
theorem betw_not {n lo hi : Int} : betw n lo hi = false ↔ ¬ (lo ≤ n ∧ n ≤ hi) := by rw [← Bool.not_eq_true, betw_iff]
theorem betw_1 {n lo hi : Int} (h1 : lo ≤ n) (h2 : n ≤ hi) : betw n lo hi = true := betw_iff.2 ⟨h1, h2⟩
theorem betw_2 {n lo hi : Int} (h1 : ¬ lo ≤ n) : betw n lo hi = false := betw_not.2 (by omega)
theorem betw_3 {n lo hi : Int} (h1 : ¬ n ≤ hi) : betw n lo hi = false := betw_not.2 (by omega)
def staB (m : Mp) (x : Sta) : Bool := betw x.pt 0 (m.wd * m.rw - 1) && decide (x.lo ≤ x.hi) && betw x.lo 0 99999 && betw x.hi 0 99999
def sizeB (m : Mp) : Bool := betw m.wd 1 6 && betw m.rw 1 5
def mapB (m : Mp) (cs : List Sta) : Bool := sizeB m && betw m.sl 0 5000 && decide (cs.length ≤ 12) && cs.all (staB m)
/-- Numbers of a map that are as defined. -/
structure Mp.Ok (m : Mp) : Prop where
  w1 : 1 ≤ m.wd
  w2 : m.wd ≤ 6
  r1 : 1 ≤ m.rw
  r2 : m.rw ≤ 5
  s0 : 0 ≤ m.sl
  s1 : m.sl ≤ 5000
  a1 : 1 ≤ m.wd * m.rw
  a2 : m.wd * m.rw ≤ 30
/-- A station that is as defined. -/
structure Sta.Ok (m : Mp) (x : Sta) : Prop where
  p0 : 0 ≤ x.pt
  p1 : x.pt ≤ m.wd * m.rw - 1
  l0 : 0 ≤ x.lo
  lh : x.lo ≤ x.hi
  h1 : x.hi ≤ 99999
structure Sane (m : Mp) (cs : List Sta) : Prop where
  ok : m.Ok
  len : cs.length ≤ 12
  all : ∀ x ∈ cs, x.Ok m
theorem area {a b : Int} (h1 : 1 ≤ a) (h2 : a ≤ 6) (h3 : 1 ≤ b) (h4 : b ≤ 5) : 1 ≤ a * b ∧ a * b ≤ 30 := by
  obtain rfl | rfl | rfl | rfl | rfl : b = 1 ∨ b = 2 ∨ b = 3 ∨ b = 4 ∨ b = 5 := by omega
  all_goals omega
theorem staB_iff {m : Mp} {x : Sta} : staB m x = true ↔ x.Ok m := by
  simp only [staB, Bool.and_eq_true, betw_iff, decide_eq_true_eq]
  constructor
  · rintro ⟨⟨⟨⟨a, b⟩, c⟩, d, e⟩, f, g⟩; exact ⟨a, b, d, c, g⟩
  · rintro ⟨a, b, c, d, e⟩; exact ⟨⟨⟨⟨a, b⟩, d⟩, c, by omega⟩, by omega, e⟩
theorem mapB_iff {m : Mp} {cs : List Sta} : mapB m cs = true ↔ Sane m cs := by
  simp only [mapB, sizeB, Bool.and_eq_true, betw_iff, decide_eq_true_eq, List.all_eq_true, staB_iff]
  constructor
  · rintro ⟨⟨⟨⟨⟨a, b⟩, c, d⟩, e, f⟩, g⟩, h⟩
    have := area a b c d
    exact ⟨⟨a, b, c, d, e, f, this.1, this.2⟩, g, h⟩
  · rintro ⟨⟨a, b, c, d, e, f, _, _⟩, g, h⟩; exact ⟨⟨⟨⟨⟨a, b⟩, c, d⟩, e, f⟩, g⟩, h⟩
theorem Sta.Ok.good {m : Mp} {x : Sta} (h : x.Ok m) (hm : m.Ok) : x.Good := ⟨h.p0, by have := h.p1; have := hm.a2; omega, by have := h.l0; omega, by have := h.lh; have := h.h1; omega, by have := h.l0; have := h.lh; omega, by have := h.h1; omega⟩
theorem Sane.good {m : Mp} {cs : List Sta} (h : Sane m cs) : ∀ x ∈ cs, x.Good := fun x hx => (h.all x hx).good h.ok

/- Distances. -/
theorem dist_comm (wd a b : Int) : distI wd a b = distI wd b a := by unfold distI rowsI colsI farI; omega
theorem dist_self (wd a : Int) : distI wd a a = 0 := by unfold distI rowsI colsI farI; omega
theorem dist_nonneg (wd a b : Int) : 0 ≤ distI wd a b := by unfold distI rowsI colsI farI; omega
theorem dist_tri (wd a b c : Int) : distI wd a c ≤ distI wd a b + distI wd b c := by
  unfold distI rowsI colsI farI
  generalize a / wd = a1; generalize b / wd = b1; generalize c / wd = c1
  generalize a % wd = a2; generalize b % wd = b2; generalize c % wd = c2
  omega
theorem sl_tri {sl wd a b c : Int} (h : 0 ≤ sl) : sl * distI wd a c ≤ sl * distI wd a b + sl * distI wd b c := by
  rw [← Int.mul_add]; exact Int.mul_le_mul_of_nonneg_left (dist_tri wd a b c) h
theorem sl_nonneg {sl wd a b : Int} (h : 0 ≤ sl) : 0 ≤ sl * distI wd a b := Int.mul_nonneg h (dist_nonneg _ _ _)

/- The least and the greatest value of a point. -/
theorem foldl_max_ge (f : Sta → Int) : ∀ (cs : List Sta) (z : Int), z ≤ cs.foldl (fun m x => max m (f x)) z ∧ ∀ x ∈ cs, f x ≤ cs.foldl (fun m x => max m (f x)) z
  | [], z => ⟨Int.le_refl _, by simp⟩
  | y :: r, z => by
    obtain ⟨h1, h2⟩ := foldl_max_ge f r (max z (f y))
    simp only [List.foldl_cons]
    refine ⟨by omega, fun x hx => ?_⟩
    rcases List.mem_cons.1 hx with rfl | hx
    · omega
    · exact h2 x hx
theorem foldl_max_le (f : Sta → Int) {B : Int} : ∀ (cs : List Sta) (z : Int), z ≤ B → (∀ x ∈ cs, f x ≤ B) → cs.foldl (fun m x => max m (f x)) z ≤ B
  | [], z, h, _ => h
  | y :: r, z, h, ha => by
    have := ha y (List.mem_cons_self ..)
    exact foldl_max_le f r (max z (f y)) (by omega) (fun x hx => ha x (List.mem_cons_of_mem _ hx))
theorem foldl_min_le (f : Sta → Int) : ∀ (cs : List Sta) (z : Int), cs.foldl (fun m x => min m (f x)) z ≤ z ∧ ∀ x ∈ cs, cs.foldl (fun m x => min m (f x)) z ≤ f x
  | [], z => ⟨Int.le_refl _, by simp⟩
  | y :: r, z => by
    obtain ⟨h1, h2⟩ := foldl_min_le f r (min z (f y))
    simp only [List.foldl_cons]
    refine ⟨by omega, fun x hx => ?_⟩
    rcases List.mem_cons.1 hx with rfl | hx
    · omega
    · exact h2 x hx
theorem foldl_min_ge (f : Sta → Int) {B : Int} : ∀ (cs : List Sta) (z : Int), B ≤ z → (∀ x ∈ cs, B ≤ f x) → B ≤ cs.foldl (fun m x => min m (f x)) z
  | [], z, h, _ => h
  | y :: r, z, h, ha => by
    have := ha y (List.mem_cons_self ..)
    exact foldl_min_ge f r (min z (f y)) (by omega) (fun x hx => ha x (List.mem_cons_of_mem _ hx))
section
variable {wd sl p : Int} {cs : List Sta}
theorem low_ge0 : 0 ≤ lowestF wd sl p cs := (foldl_max_ge _ cs 0).1
theorem low_ge {x : Sta} (h : x ∈ cs) : x.lo - sl * distI wd p x.pt ≤ lowestF wd sl p cs := (foldl_max_ge (fun x => x.lo - sl * distI wd p x.pt) cs 0).2 x h
theorem low_le {B : Int} (h0 : 0 ≤ B) (h : ∀ x ∈ cs, x.lo - sl * distI wd p x.pt ≤ B) : lowestF wd sl p cs ≤ B := foldl_max_le (fun x => x.lo - sl * distI wd p x.pt) cs 0 h0 h
theorem high_le1 : highestF wd sl p cs ≤ 99999 := (foldl_min_le _ cs 99999).1
theorem high_le {x : Sta} (h : x ∈ cs) : highestF wd sl p cs ≤ x.hi + sl * distI wd p x.pt := (foldl_min_le (fun x => x.hi + sl * distI wd p x.pt) cs 99999).2 x h
theorem high_ge {B : Int} (h0 : B ≤ 99999) (h : ∀ x ∈ cs, B ≤ x.hi + sl * distI wd p x.pt) : B ≤ highestF wd sl p cs := foldl_min_ge (fun x => x.hi + sl * distI wd p x.pt) cs 99999 h0 h
end
theorem low_lip {wd sl p q : Int} {cs : List Sta} (hs : 0 ≤ sl) : lowestF wd sl p cs ≤ lowestF wd sl q cs + sl * distI wd p q := by
  have h0 := low_ge0 (wd := wd) (sl := sl) (p := q) (cs := cs)
  have h1 := sl_nonneg (wd := wd) (a := p) (b := q) hs
  refine low_le (by omega) fun x hx => ?_
  have h2 := low_ge (wd := wd) (sl := sl) (p := q) hx
  have h3 := sl_tri (wd := wd) (a := q) (b := p) (c := x.pt) hs
  rw [dist_comm wd q p] at h3
  omega
theorem high_lip {wd sl p q : Int} {cs : List Sta} (hs : 0 ≤ sl) : highestF wd sl p cs ≤ highestF wd sl q cs + sl * distI wd p q := by
  have h0 := high_le1 (wd := wd) (sl := sl) (p := p) (cs := cs)
  have h1 := sl_nonneg (wd := wd) (a := p) (b := q) hs
  suffices h : highestF wd sl p cs - sl * distI wd p q ≤ highestF wd sl q cs by omega
  refine high_ge (by omega) fun x hx => ?_
  have h2 := high_le (wd := wd) (sl := sl) (p := p) hx
  have h3 := sl_tri (wd := wd) (a := p) (b := q) (c := x.pt) hs
  omega
/- Stations that contradict each other. -/
def contB (m : Mp) (x y : Sta) : Bool := decide (m.sl * distI m.wd x.pt y.pt < max (x.lo - y.hi) (y.lo - x.hi))
def Contra (m : Mp) (cs : List Sta) (i j : Nat) : Prop := ∃ a b, cs[i]? = some a ∧ cs[j]? = some b ∧ contB m a b = true
def Agreed (m : Mp) (cs : List Sta) : Prop := ∀ i j, i < j → ¬ Contra m cs i j
def First (m : Mp) (cs : List Sta) (i j : Nat) : Prop := i < j ∧ Contra m cs i j ∧ ∀ i' j', i' < j' → Contra m cs i' j' → i < i' ∨ (i = i' ∧ j ≤ j')
theorem contra_lt {m : Mp} {cs : List Sta} {i j : Nat} (h : Contra m cs i j) : i < cs.length ∧ j < cs.length := by
  obtain ⟨a, b, ha, hb, _⟩ := h
  exact ⟨(List.getElem?_eq_some_iff.1 ha).1, (List.getElem?_eq_some_iff.1 hb).1⟩
theorem First.not {m : Mp} {cs : List Sta} {i j : Nat} (h : First m cs i j) : ¬ Agreed m cs := fun ha => ha i j h.1 h.2.1
theorem First.uniq {m : Mp} {cs : List Sta} {i j i' j' : Nat} (h : First m cs i j) (h' : First m cs i' j') : i = i' ∧ j = j' := by
  have h1 := h.2.2 i' j' h'.1 h'.2.1
  have h2 := h'.2.2 i j h.1 h.2.1
  omega
theorem first_of {P : Nat → Prop} : ∀ n : Nat, P n → ∃ k, P k ∧ ∀ i, P i → k ≤ i := by
  intro n
  induction n using Nat.strongRecOn with
  | _ n ih =>
    intro h
    by_cases hx : ∃ k, k < n ∧ P k
    · obtain ⟨k, hk, hp⟩ := hx; exact ih k hk hp
    · exact ⟨n, h, fun i hi => Nat.le_of_not_lt fun hl => hx ⟨i, hl, hi⟩⟩
theorem agreed_or (m : Mp) (cs : List Sta) : Agreed m cs ∨ ∃ i j, First m cs i j := by
  by_cases h : ∃ i, ∃ j, i < j ∧ Contra m cs i j
  · obtain ⟨i, hi⟩ := h
    obtain ⟨i, hi, hmin⟩ := first_of (P := fun i => ∃ j, i < j ∧ Contra m cs i j) i hi
    obtain ⟨j, hj⟩ := hi
    obtain ⟨j, hj, hminj⟩ := first_of (P := fun j => i < j ∧ Contra m cs i j) j hj
    refine .inr ⟨i, j, hj.1, hj.2, fun i' j' h1 h2 => ?_⟩
    have := hmin i' ⟨j', h1, h2⟩
    rcases Nat.lt_or_eq_of_le this with h3 | rfl
    · exact .inl h3
    · exact .inr ⟨rfl, hminj j' ⟨h1, h2⟩⟩
  · exact .inl fun i j hij hc => h ⟨i, j, hij, hc⟩
theorem contB_comm (m : Mp) (x y : Sta) : contB m x y = contB m y x := by
  unfold contB
  rw [dist_comm m.wd x.pt y.pt, decide_eq_decide, Int.max_comm]
theorem contB_self {m : Mp} {x : Sta} (h : x.lo ≤ x.hi) : contB m x x = false := by
  unfold contB
  rw [dist_self]
  simp; omega
theorem Agreed.all {m : Mp} {cs : List Sta} (h : Agreed m cs) (hs : Sane m cs) {x y : Sta} (hx : x ∈ cs) (hy : y ∈ cs) : contB m x y = false := by
  obtain ⟨i, hi⟩ := List.mem_iff_getElem?.1 hx
  obtain ⟨j, hj⟩ := List.mem_iff_getElem?.1 hy
  rcases Nat.lt_trichotomy i j with hl | rfl | hl
  · cases hc : contB m x y
    · rfl
    · exact absurd ⟨x, y, hi, hj, hc⟩ (h i j hl)
  · cases hi.symm.trans hj
    exact contB_self (hs.all x hx).lh
  · cases hc : contB m x y
    · rfl
    · exact absurd ⟨y, x, hj, hi, (contB_comm m y x).trans hc⟩ (h j i hl)
theorem Agreed.near {m : Mp} {cs : List Sta} (h : Agreed m cs) (hs : Sane m cs) {x y : Sta} (hx : x ∈ cs) (hy : y ∈ cs) : x.lo - y.hi ≤ m.sl * distI m.wd x.pt y.pt := by
  have := h.all hs hx hy
  unfold contB at this
  simp at this
  omega
theorem low_le_high {m : Mp} {cs : List Sta} (h : Agreed m cs) (hs : Sane m cs) (p : Int) : lowestF m.wd m.sl p cs ≤ highestF m.wd m.sl p cs := by
  have h0 := hs.ok.s0
  refine low_le (high_ge (by omega) fun y hy => ?_) fun x hx => high_ge ?_ fun y hy => ?_
  · have := (hs.all y hy).l0; have := (hs.all y hy).lh; have := sl_nonneg (wd := m.wd) (a := p) (b := y.pt) h0; omega
  · have := (hs.all x hx).h1; have := (hs.all x hx).lh; have := sl_nonneg (wd := m.wd) (a := p) (b := x.pt) h0; omega
  · have h1 := h.near hs hx hy
    have h2 := sl_tri (wd := m.wd) (a := x.pt) (b := p) (c := y.pt) h0
    rw [dist_comm m.wd x.pt p] at h2
    omega
theorem low_own {m : Mp} {cs : List Sta} (h : Agreed m cs) (hs : Sane m cs) {x : Sta} (hx : x ∈ cs) : x.lo ≤ lowestF m.wd m.sl x.pt cs ∧ highestF m.wd m.sl x.pt cs ≤ x.hi := by
  have h1 := low_ge (wd := m.wd) (sl := m.sl) (p := x.pt) hx
  have h2 := high_le (wd := m.wd) (sl := m.sl) (p := x.pt) hx
  rw [dist_self, Int.mul_zero] at h1 h2
  omega
/- Fields. -/
/-- The value of a point of a field. -/
def ev (vs : List Int) (p : Nat) : Int := vs.getD p 0
theorem ev_of {vs : List Int} {p : Nat} {z : Int} (h : vs[p]? = some z) : ev vs p = z := by simp [ev, h]
theorem ev_is {vs : List Int} {p : Nat} (h : p < vs.length) : vs[p]? = some (ev vs p) := by simp [ev, h]
def fieldB (wd : Int) (vs : List Int) : Bool := betw wd 1 6 && decide ((vs.length : Int) % wd = 0) && betw (vs.length / wd) 1 5 && vs.all fun z => betw z 0 99999
/-- A field is one of a map. -/
structure FitsP (m : Mp) (cs : List Sta) (wd : Int) (vs : List Int) : Prop where
  wide : wd = m.wd
  size : (vs.length : Int) = m.wd * m.rw
  own : ∀ x ∈ cs, x.lo ≤ ev vs x.pt.toNat ∧ ev vs x.pt.toNat ≤ x.hi
  near : ∀ p q : Nat, p < vs.length → q < vs.length → distI m.wd p q = 1 → farI (ev vs p) (ev vs q) ≤ m.sl
noncomputable def fitsB (m : Mp) (cs : List Sta) (wd : Int) (vs : List Int) : Bool := @decide (FitsP m cs wd vs) (Classical.propDecidable _)
theorem fitsB_iff {m : Mp} {cs : List Sta} {wd : Int} {vs : List Int} : fitsB m cs wd vs = true ↔ FitsP m cs wd vs := by simp [fitsB]
theorem fitsB_no {m : Mp} {cs : List Sta} {wd : Int} {vs : List Int} (h : ¬ FitsP m cs wd vs) : fitsB m cs wd vs = false := by simp [fitsB, h]
theorem farI_comm (a b : Int) : farI a b = farI b a := by unfold farI; omega
theorem dm {wd r c : Int} (h0 : 0 ≤ c) (h1 : c < wd) : (r * wd + c) / wd = r ∧ (r * wd + c) % wd = c := by
  have hw : wd ≠ 0 := by omega
  constructor
  · rw [Int.add_comm, Int.add_mul_ediv_right _ _ hw, Int.ediv_eq_zero_of_lt h0 h1]; omega
  · rw [Int.add_comm, Int.add_mul_emod_self_right]; exact Int.emod_eq_of_lt h0 h1
theorem dist_rc {wd r c r' c' : Int} (h0 : 0 ≤ c) (h1 : c < wd) (h2 : 0 ≤ c') (h3 : c' < wd) : distI wd (r * wd + c) (r' * wd + c') = farI r r' + farI c c' := by
  unfold distI rowsI colsI
  rw [(dm h0 h1).1, (dm h0 h1).2, (dm h2 h3).1, (dm h2 h3).2]
/-- A function on a grid that changes by no more than 'sl' between neighbours. -/
theorem grid_lip {wd rw sl : Int} (f : Int → Int) (hw : 1 ≤ wd) (hsl : 0 ≤ sl) (h : ∀ p q : Int, 0 ≤ p → p < wd * rw → 0 ≤ q → q < wd * rw → distI wd p q = 1 → f p - f q ≤ sl) :
    ∀ p q : Int, 0 ≤ p → p < wd * rw → 0 ≤ q → q < wd * rw → f p - f q ≤ sl * distI wd p q := by
  have rng : ∀ r c : Int, 0 ≤ r → r < rw → 0 ≤ c → c < wd → 0 ≤ r * wd + c ∧ r * wd + c < wd * rw := fun r c hr hr' hc hc' => by
    have h1 : 0 ≤ r * wd := Int.mul_nonneg hr (by omega)
    have h2 : (r + 1) * wd ≤ rw * wd := Int.mul_le_mul_of_nonneg_right (by omega) (by omega)
    rw [Int.add_mul, Int.one_mul, Int.mul_comm rw wd] at h2
    omega
  have cols : ∀ (n : Nat) (r c c' : Int), 0 ≤ r → r < rw → 0 ≤ c → c < wd → 0 ≤ c' → c' < wd → farI c c' = n → f (r * wd + c) - f (r * wd + c') ≤ sl * n := by
    intro n
    induction n with
    | zero =>
      intro r c c' _ _ _ _ _ _ hf
      obtain rfl : c = c' := by unfold farI at hf; omega
      simp
    | succ n ih =>
      intro r c c' hr hr' hc hc' hd hd' hf
      obtain ⟨c2, e0, e1, e2, e3⟩ : ∃ c2, 0 ≤ c2 ∧ c2 < wd ∧ farI c c2 = 1 ∧ farI c2 c' = n := by
        unfold farI at hf
        rcases Int.lt_or_lt_of_ne (show c ≠ c' by omega) with hl | hl
        · exact ⟨c + 1, by omega, by omega, by unfold farI; omega, by unfold farI; omega⟩
        · exact ⟨c - 1, by omega, by omega, by unfold farI; omega, by unfold farI; omega⟩
      have g1 := ih r c2 c' hr hr' e0 e1 hd hd' e3
      obtain ⟨a1, a2⟩ := rng r c hr hr' hc hc'
      obtain ⟨b1, b2⟩ := rng r c2 hr hr' e0 e1
      have g2 := h _ _ a1 a2 b1 b2 (by rw [dist_rc hc hc' e0 e1, e2]; unfold farI; omega)
      rw [Int.natCast_succ, Int.mul_add, Int.mul_one]
      omega
  have rows : ∀ (n : Nat) (r r' c : Int), 0 ≤ r → r < rw → 0 ≤ r' → r' < rw → 0 ≤ c → c < wd → farI r r' = n → f (r * wd + c) - f (r' * wd + c) ≤ sl * n := by
    intro n
    induction n with
    | zero =>
      intro r r' c _ _ _ _ _ _ hf
      obtain rfl : r = r' := by unfold farI at hf; omega
      simp
    | succ n ih =>
      intro r r' c hr hr' hd hd' hc hc' hf
      obtain ⟨r2, e0, e1, e2, e3⟩ : ∃ r2, 0 ≤ r2 ∧ r2 < rw ∧ farI r r2 = 1 ∧ farI r2 r' = n := by
        unfold farI at hf
        rcases Int.lt_or_lt_of_ne (show r ≠ r' by omega) with hl | hl
        · exact ⟨r + 1, by omega, by omega, by unfold farI; omega, by unfold farI; omega⟩
        · exact ⟨r - 1, by omega, by omega, by unfold farI; omega, by unfold farI; omega⟩
      have g1 := ih r2 r' c e0 e1 hd hd' hc hc' e3
      obtain ⟨a1, a2⟩ := rng r c hr hr' hc hc'
      obtain ⟨b1, b2⟩ := rng r2 c e0 e1 hc hc'
      have g2 := h _ _ a1 a2 b1 b2 (by rw [dist_rc hc hc' hc hc', e2]; unfold farI; omega)
      rw [Int.natCast_succ, Int.mul_add, Int.mul_one]
      omega
  have split : ∀ p : Int, 0 ≤ p → p < wd * rw → ∃ r c, p = r * wd + c ∧ 0 ≤ r ∧ r < rw ∧ 0 ≤ c ∧ c < wd := fun p h0 h1 => by
    refine ⟨p / wd, p % wd, ?_, Int.ediv_nonneg h0 (by omega), ?_, Int.emod_nonneg _ (by omega), Int.emod_lt_of_pos _ (by omega)⟩
    · have := Int.emod_add_mul_ediv p wd
      rw [Int.mul_comm] at this
      omega
    · exact Int.ediv_lt_of_lt_mul (by omega) (by rw [Int.mul_comm]; exact h1)
  intro p q hp hp' hq hq'
  obtain ⟨r, c, rfl, r0, r1, c0, c1⟩ := split p hp hp'
  obtain ⟨r', c', rfl, r0', r1', c0', c1'⟩ := split q hq hq'
  rw [dist_rc c0 c1 c0' c1']
  have f0 : 0 ≤ farI r r' := by unfold farI; omega
  have f1 : 0 ≤ farI c c' := by unfold farI; omega
  have g1 := cols (farI c c').toNat r c c' r0 r1 c0 c1 c0' c1' (by omega)
  have g2 := rows (farI r r').toNat r r' c' r0 r1 r0' r1' c0' c1' (by omega)
  rw [Int.toNat_of_nonneg f1] at g1
  rw [Int.toNat_of_nonneg f0] at g2
  rw [Int.mul_add]
  omega
theorem FitsP.lip {m : Mp} {cs : List Sta} {wd : Int} {vs : List Int} (h : FitsP m cs wd vs) (hm : m.Ok) {p q : Nat} (hp : p < vs.length) (hq : q < vs.length) : ev vs p - ev vs q ≤ m.sl * distI m.wd p q := by
  have hz := h.size
  have := grid_lip (wd := m.wd) (rw := m.rw) (sl := m.sl) (fun i => ev vs i.toNat) hm.w1 hm.s0 (fun p q h1 h2 h3 h4 h5 => by
    have := h.near p.toNat q.toNat (by omega) (by omega) (by rw [Int.toNat_of_nonneg h1, Int.toNat_of_nonneg h3]; exact h5)
    unfold farI at this
    show ev vs p.toNat - ev vs q.toNat ≤ _
    omega) p q (by omega) (by omega) (by omega) (by omega)
  simpa using this
/-- A field of a map: no two stations contradict each other, and each value lies within the bounds of its point. -/
theorem FitsP.true {m : Mp} {cs : List Sta} {wd : Int} {vs : List Int} (h : FitsP m cs wd vs) (hs : Sane m cs) (hv : ∀ z ∈ vs, betw z 0 99999 = true) :
    Agreed m cs ∧ ∀ p : Nat, p < vs.length → lowestF m.wd m.sl p cs ≤ ev vs p ∧ ev vs p ≤ highestF m.wd m.sl p cs := by
  have hz := h.size
  have hpt : ∀ x ∈ cs, ((x.pt.toNat : Nat) : Int) = x.pt ∧ x.pt.toNat < vs.length := fun x hx => by
    have := hs.all x hx
    have h1 := this.p0; have h2 := this.p1
    omega
  refine ⟨fun i j hij ⟨a, b, ha, hb, hc⟩ => ?_, fun p hp => ?_⟩
  · have ma := List.mem_of_getElem? ha
    have mb := List.mem_of_getElem? hb
    have l1 := h.lip hs.ok (hpt a ma).2 (hpt b mb).2
    have l2 := h.lip hs.ok (hpt b mb).2 (hpt a ma).2
    rw [(hpt a ma).1, (hpt b mb).1] at l1 l2
    rw [dist_comm] at l2
    have o1 := h.own a ma; have o2 := h.own b mb
    unfold contB at hc
    simp at hc
    omega
  · have hb := betw_iff.1 (hv _ (List.mem_of_getElem? (ev_is hp)))
    refine ⟨low_le hb.1 fun x hx => ?_, high_ge hb.2 fun x hx => ?_⟩
    · have l1 := h.lip hs.ok (hpt x hx).2 hp
      rw [(hpt x hx).1, dist_comm] at l1
      have := h.own x hx
      omega
    · have l1 := h.lip hs.ok hp (hpt x hx).2
      rw [(hpt x hx).1] at l1
      have := h.own x hx
      omega
/-- The list of the values of a function at the first points. -/
def rowZ (f : Nat → Int) (n : Nat) : List Int := (List.range n).map f
theorem rowZ_len (f : Nat → Int) (n : Nat) : (rowZ f n).length = n := by simp [rowZ]
theorem rowZ_succ (f : Nat → Int) (n : Nat) : rowZ f (n + 1) = rowZ f n ++ [f n] := by simp [rowZ, List.range_succ]
theorem rowZ_ev {f : Nat → Int} {n p : Nat} (h : p < n) : ev (rowZ f n) p = f p := by simp [ev, rowZ, h]
/-- A function that lies within the bounds of all points, and changes by no more than can be, is a field of the map. -/
theorem fits_mk {m : Mp} {cs : List Sta} (hs : Sane m cs) (ha : Agreed m cs) (f : Nat → Int) (hl : ∀ p q : Nat, f p ≤ f q + m.sl * distI m.wd p q)
    (hb : ∀ p : Nat, lowestF m.wd m.sl p cs ≤ f p ∧ f p ≤ highestF m.wd m.sl p cs) : FitsP m cs m.wd (rowZ f (m.wd * m.rw).toNat) := by
  have a1 := hs.ok.a1
  refine ⟨rfl, by rw [rowZ_len]; omega, fun x hx => ?_, fun p q hp hq hd => ?_⟩
  · have hx' := hs.all x hx
    have h1 := hx'.p0; have h2 := hx'.p1
    rw [rowZ_ev (by omega)]
    have := hb x.pt.toNat
    rw [show ((x.pt.toNat : Nat) : Int) = x.pt by omega] at this
    have := low_own ha hs hx
    omega
  · rw [rowZ_len] at hp hq
    rw [rowZ_ev hp, rowZ_ev hq]
    have h1 := hl p q
    have h2 := hl q p
    rw [dist_comm m.wd q p] at h2
    rw [hd] at h1 h2
    unfold farI
    omega
theorem fits_low {m : Mp} {cs : List Sta} (hs : Sane m cs) (ha : Agreed m cs) : FitsP m cs m.wd (rowZ (fun p => lowestF m.wd m.sl p cs) (m.wd * m.rw).toNat) :=
  fits_mk hs ha _ (fun p q => low_lip hs.ok.s0) fun p => ⟨Int.le_refl _, low_le_high ha hs p⟩
theorem fits_high {m : Mp} {cs : List Sta} (hs : Sane m cs) (ha : Agreed m cs) : FitsP m cs m.wd (rowZ (fun p => highestF m.wd m.sl p cs) (m.wd * m.rw).toNat) :=
  fits_mk hs ha _ (fun p q => high_lip hs.ok.s0) fun p => ⟨low_le_high ha hs p, Int.le_refl _⟩
/-- As great as can be, but no steeper from one point on. -/
theorem fits_cone {m : Mp} {cs : List Sta} (hs : Sane m cs) (ha : Agreed m cs) {c : Nat} {n : Int} (h1 : lowestF m.wd m.sl c cs ≤ n) :
    FitsP m cs m.wd (rowZ (fun p => min (highestF m.wd m.sl p cs) (n + m.sl * distI m.wd c p)) (m.wd * m.rw).toNat) :=
  fits_mk hs ha _ (fun p q => by
    have g1 := high_lip (wd := m.wd) (p := p) (q := q) (cs := cs) hs.ok.s0
    have g2 := sl_tri (wd := m.wd) (a := c) (b := q) (c := p) hs.ok.s0
    rw [dist_comm m.wd q p] at g2
    omega) fun p => ⟨by
    have g1 := low_le_high ha hs p
    have g2 := low_lip (wd := m.wd) (p := p) (q := c) (cs := cs) hs.ok.s0
    rw [dist_comm m.wd p c] at g2
    omega, by omega⟩
end Go.Proofs.YtpkmojcppdogkaaGreatDoor
