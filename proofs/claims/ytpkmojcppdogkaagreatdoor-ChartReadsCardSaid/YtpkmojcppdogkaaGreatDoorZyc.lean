/- A run worked out: the chart's small functions by their contracts. -/
import Derived.Test.YtpkmojcppdogkaaGreatDoorZya
import Derived.Test.YtpkmojcppdogkaaGreatDoorCe
set_option linter.unusedVariables false
set_option linter.unusedSimpArgs false
namespace Go.Proofs.YtpkmojcppdogkaaGreatDoor.GX
open Go Go.RowKit

noncomputable def stasOf : List AV → Option (List Sta)
  | [] => some []
  | .lit (.int .i64 a) :: .lit (.int .i64 b) :: .lit (.int .i64 c) :: l => match stasOf l with
    | some r => some (⟨a, b, c⟩ :: r)
    | none => none
  | _ => none
theorem stasOf_in : ∀ (n : Nat) {l : List AV} {xs : List Sta}, l.length ≤ n → stasOf l = some xs → ∀ (j : Nat) x, xs[j]? = some x → l[j * 3]? = some (.lit (.int .i64 x.pt)) ∧ l[j * 3 + 1]? = some (.lit (.int .i64 x.lo)) ∧ l[j * 3 + 2]? = some (.lit (.int .i64 x.hi))
  | n, [], xs, _, h, j, x, hx => by cases h; cases hx
  | 0, v :: l, xs, hn, h, j, x, hx => by simp at hn
  | n + 1, v :: l, xs, hn, h, j, x, hx => by
    unfold stasOf at h
    split at h
    · rename_i h1; cases h1
    · rename_i a b c l' h1
      cases h1
      split at h
      · rename_i r hr
        cases h
        cases j with
        | zero => cases hx; exact ⟨rfl, rfl, rfl⟩
        | succ j =>
          have := stasOf_in n (by simp at hn; omega) hr j x hx
          have e : (j + 1) * 3 = j * 3 + 1 + 1 + 1 := by omega
          rw [e]
          simpa using this
      · cases h
    · cases h
theorem stasOf_at {l : List AV} {xs : List Sta} (h : stasOf l = some xs) : ∀ (j : Nat) x, xs[j]? = some x → l[j * 3]? = some (.lit (.int .i64 x.pt)) ∧ l[j * 3 + 1]? = some (.lit (.int .i64 x.lo)) ∧ l[j * 3 + 2]? = some (.lit (.int .i64 x.hi)) := stasOf_in _ (Nat.le_refl _) h

def goodB (x : Sta) : Bool := decide (0 ≤ x.pt) && decide (x.pt ≤ 1000000) && decide (-1000000 ≤ x.lo) && decide (x.lo ≤ 1000000) && decide (-1000000 ≤ x.hi) && decide (x.hi ≤ 1000000)
theorem good_of {x : Sta} (h : goodB x = true) : x.Good := by
  simp only [goodB, Bool.and_eq_true, decide_eq_true_eq] at h
  exact ⟨h.1.1.1.1.1, h.1.1.1.1.2, h.1.1.1.2, h.1.1.2, h.1.2, h.2⟩
/-- A view and a point, if all their numbers are small. -/
noncomputable def viewAt (h : AH) : List AV → Option (Int × Int × Int × List Sta)
  | [.agg [.lit (.int .i64 wd), .lit (.int .i64 rw), .lit (.int .i64 sl), .slc id off len sub, .lit (.int .i64 wd'), .lit (.int .i64 rw')], .lit (.int .i64 p)] => match h.m.get id with
    | some (.cells cs _ (some 3)) => match stasOf ((cs.drop off).take (len * 3)) with
      | some xs => if (decide (xs.length = len) && decide (wd' = wd) && decide (rw' = rw) && decide (1 ≤ wd) && decide (wd ≤ 1000) && decide (0 ≤ sl) && decide (sl ≤ 1000000) && decide (0 ≤ p) && decide (p ≤ 1000000) && xs.all goodB) = true then some (wd, sl, p, xs) else none
      | none => none
    | _ => none
  | _ => none
noncomputable def natLowest (h : AH) (l : List AV) : Option AV := match viewAt h l with
  | some (wd, sl, p, xs) => some (.lit (.int .i64 (lowestF wd sl p xs)))
  | none => none
noncomputable def natHighest (h : AH) (l : List AV) : Option AV := match viewAt h l with
  | some (wd, sl, p, xs) => some (.lit (.int .i64 (highestF wd sl p xs)))
  | none => none
noncomputable def gridAt : List AV → Option (Int × Int × Int × Int)
  | [.agg [.lit (.int .i64 wd), .lit (.int .i64 rw)], .lit (.int .i64 a), .lit (.int .i64 b)] => if (decide (1 ≤ wd) && decide (wd ≤ 1000) && decide (0 ≤ a) && decide (a ≤ 1000000) && decide (0 ≤ b) && decide (b ≤ 1000000)) = true then some (wd, rw, a, b) else none
  | _ => none
noncomputable def natDistance (_ : AH) (l : List AV) : Option AV := match gridAt l with
  | some (wd, _, a, b) => some (.lit (.int .i64 (distI wd a b)))
  | none => none
noncomputable def natApart (_ : AH) (l : List AV) : Option AV := match gridAt l with
  | some (wd, _, a, b) => some (.tup [.lit (.int .i64 (rowsI wd a b)), .lit (.int .i64 (colsI wd a b))])
  | none => none
section
variable {base : Bs} {θ : Th} {h : AH} {w : World} {args : List AV}
theorem gridAt_ok {wd rw a b : Int} (hx : gridAt args = some (wd, rw, a, b)) :
    1 ≤ wd ∧ wd ≤ 1000 ∧ 0 ≤ a ∧ a ≤ 1000000 ∧ 0 ≤ b ∧ b ≤ 1000000 ∧ (args.map (conc θ)).toArray = #[.agg #[.int .i64 wd, .int .i64 rw], .int .i64 a, .int .i64 b] := by
  unfold gridAt at hx
  split at hx
  · split at hx
    · rename_i hc
      cases hx
      simp only [Bool.and_eq_true, decide_eq_true_eq] at hc
      obtain ⟨⟨⟨⟨⟨a1, a2⟩, a3⟩, a4⟩, a5⟩, a6⟩ := hc
      exact ⟨a1, a2, a3, a4, a5, a6, by simp [conc]⟩
    · cases hx
  · cases hx
theorem distance_ok {v : AV} (hx : natDistance h args = some v) :
    bd θ h.next v ∧ Calls Tryz.prog 117 (args.map (conc θ)).toArray w fun e w' => e = .returned (conc θ v) ∧ Below w.heap.size w w' := by
  unfold natDistance at hx
  split at hx
  · rename_i wd rw a b hv
    cases hx
    obtain ⟨a1, a2, a3, a4, a5, a6, e⟩ := gridAt_ok (θ := θ) hv
    refine ⟨by simp [bd], ?_⟩
    rw [e]
    exact (distance_any wd rw a b w a1 a2 a3 a4 a5 a6).mono fun _ _ h => ⟨by rw [h.1]; simp [conc], h.2⟩
  · cases hx
theorem gapart_ok {v : AV} (hx : natApart h args = some v) :
    bd θ h.next v ∧ Calls Tryz.prog 149 (args.map (conc θ)).toArray w fun e w' => e = .returned (conc θ v) ∧ Below w.heap.size w w' := by
  unfold natApart at hx
  split at hx
  · rename_i wd rw a b hv
    cases hx
    obtain ⟨a1, a2, a3, a4, a5, a6, e⟩ := gridAt_ok (θ := θ) hv
    refine ⟨by simp [bd], ?_⟩
    rw [e]
    exact (apart_any wd rw a b w a1 a2 a3 a4 a5 a6).mono fun _ _ h => ⟨by rw [h.1]; simp [conc], h.2⟩
  · cases hx
theorem viewAt_ok (hR : R base θ h w) (hb : bdl θ h.next args) {wd sl p : Int} {xs : List Sta} (hx : viewAt h args = some (wd, sl, p, xs)) :
    1 ≤ wd ∧ wd ≤ 1000 ∧ 0 ≤ sl ∧ sl ≤ 1000000 ∧ 0 ≤ p ∧ p ≤ 1000000 ∧ (∀ x ∈ xs, x.Good) ∧ ∃ rw A c, (args.map (conc θ)).toArray = #[viewV wd rw sl (.slice A xs.length c), .int .i64 p] ∧ Stas w (.slice A xs.length c) xs := by
  unfold viewAt at hx
  split at hx
  · rename_i wd0 rw0 sl0 id off len sub wd1 rw1 p0
    split at hx
    · rename_i cs el hm
      split at hx
      · rename_i ys hs
        split at hx
        · rename_i hc
          cases hx
          simp only [Bool.and_eq_true, decide_eq_true_eq, List.all_eq_true] at hc
          obtain ⟨⟨⟨⟨⟨⟨⟨⟨⟨hl, rfl⟩, rfl⟩, a1⟩, a2⟩, a3⟩, a4⟩, a5⟩, a6⟩, a7⟩ := hc
          refine ⟨a1, a2, a3, a4, a5, a6, fun x hx => good_of (a7 x hx), rw1, some ⟨(θ id).b, off, none⟩, (θ id).c - sub, by simp [conc, hl], ?_⟩
          obtain ⟨_, _, hok⟩ := hR.obj id _ hm
          have hcap := hb _ (List.mem_cons_self ..)
          simp only [bd] at hcap
          have hcap := hcap (.slc id off len sub) (by simp)
          simp only [bd] at hcap
          have hcm : (θ id).c ≤ maxLen := by
            obtain ⟨_, cur, _, _, k, _, _, h3, _⟩ := hok
            exact h3
          refine ⟨_, _, rfl, by omega, by omega, .inr ⟨(θ id).b, off, rfl, hok.lt, fun i x hi => ?_⟩⟩
          have cell : ∀ {j : Nat} {v : Value}, ((cs.drop off).take (len * 3))[j]? = some (.lit v) → w.cell? ⟨(θ id).b, off + j, none⟩ = some v := fun {j v} hj => by
            rw [List.getElem?_take] at hj
            split at hj
            · rw [List.getElem?_drop] at hj
              have := hok.cell hj
              simpa [conc] using this
            · cases hj
          obtain ⟨b0, b1, b2⟩ := stasOf_at hs i x hi
          exact ⟨cell b0, cell b1, cell b2⟩
        · cases hx
      · cases hx
    · cases hx
  · cases hx
theorem lowest_ok {v : AV} (hR : R base θ h w) (hb : bdl θ h.next args) (hx : natLowest h args = some v) :
    bd θ h.next v ∧ Calls Tryz.prog 152 (args.map (conc θ)).toArray w fun e w' => e = .returned (conc θ v) ∧ Below w.heap.size w w' := by
  unfold natLowest at hx
  split at hx
  · rename_i wd sl p xs hv
    cases hx
    obtain ⟨a1, a2, a3, a4, a5, a6, hg, rw, A, c, e, hc⟩ := viewAt_ok hR hb hv
    refine ⟨by simp [bd], ?_⟩
    rw [e]
    exact (lowest_any wd rw sl p A c xs w a1 a2 a3 a4 a5 a6 hg hc).mono fun _ _ h => ⟨by rw [h.1]; simp [conc], h.2⟩
  · cases hx
theorem highest_ok {v : AV} (hR : R base θ h w) (hb : bdl θ h.next args) (hx : natHighest h args = some v) :
    bd θ h.next v ∧ Calls Tryz.prog 153 (args.map (conc θ)).toArray w fun e w' => e = .returned (conc θ v) ∧ Below w.heap.size w w' := by
  unfold natHighest at hx
  split at hx
  · rename_i wd sl p xs hv
    cases hx
    obtain ⟨a1, a2, a3, a4, a5, a6, hg, rw, A, c, e, hc⟩ := viewAt_ok hR hb hv
    refine ⟨by simp [bd], ?_⟩
    rw [e]
    exact (highest_any wd rw sl p A c xs w a1 a2 a3 a4 a5 a6 hg hc).mono fun _ _ h => ⟨by rw [h.1]; simp [conc], h.2⟩
  · cases hx
end
end Go.Proofs.YtpkmojcppdogkaaGreatDoor.GX
