/- A run worked out: cone's throughout by its contract. -/
import Derived.Test.YtbepafkenandfaaGreatZxn
import Derived.Test.YtbepafkenandfaaGreatVe
set_option linter.unusedVariables false
set_option linter.unusedSimpArgs false
namespace Go.Proofs.YtbepafkenandfaaGreat.GX
open Go Go.RowKit

noncomputable def spsOf : List AV → Option (List (Int × Int))
  | [] => some []
  | .lit (.int .i64 a) :: .lit (.int .i64 b) :: l => match spsOf l with
    | some r => some ((a, b) :: r)
    | none => none
  | _ => none
theorem spsOf_in : ∀ (n : Nat) {l : List AV} {xs : List (Int × Int)}, l.length ≤ n → spsOf l = some xs → ∀ (j : Nat) x, xs[j]? = some x → l[j * 2]? = some (.lit (.int .i64 x.1)) ∧ l[j * 2 + 1]? = some (.lit (.int .i64 x.2))
  | n, [], xs, _, h, j, x, hx => by cases h; cases hx
  | 0, v :: l, xs, hn, h, j, x, hx => by simp at hn
  | n + 1, v :: l, xs, hn, h, j, x, hx => by
    unfold spsOf at h
    split at h
    · rename_i h1; cases h1
    · rename_i a b l' h1
      cases h1
      split at h
      · rename_i r hr
        cases h
        cases j with
        | zero => cases hx; exact ⟨rfl, rfl⟩
        | succ j =>
          have := spsOf_in n (by simp at hn; omega) hr j x hx
          have e : (j + 1) * 2 = j * 2 + 1 + 1 := by omega
          rw [e]
          simpa using this
      · cases h
    · cases h
theorem spsOf_at {l : List AV} {xs : List (Int × Int)} (h : spsOf l = some xs) : ∀ (j : Nat) x, xs[j]? = some x → l[j * 2]? = some (.lit (.int .i64 x.1)) ∧ l[j * 2 + 1]? = some (.lit (.int .i64 x.2)) := spsOf_in l.length (Nat.le_refl _) h
/-- The sights and the span, if all numbers are small. -/
noncomputable def sightsAt (h : AH) : List AV → Option (List (Int × Int) × Int × Int)
  | [.slc id off len sub, .agg [.lit (.int .i64 lo), .lit (.int .i64 hi)]] => match h.m.get id with
    | some (.cells cs _ (some 2)) => match spsOf ((cs.drop off).take (len * 2)) with
      | some xs => if (decide (xs.length = len) && decide (len ≤ 1000) && decide (-1000000 ≤ lo) && decide (lo ≤ 1000000) && decide (-1000000 ≤ hi) && decide (hi ≤ 1000000)) = true then some (xs, lo, hi) else none
      | none => none
    | _ => none
  | [.lit (.slice none 0 0), .agg [.lit (.int .i64 lo), .lit (.int .i64 hi)]] => if (decide (-1000000 ≤ lo) && decide (lo ≤ 1000000) && decide (-1000000 ≤ hi) && decide (hi ≤ 1000000)) = true then some ([], lo, hi) else none
  | _ => none
noncomputable def natThr (h : AH) (l : List AV) : Option AV := match sightsAt h l with
  | some (xs, lo, hi) => some (.lit (.bool (allB xs lo hi)))
  | none => none
section
variable {base : Bs} {θ : Th} {h : AH} {w : World} {args : List AV}
theorem sightsAt_ok (hR : R base θ h w) (hb : bdl θ h.next args) {lo hi : Int} {xs : List (Int × Int)} (hx : sightsAt h args = some (xs, lo, hi)) :
    -1000000 ≤ lo ∧ lo ≤ 1000000 ∧ -1000000 ≤ hi ∧ hi ≤ 1000000 ∧ xs.length ≤ 1000 ∧ ∃ A c, (args.map (conc θ)).toArray = #[.slice A xs.length c, .agg #[.int .i64 lo, .int .i64 hi]] ∧ Sps w (.slice A xs.length c) xs ∧ (∀ b off, A = some ⟨b, off, none⟩ → b < w.heap.size) := by
  unfold sightsAt at hx
  split at hx
  · rename_i id off len sub lo0 hi0
    split at hx
    · rename_i cs el hm
      split at hx
      · rename_i ys hs
        split at hx
        · rename_i hc
          cases hx
          simp only [Bool.and_eq_true, decide_eq_true_eq] at hc
          obtain ⟨⟨⟨⟨⟨hl, hl1⟩, a1⟩, a2⟩, a3⟩, a4⟩ := hc
          refine ⟨a1, a2, a3, a4, by omega, some ⟨(θ id).b, off, none⟩, (θ id).c - sub, by simp [conc, hl], ?_, ?_⟩
          · obtain ⟨_, _, hok⟩ := hR.obj id _ hm
            have hcap := hb _ (List.mem_cons_self ..)
            simp only [bd] at hcap
            have hcm : (θ id).c ≤ maxLen := by
              obtain ⟨_, cur, _, _, k, _, _, h3, _⟩ := hok
              exact h3
            refine ⟨_, _, rfl, by omega, by omega, .inr ⟨(θ id).b, off, rfl, hok.lt, fun i x hi => ?_⟩⟩
            have cell : ∀ {j : Nat} {v : Value}, ((cs.drop off).take (len * 2))[j]? = some (.lit v) → w.cell? ⟨(θ id).b, off + j, none⟩ = some v := fun {j v} hj => by
              rw [List.getElem?_take] at hj
              split at hj
              · rw [List.getElem?_drop] at hj
                have := hok.cell hj
                simpa [conc] using this
              · cases hj
            obtain ⟨b0, b1⟩ := spsOf_at hs i x hi
            exact ⟨cell b0, cell b1⟩
          · intro b off' hA
            cases hA
            obtain ⟨_, _, hok⟩ := hR.obj id _ hm
            exact hok.lt
        · cases hx
      · cases hx
    · cases hx
  · split at hx
    · rename_i hc
      cases hx
      simp only [Bool.and_eq_true, decide_eq_true_eq] at hc
      obtain ⟨⟨⟨a1, a2⟩, a3⟩, a4⟩ := hc
      exact ⟨a1, a2, a3, a4, by simp, none, 0, by simp [conc], ⟨none, 0, rfl, by simp, by simp [maxLen], .inl rfl⟩, fun b off h => by cases h⟩
    · cases hx
  · cases hx
theorem thr_ok {v : AV} (hR : R base θ h w) (hb : bdl θ h.next args) (hx : natThr h args = some v) :
    bd θ h.next v ∧ Calls Tryz.prog 117 (args.map (conc θ)).toArray w fun e w' => e = .returned (conc θ v) ∧ Below w.heap.size w w' := by
  unfold natThr at hx
  split at hx
  · rename_i xs lo hi hv
    cases hx
    obtain ⟨a1, a2, a3, a4, a5, A, c, e, hc, hs⟩ := sightsAt_ok hR hb hv
    refine ⟨by simp [bd], ?_⟩
    rw [e]
    exact (throughout_any lo hi A c xs w a1 a2 a3 a4 a5 hc hs).mono fun _ _ h => ⟨by rw [h.1]; simp [conc], h.2⟩
  · cases hx
end
end Go.Proofs.YtbepafkenandfaaGreat.GX
