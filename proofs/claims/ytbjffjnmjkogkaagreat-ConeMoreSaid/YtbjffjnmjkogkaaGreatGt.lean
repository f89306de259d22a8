import Derived.Test.YtbjffjnmjkogkaaGreatGs
set_option linter.unusedVariables false
set_option linter.unusedSimpArgs false
namespace Go.Proofs.YtbjffjnmjkogkaaGreat
open Go.RowKit
open Go.Maps Go.Shelf
theorem run_max (P : Program) (ts : Array TypeId) (ty : TypeId) (a b : Int) (w : World) : (Builtin.max_ ts ty #[.int .i64 a, .int .i64 b]).run P w = .ok (.int .i64 (max a b)) w := by
  unfold Builtin.max_
  by_cases h : a < b
  · simp [Builtin.max2, h]; omega
  · simp [Builtin.max2, h]; omega
section
variable {w : World} {o : Oper} {a : Act} {K : Act → World → Prop} {Q : Exit → Act → World → Prop}
set_option maxRecDepth 100000 in
set_option maxHeartbeats 1000000 in
theorem wp_fnval {P : Program} {x y : Operand} {tys : Array TypeId} (ho : o.op = .call { callee := .value y, args := #[x], argTypes := tys }) {f : Nat} {F1 C1 : Array Value} {val : Value} (hy : a.eval y = .func (.func f) F1 C1) (hx : a.eval x = val) (hcf : ∀ args w, (callFunc f args).run P w = .ok (.enter f args) w) {r : Value} {R : World → Prop} (hc : Calls P f (F1 ++ #[val] ++ C1) w fun e w' => e = .returned r ∧ R w')
    (h : ∀ w', R w' → K (a.put o.dst r) w') : o.wp P a w K Q := by
  have e : o.wp P a w K Q = o.upon P a K Q (.ok (.enter f (F1 ++ #[val] ++ C1)) w) := by
    unfold Oper.wp execOp
    simp only [ho, resolve, invoke, Act.eval, Sem.run_bind, Sem.run_pure, Result.andThen_ok, List.map_toArray, List.map_cons, List.map_nil]
    have hx' := hx
    have hy' := hy
    unfold Act.eval at hx' hy'
    rw [hx', hy']
    rw [← hcf]
    rfl
  rw [e, Oper.upon_enter]
  refine hc.mono ?_
  intro e w' hr
  obtain ⟨rfl, hr⟩ := hr
  exact h w' hr
end
theorem oper_round {l n : Nat} {P : Program} {o : Oper} {a : Act} {w : World} {K : Act → World → Prop} {Q : Exit → Act → World → Prop} (hd : (match o.op with | .defer _ => false | _ => true) = true) (h : Oper.wp P o a w K Q) : o.wpIn (Fence.wide.inRound l) n P a w K Q := by
  unfold Oper.wpIn
  refine ⟨fun _ _ => trivial, ?_⟩
  rw [Oper.semAt_eq _ _ _ (noDefx hd)]
  unfold Oper.wp at h
  generalize (execOp a.eval o).run P w = r at *
  cases r with
  | ok x w' =>
    cases x <;> simp only [Oper.upon, Oper.uponIn] at h ⊢
    case value => exact h
    case skip => exact h
    case defer => exact h
    case enter f args => first | exact CallsIn.inRound l (callsIn_wide.2 h) | exact ⟨by simp [Fence.wide], CallsIn.inRound l (callsIn_wide.2 h)⟩
    case row row args => first | exact rowsIn_wide' (l := l) h | exact ⟨by simp [Fence.wide], rowsIn_wide' (l := l) h⟩
  | halt x w' => cases x <;> simp only [Oper.upon, Oper.uponIn] at h ⊢ <;> exact h
theorem wpListIn_of_wp {l n : Nat} {P : Program} {ops : Array Oper} {rest : List Oper} {o : Oper} {a : Act} {w : World} {Q : Exit → Act → World → Prop} (hg : o.guard = none) (hd : (match o.op with | .defer _ => false | _ => true) = true)
    (h : ∀ K : Act → World → Prop, Hid (∀ a w, wpListIn (Fence.wide.inRound l) n P ops Q rest a w → K a w) → Oper.wp P o a w K Q) : wpListIn (Fence.wide.inRound l) n P ops Q (o :: rest) a w :=
  wpListIn_plain hg fun K hK => oper_round hd (h K (Lib.hid hK))
theorem keeps_row {B : Nat} {W W' : World} {row : Option Nat} (hg : W.grownBy W' row) (h : ∀ g, row = some g → ∃ cs t fr, W.heap[g]? = some (.cells cs t fr)) : KeepsFrom B W W' :=
  ⟨hg.size, fun k o _ hk ho => (hg.block k (lt_of_blk hk) (fun e => by
    obtain ⟨cs, t, fr, hc⟩ := h k e.symm
    rw [hc] at hk
    cases hk
    cases ho)).trans hk⟩
theorem own_cells {W : World} {base n sz : Nat} {t : TypeId} {v : Value} {zs : List Value} (h : W.ownsRow base t sz v n zs) : ∀ g, v.ownBlock = some g → ∃ cs t fr, W.heap[g]? = some (.cells cs t fr) := fun g hg => by
  rcases h.2 with ⟨h0, _⟩ | ⟨g', cap, cur, hv, hb0, hgc, h1, h2, h3, h4⟩
  · rw [h0] at hg; cases hg
  · rw [hv] at hg
    cases hg
    exact ⟨_, _, _, hgc⟩
end Go.Proofs.YtbjffjnmjkogkaaGreat
