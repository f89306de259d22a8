/- Loops whose rounds leave deferred calls; regions in a round of a range over a function. -/
import Derived.Test.YtpkmojcppdogkaaGreatDoorCfi
set_option linter.unusedVariables false
set_option linter.unusedSimpArgs false
namespace Go.Proofs.YtpkmojcppdogkaaGreatDoor
open Go.RowKit
open Go.Maps Go.Shelf
/- Activations named; loops whose rounds leave deferred calls; regions in a round. -/
theorem lt_of_blk {W : World} {k : Nat} {o : Obj} (h : W.heap[k]? = some o) : k < W.heap.size := (Array.getElem?_eq_some_iff.1 h).1
theorem wpIn_gen {F : Fence} {n : Nat} {P : Program} {c : Code} {Q : Exit → Act → World → Prop} {a : Act} {w : World} (h : ∀ A, A = a → c.wpIn F n P Q A w) : c.wpIn F n P Q a w := h a rfl
def upd (T : Array Value) (S : List Nat) (u : Nat → Value) : Array Value := S.foldl (fun t k => t.setIfInBounds k (u k)) T
theorem wp_loop_marks {P : Program} {c : Code} {Q : Exit → Act → World → Prop} {T : Array Value} {w : World} (S : List Nat) (I : (Nat → Value) → List Deferred → World → Prop) (μ : (Nat → Value) → Nat)
    (hT : upd T S (fun k => T.getD k undef) = T) (h0 : I (fun k => T.getD k undef) [] w)
    (round : ∀ u ds W, I u ds W → ∀ K : Act → World → Prop, (∀ (T' : Array Value) ds' W', upd T S (fun k => T'.getD k undef) = T' → I (fun k => T'.getD k undef) ds' W' → μ (fun k => T'.getD k undef) < μ u → K ⟨T', ds'⟩ W') → c.wp P (Exit.then K Q) ⟨upd T S u, ds⟩ W) :
    (Code.loop c).wp P Q ⟨T, []⟩ w := by
  have key : ∀ (n : Nat) u ds W, μ u = n → I u ds W → ∀ (b : Frame) (k : List Item) (cs : List Frame), ∃ e a' w', Q e a' w' ∧ Arrives P (lone (b.at ⟨upd T S u, ds⟩ (.code c :: .inLoop c :: k)) cs W) b k cs e a' w' := by
    intro n
    induction n using Nat.strongRecOn with
    | _ n ih =>
      intro u ds W hn hI b k cs
      obtain ⟨e, a1, w1, hq, harr⟩ := round u ds W hI (fun a' w' => ∀ (b : Frame) (k : List Item) (cs : List Frame), ∃ e a'' w'', Q e a'' w'' ∧ Arrives P (lone (b.at a' (.code c :: .inLoop c :: k)) cs w') b k cs e a'' w'') (fun T' ds' W' hT' hI' hlt => by
        have := ih _ (hn ▸ hlt) _ ds' W' rfl hI'
        rwa [hT'] at this) b (.inLoop c :: k) cs
      cases e with
      | normal =>
        obtain ⟨e2, a2, w2, hq2, harr2⟩ := hq b k cs
        exact ⟨e2, a2, w2, hq2, .of_steps (Steps.trans harr (.one step_inLoop)) harr2⟩
      | exit id => exact ⟨_, a1, w1, hq, .pass (x := .inLoop c) rfl (fun _ _ => .inl (by simp)) harr⟩
      | goto l => exact ⟨_, a1, w1, hq, .pass (x := .inLoop c) rfl (fun _ _ => .inl (by simp)) harr⟩
      | ret => exact ⟨_, a1, w1, hq, .pass (x := .inLoop c) rfl (fun _ _ => .inl (by simp)) harr⟩
      | panic ch => exact ⟨_, a1, w1, hq, .pass (x := .inLoop c) rfl (fun _ _ => .inl (by simp)) harr⟩
      | outgrown => exact ⟨_, a1, w1, hq, .pass (x := .inLoop c) rfl (fun _ _ => .inl (by simp)) harr⟩
  intro b k cs
  obtain ⟨e, a', w', hq, harr⟩ := key _ (fun k => T.getD k undef) [] w rfl h0 b k cs
  rw [hT] at harr
  exact ⟨e, a', w', hq, .of_steps (.one step_loop) harr⟩
theorem rowsIn_wide' {n l : Nat} {P : Program} {row : String} {args : Array Value} {w : World} {R : Value → World → Prop} (h : Rows P row args w R) : RowsIn (Fence.wide.inRound l) n P row args w R :=
  fun c cs _ => let ⟨v, w', r, s⟩ := h c cs; ⟨v, w', r, stepsIn_wide.2 s⟩
theorem wpOpIn_of_wpOp {l n : Nat} {P : Program} {ops : Array Oper} {Q : Exit → Act → World → Prop} {i : Nat} {K : Act → World → Prop} {a : Act} {w : World} (hd : ∀ (j : Nat) o, ops[j]? = some o → ∀ c, o.op ≠ .defer c) (hL : ¬ LetsOut Q) (h : wpOp P ops Q i K a w) :
    wpOpIn (Fence.wide.inRound l) n P ops Q i K a w := by
  unfold wpOpIn
  unfold wpOp at h
  cases ho : ops[i]? with
  | none => simp only [ho] at h ⊢; exact h
  | some o =>
    simp only [ho] at h ⊢
    cases hw : Region.wanted o (yielded ops a.tmps)
    · simp only [hw, Bool.false_eq_true, if_false] at h ⊢
      exact ⟨fun _ _ => trivial, h⟩
    · simp only [hw, if_true] at h ⊢
      rcases h with h | h
      · refine ⟨fun _ _ => trivial, ?_⟩
        rw [Oper.semAt_eq _ _ _ (hd i o ho)]
        unfold Oper.wp at h
        generalize (execOp a.eval o).run P w = r at *
        cases r with
        | ok x w' =>
          cases x <;> simp only [Oper.upon, Oper.uponIn] at h ⊢
          case value => exact h
          case skip => exact h
          case defer => exact h
          case enter f args => first | exact callsIn_wide.2 h | exact ⟨by simp [Fence.wide], callsIn_wide.2 h⟩
          case row row args => first | exact rowsIn_wide' h | exact ⟨by simp [Fence.wide], rowsIn_wide' h⟩
        | halt x w' => cases x <;> simp only [Oper.upon, Oper.uponIn] at h ⊢ <;> exact h
      · exact absurd h.2 hL
theorem wpAnyIn_of_wpAny {l n : Nat} {P : Program} {ops : Array Oper} {Q : Exit → Act → World → Prop} (hd : ∀ (j : Nat) o, ops[j]? = some o → ∀ c, o.op ≠ .defer c) (hL : ¬ LetsOut Q) :
    ∀ (fuel : Nat) (listed : Array Bool) (a : Act) (w : World), wpAny P .any ops Q fuel listed a w → wpAnyIn (Fence.wide.inRound l) n P .any ops Q fuel listed a w
  | 0, _, _, _, h => h
  | k + 1, _, _, _, h => ⟨h.1, fun i hi => wpOpIn_mono (fun a' w' h' => wpAnyIn_of_wpAny hd hL k _ a' w' h') (wpOpIn_of_wpOp hd hL (h.2 i hi))⟩
/-- No operation is put off. -/
def noDefer (ops : Array Oper) : Bool := ops.all fun o => match o.op with
  | .defer _ => false
  | _ => true
theorem noDefer_ok {ops : Array Oper} (h : noDefer ops = true) : ∀ (j : Nat) o, ops[j]? = some o → ∀ c, o.op ≠ .defer c := fun j o ho c hc => by
  unfold noDefer at h
  rw [Array.all_eq_true'] at h
  have := h o (Array.mem_of_getElem? ho)
  rw [hc] at this
  cases this
theorem Marks.below {w W : World} {B : Nat} {ds : List Deferred} (h : Marks w B ds) (hb : Below w.heap.size w W) : Marks W B ds := by
  obtain ⟨l, rfl, hl, ha⟩ := h
  exact ⟨l, rfl, hl, fun D hD => ⟨(ha D hD).1, blk_below (ha D hD).2 hb⟩⟩
theorem Marks.ne {w : World} {B E : Nat} {ds : List Deferred} (h : Marks w B ds) (hE : w.heap.size ≤ E) : ∀ d ∈ ds, d.target ≠ .collected E := by
  obtain ⟨l, rfl, hl, ha⟩ := h
  intro d hd
  obtain ⟨D, hD, rfl⟩ := List.mem_map.1 hd
  have := lt_of_blk (ha D hD).2
  simp only [ne_eq, Target.collected.injEq]
  omega
set_option maxHeartbeats 1000000 in
theorem neighbours_any (wd rw p : Int) (w : World) :
    Calls Tryz.prog 90 #[.agg #[.int .i64 wd, .int .i64 rw], .int .i64 p] w fun e w' => ∃ B D, e = .returned (Value.func (.func 116) #[] #[.pointer (some ⟨B, 0, none⟩), .pointer (some ⟨D, 0, none⟩)]) ∧ w'.heap[B]? = some (.cells #[.int .i64 wd, .int .i64 rw] 85) ∧ w'.heap[D]? = some (.cells #[.int .i64 p] 3) ∧ Below w.heap.size w w' := by
  go_enter Tryz.func90, Tryz.ntmps90
  go_wp2
  go_ret
  exact ⟨_, _, rfl, blk_alloc (heap_new _ _ rfl) _, heap_new _ _ (by simp), ((Below.refl _ _).alloc (Nat.le_refl _) _).alloc (by simp) _⟩
end Go.Proofs.YtpkmojcppdogkaaGreatDoor
