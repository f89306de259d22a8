/- A run worked out: functions of the library whose results the shelf's contracts tell. -/
import Derived.Test.YtpkmojcppdogkaaGreatDoorZxn
import Derived.Test.YtpkmojcppdogkaaGreatDoorShelf
import Derived.Lib.AppendIntMem
import Derived.RecoverIn
import Derived.Tactics
import Derived.Tactics2
set_option linter.unusedVariables false
set_option linter.unusedSimpArgs false
namespace Go.Proofs.YtpkmojcppdogkaaGreatDoor.GX
open Go Go.RowKit

/-- The library's table of powers of ten lies below the run's memory. -/
def TabAt (P : Program) (base : Bs) : Prop :=
  Lib.TabIs P base.w "internal/strconv.uint64pow10" .u64 Lib.pow10Tab ∧ ∀ g, P.globalNamed "internal/strconv.uint64pow10" = some g → g < base.n
theorem tab_of {P : Program} {base : Bs} {θ : Th} {h : AH} {w : World} (ht : TabAt P base) (hR : R base θ h w) : Lib.TabIs P w "internal/strconv.uint64pow10" .u64 Lib.pow10Tab := by
  obtain ⟨h1, h2⟩ := ht
  unfold Lib.TabIs World.var? at h1 ⊢
  cases hg : P.globalNamed "internal/strconv.uint64pow10" with
  | none => rw [hg] at h1; cases h1
  | some g =>
    rw [hg] at h1
    simp only [Option.bind_some] at h1 ⊢
    rw [hR.b0 g (h2 g hg)]
    exact h1

noncomputable def natItoa (_ : AH) : List AV → Option AV
  | [.lit (.int .i64 n)] => if -9223372036854775808 ≤ n ∧ n ≤ 9223372036854775807 then some (.lit (.string ⟨(Lib.itoa n).toArray⟩)) else none
  | _ => none
noncomputable def strsOf : List AV → Option (List ByteArray)
  | [] => some []
  | .lit (.string s) :: l => match strsOf l with
    | some r => some (s :: r)
    | none => none
  | _ => none
noncomputable def natJoin (h : AH) : List AV → Option AV
  | [.slc id off len _, .lit (.string sep)] => match h.m.get id with
    | some (.cells cs _ _) => match strsOf ((cs.drop off).take len) with
      | some xs => if xs.length = len ∧ len ≤ 140737488355328 ∧ (Lib.join (xs.map (·.data.toList)) sep.data.toList).length ≤ 140737488355328 then some (.lit (.string ⟨(Lib.join (xs.map (·.data.toList)) sep.data.toList).toArray⟩)) else none
      | none => none
    | _ => none
  | _ => none
noncomputable def dIdle (h : AH) : List AV → Option AH
  | [.ptr _ _] => some h
  | _ => none
theorem strsOf_at : ∀ {l : List AV} {xs : List ByteArray}, strsOf l = some xs → ∀ (j : Nat) x, xs[j]? = some x → l[j]? = some (.lit (.string x))
  | [], xs, h, j, x, hx => by cases h; cases hx
  | v :: l, xs, h, j, x, hx => by
    unfold strsOf at h
    split at h
    · rename_i h1; cases h1
    · rename_i s l' h1
      cases h1
      split at h
      · rename_i r hr
        cases h
        cases j with
        | zero => cases hx; rfl
        | succ j => exact strsOf_at hr j x hx
      · cases h
    · cases h

section
variable {base : Bs}
theorem itoa_ok (ht : TabAt Tryz.prog base) {θ : Th} {h : AH} {w : World} {args : List AV} {v : AV} (hR : R base θ h w) (hx : natItoa h args = some v) :
    bd θ h.next v ∧ Calls Tryz.prog 142 (args.map (conc θ)).toArray w fun e w' => e = .returned (conc θ v) ∧ Below w.heap.size w w' := by
  unfold natItoa at hx
  split at hx
  · rename_i n
    split at hx
    · rename_i hn
      cases hx
      refine ⟨by simp [bd], ?_⟩
      have e : (List.map (conc θ) [.lit (.int .i64 n)]).toArray = #[.int .i64 n] := by simp [conc]
      rw [e]
      exact (Tryz.strconv_Itoa n hn.1 hn.2 w (tab_of ht hR)).mono fun _ _ h => h.elim fun he h => ⟨by rw [he]; simp [conc], h.elim fun k h => h.elim fun os h => h ▸ Lib.below_grow _ w (Nat.le_refl _) k os⟩
    · cases hx
  · cases hx
theorem join_ok {θ : Th} {h : AH} {w : World} {args : List AV} {v : AV} (hR : R base θ h w) (hb : bdl θ h.next args) (hx : natJoin h args = some v) :
    bd θ h.next v ∧ Calls Tryz.prog 143 (args.map (conc θ)).toArray w fun e w' => e = .returned (conc θ v) ∧ Below w.heap.size w w' := by
  unfold natJoin at hx
  split at hx
  · rename_i id off len sub sep
    split at hx
    · rename_i cs el row hm
      split at hx
      · rename_i xs hs
        split at hx
        · rename_i hc
          obtain ⟨hl, hN, hlen⟩ := hc
          cases hx
          refine ⟨by simp [bd], ?_⟩
          have hcap := hb _ (List.mem_cons_self ..)
          simp only [bd] at hcap
          replace hcap := hcap.2
          obtain ⟨_, _, hok⟩ := hR.obj id _ hm
          have e : (List.map (conc θ) [.slc id off len sub, .lit (.string sep)]).toArray = #[.slice (some ⟨(θ id).b, off, none⟩) xs.length ((θ id).c - sub), .string sep] := by simp [conc, hl]
          rw [e]
          refine (Tryz.strings_Join (θ id).b off ((θ id).c - sub) xs sep w (fun j x hj => ?_) hok.lt (by omega) (by omega) hlen).mono fun _ _ h => ⟨by rw [h.1]; simp [conc], h.2⟩
          have h1 := strsOf_at hs j x hj
          rw [List.getElem?_take] at h1
          split at h1
          · rw [List.getElem?_drop] at h1
            have := hok.cell h1
            simpa [conc] using this
          · cases h1
        · cases hx
      · cases hx
    · cases hx
  · cases hx
set_option maxHeartbeats 1000000 in
set_option maxRecDepth 100000 in
theorem idle_ok {θ : Th} {h h' : AH} {w : World} {args : List AV} (hR : R base θ h w) (hx : dIdle h args = some h') :
    CallsDIn (FW none) 0 Tryz.prog 137 (args.map (conc θ)).toArray .returning w fun e u' w' => (∃ v, e = .returned v) ∧ settle u' = .returning ∧ ∃ θ', Post base θ h w θ' h' w' := by
  unfold dIdle at hx
  split at hx
  · rename_i id off
    cases hx
    have e : (List.map (conc θ) [.ptr id off]).toArray = #[.pointer (some ⟨(θ id).b, off, none⟩)] := by simp [conc]
    rw [e]
    have hta : ∀ w : World, (Instr.typeAssert .nilIface 20 189 true).run Tryz.prog w = .ok (.tuple #[.agg #[], .bool false]) w := fun w => by kernel_rfl
    have hP : ∃ θ', Post base θ h w θ' h (w.alloc (.cells #[] 189)) := ⟨θ, Post.more hR ((Below.refl _ _).alloc (Nat.le_refl _) _)⟩
    refine callsDIn_of_wpSIn Tryz.func137 rfl trivial fun c₀ cs hu => ?_
    apply wpSIn_seq
    apply wpSIn_region
    simp [wpOpsSIn, go_sem, recoverD, hu, Tryz.ntmps137, Exit.thenS, hta]
    apply wpSIn_seq
    apply wpSIn_region
    simp [wpOpsSIn, go_sem, Exit.thenS]
    refine wpSIn_cond (t := false) (by simp [Act.eval, Array.replicate]) ?_
    simp only [Bool.false_eq_true, if_false]
    refine wpSIn_of_wpIn rfl (wpIn_skip ?_)
    cases c₀
    simp_all [bodyPostS, results, Tryz.results137, settle]
  · cases hx
end
end Go.Proofs.YtpkmojcppdogkaaGreatDoor.GX
