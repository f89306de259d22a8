/- A run worked out: operations that touch no memory, each by itself. -/
import Derived.Test.YtknplcpjmpmblaaDoorZxd
set_option linter.unusedVariables false
set_option linter.unusedSimpArgs false
namespace Go.Proofs.YtknplcpjmpmblaaDoor.GX
open Go Go.RowKit

theorem wrap_in {k : IntKind} {x : Int} (h : (arange k).1 ≤ x ∧ x ≤ (arange k).2) : k.wrap x = x := by
  cases k <;> simp only [arange] at h <;> simp only [IntKind.wrap, IntKind.bits, IntKind.signed, Bool.true_and, Bool.false_and, decide_eq_true_eq, ge_iff_le] <;> (first | (split <;> omega) | (simp; omega))
theorem aInt_ok {k : IntKind} {x : Int} {v : Value} (h : aInt k x = some v) : v = .int k x ∧ k.wrap x = x := by
  simp only [aInt, forceI_eq] at h
  split at h
  · rename_i hc; cases h; exact ⟨rfl, wrap_in hc⟩
  · cases h

section
variable {P : Program} {tb : Tab} {θ : Th} {n : Nat} {ev : Operand → Option AV} {ρ : Operand → Value}
theorem abin_ok {op : BinOp} {t : TypeId} {x y : Operand} {a b v : Value} (h : abin op a b = some v) (w : World) : (do eqGuard op t x y a b; binOp op t a b : Sem Value).run P w = .ok v w := by
  cases a <;> cases b <;> simp only [abin] at h <;> try cases h
  case int.int k a k' b =>
    split at h
    · rename_i hk
      subst hk
      have hg : (eqGuard op t x y (.int k a) (.int k b)).run P w = .ok () w := by
        unfold eqGuard
        cases op <;> simp [Sem.run_bind, Result.andThen]
      rw [Sem.run_bind, hg]
      simp only [Result.andThen]
      cases op <;> simp only [abinI] at h <;> try cases h
      case add => obtain ⟨rfl, hw⟩ := aInt_ok h; simp [binOp, Op.intArith, hw]
      case sub => obtain ⟨rfl, hw⟩ := aInt_ok h; simp [binOp, Op.intArith, hw]
      case mul => obtain ⟨rfl, hw⟩ := aInt_ok h; simp [binOp, Op.intArith, hw]
      case quo =>
        split at h
        · cases h
        · rename_i h0; obtain ⟨rfl, hw⟩ := aInt_ok h; simp [binOp, Op.intDiv, h0, hw]
      case rem =>
        split at h
        · cases h
        · rename_i h0; cases h; simp [binOp, Op.intDiv, h0]
      all_goals simp [binOp, Op.intCmp]
    · cases h
  case string.string a b =>
    have hg : (eqGuard op t x y (.string a) (.string b)).run P w = .ok () w := by
      unfold eqGuard
      cases op <;> simp [Sem.run_bind, Result.andThen]
    rw [Sem.run_bind, hg]
    simp only [Result.andThen]
    cases op <;> simp only [abinS] at h <;> try cases h
    case add =>
      split at h
      · rename_i hs
        cases h
        have hn : ¬ (((a.size + b.size : Nat) : Int) > IntKind.i64.max) := by
          have : IntKind.i64.max = 9223372036854775807 := rfl
          rw [this]; omega
        simp only [binOp, Op.stringOp, hn, if_false]
        rfl
      · cases h
    all_goals simp [binOp, Op.stringOp]

theorem conc_lit (θ : Th) (v : Value) : conc θ (.lit v) = v := by simp [conc]
theorem aint_ok {v : AV} {k : IntKind} {i : Int} (h : aint v = some (k, i)) : v = .lit (.int k i) := by
  unfold aint at h
  split at h
  · cases h; rfl
  · cases h
theorem isSliceT_ok (hT : ∀ t i, tb.ty.get t = some i → TyOK P t i) {t : TypeId} (hst : isSliceT tb t = true) : ∃ el, P.underlying t = some (.slice el) := by
  unfold isSliceT at hst
  split at hst
  · rename_i i hi
    split at hst
    · rename_i el hd; exact ⟨el, by rw [(hT t i hi).und, hd]⟩
    · cases hst
  · cases hst
theorem run_eq_nil (hT : ∀ t i, tb.ty.get t = some i → TyOK P t i) {op : BinOp} {t : TypeId} {x y : Operand} {A : Option Addr} {l c l' c' : Nat} {r : Bool} {v : AV} (hr : r = A.isSome) {y' : AV} (hy' : conc θ y' = .slice none l' c') (h : xBinN tb op t (some y') r = some v) (w : World) :
    bd θ n v ∧ (do eqGuard op t x y (.slice A l c) (conc θ y'); binOp op t (.slice A l c) (conc θ y') : Sem Value).run P w = .ok (conc θ v) w := by
  rw [hy']
  subst hr
  have hst : isSliceT tb t = true := by
    unfold xBinN at h
    split at h <;> try (cases h; done)
    split at h
    · assumption
    · cases h
  obtain ⟨el, hu⟩ := isSliceT_ok hT hst
  have heq : (Op.equal t (.slice A l c) (.slice none l' c')).run P w = .ok (!A.isSome) w := by
    unfold Op.equal Op.maxDepth
    unfold Op.equalIn
    simp only [Sem.run_bind, run_underlying hu w, Result.andThen]
    cases A <;> rfl
  have hg : (eqGuard op t x y (.slice A l c) (.slice none l' c')).run P w = .ok () w := by
    unfold eqGuard
    cases op <;> simp [Sem.run_bind, Result.andThen]
  rw [Sem.run_bind, hg]
  simp only [Result.andThen]
  unfold xBinN at h
  split at h <;> try (cases h; done)
  rw [if_pos hst] at h
  split at h
  · cases h
    refine ⟨by simp [bd], ?_⟩
    simp only [binOp, Sem.run_bind, heq, Result.andThen, Sem.run_pure, conc]
  · cases h
    refine ⟨by simp [bd], ?_⟩
    simp only [binOp, Sem.run_bind, heq, Result.andThen, Sem.run_pure, conc, Bool.not_not]
  · cases h
theorem xBinN_some {op : BinOp} {t : TypeId} {y : Option AV} {r : Bool} {v : AV} (h : xBinN tb op t y r = some v) : ∃ y' l' c', y = some y' ∧ y' = .lit (.slice none l' c') := by
  unfold xBinN at h
  split at h
  · exact ⟨_, _, _, rfl, rfl⟩
  · cases h
theorem xPair_ok (hQ : PairsOK P tb) {op : BinOp} {t : TypeId} {x y : Operand} {cs : List AV} {u v : AV} (ht : isTwo tb t = true) (h : xPair op cs (some u) = some v) (w : World) :
    bd θ n v ∧ (do eqGuard op t x y (conc θ (.agg cs)) (conc θ u); binOp op t (conc θ (.agg cs)) (conc θ u) : Sem Value).run P w = .ok (conc θ v) w := by
  obtain ⟨hg, he⟩ : P.eqGuardType P.depth t = false ∧ ∀ (a b c d : Int) (w : World), (Op.equal t (.agg #[.int .i64 a, .int .i64 b]) (.agg #[.int .i64 c, .int .i64 d])).run P w = .ok (decide ([a, b] = [c, d])) w := by
    unfold isTwo at ht
    split at ht
    · rename_i m hm; exact hQ.1 t m hm (Nat.eq_of_beq_eq_true ht)
    · cases ht
  unfold xPair at h
  split at h
  · rename_i a b c d hu
    cases hu
    have e1 : conc θ (.agg [.lit (.int .i64 a), .lit (.int .i64 b)]) = .agg #[.int .i64 a, .int .i64 b] := by simp [conc]
    have e2 : conc θ (.agg [.lit (.int .i64 c), .lit (.int .i64 d)]) = .agg #[.int .i64 c, .int .i64 d] := by simp [conc]
    rw [e1, e2]
    have hgd : (eqGuard op t x y (.agg #[.int .i64 a, .int .i64 b]) (.agg #[.int .i64 c, .int .i64 d])).run P w = .ok () w := by
      unfold eqGuard
      cases op <;> simp [Sem.run_bind, Result.andThen, program, Sem.run, hg]
    rw [Sem.run_bind, hgd]
    simp only [Result.andThen]
    split at h
    · cases h
      refine ⟨by simp [bd], ?_⟩
      simp only [binOp, Sem.run_bind, he, Result.andThen, Sem.run_pure, conc]
    · cases h
      refine ⟨by simp [bd], ?_⟩
      simp only [binOp, Sem.run_bind, he, Result.andThen, Sem.run_pure, conc]
    · cases h
  · cases h
theorem xPair_some {op : BinOp} {cs : List AV} {y : Option AV} {v : AV} (h : xPair op cs y = some v) : ∃ u, y = some u := by
  unfold xPair at h
  split at h
  · exact ⟨_, rfl⟩
  · cases h
theorem ai64s_ok' : ∀ {l : List AV} {ns : List Int}, ai64s' l = some ns → l = ns.map fun n => .lit (.int .i64 n)
  | [], ns, h => by cases h; rfl
  | v :: vs, ns, h => by
    simp only [ai64s'] at h
    split at h
    · rename_i n ms h1 h2
      cases h
      have hv : v = .lit (.int .i64 n) := by
        unfold ai64' at h1
        split at h1
        · cases h1; rfl
        · cases h1
      rw [hv, ai64s_ok' h2]
      rfl
    · cases h
theorem conc_ints (ns : List Int) : conc θ (.agg (ns.map fun n => .lit (.int .i64 n))) = ints ns := by
  simp only [conc, ints, List.map_map]
  congr 2
  apply List.map_congr_left
  intro x _
  simp [conc]
theorem xPairN_ok (hQ : PairsOK P tb) {op : BinOp} {t : TypeId} {x y : Operand} {cs : List AV} {u v : AV} (h : xPairN tb op t cs (some u) = some v) (w : World) :
    bd θ n v ∧ (do eqGuard op t x y (conc θ (.agg cs)) (conc θ u); binOp op t (conc θ (.agg cs)) (conc θ u) : Sem Value).run P w = .ok (conc θ v) w := by
  unfold xPairN at h
  split at h <;> try (cases h; done)
  rename_i bl hu
  cases hu
  split at h <;> try (cases h; done)
  rename_i xs ys hx hy
  split at h <;> try (cases h; done)
  rename_i hc
  simp only [Bool.and_eq_true] at hc
  obtain ⟨m, hm, h1⟩ : ∃ m, tb.eqs.get t = some m ∧ m = xs.length := by
    have := hc.1; unfold isInts at this; split at this
    · rename_i m hm; exact ⟨m, hm, Nat.eq_of_beq_eq_true this⟩
    · cases this
  have h2 : m = ys.length := by
    have := hc.2; unfold isInts at this; rw [hm] at this; exact Nat.eq_of_beq_eq_true this
  obtain ⟨hg, he⟩ := hQ.2 t m hm
  rw [ai64s_ok' hx, ai64s_ok' hy, conc_ints, conc_ints]
  have hgd : (eqGuard op t x y (ints xs) (ints ys)).run P w = .ok () w := by
    unfold eqGuard ints
    cases op <;> simp [Sem.run_bind, Result.andThen, program, Sem.run, hg]
  rw [Sem.run_bind, hgd]
  simp only [Result.andThen]
  have he' := he xs ys h1.symm h2.symm w
  unfold ints at he' ⊢
  split at h
  · cases h
    refine ⟨by simp [bd], ?_⟩
    simp only [binOp, Sem.run_bind, he', Result.andThen, Sem.run_pure, conc]
  · cases h
    refine ⟨by simp [bd], ?_⟩
    simp only [binOp, Sem.run_bind, he', Result.andThen, Sem.run_pure, conc]
  · cases h
theorem xPairN_some {op : BinOp} {t : TypeId} {cs : List AV} {y : Option AV} {v : AV} (h : xPairN tb op t cs y = some v) : ∃ u, y = some u := by
  unfold xPairN at h
  split at h
  · exact ⟨_, rfl⟩
  · cases h
theorem xBin_ok (hT : ∀ t i, tb.ty.get t = some i → TyOK P t i) (hQ : PairsOK P tb) (hE : EvOK θ n ev ρ) {op : BinOp} {t : TypeId} {x y : Operand} {v : AV} (h : xBin tb ev op t x y = some v) (w : World) :
    bd θ n v ∧ (do eqGuard op t x y (ρ x) (ρ y); binOp op t (ρ x) (ρ y) : Sem Value).run P w = .ok (conc θ v) w := by
  unfold xBin at h
  split at h
  · rename_i u hu
    split at h
    · rename_i hrow
      obtain ⟨y', l', c', hy, hyl⟩ := xBinN_some h
      rw [hy] at h
      have e1 := (hE x _ hu).2
      have e2 := (hE y _ hy).2
      have hcu : ∃ A l c, conc θ u = .slice (some A) l c := by
        unfold hasRow at hrow
        split at hrow
        · rename_i id off len sub; exact ⟨⟨(θ id).b, off, none⟩, len, (θ id).c - sub, by simp only [conc]⟩
        · rename_i id off len cap; exact ⟨⟨(θ id).b, off, none⟩, len, cap, by simp only [conc]⟩
        · cases hrow
      obtain ⟨A, l, c, hcu⟩ := hcu
      rw [e1, e2, hcu]
      exact run_eq_nil hT (A := some A) rfl (l' := l') (c' := c') (by rw [hyl, conc_lit]) h w
    · split at h
      · rename_i hnil
        obtain ⟨y', l', c', hy, hyl⟩ := xBinN_some h
        rw [hy] at h
        have e1 := (hE x _ hu).2
        have e2 := (hE y _ hy).2
        have hcu : ∃ l c, conc θ u = .slice none l c := by
          unfold isNilS at hnil
          split at hnil
          · exact ⟨_, _, conc_lit θ _⟩
          · cases hnil
        obtain ⟨l, c, hcu⟩ := hcu
        rw [e1, e2, hcu]
        exact run_eq_nil hT (A := none) rfl (l' := l') (c' := c') (by rw [hyl, conc_lit]) h w
      · split at h
        · rename_i a _ _
          unfold xBin2 at h
          split at h
          · rename_i b hb
            cases hr : abin op a b with
            | none => rw [hr] at h; cases h
            | some u =>
              rw [hr] at h
              cases h
              rw [(hE x _ hu).2, (hE y _ hb).2]
              simp only [conc_lit]
              exact ⟨by simp [bd], abin_ok hr w⟩
          · cases h
        · rename_i cs _ _
          cases ht : isTwo tb t with
          | false =>
            rw [ht] at h
            simp only [cond_false] at h
            obtain ⟨u, hy⟩ := xPairN_some h
            rw [hy] at h
            rw [(hE x _ hu).2, (hE y _ hy).2]
            exact xPairN_ok hQ h w
          | true =>
            rw [ht] at h
            simp only [cond_true] at h
            obtain ⟨u, hy⟩ := xPair_some h
            rw [hy] at h
            rw [(hE x _ hu).2, (hE y _ hy).2]
            exact xPair_ok hQ ht h w
        · cases h
  · cases h
theorem xPick_ok (hE : EvOK θ n ev ρ) {c a b : Operand} {v : AV} (h : xPick ev c a b = some v) (w : World) :
    bd θ n v ∧ (do pure (Next.value (if ← asBool (ρ c) then ρ a else ρ b)) : Sem Next).run P w = .ok (.value (conc θ v)) w := by
  unfold xPick at h
  split at h
  · rename_i t hc
    rw [(hE c _ hc).2, conc_lit]
    cases t
    · simp only [Bool.false_eq_true, if_false] at h
      obtain ⟨p, q⟩ := hE b v h
      exact ⟨p, by simp [asBool, Sem.run_bind, Result.andThen, q]⟩
    · simp only [if_true] at h
      obtain ⟨p, q⟩ := hE a v h
      exact ⟨p, by simp [asBool, Sem.run_bind, Result.andThen, q]⟩
  · cases h
theorem xUn_ok (hE : EvOK θ n ev ρ) {op : UnOp} {x : Operand} {v : AV} (h : xUn ev op x = some v) (w : World) : bd θ n v ∧ (Op.unary op (ρ x)).run P w = .ok (conc θ v) w := by
  unfold xUn at h
  split at h
  · rename_i b hx
    cases h
    rw [(hE x _ hx).2]
    exact ⟨by simp [bd], by simp [conc, Op.unary]⟩
  · rename_i k i hx
    cases hr : aInt k (0 - i) with
    | none => rw [hr] at h; cases h
    | some u =>
      rw [hr] at h
      cases h
      obtain ⟨rfl, hw⟩ := aInt_ok hr
      rw [(hE x _ hx).2]
      exact ⟨by simp [bd], by simp only [conc, Op.unary, Op.intArith, hw]; simp⟩
  · cases h
theorem xConv_ok (hT : ∀ t i, tb.ty.get t = some i → TyOK P t i) (hE : EvOK θ n ev ρ) {s d : TypeId} {x : Operand} {v : AV} (h : xConv tb ev s d x = some v) (w : World) :
    bd θ n v ∧ (convert s d (ρ x)).run P w = .ok (conc θ v) w := by
  unfold xConv at h
  split at h
  · rename_i i j k m hs hd hx
    split at h
    · rename_i k' hj
      cases hr : aInt k' m with
      | none => rw [hr] at h; cases h
      | some u =>
        rw [hr] at h
        cases h
        obtain ⟨rfl, hw⟩ := aInt_ok hr
        rw [(hE x _ hx).2]
        refine ⟨by simp [bd], ?_⟩
        unfold convert
        simp only [Sem.run_bind, run_und (hT s i hs) w, run_und (hT d j hd) w, Result.andThen, hj, conc, Conv.intToInt, hw]
        simp
    · cases h
  · cases h
theorem afield_ok (hT : ∀ t i, tb.ty.get t = some i → TyOK P t i) {s : TypeId} {f o : Nat} {j : TyI} (h : afield tb s f = some (o, j)) :
    ∃ fs fd, P.underlying s = some (.struct fs) ∧ fs[f]? = some fd ∧ fd.offset = o ∧ TyOK P fd.type j := by
  unfold afield at h
  split at h
  · rename_i i hi
    split at h
    · rename_i fs hd
      split at h
      · rename_i fd hf
        split at h
        · rename_i j' hj
          cases h
          exact ⟨fs, fd, by rw [(hT s i hi).und, hd], hf, rfl, hT _ _ hj⟩
        · cases h
      · cases h
    · cases h
  · cases h
theorem xFieldAddr_ok (hT : ∀ t i, tb.ty.get t = some i → TyOK P t i) (hE : EvOK θ n ev ρ) {s : TypeId} {x : Operand} {f : Nat} {v : AV} (h : xFieldAddr tb ev s x f = some v) (w : World) :
    bd θ n v ∧ (Instr.fieldAt s (ρ x) f).run P w = .ok (conc θ v) w := by
  unfold xFieldAddr at h
  split at h
  · rename_i id off hx
    split at h
    · rename_i o j hf
      split at h
      · cases h
      · rename_i hj
        cases h
        obtain ⟨fs, fd, hu, hfd, rfl, hj'⟩ := afield_ok hT hf
        obtain ⟨hb, hx'⟩ := hE x _ hx
        rw [hx']
        refine ⟨by simpa [bd] using hb, ?_⟩
        unfold Instr.fieldAt fieldPlace
        simp [Sem.run_bind, run_underlying hu w, Result.andThen, hfd, conc, Instr.sureAddr, run_size hj' w, hj, Addr.add]
    · cases h
  · cases h
theorem xField_ok (hT : ∀ t i, tb.ty.get t = some i → TyOK P t i) (hE : EvOK θ n ev ρ) {s : TypeId} {x : Operand} {f : Nat} {v : AV} (h : xField tb ev s x f = some v) (w : World) :
    bd θ n v ∧ (Instr.field s (ρ x) f).run P w = .ok (conc θ v) w := by
  unfold xField at h
  split at h
  · rename_i cs hx
    split at h
    · rename_i o j hf
      obtain ⟨fs, fd, hu, hfd, rfl, hj'⟩ := afield_ok hT hf
      obtain ⟨hb, hx'⟩ := hE x _ hx
      rw [hx']
      simp only [bd] at hb
      obtain ⟨a, b⟩ := apart_ok (θ := θ) hj' h hb w
      refine ⟨a, ?_⟩
      unfold Instr.field
      simp [Sem.run_bind, run_underlying hu w, Result.andThen, hfd, conc, asAgg]
      simpa using b
    · cases h
  · cases h
theorem asliceOf_ok (hT : ∀ t i, tb.ty.get t = some i → TyOK P t i) {t el : TypeId} {j : TyI} (h : asliceOf tb t = some (el, j)) : P.underlying t = some (.slice el) ∧ TyOK P el j := by
  unfold asliceOf at h
  split at h
  · rename_i i hi
    split at h
    · rename_i el' hd
      split at h
      · rename_i j' hj
        cases h
        exact ⟨by rw [(hT t i hi).und, hd], hT _ _ hj⟩
      · cases h
    · cases h
  · cases h
theorem aarrayOf_ok (hT : ∀ t i, tb.ty.get t = some i → TyOK P t i) {t : TypeId} {len : Nat} {j : TyI} (h : aarrayOf tb t = some (len, j)) : ∃ el, P.underlying t = some (.array len el) ∧ TyOK P el j := by
  unfold aarrayOf at h
  split at h
  · rename_i i hi
    split at h
    · rename_i len' el' hd
      split at h
      · rename_i j' hj
        cases h
        exact ⟨el', by rw [(hT t i hi).und, hd], hT _ _ hj⟩
      · cases h
    · cases h
  · cases h
theorem bind_some {α β : Type} {x : Option α} {f : α → Option β} {y : β} (h : x.bind f = some y) : ∃ a, x = some a ∧ f a = some y := by
  cases x with
  | none => cases h
  | some a => exact ⟨a, rfl, h⟩
theorem bind_aint {x : Option AV} {k : IntKind} {m : Int} (h : x.bind aint = some (k, m)) : x = some (.lit (.int k m)) := by
  obtain ⟨a, ha, hm⟩ := bind_some h
  rw [ha, aint_ok hm]
theorem xIndexAddr_ok (hT : ∀ t i, tb.ty.get t = some i → TyOK P t i) (hE : EvOK θ n ev ρ) {t : TypeId} {x ix : Operand} {v : AV} (h : xIndexAddr tb ev t x ix = some v) (w : World) :
    bd θ n v ∧ (Instr.indexAt t (ρ x) (ρ ix)).run P w = .ok (conc θ v) w := by
  unfold xIndexAddr at h
  split at h
  · rename_i id off len sub hx
    obtain ⟨hb, hx'⟩ := hE x _ hx
    cases hi : (ev ix).bind aint with
    | none => rw [hi] at h; cases h
    | some p =>
      obtain ⟨k, m⟩ := p
      rw [hi] at h
      have hix := (hE ix _ (bind_aint hi)).2
      simp only [xIxSlc] at h
      split at h
      · rename_i el j hsl
        split at h
        · rename_i hc
          cases h
          obtain ⟨hu, hj⟩ := asliceOf_ok hT hsl
          rw [hx', hix]
          refine ⟨by simp only [bd] at hb ⊢; omega, ?_⟩
          unfold Instr.indexAt
          simp only [conc, Sem.run_bind, asIntOf, Sem.run_pure, Result.andThen, run_underlying hu w, run_size hj w]
          simp [hc, Addr.add, run_size hj w, Result.andThen]
        · cases h
      · cases h
  · rename_i id off len cap hx
    obtain ⟨hb, hx'⟩ := hE x _ hx
    cases hi : (ev ix).bind aint with
    | none => rw [hi] at h; cases h
    | some p =>
      obtain ⟨k, m⟩ := p
      rw [hi] at h
      have hix := (hE ix _ (bind_aint hi)).2
      simp only [xIxSlc] at h
      split at h
      · rename_i el j hsl
        split at h
        · rename_i hc
          cases h
          obtain ⟨hu, hj⟩ := asliceOf_ok hT hsl
          rw [hx', hix]
          refine ⟨by simp only [bd] at hb ⊢; omega, ?_⟩
          unfold Instr.indexAt
          simp only [conc, Sem.run_bind, asIntOf, Sem.run_pure, Result.andThen, run_underlying hu w, run_size hj w]
          simp [hc, Addr.add, run_size hj w, Result.andThen]
        · cases h
      · cases h
  · rename_i id off hx
    obtain ⟨hb, hx'⟩ := hE x _ hx
    cases hi : (ev ix).bind aint with
    | none => rw [hi] at h; cases h
    | some p =>
      obtain ⟨k, m⟩ := p
      rw [hi] at h
      have hix := (hE ix _ (bind_aint hi)).2
      simp only [xIxArr] at h
      split at h
      · rename_i len j hsl
        split at h
        · rename_i hc
          cases h
          obtain ⟨el, hu, hj⟩ := aarrayOf_ok hT hsl
          rw [hx', hix]
          refine ⟨by simp only [bd] at hb ⊢; omega, ?_⟩
          unfold Instr.indexAt
          simp only [conc, Sem.run_bind, asIntOf, Sem.run_pure, Result.andThen, run_underlying hu w, run_size hj w, Instr.sureAddr]
          simp [hc, Addr.add, run_size hj w, Result.andThen]
        · cases h
      · cases h
  · cases h
theorem xIndex_ok (hT : ∀ t i, tb.ty.get t = some i → TyOK P t i) (hE : EvOK θ n ev ρ) {t : TypeId} {x ix : Operand} {v : AV} (h : xIndex tb ev t x ix = some v) (w : World) :
    bd θ n v ∧ (Instr.index t (ρ x) (ρ ix)).run P w = .ok (conc θ v) w := by
  unfold xIndex at h
  split at h
  · rename_i cs hx
    obtain ⟨hb, hx'⟩ := hE x _ hx
    cases hi : (ev ix).bind aint with
    | none => rw [hi] at h; cases h
    | some p =>
      obtain ⟨k, m⟩ := p
      rw [hi] at h
      have hix := (hE ix _ (bind_aint hi)).2
      simp only [xIx] at h
      split at h
      · rename_i len j hsl
        split at h
        · rename_i hc
          obtain ⟨el, hu, hj⟩ := aarrayOf_ok hT hsl
          simp only [bd] at hb
          obtain ⟨a, b⟩ := apart_ok (θ := θ) hj h hb w
          rw [hx', hix]
          refine ⟨a, ?_⟩
          unfold Instr.index
          simp only [conc, Sem.run_bind, asIntOf, Sem.run_pure, Result.andThen, run_underlying hu w, run_size hj w]
          simp only [hc, and_self, if_true, Sem.run_bind, run_size hj w, Result.andThen]
          exact b
        · cases h
      · cases h
  · rename_i str hx
    obtain ⟨hb, hx'⟩ := hE x _ hx
    rw [conc_lit] at hx'
    cases hi : (ev ix).bind aint with
    | none => rw [hi] at h; cases h
    | some p =>
      obtain ⟨k, m⟩ := p
      rw [hi] at h
      have hix := (hE ix _ (bind_aint hi)).2
      rw [conc_lit] at hix
      simp only [xIxS] at h
      split at h
      · rename_i hc
        split at h
        · rename_i b hb'
          cases h
          have hu : P.underlying t = some .string := by
            have hst := hc.1
            unfold isStr at hst
            split at hst
            · rename_i i hi
              split at hst
              · rename_i hd; rw [(hT t i hi).und, hd]
              · cases hst
            · cases hst
          refine ⟨by simp [bd], ?_⟩
          rw [hx', hix]
          unfold Instr.index
          simp only [Sem.run_bind, asIntOf, Sem.run_pure, Result.andThen, run_underlying hu w, hc.2, if_true, hb', conc]
        · cases h
      · cases h
  · cases h
theorem isStr_ok (hT : ∀ t i, tb.ty.get t = some i → TyOK P t i) {t : TypeId} (hst : isStr tb t = true) : P.underlying t = some .string := by
  unfold isStr at hst
  split at hst
  · rename_i i hi
    split at hst
    · rename_i hd; rw [(hT t i hi).und, hd]
    · cases hst
  · cases hst
theorem map_some {α β : Type} {x : Option α} {f : α → β} {y : β} (h : x.map f = some y) : ∃ a, x = some a ∧ f a = y := by
  cases x with
  | none => cases h
  | some a => exact ⟨a, rfl, by simpa using h⟩
theorem offs_ok (hT : ∀ t i, tb.ty.get t = some i → TyOK P t i) : ∀ {fs : List Field} {os : List (Nat × Nat)}, offs tb fs = some os → fs.mapM (fun f => (P.info? f.type).map fun i => (f.offset, i.size)) = some os
  | [], os, h => by cases h; rfl
  | f :: fs, os, h => by
    simp only [offs] at h
    cases h1 : tb.ty.get f.type with
    | none => rw [h1] at h; cases h
    | some i =>
      rw [h1] at h
      cases h2 : offs tb fs with
      | none => rw [h2] at h; cases h
      | some r =>
        rw [h2] at h
        cases h
        obtain ⟨inf, z, hi, hs, _⟩ := (hT _ _ h1).info
        simp [List.mapM_cons, hi, hs, offs_ok hT h2]
theorem xBuild_ok (hT : ∀ t i, tb.ty.get t = some i → TyOK P t i) (hE : EvOK θ n ev ρ) {t : TypeId} {parts : Array (Nat × Operand)} {v : AV} (h : xBuild tb ev t parts = some v) (w : World) :
    bd θ n v ∧ (Instr.build t (parts.map fun (i, x) => (i, ρ x))).run P w = .ok (conc θ v) w := by
  unfold xBuild at h
  split at h
  · rename_i i ps hi hp
    obtain ⟨hb, he⟩ := evps_ok hE hp
    have he' : (parts.map fun (i, x) => (i, ρ x)).toList = ps.map fun p => (p.1, conc θ p.2) := by rw [Array.toList_map]; exact he
    obtain ⟨inf, z, hinf, _, _, hz, hzc⟩ := (hT t i hi).info
    have hzc' : z.cells = ((i.zero.map AV.lit).map (conc θ)).toArray := by rw [conc_lits, ← hzc]
    unfold xBuild2 at h
    split at h
    · rename_i fs hd
      split at h
      · rename_i os ho
        obtain ⟨out, hf, rfl⟩ := map_some h
        obtain ⟨a, b, c⟩ := afill_ok (θ := θ) hf (bd_lits i.zero) hb
        refine ⟨by simp only [bd]; exact a, ?_⟩
        rw [run_build (P := P) w t _ (out.map (conc θ)).toArray ?_]
        · simp only [conc]
        · unfold Program.built
          rw [hinf, (hT t i hi).und, hd]
          simp only [hz, offs_ok hT ho, he']
          rw [hzc', ← c]
          simp
      · cases h
    · rename_i len el hd
      split at h
      · rename_i j hj
        obtain ⟨out, hf, rfl⟩ := map_some h
        obtain ⟨a, b, c⟩ := afill_ok (θ := θ) hf (bd_lits i.zero) hb
        refine ⟨by simp only [bd]; exact a, ?_⟩
        obtain ⟨infe, ze, hie, hse, _⟩ := (hT el j hj).info
        rw [run_build (P := P) w t _ (out.map (conc θ)).toArray ?_]
        · simp only [conc]
        · unfold Program.built
          rw [hinf, (hT t i hi).und, hd]
          simp only [hz, hie, he', hse]
          rw [hzc', ← c]
      · cases h
    · cases h
  · cases h
theorem xMakeFunc_ok (hE : EvOK θ n ev ρ) {g : Fn} {first cap : Array Operand} {v : AV} (h : xMakeFunc ev g first cap = some v) (w : World) : bd θ n v ∧ (Instr.makeFunc g (first.map ρ) (cap.map ρ)).run P w = .ok (conc θ v) w := by
  unfold xMakeFunc at h
  split at h
  · rename_i f
    split at h
    · rename_i a b ha hb
      cases h
      obtain ⟨p, q⟩ := evs_ok hE ha
      obtain ⟨r, u⟩ := evs_ok hE hb
      refine ⟨by simp only [bd]; exact ⟨p, r⟩, ?_⟩
      have e1 : first.map ρ = (a.map (conc θ)).toArray := by rw [← q]; apply Array.toList_inj.1; simp
      have e2 : cap.map ρ = (b.map (conc θ)).toArray := by rw [← u]; apply Array.toList_inj.1; simp
      simp [Instr.makeFunc, conc, e1, e2]
    · cases h
  · cases h
theorem xExtract_ok (hE : EvOK θ n ev ρ) {x : Operand} {ix : Nat} {v : AV} (h : xExtract ev x ix = some v) (w : World) : bd θ n v ∧ (Instr.extract (ρ x) ix).run P w = .ok (conc θ v) w := by
  unfold xExtract at h
  split at h
  · rename_i vs hx
    obtain ⟨hb, hx'⟩ := hE x _ hx
    simp only [bd] at hb
    refine ⟨hb v (List.mem_of_getElem? h), ?_⟩
    rw [hx']
    simp [Instr.extract, conc, h]
  · cases h
theorem abound_ok {l : Option Operand} {a : Option AV} (hE : EvOK θ n ev ρ) (ha : evo ev l = some a) {d y r : Nat} (h : abound a d y = some r) {y' : Nat} (hy : y ≤ y') (code : BoundsCode) (w : World) :
    (match l.map ρ with | some v => Instr.sliceBound v y' code | none => pure d : Sem Nat).run P w = .ok r w ∧ (l = none → r = d) ∧ (l ≠ none → r ≤ y) := by
  cases l with
  | none => cases ha; cases h; exact ⟨by simp, fun _ => rfl, fun h => absurd rfl h⟩
  | some x =>
    obtain ⟨v, hv, rfl⟩ := map_some ha
    simp only [abound] at h
    cases hi : aint v with
    | none => rw [hi] at h; cases h
    | some p =>
      obtain ⟨k, i⟩ := p
      rw [hi] at h
      simp only at h
      split at h
      · rename_i hc
        cases h
        have hx := (hE x _ hv).2
        rw [aint_ok hi] at hx
        refine ⟨?_, fun h => by simp at h, fun _ => by omega⟩
        have hc' : 0 ≤ i ∧ i ≤ (y' : Int) := by omega
        simp only [Option.map_some, hx, conc_lit, Instr.sliceBound, asIntOf, Sem.run_bind, Sem.run_pure, Result.andThen, hc', and_self, if_true]
      · cases h
theorem xSlice_ok (hT : ∀ t i, tb.ty.get t = some i → TyOK P t i) (hE : EvOK θ n ev ρ) {t : TypeId} {x : Operand} {lo hi mx : Option Operand} {v : AV} (h : xSlice tb ev t x lo hi mx = some v) (w : World) :
    bd θ n v ∧ (Instr.sliceAt t (ρ x) (lo.map ρ) (hi.map ρ) (mx.map ρ)).run P w = .ok (conc θ v) w := by
  unfold xSlice at h
  split at h
  · rename_i id off len sub hx
    obtain ⟨hb, hx'⟩ := hE x _ hx
    simp only [bd] at hb
    obtain ⟨hid, hc⟩ := hb
    split at h
    · rename_i el j l hh hsl hl hhi hmx
      have hmx : mx = none := by
        cases mx with
        | none => rfl
        | some y => simp only [evo] at hmx; obtain ⟨_, _, hy⟩ := map_some hmx; cases hy
      subst hmx
      unfold xSlice2 at h
      split at h
      · rename_i H hH
        split at h
        · rename_i L hL
          split at h
          · rename_i hlt
            cases h
            obtain ⟨hu, hj⟩ := asliceOf_ok hT hsl
            obtain ⟨r1, q1, q2⟩ := abound_ok (P := P) hE hhi hH (show len ≤ (θ id).c - sub by omega) .sliceAcap w
            obtain ⟨r2, q3, q4⟩ := abound_ok (P := P) hE hl hL (Nat.le_refl H) .sliceB w
            have hHlen : H ≤ len := by
              by_cases hn : hi = none
              · rw [q1 hn]; exact Nat.le_refl _
              · exact q2 hn
            have hLH : L ≤ H := by
              by_cases hn : lo = none
              · rw [q3 hn]; exact Nat.zero_le _
              · exact q4 hn
            refine ⟨by simp only [bd]; exact ⟨hid, by omega⟩, ?_⟩
            rw [hx']
            have hbounds : (Instr.sliceBounds true len ((θ id).c - sub) (lo.map ρ) (hi.map ρ) none).run P w = .ok (L, H, (θ id).c - sub) w := by
              unfold Instr.sliceBounds
              cases hi <;> cases lo <;> simp only [Option.map_none, Option.map_some] at r1 r2 ⊢ <;>
                simp [Sem.run_bind, Result.andThen] at r1 r2 ⊢ <;> simp [r1, r2, Result.andThen]
            have hne : ¬ ((θ id).c - sub = L) := by omega
            unfold Instr.sliceAt
            simp only [Sem.run_bind, run_underlying hu w, Result.andThen, conc, Instr.slice, Option.map_none, hbounds, run_size hj w]
            simp [hne, Addr.add, Nat.sub_sub]
          · cases h
        · cases h
      · cases h
    · rename_i el j l hh m hne hsl hl hhi hmx
      unfold xSliceX at h
      split at h
      · rename_i um uh
        split at h
        · rename_i M hM
          split at h
          · rename_i H hH
            split at h
            · rename_i L hL
              cases h
              obtain ⟨hu, hj⟩ := asliceOf_ok hT hsl
              obtain ⟨r0, p1, p2⟩ := abound_ok (P := P) hE hmx hM (show len ≤ (θ id).c - sub by omega) .slice3Acap w
              obtain ⟨r1, q1, q2⟩ := abound_ok (P := P) hE hhi hH (Nat.le_refl M) .slice3B w
              obtain ⟨r2, q3, q4⟩ := abound_ok (P := P) hE hl hL (Nat.le_refl H) .slice3C w
              cases mx with
              | none => cases hmx
              | some my =>
                cases hi with
                | none => cases hhi
                | some hy =>
                  have hMl : M ≤ len := p2 (by simp)
                  have hHM : H ≤ M := q2 (by simp)
                  have hLH : L ≤ H := by
                    by_cases hn : lo = none
                    · rw [q3 hn]; exact Nat.zero_le _
                    · exact q4 hn
                  refine ⟨by simp only [bd]; exact hid, ?_⟩
                  rw [hx']
                  simp only [Option.map_some] at r0 r1
                  have hbounds : (Instr.sliceBounds true len ((θ id).c - sub) (lo.map ρ) (some (ρ hy)) (some (ρ my))).run P w = .ok (L, H, M) w := by
                    unfold Instr.sliceBounds
                    cases lo <;> simp only [Option.map_none, Option.map_some] at r2 ⊢ <;>
                      simp [Sem.run_bind, Result.andThen] at r0 r1 r2 ⊢ <;> simp [r0, r1, r2, Result.andThen]
                  unfold Instr.sliceAt
                  simp only [Sem.run_bind, run_underlying hu w, Result.andThen, conc, Instr.slice, Option.map_some, hbounds, run_size hj w]
                  by_cases hML : M = L
                  · simp [hML]
                  · simp [hML, Addr.add]
            · cases h
          · cases h
        · cases h
      · cases h
    · cases h
  · rename_i str hx
    have hx' := (hE x _ hx).2
    rw [conc_lit] at hx'
    split at h
    · rename_i l hh hl hhi
      split at h
      · rename_i hst
        unfold xSliceS at h
        split at h
        · rename_i H hH
          split at h
          · rename_i L hL
            cases h
            obtain ⟨r1, _, _⟩ := abound_ok (P := P) hE hhi hH (Nat.le_refl _) .sliceAlen w
            obtain ⟨r2, _, _⟩ := abound_ok (P := P) hE hl hL (Nat.le_refl H) .sliceB w
            have hu := isStr_ok hT hst
            refine ⟨by simp [bd], ?_⟩
            have hbounds : (Instr.sliceBounds false str.size str.size (lo.map ρ) (hi.map ρ) none).run P w = .ok (L, H, str.size) w := by
              unfold Instr.sliceBounds
              cases hi <;> cases lo <;> simp only [Option.map_none, Option.map_some] at r1 r2 ⊢ <;>
                simp [Sem.run_bind, Result.andThen] at r1 r2 ⊢ <;> simp [r1, r2, Result.andThen]
            rw [hx']
            unfold Instr.sliceAt
            simp only [Sem.run_bind, run_underlying hu w, Result.andThen, Instr.slice, Option.map_none, hbounds, conc]
            simp [Sem.run_bind, hbounds, Result.andThen]
          · cases h
        · cases h
      · cases h
    · cases h
  · cases h
theorem xMin_ok (hE : EvOK θ n ev ρ) {args : Array Operand} {ts : Array TypeId} {ty : TypeId} {v : AV} (h : xMin ev args = some v) (w : World) : bd θ n v ∧ (Builtin.min_ ts ty (args.map ρ)).run P w = .ok (conc θ v) w := by
  unfold xMin at h
  split at h
  · rename_i x y hx
    unfold xMin2 at h
    split at h
    · rename_i k a k' b ha hb
      cases h
      have e1 := (hE x _ ha).2
      have e2 := (hE y _ hb).2
      rw [conc_lit] at e1 e2
      refine ⟨by simp [bd], ?_⟩
      unfold Builtin.min_
      rw [Array.toList_map, hx]
      simp [e1, e2, Builtin.min2, conc]
    · cases h
  · cases h
theorem xMax_ok (hE : EvOK θ n ev ρ) {args : Array Operand} {ts : Array TypeId} {ty : TypeId} {v : AV} (h : xMax ev args = some v) (w : World) : bd θ n v ∧ (Builtin.max_ ts ty (args.map ρ)).run P w = .ok (conc θ v) w := by
  unfold xMax at h
  split at h
  · rename_i x y hx
    unfold xMax2 at h
    split at h
    · rename_i k a k' b ha hb
      cases h
      have e1 := (hE x _ ha).2
      have e2 := (hE y _ hb).2
      rw [conc_lit] at e1 e2
      refine ⟨by simp [bd], ?_⟩
      unfold Builtin.max_
      rw [Array.toList_map, hx]
      simp [e1, e2, Builtin.max2, conc]
    · cases h
  · cases h
theorem xLen_ok (hT : ∀ t i, tb.ty.get t = some i → TyOK P t i) (hE : EvOK θ n ev ρ) {args : Array Operand} {ts : Array TypeId} {ty : TypeId} {v : AV} (h : xLen tb ev args ts = some v) (w : World) :
    bd θ n v ∧ (Builtin.len_ ts ty (args.map ρ)).run P w = .ok (conc θ v) w := by
  unfold xLen at h
  split at h
  · rename_i t x ht hx
    split at h
    · rename_i i u hi hu
      obtain ⟨hb, hx'⟩ := hE x _ hu
      have e0 : ts[0]? = some t := by rw [← Array.getElem?_toList, ht]; rfl
      have e1 : (args.map ρ)[0]? = some (conc θ u) := by rw [← Array.getElem?_toList, Array.toList_map, hx]; simp [hx']
      have hund := run_und (hT t i hi) w
      unfold xLen2 at h
      split at h <;> first
        | (cases h; done)
        | (rename_i hd; cases h
           refine ⟨by simp [bd], ?_⟩
           unfold Builtin.len_
           simp [e0, e1, Sem.run_bind, Result.andThen, hund, hd, conc, goInt])
        | (cases h
           rename_i hd
           refine ⟨by simp [bd], ?_⟩
           unfold Builtin.len_
           simp [e0, e1, Sem.run_bind, Result.andThen, hund, hd, conc, goInt])
    · cases h
  · cases h
/-- An operation that touches no memory. -/
theorem xpure_ok (hT : ∀ t i, tb.ty.get t = some i → TyOK P t i) (hQ : PairsOK P tb) (hE : EvOK θ n ev ρ) {o : Oper} {v : AV} (h : xpure tb ev o = some v) (w : World) :
    bd θ n v ∧ (execOp ρ o).run P w = .ok (.value (conc θ v)) w := by
  unfold xpure at h
  unfold execOp
  split at h <;> rename_i ho <;> simp only [ho] <;> try (cases h; done)
  · obtain ⟨a, b⟩ := hE _ _ h; exact ⟨a, by rw [b]; rfl⟩
  · obtain ⟨a, b⟩ := hE _ _ h; exact ⟨a, by rw [b]; rfl⟩
  · exact xPick_ok hE h w
  · obtain ⟨a, b⟩ := xBin_ok hT hQ hE h w; exact ⟨a, run_val b⟩
  · obtain ⟨a, b⟩ := xUn_ok hE h w; exact ⟨a, run_val b⟩
  · obtain ⟨a, b⟩ := xConv_ok hT hE h w; exact ⟨a, run_val b⟩
  · obtain ⟨a, b⟩ := xFieldAddr_ok hT hE h w; exact ⟨a, run_val b⟩
  · obtain ⟨a, b⟩ := xIndexAddr_ok hT hE h w; exact ⟨a, run_val b⟩
  · obtain ⟨a, b⟩ := xField_ok hT hE h w; exact ⟨a, run_val b⟩
  · obtain ⟨a, b⟩ := xIndex_ok hT hE h w; exact ⟨a, run_val b⟩
  · obtain ⟨a, b⟩ := xBuild_ok hT hE h w; exact ⟨a, run_val b⟩
  · obtain ⟨a, b⟩ := xMakeFunc_ok hE h w; exact ⟨a, run_val b⟩
  · obtain ⟨a, b⟩ := xExtract_ok hE h w; exact ⟨a, run_val b⟩
  · obtain ⟨a, b⟩ := xSlice_ok hT hE h w; exact ⟨a, run_val b⟩
  · rename_i c
    unfold xpureCall at h
    split at h
    · rename_i hc
      obtain ⟨a, b⟩ := xLen_ok (ty := o.type) hT hE h w
      refine ⟨a, ?_⟩
      simp only [resolve, hc, invoke, builtin, Sem.run_bind, Sem.run_pure, Result.andThen]
      rw [b]
    · rename_i hc
      obtain ⟨a, b⟩ := xMin_ok (P := P) (ts := c.argTypes) (ty := o.type) hE h w
      refine ⟨a, ?_⟩
      simp only [resolve, hc, invoke, builtin, Sem.run_bind, Sem.run_pure, Result.andThen]
      rw [b]
    · rename_i hc
      obtain ⟨a, b⟩ := xMax_ok (P := P) (ts := c.argTypes) (ty := o.type) hE h w
      refine ⟨a, ?_⟩
      simp only [resolve, hc, invoke, builtin, Sem.run_bind, Sem.run_pure, Result.andThen]
      rw [b]
    · cases h
  · rename_i x
    unfold xNil at h
    split at h
    · rename_i id off hx
      cases h
      obtain ⟨a, b⟩ := hE _ _ hx
      refine ⟨a, ?_⟩
      rw [b]
      simp [conc]
    · cases h
  · rename_i t x
    unfold xIfc at h
    split at h <;> try (cases h; done)
    rename_i u hx
    split at h <;> try (cases h; done)
    rename_i i hi
    split at h <;> try (cases h; done)
    rename_i hni
    cases h
    obtain ⟨a, b⟩ := hE _ _ hx
    refine ⟨by simp only [bd]; exact a, run_val ?_⟩
    unfold Instr.makeInterface
    simp only [Sem.run_bind, run_und (hT t i hi) w, Result.andThen, b]
    cases hd : i.desc <;> first | exact absurd hd (hni _) | simp [conc]
end
end Go.Proofs.YtknplcpjmpmblaaDoor.GX
