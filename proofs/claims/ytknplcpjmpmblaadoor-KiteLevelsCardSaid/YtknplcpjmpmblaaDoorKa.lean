/- Kites: what small functions give. -/
import Derived.Test.YtknplcpjmpmblaaDoorTy
set_option linter.unusedVariables false
set_option linter.unusedSimpArgs false
namespace Go.Proofs.YtknplcpjmpmblaaDoor.GY
open Go Go.RowKit Go.Proofs
noncomputable def FBtw : GSpec := fun gs => match gs with
  | [.lit (.int .i64 n), .lit (.int .i64 lo), .lit (.int .i64 hi)] => some (.sb (decide (lo ≤ n ∧ n ≤ hi)), [])
  | _ => none
noncomputable def tbBtw : Tab := mkTab tyAll Tryd.prog [] [] []
theorem tbBtw_ok : ∀ base, TabOK Tryd.prog tbBtw base :=
  mkTab_ok mixedP tyAll_ok (fun p hp => by cases hp) (fun p hp => by cases hp)
set_option maxRecDepth 100000 in
theorem spBtw : FnSpec Tryd.prog 78 FBtw := by
  refine spec_body tbBtw_ok Tryd.func78 (by kernel_rfl) (by kernel_rfl) fun gs g ps hF hps => ?_
  unfold FBtw at hF
  split at hF <;> try (cases hF; done)
  rename_i n lo hi
  cases hF
  refine ⟨_, _, rfl, ⟨Nat.le_of_ble_eq_true (by kernel_rfl), Nat.le_of_ble_eq_true (by kernel_rfl)⟩, fun base E hE => ?_⟩
  cases ht0 : (decide (lo ≤ n))
  · have hp0 := ht0
    try simp only [decide_eq_true_eq, decide_eq_false_iff_not, Bool.not_eq_true', Bool.not_eq_false', Bool.not_eq_eq_eq_not, Bool.not_true, Bool.not_false] at hp0
    first | (exfalso; omega) | skip
    refine Tri.run tbBtw_ok [false] (of_skel (q := (EqB (decide (lo ≤ n)) false ∧ True) ∧ (EqB false (decide (lo ≤ n ∧ n ≤ hi)) ∧ True) ∧ True) (by kernel_rfl) ?_)
    ((repeat' apply And.intro) <;> first | exact trivial | exact ⟨rfl⟩ | (refine ⟨?_⟩; assumption) | (refine inR64 ?_ ?_ <;> omega) | (refine ⟨?_⟩; omega) | (refine ⟨?_⟩; rw [Bool.eq_iff_iff]; simp only [decide_eq_true_eq, decide_eq_false_iff_not, Bool.false_eq_true, Bool.true_eq_false, Bool.not_eq_true', Bool.and_eq_true, Bool.or_eq_true, Bool.not_eq_false', false_iff, iff_false, true_iff, iff_true]; omega) | (refine ⟨?_⟩; simp_all; done) | (refine ⟨?_⟩; simp; omega))
  · have hp0 := ht0
    try simp only [decide_eq_true_eq, decide_eq_false_iff_not, Bool.not_eq_true', Bool.not_eq_false', Bool.not_eq_eq_eq_not, Bool.not_true, Bool.not_false] at hp0
    first | (exfalso; omega) | skip
    refine Tri.run tbBtw_ok [true] (of_skel (q := (EqB (decide (lo ≤ n)) true ∧ True) ∧ (EqB (decide (n ≤ hi)) (decide (lo ≤ n ∧ n ≤ hi)) ∧ True) ∧ True) (by kernel_rfl) ?_)
    ((repeat' apply And.intro) <;> first | exact trivial | exact ⟨rfl⟩ | (refine ⟨?_⟩; assumption) | (refine inR64 ?_ ?_ <;> omega) | (refine ⟨?_⟩; omega) | (refine ⟨?_⟩; rw [Bool.eq_iff_iff]; simp only [decide_eq_true_eq, decide_eq_false_iff_not, Bool.false_eq_true, Bool.true_eq_false, Bool.not_eq_true', Bool.and_eq_true, Bool.or_eq_true, Bool.not_eq_false', false_iff, iff_false, true_iff, iff_true]; omega) | (refine ⟨?_⟩; simp_all; done) | (refine ⟨?_⟩; simp; omega))

noncomputable def FWth : GSpec := fun gs => match gs with
  | [.lit (.int .i64 n), .agg [.lit (.int .i64 lo), .lit (.int .i64 hi)]] => some (.sb (decide (lo ≤ n ∧ n ≤ hi)), [])
  | _ => none
noncomputable def tbWth : Tab := mkTab tyAll Tryd.prog [] [(78, FBtw)] []
theorem tbWth_ok : ∀ base, TabOK Tryd.prog tbWth base :=
  mkTab_ok mixedP tyAll_ok (fun p hp => by
    rcases List.mem_cons.1 hp with rfl | hp
    · exact spBtw
    cases hp) (fun p hp => by cases hp)
set_option maxRecDepth 100000 in
theorem spWth : FnSpec Tryd.prog 72 FWth := by
  refine spec_body tbWth_ok Tryd.func72 (by kernel_rfl) (by kernel_rfl) fun gs g ps hF hps => ?_
  unfold FWth at hF
  split at hF <;> try (cases hF; done)
  rename_i n lo hi
  cases hF
  refine ⟨_, _, rfl, ⟨Nat.le_of_ble_eq_true (by kernel_rfl), Nat.le_of_ble_eq_true (by kernel_rfl)⟩, fun base E hE => ?_⟩
  refine Tri.run tbWth_ok [] (of_skel (q := True ∧ (EqB (decide (lo ≤ n ∧ n ≤ hi)) (decide (lo ≤ n ∧ n ≤ hi)) ∧ True) ∧ True) (by kernel_rfl) ?_)
  ((repeat' apply And.intro) <;> first | exact trivial | exact ⟨rfl⟩ | (refine ⟨?_⟩; assumption) | (refine inR64 ?_ ?_ <;> omega) | (refine ⟨?_⟩; omega) | (refine ⟨?_⟩; rw [Bool.eq_iff_iff]; simp only [decide_eq_true_eq, decide_eq_false_iff_not, Bool.false_eq_true, Bool.true_eq_false, Bool.not_eq_true', Bool.and_eq_true, Bool.or_eq_true, Bool.not_eq_false', false_iff, iff_false, true_iff, iff_true]; omega) | (refine ⟨?_⟩; simp_all; done) | (refine ⟨?_⟩; simp; omega))

noncomputable def FSsp : GSpec := fun gs => match gs with
  | [.agg [.lit (.int .i64 a), .lit (.int .i64 b)], .lit (.int .i64 lo), .lit (.int .i64 hi)] => some (.sb (decide (lo ≤ a ∧ a ≤ b ∧ b ≤ hi)), [])
  | _ => none
noncomputable def tbSsp : Tab := mkTab tyAll Tryd.prog [] [] []
theorem tbSsp_ok : ∀ base, TabOK Tryd.prog tbSsp base :=
  mkTab_ok mixedP tyAll_ok (fun p hp => by cases hp) (fun p hp => by cases hp)
set_option maxRecDepth 100000 in
theorem spSsp : FnSpec Tryd.prog 101 FSsp := by
  refine spec_body tbSsp_ok Tryd.func101 (by kernel_rfl) (by kernel_rfl) fun gs g ps hF hps => ?_
  unfold FSsp at hF
  split at hF <;> try (cases hF; done)
  rename_i a b lo hi
  cases hF
  refine ⟨_, _, rfl, ⟨Nat.le_of_ble_eq_true (by kernel_rfl), Nat.le_of_ble_eq_true (by kernel_rfl)⟩, fun base E hE => ?_⟩
  cases ht0 : (decide (lo ≤ a))
  · have hp0 := ht0
    try simp only [decide_eq_true_eq, decide_eq_false_iff_not, Bool.not_eq_true', Bool.not_eq_false', Bool.not_eq_eq_eq_not, Bool.not_true, Bool.not_false] at hp0
    first | (exfalso; omega) | skip
    refine Tri.run tbSsp_ok [false] (of_skel (q := (EqB (decide (lo ≤ a)) false ∧ True) ∧ (EqB false (decide (lo ≤ a ∧ a ≤ b ∧ b ≤ hi)) ∧ True) ∧ True) (by kernel_rfl) ?_)
    ((repeat' apply And.intro) <;> first | exact trivial | exact ⟨rfl⟩ | (refine ⟨?_⟩; assumption) | (refine inR64 ?_ ?_ <;> omega) | (refine ⟨?_⟩; omega) | (refine ⟨?_⟩; rw [Bool.eq_iff_iff]; simp only [decide_eq_true_eq, decide_eq_false_iff_not, Bool.false_eq_true, Bool.true_eq_false, Bool.not_eq_true', Bool.and_eq_true, Bool.or_eq_true, Bool.not_eq_false', false_iff, iff_false, true_iff, iff_true]; omega) | (refine ⟨?_⟩; simp_all; done) | (refine ⟨?_⟩; simp; omega))
  · have hp0 := ht0
    try simp only [decide_eq_true_eq, decide_eq_false_iff_not, Bool.not_eq_true', Bool.not_eq_false', Bool.not_eq_eq_eq_not, Bool.not_true, Bool.not_false] at hp0
    first | (exfalso; omega) | skip
    cases ht1 : (decide (a ≤ b))
    · have hp1 := ht1
      try simp only [decide_eq_true_eq, decide_eq_false_iff_not, Bool.not_eq_true', Bool.not_eq_false', Bool.not_eq_eq_eq_not, Bool.not_true, Bool.not_false] at hp1
      first | (exfalso; omega) | skip
      refine Tri.run tbSsp_ok [true, false] (of_skel (q := (EqB (decide (a ≤ b)) false ∧ EqB (decide (lo ≤ a)) true ∧ True) ∧ (EqB false (decide (lo ≤ a ∧ a ≤ b ∧ b ≤ hi)) ∧ True) ∧ True) (by kernel_rfl) ?_)
      ((repeat' apply And.intro) <;> first | exact trivial | exact ⟨rfl⟩ | (refine ⟨?_⟩; assumption) | (refine inR64 ?_ ?_ <;> omega) | (refine ⟨?_⟩; omega) | (refine ⟨?_⟩; rw [Bool.eq_iff_iff]; simp only [decide_eq_true_eq, decide_eq_false_iff_not, Bool.false_eq_true, Bool.true_eq_false, Bool.not_eq_true', Bool.and_eq_true, Bool.or_eq_true, Bool.not_eq_false', false_iff, iff_false, true_iff, iff_true]; omega) | (refine ⟨?_⟩; simp_all; done) | (refine ⟨?_⟩; simp; omega))
    · have hp1 := ht1
      try simp only [decide_eq_true_eq, decide_eq_false_iff_not, Bool.not_eq_true', Bool.not_eq_false', Bool.not_eq_eq_eq_not, Bool.not_true, Bool.not_false] at hp1
      first | (exfalso; omega) | skip
      refine Tri.run tbSsp_ok [true, true] (of_skel (q := (EqB (decide (a ≤ b)) true ∧ EqB (decide (lo ≤ a)) true ∧ True) ∧ (EqB (decide (b ≤ hi)) (decide (lo ≤ a ∧ a ≤ b ∧ b ≤ hi)) ∧ True) ∧ True) (by kernel_rfl) ?_)
      ((repeat' apply And.intro) <;> first | exact trivial | exact ⟨rfl⟩ | (refine ⟨?_⟩; assumption) | (refine inR64 ?_ ?_ <;> omega) | (refine ⟨?_⟩; omega) | (refine ⟨?_⟩; rw [Bool.eq_iff_iff]; simp only [decide_eq_true_eq, decide_eq_false_iff_not, Bool.false_eq_true, Bool.true_eq_false, Bool.not_eq_true', Bool.and_eq_true, Bool.or_eq_true, Bool.not_eq_false', false_iff, iff_false, true_iff, iff_true]; omega) | (refine ⟨?_⟩; simp_all; done) | (refine ⟨?_⟩; simp; omega))

noncomputable def FNar : GSpec := fun gs => match gs with
  | [.agg [.lit (.int .i64 a), .lit (.int .i64 b)], .lit (.int .i64 lo), .lit (.int .i64 hi), .lit (.int .i64 w)] => some (.sb (decide (lo ≤ a ∧ a ≤ b ∧ b ≤ hi ∧ b - a ≤ w)), [InR .i64 lo, InR .i64 hi, InR .i64 (hi - lo)])
  | _ => none
noncomputable def tbNar : Tab := mkTab tyAll Tryd.prog [] [(101, FSsp)] []
theorem tbNar_ok : ∀ base, TabOK Tryd.prog tbNar base :=
  mkTab_ok mixedP tyAll_ok (fun p hp => by
    rcases List.mem_cons.1 hp with rfl | hp
    · exact spSsp
    cases hp) (fun p hp => by cases hp)
set_option maxRecDepth 100000 in
theorem spNar : FnSpec Tryd.prog 108 FNar := by
  refine spec_body tbNar_ok Tryd.func108 (by kernel_rfl) (by kernel_rfl) fun gs g ps hF hps => ?_
  unfold FNar at hF
  split at hF <;> try (cases hF; done)
  rename_i a b lo hi w
  cases hF
  obtain ⟨h0, h1, h2, _⟩ := hps
  have q0 := h0.p; have q1 := h1.p; have q2 := h2.p
  simp only at q0 q1 q2
  refine ⟨_, _, rfl, ⟨Nat.le_of_ble_eq_true (by kernel_rfl), Nat.le_of_ble_eq_true (by kernel_rfl)⟩, fun base E hE => ?_⟩
  cases ht0 : (decide (lo ≤ a ∧ a ≤ b ∧ b ≤ hi))
  · have hp0 := ht0
    try simp only [decide_eq_true_eq, decide_eq_false_iff_not, Bool.not_eq_true', Bool.not_eq_false', Bool.not_eq_eq_eq_not, Bool.not_true, Bool.not_false] at hp0
    first | (exfalso; omega) | skip
    refine Tri.run tbNar_ok [false] (of_skel (q := (EqB (decide (lo ≤ a ∧ a ≤ b ∧ b ≤ hi)) false ∧ True) ∧ (EqB false (decide (lo ≤ a ∧ a ≤ b ∧ b ≤ hi ∧ b - a ≤ w)) ∧ True) ∧ True) (by kernel_rfl) ?_)
    ((repeat' apply And.intro) <;> first | exact trivial | exact ⟨rfl⟩ | (refine ⟨?_⟩; assumption) | (refine inR64 ?_ ?_ <;> omega) | (refine ⟨?_⟩; omega) | (refine ⟨?_⟩; rw [Bool.eq_iff_iff]; simp only [decide_eq_true_eq, decide_eq_false_iff_not, Bool.false_eq_true, Bool.true_eq_false, Bool.not_eq_true', Bool.and_eq_true, Bool.or_eq_true, Bool.not_eq_false', false_iff, iff_false, true_iff, iff_true]; omega) | (refine ⟨?_⟩; simp_all; done) | (refine ⟨?_⟩; simp; omega))
  · have hp0 := ht0
    try simp only [decide_eq_true_eq, decide_eq_false_iff_not, Bool.not_eq_true', Bool.not_eq_false', Bool.not_eq_eq_eq_not, Bool.not_true, Bool.not_false] at hp0
    first | (exfalso; omega) | skip
    refine Tri.run tbNar_ok [true] (of_skel (q := (InR IntKind.i64 (b - a) ∧ EqB (decide (lo ≤ a ∧ a ≤ b ∧ b ≤ hi)) true ∧ True) ∧ (EqB (decide (b - a ≤ w)) (decide (lo ≤ a ∧ a ≤ b ∧ b ≤ hi ∧ b - a ≤ w)) ∧ True) ∧ True) (by kernel_rfl) ?_)
    ((repeat' apply And.intro) <;> first | exact trivial | exact ⟨rfl⟩ | (refine ⟨?_⟩; assumption) | (refine inR64 ?_ ?_ <;> omega) | (refine ⟨?_⟩; omega) | (refine ⟨?_⟩; rw [Bool.eq_iff_iff]; simp only [decide_eq_true_eq, decide_eq_false_iff_not, Bool.false_eq_true, Bool.true_eq_false, Bool.not_eq_true', Bool.and_eq_true, Bool.or_eq_true, Bool.not_eq_false', false_iff, iff_false, true_iff, iff_true]; omega) | (refine ⟨?_⟩; simp_all; done) | (refine ⟨?_⟩; simp; omega))

noncomputable def FLin : GSpec := fun gs => match gs with
  | [.agg [.lit (.int .i64 a), .lit (.int .i64 b), .lit (.int .i64 c), .lit (.int .i64 d), .lit (.int .i64 e), .lit (.int .i64 f)]] => some (.sb (decide ((0 ≤ a ∧ a ≤ b ∧ b ≤ 10000) ∧ (0 ≤ c ∧ c ≤ d ∧ d ≤ 90) ∧ (0 ≤ e ∧ e ≤ f ∧ f ≤ 1000))), [])
  | _ => none
noncomputable def tbLin : Tab := mkTab tyAll Tryd.prog [] [(101, FSsp)] []
theorem tbLin_ok : ∀ base, TabOK Tryd.prog tbLin base :=
  mkTab_ok mixedP tyAll_ok (fun p hp => by
    rcases List.mem_cons.1 hp with rfl | hp
    · exact spSsp
    cases hp) (fun p hp => by cases hp)
set_option maxRecDepth 100000 in
theorem spLin : FnSpec Tryd.prog 66 FLin := by
  refine spec_body tbLin_ok Tryd.func66 (by kernel_rfl) (by kernel_rfl) fun gs g ps hF hps => ?_
  unfold FLin at hF
  split at hF <;> try (cases hF; done)
  rename_i a b c d e f
  cases hF
  refine ⟨_, _, rfl, ⟨Nat.le_of_ble_eq_true (by kernel_rfl), Nat.le_of_ble_eq_true (by kernel_rfl)⟩, fun base E hE => ?_⟩
  cases ht0 : (decide (0 ≤ a ∧ a ≤ b ∧ b ≤ 10000))
  · have hp0 := ht0
    try simp only [decide_eq_true_eq, decide_eq_false_iff_not, Bool.not_eq_true', Bool.not_eq_false', Bool.not_eq_eq_eq_not, Bool.not_true, Bool.not_false] at hp0
    first | (exfalso; omega) | skip
    refine Tri.run tbLin_ok [false] (of_skel (q := (EqB (decide (0 ≤ a ∧ a ≤ b ∧ b ≤ 10000)) false ∧ True) ∧ (EqB false (decide ((0 ≤ a ∧ a ≤ b ∧ b ≤ 10000) ∧ (0 ≤ c ∧ c ≤ d ∧ d ≤ 90) ∧ 0 ≤ e ∧ e ≤ f ∧ f ≤ 1000)) ∧ True) ∧ True) (by kernel_rfl) ?_)
    ((repeat' apply And.intro) <;> first | exact trivial | exact ⟨rfl⟩ | (refine ⟨?_⟩; assumption) | (refine inR64 ?_ ?_ <;> omega) | (refine ⟨?_⟩; omega) | (refine ⟨?_⟩; rw [Bool.eq_iff_iff]; simp only [decide_eq_true_eq, decide_eq_false_iff_not, Bool.false_eq_true, Bool.true_eq_false, Bool.not_eq_true', Bool.and_eq_true, Bool.or_eq_true, Bool.not_eq_false', false_iff, iff_false, true_iff, iff_true]; omega) | (refine ⟨?_⟩; simp_all; done) | (refine ⟨?_⟩; simp; omega))
  · have hp0 := ht0
    try simp only [decide_eq_true_eq, decide_eq_false_iff_not, Bool.not_eq_true', Bool.not_eq_false', Bool.not_eq_eq_eq_not, Bool.not_true, Bool.not_false] at hp0
    first | (exfalso; omega) | skip
    cases ht1 : (decide (0 ≤ c ∧ c ≤ d ∧ d ≤ 90))
    · have hp1 := ht1
      try simp only [decide_eq_true_eq, decide_eq_false_iff_not, Bool.not_eq_true', Bool.not_eq_false', Bool.not_eq_eq_eq_not, Bool.not_true, Bool.not_false] at hp1
      first | (exfalso; omega) | skip
      refine Tri.run tbLin_ok [true, false] (of_skel (q := (EqB (decide (0 ≤ c ∧ c ≤ d ∧ d ≤ 90)) false ∧ EqB (decide (0 ≤ a ∧ a ≤ b ∧ b ≤ 10000)) true ∧ True) ∧ (EqB false (decide ((0 ≤ a ∧ a ≤ b ∧ b ≤ 10000) ∧ (0 ≤ c ∧ c ≤ d ∧ d ≤ 90) ∧ 0 ≤ e ∧ e ≤ f ∧ f ≤ 1000)) ∧ True) ∧ True) (by kernel_rfl) ?_)
      ((repeat' apply And.intro) <;> first | exact trivial | exact ⟨rfl⟩ | (refine ⟨?_⟩; assumption) | (refine inR64 ?_ ?_ <;> omega) | (refine ⟨?_⟩; omega) | (refine ⟨?_⟩; rw [Bool.eq_iff_iff]; simp only [decide_eq_true_eq, decide_eq_false_iff_not, Bool.false_eq_true, Bool.true_eq_false, Bool.not_eq_true', Bool.and_eq_true, Bool.or_eq_true, Bool.not_eq_false', false_iff, iff_false, true_iff, iff_true]; omega) | (refine ⟨?_⟩; simp_all; done) | (refine ⟨?_⟩; simp; omega))
    · have hp1 := ht1
      try simp only [decide_eq_true_eq, decide_eq_false_iff_not, Bool.not_eq_true', Bool.not_eq_false', Bool.not_eq_eq_eq_not, Bool.not_true, Bool.not_false] at hp1
      first | (exfalso; omega) | skip
      refine Tri.run tbLin_ok [true, true] (of_skel (q := (EqB (decide (0 ≤ c ∧ c ≤ d ∧ d ≤ 90)) true ∧ EqB (decide (0 ≤ a ∧ a ≤ b ∧ b ≤ 10000)) true ∧ True) ∧ (EqB (decide (0 ≤ e ∧ e ≤ f ∧ f ≤ 1000)) (decide ((0 ≤ a ∧ a ≤ b ∧ b ≤ 10000) ∧ (0 ≤ c ∧ c ≤ d ∧ d ≤ 90) ∧ 0 ≤ e ∧ e ≤ f ∧ f ≤ 1000)) ∧ True) ∧ True) (by kernel_rfl) ?_)
      ((repeat' apply And.intro) <;> first | exact trivial | exact ⟨rfl⟩ | (refine ⟨?_⟩; assumption) | (refine inR64 ?_ ?_ <;> omega) | (refine ⟨?_⟩; omega) | (refine ⟨?_⟩; rw [Bool.eq_iff_iff]; simp only [decide_eq_true_eq, decide_eq_false_iff_not, Bool.false_eq_true, Bool.true_eq_false, Bool.not_eq_true', Bool.and_eq_true, Bool.or_eq_true, Bool.not_eq_false', false_iff, iff_false, true_iff, iff_true]; omega) | (refine ⟨?_⟩; simp_all; done) | (refine ⟨?_⟩; simp; omega))

noncomputable def FRef : GSpec := fun gs => match gs with
  | [.sb b] => some (.lit (.int .i64 (bif b then 0 else 2)), [])
  | _ => none
noncomputable def tbRef : Tab := mkTab tyAll Tryd.prog [] [] []
theorem tbRef_ok : ∀ base, TabOK Tryd.prog tbRef base :=
  mkTab_ok mixedP tyAll_ok (fun p hp => by cases hp) (fun p hp => by cases hp)
set_option maxRecDepth 100000 in
theorem spRef : FnSpec Tryd.prog 65 FRef := by
  refine spec_body tbRef_ok Tryd.func65 (by kernel_rfl) (by kernel_rfl) fun gs g ps hF hps => ?_
  unfold FRef at hF
  split at hF <;> try (cases hF; done)
  rename_i b
  cases hF
  refine ⟨_, _, rfl, ⟨Nat.le_of_ble_eq_true (by kernel_rfl), Nat.le_of_ble_eq_true (by kernel_rfl)⟩, fun base E hE => ?_⟩
  cases ht0 : (!b)
  · have hp0 := ht0
    try simp only [decide_eq_true_eq, decide_eq_false_iff_not, Bool.not_eq_true', Bool.not_eq_false', Bool.not_eq_eq_eq_not, Bool.not_true, Bool.not_false] at hp0
    first | (exfalso; omega) | skip
    refine Tri.run tbRef_ok [false] (of_skel (q := (EqB (!b) false ∧ True) ∧ (EqI 0 (bif b then 0 else 2) ∧ True) ∧ True) (by kernel_rfl) ?_)
    (cases b <;> first | (cases ht0; done) | exact ⟨⟨⟨rfl⟩, trivial⟩, ⟨⟨rfl⟩, trivial⟩, trivial⟩)
  · have hp0 := ht0
    try simp only [decide_eq_true_eq, decide_eq_false_iff_not, Bool.not_eq_true', Bool.not_eq_false', Bool.not_eq_eq_eq_not, Bool.not_true, Bool.not_false] at hp0
    first | (exfalso; omega) | skip
    refine Tri.run tbRef_ok [true] (of_skel (q := (EqB (!b) true ∧ True) ∧ (EqI 2 (bif b then 0 else 2) ∧ True) ∧ True) (by kernel_rfl) ?_)
    (cases b <;> first | (cases ht0; done) | exact ⟨⟨⟨rfl⟩, trivial⟩, ⟨⟨rfl⟩, trivial⟩, trivial⟩)

noncomputable def FRin : GSpec := fun gs => match gs with
  | [.lit (.int .i64 n), .lit (.int .i64 lo), .lit (.int .i64 hi)] => some (.sb (decide (lo ≤ n ∧ n ≤ hi)), [])
  | _ => none
noncomputable def tbRin : Tab := mkTab tyAll Tryd.prog [] [] []
theorem tbRin_ok : ∀ base, TabOK Tryd.prog tbRin base :=
  mkTab_ok mixedP tyAll_ok (fun p hp => by cases hp) (fun p hp => by cases hp)
set_option maxRecDepth 100000 in
theorem spRin : FnSpec Tryd.prog 74 FRin := by
  refine spec_body tbRin_ok Tryd.func74 (by kernel_rfl) (by kernel_rfl) fun gs g ps hF hps => ?_
  unfold FRin at hF
  split at hF <;> try (cases hF; done)
  rename_i n lo hi
  cases hF
  refine ⟨_, _, rfl, ⟨Nat.le_of_ble_eq_true (by kernel_rfl), Nat.le_of_ble_eq_true (by kernel_rfl)⟩, fun base E hE => ?_⟩
  cases ht0 : (decide (n ≥ lo))
  · have hp0 := ht0
    try simp only [decide_eq_true_eq, decide_eq_false_iff_not, Bool.not_eq_true', Bool.not_eq_false', Bool.not_eq_eq_eq_not, Bool.not_true, Bool.not_false] at hp0
    first | (exfalso; omega) | skip
    refine Tri.run tbRin_ok [false] (of_skel (q := (EqB (decide (n ≥ lo)) false ∧ True) ∧ (EqB false (decide (lo ≤ n ∧ n ≤ hi)) ∧ True) ∧ True) (by kernel_rfl) ?_)
    ((repeat' apply And.intro) <;> first | exact trivial | exact ⟨rfl⟩ | (refine ⟨?_⟩; assumption) | (refine inR64 ?_ ?_ <;> omega) | (refine ⟨?_⟩; omega) | (refine ⟨?_⟩; rw [Bool.eq_iff_iff]; simp only [decide_eq_true_eq, decide_eq_false_iff_not, Bool.false_eq_true, Bool.true_eq_false, Bool.not_eq_true', Bool.and_eq_true, Bool.or_eq_true, Bool.not_eq_false', false_iff, iff_false, true_iff, iff_true]; omega) | (refine ⟨?_⟩; simp_all; done) | (refine ⟨?_⟩; simp; omega))
  · have hp0 := ht0
    try simp only [decide_eq_true_eq, decide_eq_false_iff_not, Bool.not_eq_true', Bool.not_eq_false', Bool.not_eq_eq_eq_not, Bool.not_true, Bool.not_false] at hp0
    first | (exfalso; omega) | skip
    refine Tri.run tbRin_ok [true] (of_skel (q := (EqB (decide (n ≥ lo)) true ∧ True) ∧ (EqB (decide (n ≤ hi)) (decide (lo ≤ n ∧ n ≤ hi)) ∧ True) ∧ True) (by kernel_rfl) ?_)
    ((repeat' apply And.intro) <;> first | exact trivial | exact ⟨rfl⟩ | (refine ⟨?_⟩; assumption) | (refine inR64 ?_ ?_ <;> omega) | (refine ⟨?_⟩; omega) | (refine ⟨?_⟩; rw [Bool.eq_iff_iff]; simp only [decide_eq_true_eq, decide_eq_false_iff_not, Bool.false_eq_true, Bool.true_eq_false, Bool.not_eq_true', Bool.and_eq_true, Bool.or_eq_true, Bool.not_eq_false', false_iff, iff_false, true_iff, iff_true]; omega) | (refine ⟨?_⟩; simp_all; done) | (refine ⟨?_⟩; simp; omega))

noncomputable def FRsp : GSpec := fun gs => match gs with
  | [.agg [.lit (.int .i64 a), .lit (.int .i64 b)], .lit (.int .i64 lo), .lit (.int .i64 hi)] => some (.sb (decide (lo ≤ a ∧ a ≤ b ∧ b ≤ hi)), [])
  | _ => none
noncomputable def tbRsp : Tab := mkTab tyAll Tryd.prog [] [] []
theorem tbRsp_ok : ∀ base, TabOK Tryd.prog tbRsp base :=
  mkTab_ok mixedP tyAll_ok (fun p hp => by cases hp) (fun p hp => by cases hp)
set_option maxRecDepth 100000 in
theorem spRsp : FnSpec Tryd.prog 68 FRsp := by
  refine spec_body tbRsp_ok Tryd.func68 (by kernel_rfl) (by kernel_rfl) fun gs g ps hF hps => ?_
  unfold FRsp at hF
  split at hF <;> try (cases hF; done)
  rename_i a b lo hi
  cases hF
  refine ⟨_, _, rfl, ⟨Nat.le_of_ble_eq_true (by kernel_rfl), Nat.le_of_ble_eq_true (by kernel_rfl)⟩, fun base E hE => ?_⟩
  cases ht0 : (decide (a ≥ lo))
  · have hp0 := ht0
    try simp only [decide_eq_true_eq, decide_eq_false_iff_not, Bool.not_eq_true', Bool.not_eq_false', Bool.not_eq_eq_eq_not, Bool.not_true, Bool.not_false] at hp0
    first | (exfalso; omega) | skip
    refine Tri.run tbRsp_ok [false] (of_skel (q := (EqB (decide (a ≥ lo)) false ∧ True) ∧ (EqB false (decide (lo ≤ a ∧ a ≤ b ∧ b ≤ hi)) ∧ True) ∧ True) (by kernel_rfl) ?_)
    ((repeat' apply And.intro) <;> first | exact trivial | exact ⟨rfl⟩ | (refine ⟨?_⟩; assumption) | (refine inR64 ?_ ?_ <;> omega) | (refine ⟨?_⟩; omega) | (refine ⟨?_⟩; rw [Bool.eq_iff_iff]; simp only [decide_eq_true_eq, decide_eq_false_iff_not, Bool.false_eq_true, Bool.true_eq_false, Bool.not_eq_true', Bool.and_eq_true, Bool.or_eq_true, Bool.not_eq_false', false_iff, iff_false, true_iff, iff_true]; omega) | (refine ⟨?_⟩; simp_all; done) | (refine ⟨?_⟩; simp; omega))
  · have hp0 := ht0
    try simp only [decide_eq_true_eq, decide_eq_false_iff_not, Bool.not_eq_true', Bool.not_eq_false', Bool.not_eq_eq_eq_not, Bool.not_true, Bool.not_false] at hp0
    first | (exfalso; omega) | skip
    cases ht1 : (decide (a ≤ b))
    · have hp1 := ht1
      try simp only [decide_eq_true_eq, decide_eq_false_iff_not, Bool.not_eq_true', Bool.not_eq_false', Bool.not_eq_eq_eq_not, Bool.not_true, Bool.not_false] at hp1
      first | (exfalso; omega) | skip
      refine Tri.run tbRsp_ok [true, false] (of_skel (q := (EqB (decide (a ≤ b)) false ∧ EqB (decide (a ≥ lo)) true ∧ True) ∧ (EqB false (decide (lo ≤ a ∧ a ≤ b ∧ b ≤ hi)) ∧ True) ∧ True) (by kernel_rfl) ?_)
      ((repeat' apply And.intro) <;> first | exact trivial | exact ⟨rfl⟩ | (refine ⟨?_⟩; assumption) | (refine inR64 ?_ ?_ <;> omega) | (refine ⟨?_⟩; omega) | (refine ⟨?_⟩; rw [Bool.eq_iff_iff]; simp only [decide_eq_true_eq, decide_eq_false_iff_not, Bool.false_eq_true, Bool.true_eq_false, Bool.not_eq_true', Bool.and_eq_true, Bool.or_eq_true, Bool.not_eq_false', false_iff, iff_false, true_iff, iff_true]; omega) | (refine ⟨?_⟩; simp_all; done) | (refine ⟨?_⟩; simp; omega))
    · have hp1 := ht1
      try simp only [decide_eq_true_eq, decide_eq_false_iff_not, Bool.not_eq_true', Bool.not_eq_false', Bool.not_eq_eq_eq_not, Bool.not_true, Bool.not_false] at hp1
      first | (exfalso; omega) | skip
      refine Tri.run tbRsp_ok [true, true] (of_skel (q := (EqB (decide (a ≤ b)) true ∧ EqB (decide (a ≥ lo)) true ∧ True) ∧ (EqB (decide (b ≤ hi)) (decide (lo ≤ a ∧ a ≤ b ∧ b ≤ hi)) ∧ True) ∧ True) (by kernel_rfl) ?_)
      ((repeat' apply And.intro) <;> first | exact trivial | exact ⟨rfl⟩ | (refine ⟨?_⟩; assumption) | (refine inR64 ?_ ?_ <;> omega) | (refine ⟨?_⟩; omega) | (refine ⟨?_⟩; rw [Bool.eq_iff_iff]; simp only [decide_eq_true_eq, decide_eq_false_iff_not, Bool.false_eq_true, Bool.true_eq_false, Bool.not_eq_true', Bool.and_eq_true, Bool.or_eq_true, Bool.not_eq_false', false_iff, iff_false, true_iff, iff_true]; omega) | (refine ⟨?_⟩; simp_all; done) | (refine ⟨?_⟩; simp; omega))

noncomputable def FRli : GSpec := fun gs => match gs with
  | [.agg [.lit (.int .i64 a), .lit (.int .i64 b), .lit (.int .i64 c), .lit (.int .i64 d), .lit (.int .i64 e), .lit (.int .i64 f)]] => some (.sb (decide ((0 ≤ a ∧ a ≤ b ∧ b ≤ 10000) ∧ (0 ≤ c ∧ c ≤ d ∧ d ≤ 90) ∧ (0 ≤ e ∧ e ≤ f ∧ f ≤ 1000))), [])
  | _ => none
noncomputable def tbRli : Tab := mkTab tyAll Tryd.prog [] [(68, FRsp)] []
theorem tbRli_ok : ∀ base, TabOK Tryd.prog tbRli base :=
  mkTab_ok mixedP tyAll_ok (fun p hp => by
    rcases List.mem_cons.1 hp with rfl | hp
    · exact spRsp
    cases hp) (fun p hp => by cases hp)
set_option maxRecDepth 100000 in
theorem spRli : FnSpec Tryd.prog 18 FRli := by
  refine spec_body tbRli_ok Tryd.func18 (by kernel_rfl) (by kernel_rfl) fun gs g ps hF hps => ?_
  unfold FRli at hF
  split at hF <;> try (cases hF; done)
  rename_i a b c d e f
  cases hF
  refine ⟨_, _, rfl, ⟨Nat.le_of_ble_eq_true (by kernel_rfl), Nat.le_of_ble_eq_true (by kernel_rfl)⟩, fun base E hE => ?_⟩
  cases ht0 : (decide (0 ≤ a ∧ a ≤ b ∧ b ≤ 10000))
  · have hp0 := ht0
    try simp only [decide_eq_true_eq, decide_eq_false_iff_not, Bool.not_eq_true', Bool.not_eq_false', Bool.not_eq_eq_eq_not, Bool.not_true, Bool.not_false] at hp0
    first | (exfalso; omega) | skip
    refine Tri.run tbRli_ok [false] (of_skel (q := (EqB (decide (0 ≤ a ∧ a ≤ b ∧ b ≤ 10000)) false ∧ True) ∧ (EqB false (decide ((0 ≤ a ∧ a ≤ b ∧ b ≤ 10000) ∧ (0 ≤ c ∧ c ≤ d ∧ d ≤ 90) ∧ 0 ≤ e ∧ e ≤ f ∧ f ≤ 1000)) ∧ True) ∧ True) (by kernel_rfl) ?_)
    ((repeat' apply And.intro) <;> first | exact trivial | exact ⟨rfl⟩ | (refine ⟨?_⟩; assumption) | (refine inR64 ?_ ?_ <;> omega) | (refine ⟨?_⟩; omega) | (refine ⟨?_⟩; rw [Bool.eq_iff_iff]; simp only [decide_eq_true_eq, decide_eq_false_iff_not, Bool.false_eq_true, Bool.true_eq_false, Bool.not_eq_true', Bool.and_eq_true, Bool.or_eq_true, Bool.not_eq_false', false_iff, iff_false, true_iff, iff_true]; omega) | (refine ⟨?_⟩; simp_all; done) | (refine ⟨?_⟩; simp; omega))
  · have hp0 := ht0
    try simp only [decide_eq_true_eq, decide_eq_false_iff_not, Bool.not_eq_true', Bool.not_eq_false', Bool.not_eq_eq_eq_not, Bool.not_true, Bool.not_false] at hp0
    first | (exfalso; omega) | skip
    cases ht1 : (decide (0 ≤ c ∧ c ≤ d ∧ d ≤ 90))
    · have hp1 := ht1
      try simp only [decide_eq_true_eq, decide_eq_false_iff_not, Bool.not_eq_true', Bool.not_eq_false', Bool.not_eq_eq_eq_not, Bool.not_true, Bool.not_false] at hp1
      first | (exfalso; omega) | skip
      refine Tri.run tbRli_ok [true, false] (of_skel (q := (EqB (decide (0 ≤ c ∧ c ≤ d ∧ d ≤ 90)) false ∧ EqB (decide (0 ≤ a ∧ a ≤ b ∧ b ≤ 10000)) true ∧ True) ∧ (EqB false (decide ((0 ≤ a ∧ a ≤ b ∧ b ≤ 10000) ∧ (0 ≤ c ∧ c ≤ d ∧ d ≤ 90) ∧ 0 ≤ e ∧ e ≤ f ∧ f ≤ 1000)) ∧ True) ∧ True) (by kernel_rfl) ?_)
      ((repeat' apply And.intro) <;> first | exact trivial | exact ⟨rfl⟩ | (refine ⟨?_⟩; assumption) | (refine inR64 ?_ ?_ <;> omega) | (refine ⟨?_⟩; omega) | (refine ⟨?_⟩; rw [Bool.eq_iff_iff]; simp only [decide_eq_true_eq, decide_eq_false_iff_not, Bool.false_eq_true, Bool.true_eq_false, Bool.not_eq_true', Bool.and_eq_true, Bool.or_eq_true, Bool.not_eq_false', false_iff, iff_false, true_iff, iff_true]; omega) | (refine ⟨?_⟩; simp_all; done) | (refine ⟨?_⟩; simp; omega))
    · have hp1 := ht1
      try simp only [decide_eq_true_eq, decide_eq_false_iff_not, Bool.not_eq_true', Bool.not_eq_false', Bool.not_eq_eq_eq_not, Bool.not_true, Bool.not_false] at hp1
      first | (exfalso; omega) | skip
      refine Tri.run tbRli_ok [true, true] (of_skel (q := (EqB (decide (0 ≤ c ∧ c ≤ d ∧ d ≤ 90)) true ∧ EqB (decide (0 ≤ a ∧ a ≤ b ∧ b ≤ 10000)) true ∧ True) ∧ (EqB (decide (0 ≤ e ∧ e ≤ f ∧ f ≤ 1000)) (decide ((0 ≤ a ∧ a ≤ b ∧ b ≤ 10000) ∧ (0 ≤ c ∧ c ≤ d ∧ d ≤ 90) ∧ 0 ≤ e ∧ e ≤ f ∧ f ≤ 1000)) ∧ True) ∧ True) (by kernel_rfl) ?_)
      ((repeat' apply And.intro) <;> first | exact trivial | exact ⟨rfl⟩ | (refine ⟨?_⟩; assumption) | (refine inR64 ?_ ?_ <;> omega) | (refine ⟨?_⟩; omega) | (refine ⟨?_⟩; rw [Bool.eq_iff_iff]; simp only [decide_eq_true_eq, decide_eq_false_iff_not, Bool.false_eq_true, Bool.true_eq_false, Bool.not_eq_true', Bool.and_eq_true, Bool.or_eq_true, Bool.not_eq_false', false_iff, iff_false, true_iff, iff_true]; omega) | (refine ⟨?_⟩; simp_all; done) | (refine ⟨?_⟩; simp; omega))

noncomputable def FRfl : GSpec := fun gs => match gs with
  | [.agg [.lit (.int .i64 a), .lit (.int .i64 b), .lit (.int .i64 c), .lit (.int .i64 d), .lit (.int .i64 e), .lit (.int .i64 f)], .lit (.int .i64 x), .lit (.int .i64 y), .lit (.int .i64 z)] => some (.sb (decide ((a ≤ x ∧ x ≤ b) ∧ (c ≤ y ∧ y ≤ d) ∧ (e ≤ z ∧ z ≤ f))), [])
  | _ => none
noncomputable def tbRfl : Tab := mkTab tyAll Tryd.prog [] [(74, FRin)] []
theorem tbRfl_ok : ∀ base, TabOK Tryd.prog tbRfl base :=
  mkTab_ok mixedP tyAll_ok (fun p hp => by
    rcases List.mem_cons.1 hp with rfl | hp
    · exact spRin
    cases hp) (fun p hp => by cases hp)
set_option maxRecDepth 100000 in
theorem spRfl : FnSpec Tryd.prog 22 FRfl := by
  refine spec_body tbRfl_ok Tryd.func22 (by kernel_rfl) (by kernel_rfl) fun gs g ps hF hps => ?_
  unfold FRfl at hF
  split at hF <;> try (cases hF; done)
  rename_i a b c d e f x y z
  cases hF
  refine ⟨_, _, rfl, ⟨Nat.le_of_ble_eq_true (by kernel_rfl), Nat.le_of_ble_eq_true (by kernel_rfl)⟩, fun base E hE => ?_⟩
  cases ht0 : (decide (a ≤ x ∧ x ≤ b))
  · have hp0 := ht0
    try simp only [decide_eq_true_eq, decide_eq_false_iff_not, Bool.not_eq_true', Bool.not_eq_false', Bool.not_eq_eq_eq_not, Bool.not_true, Bool.not_false] at hp0
    first | (exfalso; omega) | skip
    refine Tri.run tbRfl_ok [false] (of_skel (q := (EqB (decide (a ≤ x ∧ x ≤ b)) false ∧ True) ∧ (EqB false (decide ((a ≤ x ∧ x ≤ b) ∧ (c ≤ y ∧ y ≤ d) ∧ e ≤ z ∧ z ≤ f)) ∧ True) ∧ True) (by kernel_rfl) ?_)
    ((repeat' apply And.intro) <;> first | exact trivial | exact ⟨rfl⟩ | (refine ⟨?_⟩; assumption) | (refine inR64 ?_ ?_ <;> omega) | (refine ⟨?_⟩; omega) | (refine ⟨?_⟩; rw [Bool.eq_iff_iff]; simp only [decide_eq_true_eq, decide_eq_false_iff_not, Bool.false_eq_true, Bool.true_eq_false, Bool.not_eq_true', Bool.and_eq_true, Bool.or_eq_true, Bool.not_eq_false', false_iff, iff_false, true_iff, iff_true]; omega) | (refine ⟨?_⟩; simp_all; done) | (refine ⟨?_⟩; simp; omega))
  · have hp0 := ht0
    try simp only [decide_eq_true_eq, decide_eq_false_iff_not, Bool.not_eq_true', Bool.not_eq_false', Bool.not_eq_eq_eq_not, Bool.not_true, Bool.not_false] at hp0
    first | (exfalso; omega) | skip
    cases ht1 : (decide (c ≤ y ∧ y ≤ d))
    · have hp1 := ht1
      try simp only [decide_eq_true_eq, decide_eq_false_iff_not, Bool.not_eq_true', Bool.not_eq_false', Bool.not_eq_eq_eq_not, Bool.not_true, Bool.not_false] at hp1
      first | (exfalso; omega) | skip
      refine Tri.run tbRfl_ok [true, false] (of_skel (q := (EqB (decide (c ≤ y ∧ y ≤ d)) false ∧ EqB (decide (a ≤ x ∧ x ≤ b)) true ∧ True) ∧ (EqB false (decide ((a ≤ x ∧ x ≤ b) ∧ (c ≤ y ∧ y ≤ d) ∧ e ≤ z ∧ z ≤ f)) ∧ True) ∧ True) (by kernel_rfl) ?_)
      ((repeat' apply And.intro) <;> first | exact trivial | exact ⟨rfl⟩ | (refine ⟨?_⟩; assumption) | (refine inR64 ?_ ?_ <;> omega) | (refine ⟨?_⟩; omega) | (refine ⟨?_⟩; rw [Bool.eq_iff_iff]; simp only [decide_eq_true_eq, decide_eq_false_iff_not, Bool.false_eq_true, Bool.true_eq_false, Bool.not_eq_true', Bool.and_eq_true, Bool.or_eq_true, Bool.not_eq_false', false_iff, iff_false, true_iff, iff_true]; omega) | (refine ⟨?_⟩; simp_all; done) | (refine ⟨?_⟩; simp; omega))
    · have hp1 := ht1
      try simp only [decide_eq_true_eq, decide_eq_false_iff_not, Bool.not_eq_true', Bool.not_eq_false', Bool.not_eq_eq_eq_not, Bool.not_true, Bool.not_false] at hp1
      first | (exfalso; omega) | skip
      refine Tri.run tbRfl_ok [true, true] (of_skel (q := (EqB (decide (c ≤ y ∧ y ≤ d)) true ∧ EqB (decide (a ≤ x ∧ x ≤ b)) true ∧ True) ∧ (EqB (decide (e ≤ z ∧ z ≤ f)) (decide ((a ≤ x ∧ x ≤ b) ∧ (c ≤ y ∧ y ≤ d) ∧ e ≤ z ∧ z ≤ f)) ∧ True) ∧ True) (by kernel_rfl) ?_)
      ((repeat' apply And.intro) <;> first | exact trivial | exact ⟨rfl⟩ | (refine ⟨?_⟩; assumption) | (refine inR64 ?_ ?_ <;> omega) | (refine ⟨?_⟩; omega) | (refine ⟨?_⟩; rw [Bool.eq_iff_iff]; simp only [decide_eq_true_eq, decide_eq_false_iff_not, Bool.false_eq_true, Bool.true_eq_false, Bool.not_eq_true', Bool.and_eq_true, Bool.or_eq_true, Bool.not_eq_false', false_iff, iff_false, true_iff, iff_true]; omega) | (refine ⟨?_⟩; simp_all; done) | (refine ⟨?_⟩; simp; omega))

end Go.Proofs.YtknplcpjmpmblaaDoor.GY
