/- Kites: traces, temperatures, heights. -/
import Derived.Test.YtknplcpjmpmblaaDoorKa
import Derived.Test.YtknplcpjmpmblaaDoorKbb
set_option linter.unusedVariables false
set_option linter.unusedSimpArgs false
namespace Go.Proofs.YtknplcpjmpmblaaDoor.GY
section PartOfKhe
open Go Go.RowKit Go.Proofs
noncomputable def fH : Func := Tryd.f83
noncomputable def tbH : Tab := mkTab tyAll Tryd.prog [] [] []
noncomputable def gH (e1 e2 : TypeId) (r d : Nat) (b0 : Int) (fm ft : Nat → Nat → Int) : List GV := [.rows e1 3 r fm, .lit (.int .i64 b0), .rows e2 1 d ft]
def hF (b0 : Int) (fm ft : Nat → Nat → Int) : Nat → Int
  | 0 => b0
  | k + 1 => hF b0 fm ft k + ((5464 + ft k 0 + ft (k + 1) 0) * (fm k 0 - fm (k + 1) 0) * 2927).tdiv (1000 * (fm k 0 + fm (k + 1) 0))
noncomputable def JH (e1 e2 : TypeId) (r d : Nat) (b0 : Int) (fm ft : Nat → Nat → Int) (i : Nat) : JS := ⟨63, [(0, .isl 0 r), (2, .isl 1 d), (7, .isl 2 i), (8, .lit (.int .i64 (i : Nat)))], [(2, .irow 3 1 i (fun k _ => hF b0 fm ft k))], [(0, ⟨false, e1, 3, r, fm⟩), (1, ⟨false, e2, 1, d, ft⟩)], 3⟩
noncomputable def KH (e1 e2 : TypeId) (r d : Nat) (b0 : Int) (fm ft : Nat → Nat → Int) (n : Nat) : JS := ⟨63, [(7, .isl 2 n)], [(2, .irow 3 1 n (fun k _ => hF b0 fm ft k))], [(0, ⟨false, e1, 3, r, fm⟩), (1, ⟨false, e2, 1, d, ft⟩)], 3⟩
theorem tbH_ok : ∀ base, TabOK Tryd.prog tbH base := mkTab_ok mixedP tyAll_ok (fun p hp => by cases hp) (fun p hp => by cases hp)
/-- Marks, and what the air above them is like, as they are defined. -/
structure HtIn (r d : Nat) (b0 : Int) (fm ft : Nat → Nat → Int) : Prop where
  r1 : 1 ≤ r
  r8 : r ≤ 8
  rd : r ≤ d
  b0 : -5000 ≤ b0 ∧ b0 ≤ 5000
  m : ∀ k, k < r → 1 ≤ fm k 0 ∧ fm k 0 ≤ 100000
  t : ∀ k, k < r → -900 ≤ ft k 0 ∧ ft k 0 ≤ 500
  s : ∀ k, k + 1 < r → fm (k + 1) 0 < fm k 0
theorem step_in {t p q : Int} (h0 : 0 ≤ t) (h1 : t ≤ 6464) (hq : 1 ≤ q) (hpq : q < p) (hp : p ≤ 100000) : (0 ≤ t * (p - q) ∧ t * (p - q) ≤ 646400000) ∧ (0 ≤ t * (p - q) * 2927 ∧ t * (p - q) * 2927 ≤ 1892012800000) ∧ 0 < 1000 * (p + q) ∧
    (0 ≤ (t * (p - q) * 2927).tdiv (1000 * (p + q)) ∧ (t * (p - q) * 2927).tdiv (1000 * (p + q)) ≤ 20000) := by
  have a0 : 0 ≤ t * (p - q) := Int.mul_nonneg h0 (by omega)
  have a1 : t * (p - q) ≤ 6464 * (p - q) := Int.mul_le_mul_of_nonneg_right h1 (by omega)
  have c0 : 0 ≤ t * (p - q) * 2927 := by omega
  refine ⟨⟨a0, by omega⟩, ⟨c0, by omega⟩, by omega, ?_⟩
  rw [Int.tdiv_eq_ediv_of_nonneg c0]
  refine ⟨Int.ediv_nonneg c0 (by omega), ?_⟩
  exact Int.ediv_le_of_le_mul (by omega) (by omega)
theorem hF_in {r d : Nat} {b0 : Int} {fm ft : Nat → Nat → Int} (H : HtIn r d b0 fm ft) : ∀ k, k < r → -5000 ≤ hF b0 fm ft k ∧ hF b0 fm ft k ≤ 5000 + 20000 * k
  | 0, _ => by have := H.b0; simp only [hF]; omega
  | k + 1, hk => by
    have ih := hF_in H k (by omega)
    have a := H.t k (by omega); have b := H.t (k + 1) hk; have c := H.m k (by omega); have e := H.m (k + 1) hk; have f := H.s k hk
    have g := (step_in (t := 5464 + ft k 0 + ft (k + 1) 0) (by omega) (by omega) e.1 f c.2).2.2.2
    simp only [hF]
    omega
theorem he_one (b : Int) (f : Nat → Int) (h : f 0 = b) : RowEq 1 1 (rowOf [b] 1) (fun k _ => f k) := ⟨fun k j hk hj => by
  obtain rfl : k = 0 := by omega
  obtain rfl : j = 0 := by omega
  exact h.symm⟩
theorem he_snoc {n : Nat} {v : Int} {f : Nat → Int} (h : f n = v) : RowEq (n + 1) 1 (joinF n (fun k _ => f k) (rowOf [v] 1)) (fun k _ => f k) := ⟨fun k j hk hj => by
  obtain rfl : j = 0 := by omega
  unfold joinF
  by_cases hkn : k < n
  · rw [if_pos hkn]
  · obtain rfl : k = n := by omega
    rw [if_neg hkn, ← h, Nat.sub_self]; rfl⟩
noncomputable def FHe : GSpec := fun gs => match gs with
  | [.rows e1 3 r fm, .lit (.int .i64 b0), .rows e2 1 d ft] => some (.rows 0 1 r (fun k _ => hF b0 fm ft k), [HtIn r d b0 fm ft])
  | _ => none
set_option maxRecDepth 100000 in
set_option maxHeartbeats 2000000 in
theorem he_end (e1 e2 : TypeId) (r d : Nat) (b0 : Int) (fm ft : Nat → Nat → Int) {base : Bs} {E : Ent} : TriL Tryd.prog base E ((flat (bodyC fH)).drop 4) (KH e1 e2 r d b0 fm ft r).A (KH e1 e2 r d b0 fm ft r).h (finP tbH fH (.rows 0 1 r (fun k _ => hF b0 fm ft k))) := by
  refine TriL.path tbH_ok [] (by kernel_rfl) (of_skel (q := True ∧ (EqN r r ∧ LeN r r ∧ (RowEq r 1 (fun k x => hF b0 fm ft k) fun k x => hF b0 fm ft k) ∧ True) ∧ True) (by kernel_rfl) ?_)
  ((repeat' apply And.intro) <;> first | exact trivial | exact ⟨rfl⟩ | exact ⟨fun _ _ _ _ => rfl⟩ | (refine inR64 ?_ ?_ <;> omega) | (refine ⟨?_⟩; (try simp only [Int.toNat_natCast]); omega) | (refine ⟨?_, ?_⟩ <;> (try simp only [Int.toNat_natCast]) <;> omega) | (refine ⟨?_⟩; simp only [decide_eq_true_eq, decide_eq_false_iff_not]; omega) | (refine ⟨?_⟩; simp only [Int.toNat_natCast, decide_eq_true_eq, decide_eq_false_iff_not]; first | assumption | omega) | (exact he_one _ _ rfl) | (refine he_snoc ?_; first | rfl | assumption) | (refine ⟨?_⟩; assumption))
set_option maxRecDepth 100000 in
set_option maxHeartbeats 2000000 in
theorem he_all (e1 e2 : TypeId) (r d : Nat) (b0 : Int) (fm ft : Nat → Nat → Int) {base : Bs} {E : Ent} (hN : E.h.next = 2) (H : HtIn r d b0 fm ft) : TriL Tryd.prog base E (flat (bodyC fH)) (start fH (ldA0 (gH e1 e2 r d b0 fm ft))) (ldH0 (gH e1 e2 r d b0 fm ft)) (finP tbH fH (.rows 0 1 r (fun k _ => hF b0 fm ft k))) := by
  have H1 := H.r1; have H2 := H.r8; have H3 := H.rd
  refine TriL.rounds 3 (by kernel_rfl) (fun x : {i : Nat // 1 ≤ i ∧ i ≤ r} => JH e1 e2 r d b0 fm ft x.1) (fun x => r - x.1) ⟨1, Nat.le_refl _, H1⟩ ?_ fun x => ?_
  · refine TriL.mono ?_ (preQ_ok (σ := fun x => x) hN (J0 := JH e1 e2 r d b0 fm ft 1))
    refine TriL.path tbH_ok [] (by kernel_rfl) (of_skel (q := True ∧ EqN r r ∧ EqN d d ∧ EqN 1 1 ∧ EqI 1 (↑1 : Int) ∧ EqN 1 1 ∧ (RowEq 1 1 (rowOf [b0] 1) fun k x => hF b0 fm ft k) ∧ EqB false false ∧ EqN r r ∧ RowEq r 3 fm fm ∧ EqB false false ∧ EqN d d ∧ RowEq d 1 ft ft ∧ True) (by kernel_rfl) ?_)
    ((repeat' apply And.intro) <;> first | exact trivial | exact ⟨rfl⟩ | exact ⟨fun _ _ _ _ => rfl⟩ | (refine inR64 ?_ ?_ <;> omega) | (refine ⟨?_⟩; (try simp only [Int.toNat_natCast]); omega) | (refine ⟨?_, ?_⟩ <;> (try simp only [Int.toNat_natCast]) <;> omega) | (refine ⟨?_⟩; simp only [decide_eq_true_eq, decide_eq_false_iff_not]; omega) | (refine ⟨?_⟩; simp only [Int.toNat_natCast, decide_eq_true_eq, decide_eq_false_iff_not]; first | assumption | omega) | (exact he_one _ _ rfl) | (refine he_snoc ?_; first | rfl | assumption) | (refine ⟨?_⟩; assumption))
  · obtain ⟨i, h1i, hii⟩ := x
    by_cases hx : i < r
    · refine Tri.mono ?_ (roundQ_R (σ := sg [(2, 4)]) (X := fun _ _ => False) (⟨i + 1, by omega, hx⟩ : {i : Nat // 1 ≤ i ∧ i ≤ r}) (by show r - (i + 1) < r - i; omega) hN (fun _ _ h => h.elim))
      refine Tri.path (tbH_ok base) 200 [true, true] (of_skel (q := (InR IntKind.i64 ((↑i : Int) + 1) ∧ LeN (i + 1) 65536 ∧ LeN i i ∧ LeN i i ∧ EqB true true ∧ LeN 1 1 ∧ InR IntKind.i64 (hF b0 fm ft ((↑i : Int) - 1).toNat + ((5464 + ft ((↑i : Int) - 1).toNat 0 + ft (↑i : Int).toNat 0) * (fm ((↑i : Int) - 1).toNat 0 - fm (↑i : Int).toNat 0) * 2927).tdiv (1000 * (fm ((↑i : Int) - 1).toNat 0 + fm (↑i : Int).toNat 0))) ∧ NeZ (1000 * (fm ((↑i : Int) - 1).toNat 0 + fm (↑i : Int).toNat 0)) ∧ InR IntKind.i64 (((5464 + ft ((↑i : Int) - 1).toNat 0 + ft (↑i : Int).toNat 0) * (fm ((↑i : Int) - 1).toNat 0 - fm (↑i : Int).toNat 0) * 2927).tdiv (1000 * (fm ((↑i : Int) - 1).toNat 0 + fm (↑i : Int).toNat 0))) ∧ InR IntKind.i64 (1000 * (fm ((↑i : Int) - 1).toNat 0 + fm (↑i : Int).toNat 0)) ∧ InR IntKind.i64 (fm ((↑i : Int) - 1).toNat 0 + fm (↑i : Int).toNat 0) ∧ InR IntKind.i64 ((5464 + ft ((↑i : Int) - 1).toNat 0 + ft (↑i : Int).toNat 0) * (fm ((↑i : Int) - 1).toNat 0 - fm (↑i : Int).toNat 0) * 2927) ∧ InR IntKind.i64 ((5464 + ft ((↑i : Int) - 1).toNat 0 + ft (↑i : Int).toNat 0) * (fm ((↑i : Int) - 1).toNat 0 - fm (↑i : Int).toNat 0)) ∧ InR IntKind.i64 (fm ((↑i : Int) - 1).toNat 0 - fm (↑i : Int).toNat 0) ∧ LtN ((↑i : Int) - 1).toNat i ∧ IxIn ((↑i : Int) - 1) i ∧ InR IntKind.i64 ((↑i : Int) - 1) ∧ InR IntKind.i64 (5464 + ft ((↑i : Int) - 1).toNat 0 + ft (↑i : Int).toNat 0) ∧ LtN (↑i : Int).toNat d ∧ IxIn (↑i : Int) d ∧ InR IntKind.i64 (5464 + ft ((↑i : Int) - 1).toNat 0) ∧ LtN ((↑i : Int) - 1).toNat d ∧ IxIn ((↑i : Int) - 1) d ∧ InR IntKind.i64 ((↑i : Int) - 1) ∧ LtN (↑i : Int).toNat r ∧ IxIn (↑i : Int) r ∧ LtN ((↑i : Int) - 1).toNat r ∧ IxIn ((↑i : Int) - 1) r ∧ InR IntKind.i64 ((↑i : Int) - 1) ∧ EqB (decide ((↑i : Int) < (↑r : Int))) true ∧ True) ∧ EqN r r ∧ EqN d d ∧ EqN (i + 1) (i + 1) ∧ EqI ((↑i : Int) + 1) (↑(i + 1) : Int) ∧ EqN (i + 1) (i + 1) ∧ (RowEq (i + 1) 1 (joinF i (fun k x => hF b0 fm ft k) (rowOf [hF b0 fm ft ((↑i : Int) - 1).toNat + ((5464 + ft ((↑i : Int) - 1).toNat 0 + ft (↑i : Int).toNat 0) * (fm ((↑i : Int) - 1).toNat 0 - fm (↑i : Int).toNat 0) * 2927).tdiv (1000 * (fm ((↑i : Int) - 1).toNat 0 + fm (↑i : Int).toNat 0))] 1)) fun k x => hF b0 fm ft k) ∧ EqB false false ∧ EqN r r ∧ RowEq r 3 fm fm ∧ EqB false false ∧ EqN d d ∧ RowEq d 1 ft ft ∧ True) (by kernel_rfl) ?_)
      obtain ⟨k, rfl⟩ : ∃ k, i = k + 1 := ⟨i - 1, by omega⟩
      have e1 : (((k + 1 : Nat) : Int) - 1).toNat = k := by omega
      have e2 : ((k + 1 : Nat) : Int).toNat = k + 1 := by omega
      have a := H.t k (by omega); have b := H.t (k + 1) hx; have c := H.m k (by omega); have e := H.m (k + 1) hx; have f := H.s k hx
      obtain ⟨g1, g2, g3, g4⟩ := step_in (t := 5464 + ft k 0 + ft (k + 1) 0) (by omega) (by omega) e.1 f c.2
      have g5 := hF_in H k (by omega)
      have hv : hF b0 fm ft (k + 1) = hF b0 fm ft k + ((5464 + ft k 0 + ft (k + 1) 0) * (fm k 0 - fm (k + 1) 0) * 2927).tdiv (1000 * (fm k 0 + fm (k + 1) 0)) := rfl
      simp only [e1, e2]
      generalize hF b0 fm ft k = u at *
      ((repeat' apply And.intro) <;> first | exact trivial | exact ⟨rfl⟩ | exact ⟨fun _ _ _ _ => rfl⟩ | (refine inR64 ?_ ?_ <;> omega) | (refine ⟨?_⟩; (try simp only [Int.toNat_natCast]); omega) | (refine ⟨?_, ?_⟩ <;> (try simp only [Int.toNat_natCast]) <;> omega) | (refine ⟨?_⟩; simp only [decide_eq_true_eq, decide_eq_false_iff_not]; omega) | (refine ⟨?_⟩; simp only [Int.toNat_natCast, decide_eq_true_eq, decide_eq_false_iff_not]; first | assumption | omega) | (exact he_one _ _ rfl) | (refine he_snoc ?_; first | rfl | assumption) | (refine ⟨?_⟩; assumption))
    · have hx' : i = r := by omega
      subst hx'
      refine Tri.mono ?_ (lastQ_R (X := toX (fun x => x) 2 (KH e1 e2 i d b0 fm ft i)) (toX_ok hN (by kernel_rfl) (he_end e1 e2 i d b0 fm ft)))
      refine Tri.path (tbH_ok base) 200 [false] (of_skel (q := (EqB (decide ((↑i : Int) < (↑i : Int))) false ∧ True) ∧ EqN i i ∧ EqN i i ∧ (RowEq i 1 (fun k x => hF b0 fm ft k) fun k x => hF b0 fm ft k) ∧ EqB false false ∧ EqN i i ∧ RowEq i 3 fm fm ∧ EqB false false ∧ EqN d d ∧ RowEq d 1 ft ft ∧ True) (by kernel_rfl) ?_)
      ((repeat' apply And.intro) <;> first | exact trivial | exact ⟨rfl⟩ | exact ⟨fun _ _ _ _ => rfl⟩ | (refine inR64 ?_ ?_ <;> omega) | (refine ⟨?_⟩; (try simp only [Int.toNat_natCast]); omega) | (refine ⟨?_, ?_⟩ <;> (try simp only [Int.toNat_natCast]) <;> omega) | (refine ⟨?_⟩; simp only [decide_eq_true_eq, decide_eq_false_iff_not]; omega) | (refine ⟨?_⟩; simp only [Int.toNat_natCast, decide_eq_true_eq, decide_eq_false_iff_not]; first | assumption | omega) | (exact he_one _ _ rfl) | (refine he_snoc ?_; first | rfl | assumption) | (refine ⟨?_⟩; assumption))
set_option maxRecDepth 100000 in
theorem spHe : FnSpec Tryd.prog 83 FHe := by
  refine spec_body tbH_ok Tryd.func83 (by kernel_rfl) (by kernel_rfl) fun gs g ps hF' hps => ?_
  unfold FHe at hF'
  split at hF' <;> try (cases hF'; done)
  rename_i e1 r fm b0 e2 d ft
  cases hF'
  obtain ⟨h1, _⟩ := hps
  refine ⟨ldA0 (gH e1 e2 r d b0 fm ft), ldH0 (gH e1 e2 r d b0 fm ft), rfl, ⟨Nat.le_of_ble_eq_true (by kernel_rfl), Nat.le_of_ble_eq_true (by kernel_rfl)⟩, fun base E hE => ?_⟩
  exact Tri.flat (he_all e1 e2 r d b0 fm ft (by rw [hE]; rfl) h1)

end PartOfKhe

section PartOfKtr
open Go Go.RowKit Go.Proofs
noncomputable def fT9 : Func := Tryd.f76
noncomputable def tbT9 : Tab := mkTab tyAll Tryd.prog [] [(101, FSsp), (78, FBtw)] []
noncomputable def gT9 (lo hi : Int) (e1 : TypeId) (r : Nat) (fm : Nat → Nat → Int) : List GV := [.agg [.lit (.int .i64 lo), .lit (.int .i64 hi), .rows e1 3 r fm]]
def mst (fm : Nat → Nat → Int) : Nat → Int
  | 0 => 99999
  | k + 1 => fm k 0 - 1
noncomputable def JT9 (lo hi : Int) (e1 : TypeId) (r : Nat) (fm : Nat → Nat → Int) (i : Nat) : JS := ⟨39, [(3, .lit (.int .i64 (mst fm i))), (18, .isl 0 r), (19, .lit (.int .i64 (r : Nat))), (20, .lit (.int .i64 (i : Nat)))], [], [(0, ⟨false, e1, 3, r, fm⟩)], 1⟩
noncomputable def KT9 (lo hi : Int) (e1 : TypeId) (r : Nat) (fm : Nat → Nat → Int) : JS := ⟨39, [], [], [(0, ⟨false, e1, 3, r, fm⟩)], 1⟩
structure MkP (fm : Nat → Nat → Int) (i : Nat) : Prop where
  a : 1 ≤ fm i 0
  b : fm i 0 ≤ mst fm i
  c : -900 ≤ fm i 1
  d : fm i 1 ≤ fm i 2
  e : fm i 2 ≤ 500
structure TrOK (lo hi : Int) (r : Nat) (fm : Nat → Nat → Int) : Prop where
  s : -5000 ≤ lo ∧ lo ≤ hi ∧ hi ≤ 5000
  r1 : 1 ≤ r
  r8 : r ≤ 8
  m : ∀ k, k < r → MkP fm k
open Classical in
noncomputable def TrB (lo hi : Int) (r : Nat) (fm : Nat → Nat → Int) : Bool := decide (TrOK lo hi r fm)
open Classical in
theorem TrB_yes {lo hi : Int} {r : Nat} {fm : Nat → Nat → Int} (h : TrOK lo hi r fm) : TrB lo hi r fm = true := decide_eq_true h
open Classical in
theorem TrB_no {lo hi : Int} {r : Nat} {fm : Nat → Nat → Int} (h : ¬ TrOK lo hi r fm) : TrB lo hi r fm = false := decide_eq_false h
open Classical in
theorem TrB_out {lo hi : Int} {r : Nat} {fm : Nat → Nat → Int} (h : TrB lo hi r fm = true) : TrOK lo hi r fm := of_decide_eq_true h
open Classical in
theorem TrB_nut {lo hi : Int} {r : Nat} {fm : Nat → Nat → Int} (h : TrB lo hi r fm = false) : ¬ TrOK lo hi r fm := of_decide_eq_false h
theorem mst_le {fm : Nat → Nat → Int} : ∀ {i : Nat}, (∀ k, k < i → MkP fm k) → mst fm i ≤ 99999
  | 0, _ => Int.le_refl _
  | k + 1, h => by
    have g := (h k (Nat.lt_succ_self k)).b
    have ih := mst_le (i := k) (fun j hj => h j (by omega))
    simp only [mst]; omega
theorem tbT9_ok : ∀ base, TabOK Tryd.prog tbT9 base := mkTab_ok mixedP tyAll_ok (fun p hp => by
  rcases List.mem_cons.1 hp with rfl | hp
  · exact spSsp
  rcases List.mem_cons.1 hp with rfl | hp
  · exact spBtw
  cases hp) (fun p hp => by cases hp)
noncomputable def FTr : GSpec := fun gs => match gs with
  | [.agg [.lit (.int .i64 lo), .lit (.int .i64 hi), .rows e1 3 r fm]] => some (.sb (TrB lo hi r fm), [])
  | _ => none
set_option maxRecDepth 100000 in
set_option maxHeartbeats 2000000 in
theorem tr_end (lo hi : Int) (e1 : TypeId) (r : Nat) (fm : Nat → Nat → Int) (hv : TrB lo hi r fm = true) {base : Bs} {E : Ent} : TriL Tryd.prog base E ((flat (bodyC fT9)).drop 6) (KT9 lo hi e1 r fm).A (KT9 lo hi e1 r fm).h (finP tbT9 fT9 (.sb (TrB lo hi r fm))) := by
  refine TriL.path tbT9_ok [] (by kernel_rfl) (of_skel (q := True ∧ (EqB true (TrB lo hi r fm) ∧ True) ∧ True) (by kernel_rfl) ?_)
  ((repeat' apply And.intro) <;> first | exact trivial | exact ⟨rfl⟩ | exact ⟨fun _ _ _ _ => rfl⟩ | (refine inR64 ?_ ?_ <;> omega) | (refine ⟨?_⟩; (try simp only [Int.toNat_natCast]); omega) | (refine ⟨?_, ?_⟩ <;> (try simp only [Int.toNat_natCast]) <;> omega) | (refine ⟨?_⟩; simp only [decide_eq_true_eq, decide_eq_false_iff_not]; omega) | (refine ⟨?_⟩; simp only [Int.toNat_natCast, decide_eq_true_eq, decide_eq_false_iff_not, Bool.not_eq_true', Bool.not_eq_false']; first | assumption | omega) | (refine ⟨?_⟩; first | exact hv | exact hv.symm))
set_option maxRecDepth 100000 in
set_option maxHeartbeats 2000000 in
theorem tr_all (lo hi : Int) (e1 : TypeId) (r : Nat) (fm : Nat → Nat → Int) {base : Bs} {E : Ent} (hN : E.h.next = 1) : TriL Tryd.prog base E (flat (bodyC fT9)) (start fT9 (ldA0 (gT9 lo hi e1 r fm))) (ldH0 (gT9 lo hi e1 r fm)) (finP tbT9 fT9 (.sb (TrB lo hi r fm))) := by
  by_cases hs : -5000 ≤ lo ∧ lo ≤ hi ∧ hi ≤ 5000
  rotate_left
  · have hv := TrB_no (lo := lo) (hi := hi) (r := r) (fm := fm) (fun h => hs h.s)
    refine TriL.path tbT9_ok [true] (by kernel_rfl) (of_skel (q := (EqB (!decide (-5000 ≤ lo ∧ lo ≤ hi ∧ hi ≤ 5000)) true ∧ True) ∧ (EqB false (TrB lo hi r fm) ∧ True) ∧ True) (by kernel_rfl) ?_)
    ((repeat' apply And.intro) <;> first | exact trivial | exact ⟨rfl⟩ | exact ⟨fun _ _ _ _ => rfl⟩ | (refine inR64 ?_ ?_ <;> omega) | (refine ⟨?_⟩; (try simp only [Int.toNat_natCast]); omega) | (refine ⟨?_, ?_⟩ <;> (try simp only [Int.toNat_natCast]) <;> omega) | (refine ⟨?_⟩; simp only [decide_eq_true_eq, decide_eq_false_iff_not]; omega) | (refine ⟨?_⟩; simp only [Int.toNat_natCast, decide_eq_true_eq, decide_eq_false_iff_not, Bool.not_eq_true', Bool.not_eq_false']; first | assumption | omega) | (refine ⟨?_⟩; first | exact hv | exact hv.symm))
  by_cases hr : 1 ≤ (r : Int) ∧ (r : Int) ≤ 8
  rotate_left
  · have hv := TrB_no (lo := lo) (hi := hi) (r := r) (fm := fm) (fun h => hr (by have := h.r1; have := h.r8; omega))
    refine TriL.path tbT9_ok [false, true] (by kernel_rfl) (of_skel (q := (EqB (!decide (1 ≤ (↑r : Int) ∧ (↑r : Int) ≤ 8)) true ∧ EqB (!decide (-5000 ≤ lo ∧ lo ≤ hi ∧ hi ≤ 5000)) false ∧ True) ∧ (EqB false (TrB lo hi r fm) ∧ True) ∧ True) (by kernel_rfl) ?_)
    ((repeat' apply And.intro) <;> first | exact trivial | exact ⟨rfl⟩ | exact ⟨fun _ _ _ _ => rfl⟩ | (refine inR64 ?_ ?_ <;> omega) | (refine ⟨?_⟩; (try simp only [Int.toNat_natCast]); omega) | (refine ⟨?_, ?_⟩ <;> (try simp only [Int.toNat_natCast]) <;> omega) | (refine ⟨?_⟩; simp only [decide_eq_true_eq, decide_eq_false_iff_not]; omega) | (refine ⟨?_⟩; simp only [Int.toNat_natCast, decide_eq_true_eq, decide_eq_false_iff_not, Bool.not_eq_true', Bool.not_eq_false']; first | assumption | omega) | (refine ⟨?_⟩; first | exact hv | exact hv.symm))
  refine TriL.rounds 5 (by kernel_rfl) (fun x : {i : Nat // i ≤ r ∧ ∀ k, k < i → MkP fm k} => JT9 lo hi e1 r fm x.1) (fun x => r - x.1) ⟨0, Nat.zero_le _, fun k hk => absurd hk (Nat.not_lt_zero _)⟩ ?_ fun x => ?_
  · refine TriL.mono ?_ (preQ_ok (σ := fun x => x) hN (J0 := JT9 lo hi e1 r fm 0))
    refine TriL.path tbT9_ok [false, false] (by kernel_rfl) (of_skel (q := (EqB (!decide (1 ≤ (↑r : Int) ∧ (↑r : Int) ≤ 8)) false ∧ EqB (!decide (-5000 ≤ lo ∧ lo ≤ hi ∧ hi ≤ 5000)) false ∧ True) ∧ EqI 99999 (mst fm 0) ∧ EqN r r ∧ EqI (↑r : Int) (↑r : Int) ∧ EqI 0 (↑0 : Int) ∧ EqB false false ∧ EqN r r ∧ RowEq r 3 fm fm ∧ True) (by kernel_rfl) ?_)
    ((repeat' apply And.intro) <;> first | exact trivial | exact ⟨rfl⟩ | exact ⟨fun _ _ _ _ => rfl⟩ | (refine inR64 ?_ ?_ <;> omega) | (refine ⟨?_⟩; (try simp only [Int.toNat_natCast]); omega) | (refine ⟨?_, ?_⟩ <;> (try simp only [Int.toNat_natCast]) <;> omega) | (refine ⟨?_⟩; simp only [decide_eq_true_eq, decide_eq_false_iff_not]; omega) | (refine ⟨?_⟩; simp only [Int.toNat_natCast, decide_eq_true_eq, decide_eq_false_iff_not, Bool.not_eq_true', Bool.not_eq_false']; first | assumption | omega) | (refine ⟨?_⟩; first | exact hv | exact hv.symm))
  · obtain ⟨i, hii, hb⟩ := x
    have e2 : ((i : Nat) : Int).toNat = i := by omega
    by_cases hx : i < r
    · by_cases hp : 1 ≤ fm i 0 ∧ fm i 0 ≤ mst fm i
      · by_cases hq : -900 ≤ fm i 1 ∧ fm i 1 ≤ fm i 2 ∧ fm i 2 ≤ 500
        · have hm := mst_le hb
          refine Tri.mono ?_ (roundQ_R (σ := fun x => x) (X := fun _ _ => False) (⟨i + 1, hx, fun k hk => by
            rcases Nat.lt_succ_iff_lt_or_eq.1 hk with h | rfl
            · exact hb k h
            · exact ⟨hp.1, hp.2, hq.1, hq.2.1, hq.2.2⟩⟩ : {i : Nat // i ≤ r ∧ ∀ k, k < i → MkP fm k}) (by show r - (i + 1) < r - i; omega) hN (fun _ _ h => h.elim))
          refine Tri.path (tbT9_ok base) 200 [true, false, false] (of_skel (q := (InR IntKind.i64 ((↑i : Int) + 1) ∧ InR IntKind.i64 (fm (↑i : Int).toNat 0 - 1) ∧ EqB (!decide (-900 ≤ fm (↑i : Int).toNat 1 ∧ fm (↑i : Int).toNat 1 ≤ fm (↑i : Int).toNat 2 ∧ fm (↑i : Int).toNat 2 ≤ 500)) false ∧ EqB (!decide (1 ≤ fm (↑i : Int).toNat 0 ∧ fm (↑i : Int).toNat 0 ≤ mst fm i)) false ∧ LtN (↑i : Int).toNat r ∧ IxIn (↑i : Int) r ∧ EqB (decide ((↑i : Int) < (↑r : Int))) true ∧ True) ∧ EqI (fm (↑i : Int).toNat 0 - 1) (mst fm (i + 1)) ∧ EqN r r ∧ EqI (↑r : Int) (↑r : Int) ∧ EqI ((↑i : Int) + 1) (↑(i + 1) : Int) ∧ EqB false false ∧ EqN r r ∧ RowEq r 3 fm fm ∧ True) (by kernel_rfl) ?_)
          simp only [e2]
          ((repeat' apply And.intro) <;> first | exact trivial | exact ⟨rfl⟩ | exact ⟨fun _ _ _ _ => rfl⟩ | (refine inR64 ?_ ?_ <;> omega) | (refine ⟨?_⟩; (try simp only [Int.toNat_natCast]); omega) | (refine ⟨?_, ?_⟩ <;> (try simp only [Int.toNat_natCast]) <;> omega) | (refine ⟨?_⟩; simp only [decide_eq_true_eq, decide_eq_false_iff_not]; omega) | (refine ⟨?_⟩; simp only [Int.toNat_natCast, decide_eq_true_eq, decide_eq_false_iff_not, Bool.not_eq_true', Bool.not_eq_false']; first | assumption | omega) | (refine ⟨?_⟩; first | exact hv | exact hv.symm))
        · have hv := TrB_no (lo := lo) (hi := hi) (r := r) (fm := fm) (fun h => hq ⟨(h.m i hx).c, (h.m i hx).d, (h.m i hx).e⟩)
          refine Tri.mono ?_ (lastQ_R (X := fun _ _ => False) (fun _ _ h => h.elim))
          refine Tri.path (tbT9_ok base) 200 [true, false, true] (of_skel (q := (EqB (!decide (-900 ≤ fm (↑i : Int).toNat 1 ∧ fm (↑i : Int).toNat 1 ≤ fm (↑i : Int).toNat 2 ∧ fm (↑i : Int).toNat 2 ≤ 500)) true ∧ EqB (!decide (1 ≤ fm (↑i : Int).toNat 0 ∧ fm (↑i : Int).toNat 0 ≤ mst fm i)) false ∧ LtN (↑i : Int).toNat r ∧ IxIn (↑i : Int) r ∧ EqB (decide ((↑i : Int) < (↑r : Int))) true ∧ True) ∧ (EqB false (TrB lo hi r fm) ∧ True) ∧ True) (by kernel_rfl) ?_)
          simp only [e2]
          ((repeat' apply And.intro) <;> first | exact trivial | exact ⟨rfl⟩ | exact ⟨fun _ _ _ _ => rfl⟩ | (refine inR64 ?_ ?_ <;> omega) | (refine ⟨?_⟩; (try simp only [Int.toNat_natCast]); omega) | (refine ⟨?_, ?_⟩ <;> (try simp only [Int.toNat_natCast]) <;> omega) | (refine ⟨?_⟩; simp only [decide_eq_true_eq, decide_eq_false_iff_not]; omega) | (refine ⟨?_⟩; simp only [Int.toNat_natCast, decide_eq_true_eq, decide_eq_false_iff_not, Bool.not_eq_true', Bool.not_eq_false']; first | assumption | omega) | (refine ⟨?_⟩; first | exact hv | exact hv.symm))
      · have hv := TrB_no (lo := lo) (hi := hi) (r := r) (fm := fm) (fun h => hp ⟨(h.m i hx).a, (h.m i hx).b⟩)
        refine Tri.mono ?_ (lastQ_R (X := fun _ _ => False) (fun _ _ h => h.elim))
        refine Tri.path (tbT9_ok base) 200 [true, true] (of_skel (q := (EqB (!decide (1 ≤ fm (↑i : Int).toNat 0 ∧ fm (↑i : Int).toNat 0 ≤ mst fm i)) true ∧ LtN (↑i : Int).toNat r ∧ IxIn (↑i : Int) r ∧ EqB (decide ((↑i : Int) < (↑r : Int))) true ∧ True) ∧ (EqB false (TrB lo hi r fm) ∧ True) ∧ True) (by kernel_rfl) ?_)
        simp only [e2]
        ((repeat' apply And.intro) <;> first | exact trivial | exact ⟨rfl⟩ | exact ⟨fun _ _ _ _ => rfl⟩ | (refine inR64 ?_ ?_ <;> omega) | (refine ⟨?_⟩; (try simp only [Int.toNat_natCast]); omega) | (refine ⟨?_, ?_⟩ <;> (try simp only [Int.toNat_natCast]) <;> omega) | (refine ⟨?_⟩; simp only [decide_eq_true_eq, decide_eq_false_iff_not]; omega) | (refine ⟨?_⟩; simp only [Int.toNat_natCast, decide_eq_true_eq, decide_eq_false_iff_not, Bool.not_eq_true', Bool.not_eq_false']; first | assumption | omega) | (refine ⟨?_⟩; first | exact hv | exact hv.symm))
    · have hx' : i = r := by omega
      subst hx'
      have hv := TrB_yes (lo := lo) (hi := hi) (r := i) (fm := fm) ⟨hs, by omega, by omega, hb⟩
      refine Tri.mono ?_ (lastQ_R (X := toX (fun x => x) 1 (KT9 lo hi e1 i fm)) (toX_ok hN (by kernel_rfl) (tr_end lo hi e1 i fm hv)))
      refine Tri.path (tbT9_ok base) 200 [false] (of_skel (q := (EqB (decide ((↑i : Int) < (↑i : Int))) false ∧ True) ∧ EqB false false ∧ EqN i i ∧ RowEq i 3 fm fm ∧ True) (by kernel_rfl) ?_)
      ((repeat' apply And.intro) <;> first | exact trivial | exact ⟨rfl⟩ | exact ⟨fun _ _ _ _ => rfl⟩ | (refine inR64 ?_ ?_ <;> omega) | (refine ⟨?_⟩; (try simp only [Int.toNat_natCast]); omega) | (refine ⟨?_, ?_⟩ <;> (try simp only [Int.toNat_natCast]) <;> omega) | (refine ⟨?_⟩; simp only [decide_eq_true_eq, decide_eq_false_iff_not]; omega) | (refine ⟨?_⟩; simp only [Int.toNat_natCast, decide_eq_true_eq, decide_eq_false_iff_not, Bool.not_eq_true', Bool.not_eq_false']; first | assumption | omega) | (refine ⟨?_⟩; first | exact hv | exact hv.symm))
set_option maxRecDepth 100000 in
theorem spTr : FnSpec Tryd.prog 76 FTr := by
  refine spec_body tbT9_ok Tryd.func76 (by kernel_rfl) (by kernel_rfl) fun gs g ps hF' hps => ?_
  unfold FTr at hF'
  split at hF' <;> try (cases hF'; done)
  rename_i lo hi e1 r fm
  cases hF'
  refine ⟨ldA0 (gT9 lo hi e1 r fm), ldH0 (gT9 lo hi e1 r fm), rfl, ⟨Nat.le_of_ble_eq_true (by kernel_rfl), Nat.le_of_ble_eq_true (by kernel_rfl)⟩, fun base E hE => ?_⟩
  exact Tri.flat (tr_all lo hi e1 r fm (by rw [hE]; rfl))

end PartOfKtr

section PartOfKrt
open Go Go.RowKit Go.Proofs
noncomputable def fG9 : Func := Tryd.f29
noncomputable def tbG9 : Tab := mkTab tyAll Tryd.prog [] [(68, FRsp), (74, FRin)] []
noncomputable def gG9 (lo hi : Int) (e1 : TypeId) (r : Nat) (fm : Nat → Nat → Int) : List GV := [.agg [.lit (.int .i64 lo), .lit (.int .i64 hi), .rows e1 3 r fm]]
noncomputable def JG9 (lo hi : Int) (e1 : TypeId) (r : Nat) (fm : Nat → Nat → Int) (i : Nat) : JS := ⟨52, [(1, .ptr 1 0), (3, .lit (.int .i64 (i : Nat)))], [(1, .cells [.lit (.int .i64 lo), .lit (.int .i64 hi), .isl 0 r] 40 none)], [(0, ⟨false, e1, 3, r, fm⟩)], 2⟩
noncomputable def KG9 (lo hi : Int) (e1 : TypeId) (r : Nat) (fm : Nat → Nat → Int) : JS := ⟨52, [(1, .ptr 1 0)], [(1, .cells [.lit (.int .i64 lo), .lit (.int .i64 hi), .isl 0 r] 40 none)], [(0, ⟨false, e1, 3, r, fm⟩)], 2⟩
theorem tbG9_ok : ∀ base, TabOK Tryd.prog tbG9 base := mkTab_ok mixedP tyAll_ok (fun p hp => by
  rcases List.mem_cons.1 hp with rfl | hp
  · exact spRsp
  rcases List.mem_cons.1 hp with rfl | hp
  · exact spRin
  cases hp) (fun p hp => by cases hp)
noncomputable def FRt : GSpec := fun gs => match gs with
  | [.agg [.lit (.int .i64 lo), .lit (.int .i64 hi), .rows e1 3 r fm]] => some (.sb (TrB lo hi r fm), [LeN r 1000000000000])
  | _ => none
set_option maxRecDepth 100000 in
set_option maxHeartbeats 2000000 in
theorem rt_end (lo hi : Int) (e1 : TypeId) (r : Nat) (fm : Nat → Nat → Int) (hb : ∀ k, k < r → MkP fm k) {base : Bs} {E : Ent} : TriL Tryd.prog base E ((flat (bodyC fG9)).drop 3) (KG9 lo hi e1 r fm).A (KG9 lo hi e1 r fm).h (finP tbG9 fG9 (.sb (TrB lo hi r fm))) := by
  by_cases hs : -5000 ≤ lo ∧ lo ≤ hi ∧ hi ≤ 5000
  · have hv : TrB lo hi r fm = decide (1 ≤ (r : Int) ∧ (r : Int) ≤ 8) := by
      by_cases hr : 1 ≤ (r : Int) ∧ (r : Int) ≤ 8
      · rw [TrB_yes ⟨hs, by omega, by omega, hb⟩, decide_eq_true hr]
      · rw [TrB_no (fun h => hr (by have := h.r1; have := h.r8; omega)), decide_eq_false hr]
    refine TriL.path tbG9_ok [true] (by kernel_rfl) (of_skel (q := (EqB (decide (-5000 ≤ lo ∧ lo ≤ hi ∧ hi ≤ 5000)) true ∧ True) ∧ (EqB (decide (1 ≤ (↑r : Int) ∧ (↑r : Int) ≤ 8)) (TrB lo hi r fm) ∧ True) ∧ True) (by kernel_rfl) ?_)
    ((repeat' apply And.intro) <;> first | exact trivial | exact ⟨rfl⟩ | exact ⟨fun _ _ _ _ => rfl⟩ | (refine inR64 ?_ ?_ <;> omega) | (refine ⟨?_⟩; (try simp only [Int.toNat_natCast]); omega) | (refine ⟨?_, ?_⟩ <;> (try simp only [Int.toNat_natCast]) <;> omega) | (refine ⟨?_⟩; simp only [decide_eq_true_eq, decide_eq_false_iff_not]; omega) | (refine ⟨?_⟩; simp only [Int.toNat_natCast, decide_eq_true_eq, decide_eq_false_iff_not, Bool.not_eq_true', Bool.not_eq_false']; first | assumption | omega) | (refine ⟨?_⟩; first | exact hv | exact hv.symm))
  · have hv := TrB_no (lo := lo) (hi := hi) (r := r) (fm := fm) (fun h => hs h.s)
    refine TriL.path tbG9_ok [false] (by kernel_rfl) (of_skel (q := (EqB (decide (-5000 ≤ lo ∧ lo ≤ hi ∧ hi ≤ 5000)) false ∧ True) ∧ (EqB false (TrB lo hi r fm) ∧ True) ∧ True) (by kernel_rfl) ?_)
    ((repeat' apply And.intro) <;> first | exact trivial | exact ⟨rfl⟩ | exact ⟨fun _ _ _ _ => rfl⟩ | (refine inR64 ?_ ?_ <;> omega) | (refine ⟨?_⟩; (try simp only [Int.toNat_natCast]); omega) | (refine ⟨?_, ?_⟩ <;> (try simp only [Int.toNat_natCast]) <;> omega) | (refine ⟨?_⟩; simp only [decide_eq_true_eq, decide_eq_false_iff_not]; omega) | (refine ⟨?_⟩; simp only [Int.toNat_natCast, decide_eq_true_eq, decide_eq_false_iff_not, Bool.not_eq_true', Bool.not_eq_false']; first | assumption | omega) | (refine ⟨?_⟩; first | exact hv | exact hv.symm))
set_option maxRecDepth 100000 in
set_option maxHeartbeats 2000000 in
theorem rt_all (lo hi : Int) (e1 : TypeId) (r : Nat) (fm : Nat → Nat → Int) {base : Bs} {E : Ent} (hN : E.h.next = 1) (hrN : r ≤ 1000000000000) : TriL Tryd.prog base E (flat (bodyC fG9)) (start fG9 (ldA0 (gG9 lo hi e1 r fm))) (ldH0 (gG9 lo hi e1 r fm)) (finP tbG9 fG9 (.sb (TrB lo hi r fm))) := by
  refine TriL.rounds 2 (by kernel_rfl) (fun x : {i : Nat // i ≤ r ∧ ∀ k, k < i → MkP fm k} => JG9 lo hi e1 r fm x.1) (fun x => r - x.1) ⟨0, Nat.zero_le _, fun k hk => absurd hk (Nat.not_lt_zero _)⟩ ?_ fun x => ?_
  · refine TriL.mono ?_ (preQ_ok (σ := fun x => x) hN (J0 := JG9 lo hi e1 r fm 0))
    refine TriL.path tbG9_ok [] (by kernel_rfl) (of_skel (q := True ∧ EqN 0 0 ∧ EqI 0 (↑0 : Int) ∧ EqI lo lo ∧ EqI hi hi ∧ EqN r r ∧ EqB false false ∧ EqN r r ∧ RowEq r 3 fm fm ∧ True) (by kernel_rfl) ?_)
    ((repeat' apply And.intro) <;> first | exact trivial | exact ⟨rfl⟩ | exact ⟨fun _ _ _ _ => rfl⟩ | (refine inR64 ?_ ?_ <;> omega) | (refine ⟨?_⟩; (try simp only [Int.toNat_natCast]); omega) | (refine ⟨?_, ?_⟩ <;> (try simp only [Int.toNat_natCast]) <;> omega) | (refine ⟨?_⟩; simp only [decide_eq_true_eq, decide_eq_false_iff_not]; omega) | (refine ⟨?_⟩; simp only [Int.toNat_natCast, decide_eq_true_eq, decide_eq_false_iff_not, Bool.not_eq_true', Bool.not_eq_false']; first | assumption | omega) | (refine ⟨?_⟩; first | exact hv | exact hv.symm))
  · obtain ⟨i, hii, hb⟩ := x
    have e2 : ((i : Nat) : Int).toNat = i := by omega
    have hstep : MkP fm i → ∀ k, k < i + 1 → MkP fm k := fun h k hk => by
      rcases Nat.lt_succ_iff_lt_or_eq.1 hk with h' | rfl
      · exact hb k h'
      · exact h
    by_cases hx : i < r
    · have hm := mst_le hb
      by_cases hp : 1 ≤ fm i 0 ∧ fm i 0 ≤ 99999
      · by_cases hq : -900 ≤ fm i 1 ∧ fm i 1 ≤ fm i 2 ∧ fm i 2 ≤ 500
        · cases i with
          | zero =>
            refine Tri.mono ?_ (roundQ_R (σ := fun x => x) (X := fun _ _ => False) (⟨0 + 1, hx, hstep ⟨hp.1, hp.2, hq.1, hq.2.1, hq.2.2⟩⟩ : {i : Nat // i ≤ r ∧ ∀ k, k < i → MkP fm k}) (by show r - (0 + 1) < r - (0 : Nat); omega) hN (fun _ _ h => h.elim))
            refine Tri.path (tbG9_ok base) 200 [true,false,false,false] (of_skel (q := (InR IntKind.i64 ((↑(0 : Nat) : Int) + 1) ∧ EqB (decide ((↑(0 : Nat) : Int) > 0)) false ∧ EqB (!decide (-900 ≤ fm (↑(0 : Nat) : Int).toNat 1 ∧ fm (↑(0 : Nat) : Int).toNat 1 ≤ fm (↑(0 : Nat) : Int).toNat 2 ∧ fm (↑(0 : Nat) : Int).toNat 2 ≤ 500)) false ∧ EqC (some [AV.lit (Value.int IntKind.i64 (fm (↑(0 : Nat) : Int).toNat 0))]) (some [AV.lit (Value.int IntKind.i64 (fm (↑(0 : Nat) : Int).toNat 0))]) ∧ EqC (some [AV.lit (Value.int IntKind.i64 (fm (↑(0 : Nat) : Int).toNat 1)), AV.lit (Value.int IntKind.i64 (fm (↑(0 : Nat) : Int).toNat 2))]) (some [AV.lit (Value.int IntKind.i64 (fm (↑(0 : Nat) : Int).toNat 1)), AV.lit (Value.int IntKind.i64 (fm (↑(0 : Nat) : Int).toNat 2))]) ∧ EqC (some [AV.lit (Value.int IntKind.i64 (fm (↑(0 : Nat) : Int).toNat 0))]) (some [AV.lit (Value.int IntKind.i64 (fm (↑(0 : Nat) : Int).toNat 0))]) ∧ EqC (some [AV.isl 0 r]) (some [AV.isl 0 r]) ∧ EqB (!decide (1 ≤ fm (↑(0 : Nat) : Int).toNat 0 ∧ fm (↑(0 : Nat) : Int).toNat 0 ≤ 99999)) false ∧ EqC (some [AV.lit (Value.int IntKind.i64 (fm (↑(0 : Nat) : Int).toNat 0))]) (some [AV.lit (Value.int IntKind.i64 (fm (↑(0 : Nat) : Int).toNat 0))]) ∧ EqC (some [AV.lit (Value.int IntKind.i64 (fm (↑(0 : Nat) : Int).toNat 1)), AV.lit (Value.int IntKind.i64 (fm (↑(0 : Nat) : Int).toNat 2))]) (some [AV.lit (Value.int IntKind.i64 (fm (↑(0 : Nat) : Int).toNat 1)), AV.lit (Value.int IntKind.i64 (fm (↑(0 : Nat) : Int).toNat 2))]) ∧ EqC (some [AV.lit (Value.int IntKind.i64 (fm (↑(0 : Nat) : Int).toNat 0))]) (some [AV.lit (Value.int IntKind.i64 (fm (↑(0 : Nat) : Int).toNat 0))]) ∧ EqC (some [AV.isl 0 r]) (some [AV.isl 0 r]) ∧ LtN (↑(0 : Nat) : Int).toNat r ∧ IxIn (↑(0 : Nat) : Int) r ∧ EqB (decide ((↑(0 : Nat) : Int) < (↑r : Int))) true ∧ True) ∧ EqN 0 0 ∧ EqI ((↑(0 : Nat) : Int) + 1) (↑(0 + 1) : Int) ∧ EqI lo lo ∧ EqI hi hi ∧ EqN r r ∧ EqB false false ∧ EqN r r ∧ RowEq r 3 fm fm ∧ True) (by kernel_rfl) ?_)
            simp only [Int.toNat_natCast]
            ((repeat' apply And.intro) <;> first | exact trivial | exact ⟨rfl⟩ | exact ⟨fun _ _ _ _ => rfl⟩ | (refine inR64 ?_ ?_ <;> omega) | (refine ⟨?_⟩; (try simp only [Int.toNat_natCast]); omega) | (refine ⟨?_, ?_⟩ <;> (try simp only [Int.toNat_natCast]) <;> omega) | (refine ⟨?_⟩; simp only [decide_eq_true_eq, decide_eq_false_iff_not]; omega) | (refine ⟨?_⟩; simp only [Int.toNat_natCast, decide_eq_true_eq, decide_eq_false_iff_not, Bool.not_eq_true', Bool.not_eq_false']; first | assumption | omega) | (refine ⟨?_⟩; first | exact hv | exact hv.symm))
          | succ k =>
            have e1 : (((k + 1 : Nat) : Int) - 1).toNat = k := by omega
            by_cases hd : fm (k + 1) 0 ≥ fm k 0
            · have hv := TrB_no (lo := lo) (hi := hi) (r := r) (fm := fm) (fun h => by have := (h.m (k + 1) hx).b; simp only [mst] at this; omega)
              refine Tri.mono ?_ (lastQ_R (X := fun _ _ => False) (fun _ _ h => h.elim))
              refine Tri.path (tbG9_ok base) 200 [true,false,false,true,true] (of_skel (q := (EqB (decide (fm (↑(k + 1) : Int).toNat 0 ≥ fm ((↑(k + 1) : Int) - 1).toNat 0)) true ∧ LtN ((↑(k + 1) : Int) - 1).toNat r ∧ IxIn ((↑(k + 1) : Int) - 1) r ∧ InR IntKind.i64 ((↑(k + 1) : Int) - 1) ∧ EqB (decide ((↑(k + 1) : Int) > 0)) true ∧ EqB (!decide (-900 ≤ fm (↑(k + 1) : Int).toNat 1 ∧ fm (↑(k + 1) : Int).toNat 1 ≤ fm (↑(k + 1) : Int).toNat 2 ∧ fm (↑(k + 1) : Int).toNat 2 ≤ 500)) false ∧ EqC (some [AV.lit (Value.int IntKind.i64 (fm (↑(k + 1) : Int).toNat 0))]) (some [AV.lit (Value.int IntKind.i64 (fm (↑(k + 1) : Int).toNat 0))]) ∧ EqC (some [AV.lit (Value.int IntKind.i64 (fm (↑(k + 1) : Int).toNat 1)), AV.lit (Value.int IntKind.i64 (fm (↑(k + 1) : Int).toNat 2))]) (some [AV.lit (Value.int IntKind.i64 (fm (↑(k + 1) : Int).toNat 1)), AV.lit (Value.int IntKind.i64 (fm (↑(k + 1) : Int).toNat 2))]) ∧ EqC (some [AV.lit (Value.int IntKind.i64 (fm (↑(k + 1) : Int).toNat 0))]) (some [AV.lit (Value.int IntKind.i64 (fm (↑(k + 1) : Int).toNat 0))]) ∧ EqC (some [AV.isl 0 r]) (some [AV.isl 0 r]) ∧ EqB (!decide (1 ≤ fm (↑(k + 1) : Int).toNat 0 ∧ fm (↑(k + 1) : Int).toNat 0 ≤ 99999)) false ∧ EqC (some [AV.lit (Value.int IntKind.i64 (fm (↑(k + 1) : Int).toNat 0))]) (some [AV.lit (Value.int IntKind.i64 (fm (↑(k + 1) : Int).toNat 0))]) ∧ EqC (some [AV.lit (Value.int IntKind.i64 (fm (↑(k + 1) : Int).toNat 1)), AV.lit (Value.int IntKind.i64 (fm (↑(k + 1) : Int).toNat 2))]) (some [AV.lit (Value.int IntKind.i64 (fm (↑(k + 1) : Int).toNat 1)), AV.lit (Value.int IntKind.i64 (fm (↑(k + 1) : Int).toNat 2))]) ∧ EqC (some [AV.lit (Value.int IntKind.i64 (fm (↑(k + 1) : Int).toNat 0))]) (some [AV.lit (Value.int IntKind.i64 (fm (↑(k + 1) : Int).toNat 0))]) ∧ EqC (some [AV.isl 0 r]) (some [AV.isl 0 r]) ∧ LtN (↑(k + 1) : Int).toNat r ∧ IxIn (↑(k + 1) : Int) r ∧ EqB (decide ((↑(k + 1) : Int) < (↑r : Int))) true ∧ True) ∧ (EqB false (TrB lo hi r fm) ∧ True) ∧ True) (by kernel_rfl) ?_)
              simp only [e1, Int.toNat_natCast]
              ((repeat' apply And.intro) <;> first | exact trivial | exact ⟨rfl⟩ | exact ⟨fun _ _ _ _ => rfl⟩ | (refine inR64 ?_ ?_ <;> omega) | (refine ⟨?_⟩; (try simp only [Int.toNat_natCast]); omega) | (refine ⟨?_, ?_⟩ <;> (try simp only [Int.toNat_natCast]) <;> omega) | (refine ⟨?_⟩; simp only [decide_eq_true_eq, decide_eq_false_iff_not]; omega) | (refine ⟨?_⟩; simp only [Int.toNat_natCast, decide_eq_true_eq, decide_eq_false_iff_not, Bool.not_eq_true', Bool.not_eq_false']; first | assumption | omega) | (refine ⟨?_⟩; first | exact hv | exact hv.symm))
            · refine Tri.mono ?_ (roundQ_R (σ := fun x => x) (X := fun _ _ => False) (⟨(k + 1) + 1, hx, hstep ⟨hp.1, by simp only [mst]; omega, hq.1, hq.2.1, hq.2.2⟩⟩ : {i : Nat // i ≤ r ∧ ∀ k, k < i → MkP fm k}) (by show r - ((k + 1) + 1) < r - (k + 1); omega) hN (fun _ _ h => h.elim))
              refine Tri.path (tbG9_ok base) 200 [true,false,false,true,false] (of_skel (q := (InR IntKind.i64 ((↑(k + 1) : Int) + 1) ∧ EqB (decide (fm (↑(k + 1) : Int).toNat 0 ≥ fm ((↑(k + 1) : Int) - 1).toNat 0)) false ∧ LtN ((↑(k + 1) : Int) - 1).toNat r ∧ IxIn ((↑(k + 1) : Int) - 1) r ∧ InR IntKind.i64 ((↑(k + 1) : Int) - 1) ∧ EqB (decide ((↑(k + 1) : Int) > 0)) true ∧ EqB (!decide (-900 ≤ fm (↑(k + 1) : Int).toNat 1 ∧ fm (↑(k + 1) : Int).toNat 1 ≤ fm (↑(k + 1) : Int).toNat 2 ∧ fm (↑(k + 1) : Int).toNat 2 ≤ 500)) false ∧ EqC (some [AV.lit (Value.int IntKind.i64 (fm (↑(k + 1) : Int).toNat 0))]) (some [AV.lit (Value.int IntKind.i64 (fm (↑(k + 1) : Int).toNat 0))]) ∧ EqC (some [AV.lit (Value.int IntKind.i64 (fm (↑(k + 1) : Int).toNat 1)), AV.lit (Value.int IntKind.i64 (fm (↑(k + 1) : Int).toNat 2))]) (some [AV.lit (Value.int IntKind.i64 (fm (↑(k + 1) : Int).toNat 1)), AV.lit (Value.int IntKind.i64 (fm (↑(k + 1) : Int).toNat 2))]) ∧ EqC (some [AV.lit (Value.int IntKind.i64 (fm (↑(k + 1) : Int).toNat 0))]) (some [AV.lit (Value.int IntKind.i64 (fm (↑(k + 1) : Int).toNat 0))]) ∧ EqC (some [AV.isl 0 r]) (some [AV.isl 0 r]) ∧ EqB (!decide (1 ≤ fm (↑(k + 1) : Int).toNat 0 ∧ fm (↑(k + 1) : Int).toNat 0 ≤ 99999)) false ∧ EqC (some [AV.lit (Value.int IntKind.i64 (fm (↑(k + 1) : Int).toNat 0))]) (some [AV.lit (Value.int IntKind.i64 (fm (↑(k + 1) : Int).toNat 0))]) ∧ EqC (some [AV.lit (Value.int IntKind.i64 (fm (↑(k + 1) : Int).toNat 1)), AV.lit (Value.int IntKind.i64 (fm (↑(k + 1) : Int).toNat 2))]) (some [AV.lit (Value.int IntKind.i64 (fm (↑(k + 1) : Int).toNat 1)), AV.lit (Value.int IntKind.i64 (fm (↑(k + 1) : Int).toNat 2))]) ∧ EqC (some [AV.lit (Value.int IntKind.i64 (fm (↑(k + 1) : Int).toNat 0))]) (some [AV.lit (Value.int IntKind.i64 (fm (↑(k + 1) : Int).toNat 0))]) ∧ EqC (some [AV.isl 0 r]) (some [AV.isl 0 r]) ∧ LtN (↑(k + 1) : Int).toNat r ∧ IxIn (↑(k + 1) : Int) r ∧ EqB (decide ((↑(k + 1) : Int) < (↑r : Int))) true ∧ True) ∧ EqN 0 0 ∧ EqI ((↑(k + 1) : Int) + 1) (↑((k + 1) + 1) : Int) ∧ EqI lo lo ∧ EqI hi hi ∧ EqN r r ∧ EqB false false ∧ EqN r r ∧ RowEq r 3 fm fm ∧ True) (by kernel_rfl) ?_)
              simp only [e1, Int.toNat_natCast]
              ((repeat' apply And.intro) <;> first | exact trivial | exact ⟨rfl⟩ | exact ⟨fun _ _ _ _ => rfl⟩ | (refine inR64 ?_ ?_ <;> omega) | (refine ⟨?_⟩; (try simp only [Int.toNat_natCast]); omega) | (refine ⟨?_, ?_⟩ <;> (try simp only [Int.toNat_natCast]) <;> omega) | (refine ⟨?_⟩; simp only [decide_eq_true_eq, decide_eq_false_iff_not]; omega) | (refine ⟨?_⟩; simp only [Int.toNat_natCast, decide_eq_true_eq, decide_eq_false_iff_not, Bool.not_eq_true', Bool.not_eq_false']; first | assumption | omega) | (refine ⟨?_⟩; first | exact hv | exact hv.symm))
        · have hv := TrB_no (lo := lo) (hi := hi) (r := r) (fm := fm) (fun h => hq ⟨(h.m i hx).c, (h.m i hx).d, (h.m i hx).e⟩)
          refine Tri.mono ?_ (lastQ_R (X := fun _ _ => False) (fun _ _ h => h.elim))
          refine Tri.path (tbG9_ok base) 200 [true,false,true] (of_skel (q := (EqB (!decide (-900 ≤ fm (↑i : Int).toNat 1 ∧ fm (↑i : Int).toNat 1 ≤ fm (↑i : Int).toNat 2 ∧ fm (↑i : Int).toNat 2 ≤ 500)) true ∧ EqC (some [AV.lit (Value.int IntKind.i64 (fm (↑i : Int).toNat 0))]) (some [AV.lit (Value.int IntKind.i64 (fm (↑i : Int).toNat 0))]) ∧ EqC (some [AV.lit (Value.int IntKind.i64 (fm (↑i : Int).toNat 1)), AV.lit (Value.int IntKind.i64 (fm (↑i : Int).toNat 2))]) (some [AV.lit (Value.int IntKind.i64 (fm (↑i : Int).toNat 1)), AV.lit (Value.int IntKind.i64 (fm (↑i : Int).toNat 2))]) ∧ EqC (some [AV.lit (Value.int IntKind.i64 (fm (↑i : Int).toNat 0))]) (some [AV.lit (Value.int IntKind.i64 (fm (↑i : Int).toNat 0))]) ∧ EqC (some [AV.isl 0 r]) (some [AV.isl 0 r]) ∧ EqB (!decide (1 ≤ fm (↑i : Int).toNat 0 ∧ fm (↑i : Int).toNat 0 ≤ 99999)) false ∧ EqC (some [AV.lit (Value.int IntKind.i64 (fm (↑i : Int).toNat 0))]) (some [AV.lit (Value.int IntKind.i64 (fm (↑i : Int).toNat 0))]) ∧ EqC (some [AV.lit (Value.int IntKind.i64 (fm (↑i : Int).toNat 1)), AV.lit (Value.int IntKind.i64 (fm (↑i : Int).toNat 2))]) (some [AV.lit (Value.int IntKind.i64 (fm (↑i : Int).toNat 1)), AV.lit (Value.int IntKind.i64 (fm (↑i : Int).toNat 2))]) ∧ EqC (some [AV.lit (Value.int IntKind.i64 (fm (↑i : Int).toNat 0))]) (some [AV.lit (Value.int IntKind.i64 (fm (↑i : Int).toNat 0))]) ∧ EqC (some [AV.isl 0 r]) (some [AV.isl 0 r]) ∧ LtN (↑i : Int).toNat r ∧ IxIn (↑i : Int) r ∧ EqB (decide ((↑i : Int) < (↑r : Int))) true ∧ True) ∧ (EqB false (TrB lo hi r fm) ∧ True) ∧ True) (by kernel_rfl) ?_)
          simp only [e2]
          ((repeat' apply And.intro) <;> first | exact trivial | exact ⟨rfl⟩ | exact ⟨fun _ _ _ _ => rfl⟩ | (refine inR64 ?_ ?_ <;> omega) | (refine ⟨?_⟩; (try simp only [Int.toNat_natCast]); omega) | (refine ⟨?_, ?_⟩ <;> (try simp only [Int.toNat_natCast]) <;> omega) | (refine ⟨?_⟩; simp only [decide_eq_true_eq, decide_eq_false_iff_not]; omega) | (refine ⟨?_⟩; simp only [Int.toNat_natCast, decide_eq_true_eq, decide_eq_false_iff_not, Bool.not_eq_true', Bool.not_eq_false']; first | assumption | omega) | (refine ⟨?_⟩; first | exact hv | exact hv.symm))
      · have hv := TrB_no (lo := lo) (hi := hi) (r := r) (fm := fm) (fun h => hp ⟨(h.m i hx).a, by have := (h.m i hx).b; omega⟩)
        refine Tri.mono ?_ (lastQ_R (X := fun _ _ => False) (fun _ _ h => h.elim))
        refine Tri.path (tbG9_ok base) 200 [true,true] (of_skel (q := (EqC (some [AV.lit (Value.int IntKind.i64 (fm (↑i : Int).toNat 0))]) (some [AV.lit (Value.int IntKind.i64 (fm (↑i : Int).toNat 0))]) ∧ EqC (some [AV.lit (Value.int IntKind.i64 (fm (↑i : Int).toNat 1)), AV.lit (Value.int IntKind.i64 (fm (↑i : Int).toNat 2))]) (some [AV.lit (Value.int IntKind.i64 (fm (↑i : Int).toNat 1)), AV.lit (Value.int IntKind.i64 (fm (↑i : Int).toNat 2))]) ∧ EqC (some [AV.lit (Value.int IntKind.i64 (fm (↑i : Int).toNat 0))]) (some [AV.lit (Value.int IntKind.i64 (fm (↑i : Int).toNat 0))]) ∧ EqC (some [AV.isl 0 r]) (some [AV.isl 0 r]) ∧ EqB (!decide (1 ≤ fm (↑i : Int).toNat 0 ∧ fm (↑i : Int).toNat 0 ≤ 99999)) true ∧ EqC (some [AV.lit (Value.int IntKind.i64 (fm (↑i : Int).toNat 0))]) (some [AV.lit (Value.int IntKind.i64 (fm (↑i : Int).toNat 0))]) ∧ EqC (some [AV.lit (Value.int IntKind.i64 (fm (↑i : Int).toNat 1)), AV.lit (Value.int IntKind.i64 (fm (↑i : Int).toNat 2))]) (some [AV.lit (Value.int IntKind.i64 (fm (↑i : Int).toNat 1)), AV.lit (Value.int IntKind.i64 (fm (↑i : Int).toNat 2))]) ∧ EqC (some [AV.lit (Value.int IntKind.i64 (fm (↑i : Int).toNat 0))]) (some [AV.lit (Value.int IntKind.i64 (fm (↑i : Int).toNat 0))]) ∧ EqC (some [AV.isl 0 r]) (some [AV.isl 0 r]) ∧ LtN (↑i : Int).toNat r ∧ IxIn (↑i : Int) r ∧ EqB (decide ((↑i : Int) < (↑r : Int))) true ∧ True) ∧ (EqB false (TrB lo hi r fm) ∧ True) ∧ True) (by kernel_rfl) ?_)
        simp only [e2]
        ((repeat' apply And.intro) <;> first | exact trivial | exact ⟨rfl⟩ | exact ⟨fun _ _ _ _ => rfl⟩ | (refine inR64 ?_ ?_ <;> omega) | (refine ⟨?_⟩; (try simp only [Int.toNat_natCast]); omega) | (refine ⟨?_, ?_⟩ <;> (try simp only [Int.toNat_natCast]) <;> omega) | (refine ⟨?_⟩; simp only [decide_eq_true_eq, decide_eq_false_iff_not]; omega) | (refine ⟨?_⟩; simp only [Int.toNat_natCast, decide_eq_true_eq, decide_eq_false_iff_not, Bool.not_eq_true', Bool.not_eq_false']; first | assumption | omega) | (refine ⟨?_⟩; first | exact hv | exact hv.symm))
    · have hx' : i = r := by omega
      subst hx'
      refine Tri.mono ?_ (lastQ_R (X := toX (fun x => x) 1 (KG9 lo hi e1 i fm)) (toX_ok hN (by kernel_rfl) (rt_end lo hi e1 i fm hb)))
      refine Tri.path (tbG9_ok base) 200 [false] (of_skel (q := (EqB (decide ((↑i : Int) < (↑i : Int))) false ∧ True) ∧ EqN 0 0 ∧ EqI lo lo ∧ EqI hi hi ∧ EqN i i ∧ EqB false false ∧ EqN i i ∧ RowEq i 3 fm fm ∧ True) (by kernel_rfl) ?_)
      ((repeat' apply And.intro) <;> first | exact trivial | exact ⟨rfl⟩ | exact ⟨fun _ _ _ _ => rfl⟩ | (refine inR64 ?_ ?_ <;> omega) | (refine ⟨?_⟩; (try simp only [Int.toNat_natCast]); omega) | (refine ⟨?_, ?_⟩ <;> (try simp only [Int.toNat_natCast]) <;> omega) | (refine ⟨?_⟩; simp only [decide_eq_true_eq, decide_eq_false_iff_not]; omega) | (refine ⟨?_⟩; simp only [Int.toNat_natCast, decide_eq_true_eq, decide_eq_false_iff_not, Bool.not_eq_true', Bool.not_eq_false']; first | assumption | omega) | (refine ⟨?_⟩; first | exact hv | exact hv.symm))
set_option maxRecDepth 100000 in
theorem spRt : FnSpec Tryd.prog 29 FRt := by
  refine spec_body tbG9_ok Tryd.func29 (by kernel_rfl) (by kernel_rfl) fun gs g ps hF' hps => ?_
  unfold FRt at hF'
  split at hF' <;> try (cases hF'; done)
  rename_i lo hi e1 r fm
  cases hF'
  obtain ⟨h1, _⟩ := hps
  refine ⟨ldA0 (gG9 lo hi e1 r fm), ldH0 (gG9 lo hi e1 r fm), rfl, ⟨Nat.le_of_ble_eq_true (by kernel_rfl), Nat.le_of_ble_eq_true (by kernel_rfl)⟩, fun base E hE => ?_⟩
  exact Tri.flat (rt_all lo hi e1 r fm (by rw [hE]; rfl) h1.1)

end PartOfKrt

section PartOfKtm
open Go Go.RowKit Go.Proofs
structure TmOK (r d : Nat) (fm ft : Nat → Nat → Int) : Prop where
  l : d = r
  m : ∀ k, k < r → fm k 1 ≤ ft k 0 ∧ ft k 0 ≤ fm k 2
open Classical in
noncomputable def TmB (r d : Nat) (fm ft : Nat → Nat → Int) : Bool := decide (TmOK r d fm ft)
noncomputable def RmB (lo hi b0 : Int) (r d : Nat) (fm ft : Nat → Nat → Int) : Bool := TmB r d fm ft && decide (lo ≤ b0 ∧ b0 ≤ hi)
open Classical in
theorem TmB_yes {r d : Nat} {fm ft : Nat → Nat → Int} (h : TmOK r d fm ft) : TmB r d fm ft = true := decide_eq_true h
open Classical in
theorem TmB_no {r d : Nat} {fm ft : Nat → Nat → Int} (h : ¬ TmOK r d fm ft) : TmB r d fm ft = false := decide_eq_false h
open Classical in
theorem TmB_out {r d : Nat} {fm ft : Nat → Nat → Int} (h : TmB r d fm ft = true) : TmOK r d fm ft := of_decide_eq_true h
open Classical in
theorem TmB_nut {r d : Nat} {fm ft : Nat → Nat → Int} (h : TmB r d fm ft = false) : ¬ TmOK r d fm ft := of_decide_eq_false h
noncomputable def fU9 : Func := Tryd.f82
noncomputable def tbU9 : Tab := mkTab tyAll Tryd.prog [] [(72, FWth)] []
noncomputable def gU9 (lo hi : Int) (e1 e2 : TypeId) (r d : Nat) (fm ft : Nat → Nat → Int) : List GV := [.agg [.lit (.int .i64 lo), .lit (.int .i64 hi), .rows e1 3 r fm], .rows e2 1 d ft]
noncomputable def JU9 (lo hi : Int) (e1 e2 : TypeId) (r d : Nat) (fm ft : Nat → Nat → Int) (i : Nat) : JS := ⟨30, [(1, .isl 1 d), (14, .isl 0 r), (15, .lit (.int .i64 (r : Nat))), (16, .lit (.int .i64 (i : Nat)))], [], [(0, ⟨false, e1, 3, r, fm⟩), (1, ⟨false, e2, 1, d, ft⟩)], 2⟩
noncomputable def KU9 (lo hi : Int) (e1 e2 : TypeId) (r d : Nat) (fm ft : Nat → Nat → Int) : JS := ⟨30, [], [], [(0, ⟨false, e1, 3, r, fm⟩), (1, ⟨false, e2, 1, d, ft⟩)], 2⟩
theorem tbU9_ok : ∀ base, TabOK Tryd.prog tbU9 base := mkTab_ok mixedP tyAll_ok (fun p hp => by
  rcases List.mem_cons.1 hp with rfl | hp
  · exact spWth
  cases hp) (fun p hp => by cases hp)
noncomputable def FTm : GSpec := fun gs => match gs with
  | [.agg [.lit (.int .i64 lo), .lit (.int .i64 hi), .rows e1 3 r fm], .rows e2 1 d ft] => some (.sb (TmB r d fm ft), [LeN r 1000000000000])
  | _ => none
set_option maxRecDepth 100000 in
set_option maxHeartbeats 2000000 in
theorem tm_end (lo hi : Int) (e1 e2 : TypeId) (r d : Nat) (fm ft : Nat → Nat → Int) (hT : TmB r d fm ft = true) {base : Bs} {E : Ent} : TriL Tryd.prog base E ((flat (bodyC fU9)).drop 5) (KU9 lo hi e1 e2 r d fm ft).A (KU9 lo hi e1 e2 r d fm ft).h (finP tbU9 fU9 (.sb (TmB r d fm ft))) := by
  have hv := hT
  refine TriL.path tbU9_ok [] (by kernel_rfl) (of_skel (q := True ∧ (EqB true (TmB r d fm ft) ∧ True) ∧ True) (by kernel_rfl) ?_)
  ((repeat' apply And.intro) <;> first | exact trivial | exact ⟨rfl⟩ | exact ⟨fun _ _ _ _ => rfl⟩ | (refine inR64 ?_ ?_ <;> omega) | (refine ⟨?_⟩; (try simp only [Int.toNat_natCast]); omega) | (refine ⟨?_, ?_⟩ <;> (try simp only [Int.toNat_natCast]) <;> omega) | (refine ⟨?_⟩; simp only [decide_eq_true_eq, decide_eq_false_iff_not]; omega) | (refine ⟨?_⟩; simp only [Int.toNat_natCast, decide_eq_true_eq, decide_eq_false_iff_not, Bool.not_eq_true', Bool.not_eq_false']; first | assumption | omega) | (refine ⟨?_⟩; first | exact hv | exact hv.symm))
set_option maxRecDepth 100000 in
set_option maxHeartbeats 2000000 in
theorem tm_all (lo hi : Int) (e1 e2 : TypeId) (r d : Nat) (fm ft : Nat → Nat → Int) {base : Bs} {E : Ent} (hN : E.h.next = 2) (hrN : r ≤ 1000000000000) : TriL Tryd.prog base E (flat (bodyC fU9)) (start fU9 (ldA0 (gU9 lo hi e1 e2 r d fm ft))) (ldH0 (gU9 lo hi e1 e2 r d fm ft)) (finP tbU9 fU9 (.sb (TmB r d fm ft))) := by
  by_cases hl : d = r
  rotate_left
  · have hT := TmB_no (r := r) (d := d) (fm := fm) (ft := ft) (fun h => hl h.l)
    have hv := hT
    refine TriL.path tbU9_ok [true] (by kernel_rfl) (of_skel (q := (EqB (!decide ((↑d : Int) = (↑r : Int))) true ∧ True) ∧ (EqB false (TmB r d fm ft) ∧ True) ∧ True) (by kernel_rfl) ?_)
    ((repeat' apply And.intro) <;> first | exact trivial | exact ⟨rfl⟩ | exact ⟨fun _ _ _ _ => rfl⟩ | (refine inR64 ?_ ?_ <;> omega) | (refine ⟨?_⟩; (try simp only [Int.toNat_natCast]); omega) | (refine ⟨?_, ?_⟩ <;> (try simp only [Int.toNat_natCast]) <;> omega) | (refine ⟨?_⟩; simp only [decide_eq_true_eq, decide_eq_false_iff_not]; omega) | (refine ⟨?_⟩; simp only [Int.toNat_natCast, decide_eq_true_eq, decide_eq_false_iff_not, Bool.not_eq_true', Bool.not_eq_false']; first | assumption | omega) | (refine ⟨?_⟩; first | exact hv | exact hv.symm))
  refine TriL.rounds 4 (by kernel_rfl) (fun x : {i : Nat // i ≤ r ∧ ∀ k, k < i → fm k 1 ≤ ft k 0 ∧ ft k 0 ≤ fm k 2} => JU9 lo hi e1 e2 r d fm ft x.1) (fun x => r - x.1) ⟨0, Nat.zero_le _, fun k hk => absurd hk (Nat.not_lt_zero _)⟩ ?_ fun x => ?_
  · refine TriL.mono ?_ (preQ_ok (σ := fun x => x) hN (J0 := JU9 lo hi e1 e2 r d fm ft 0))
    refine TriL.path tbU9_ok [false] (by kernel_rfl) (of_skel (q := (EqB (!decide ((↑d : Int) = (↑r : Int))) false ∧ True) ∧ EqN d d ∧ EqN r r ∧ EqI (↑r : Int) (↑r : Int) ∧ EqI 0 (↑0 : Int) ∧ EqB false false ∧ EqN r r ∧ RowEq r 3 fm fm ∧ EqB false false ∧ EqN d d ∧ RowEq d 1 ft ft ∧ True) (by kernel_rfl) ?_)
    ((repeat' apply And.intro) <;> first | exact trivial | exact ⟨rfl⟩ | exact ⟨fun _ _ _ _ => rfl⟩ | (refine inR64 ?_ ?_ <;> omega) | (refine ⟨?_⟩; (try simp only [Int.toNat_natCast]); omega) | (refine ⟨?_, ?_⟩ <;> (try simp only [Int.toNat_natCast]) <;> omega) | (refine ⟨?_⟩; simp only [decide_eq_true_eq, decide_eq_false_iff_not]; omega) | (refine ⟨?_⟩; simp only [Int.toNat_natCast, decide_eq_true_eq, decide_eq_false_iff_not, Bool.not_eq_true', Bool.not_eq_false']; first | assumption | omega) | (refine ⟨?_⟩; first | exact hv | exact hv.symm))
  · obtain ⟨i, hii, hb⟩ := x
    have eN : ((i : Nat) : Int).toNat = i := by omega
    by_cases hx : i < r
    · by_cases hp : fm i 1 ≤ ft i 0 ∧ ft i 0 ≤ fm i 2
      · refine Tri.mono ?_ (roundQ_R (σ := fun x => x) (X := fun _ _ => False) (⟨i + 1, hx, fun k hk => by
          rcases Nat.lt_succ_iff_lt_or_eq.1 hk with h | rfl
          · exact hb k h
          · exact hp⟩ : {i : Nat // i ≤ r ∧ ∀ k, k < i → fm k 1 ≤ ft k 0 ∧ ft k 0 ≤ fm k 2}) (by show r - (i + 1) < r - i; omega) hN (fun _ _ h => h.elim))
        refine Tri.path (tbU9_ok base) 200 [true, false] (of_skel (q := (InR IntKind.i64 ((↑i : Int) + 1) ∧ EqB (!decide (fm (↑i : Int).toNat 1 ≤ ft (↑i : Int).toNat 0 ∧ ft (↑i : Int).toNat 0 ≤ fm (↑i : Int).toNat 2)) false ∧ LtN (↑i : Int).toNat d ∧ IxIn (↑i : Int) d ∧ LtN (↑i : Int).toNat r ∧ IxIn (↑i : Int) r ∧ EqB (decide ((↑i : Int) < (↑r : Int))) true ∧ True) ∧ EqN d d ∧ EqN r r ∧ EqI (↑r : Int) (↑r : Int) ∧ EqI ((↑i : Int) + 1) (↑(i + 1) : Int) ∧ EqB false false ∧ EqN r r ∧ RowEq r 3 fm fm ∧ EqB false false ∧ EqN d d ∧ RowEq d 1 ft ft ∧ True) (by kernel_rfl) ?_)
        simp only [eN]
        ((repeat' apply And.intro) <;> first | exact trivial | exact ⟨rfl⟩ | exact ⟨fun _ _ _ _ => rfl⟩ | (refine inR64 ?_ ?_ <;> omega) | (refine ⟨?_⟩; (try simp only [Int.toNat_natCast]); omega) | (refine ⟨?_, ?_⟩ <;> (try simp only [Int.toNat_natCast]) <;> omega) | (refine ⟨?_⟩; simp only [decide_eq_true_eq, decide_eq_false_iff_not]; omega) | (refine ⟨?_⟩; simp only [Int.toNat_natCast, decide_eq_true_eq, decide_eq_false_iff_not, Bool.not_eq_true', Bool.not_eq_false']; first | assumption | omega) | (refine ⟨?_⟩; first | exact hv | exact hv.symm))
      · have hT := TmB_no (r := r) (d := d) (fm := fm) (ft := ft) (fun h => hp (h.m i hx))
        have hv := hT
        refine Tri.mono ?_ (lastQ_R (X := fun _ _ => False) (fun _ _ h => h.elim))
        refine Tri.path (tbU9_ok base) 200 [true, true] (of_skel (q := (EqB (!decide (fm (↑i : Int).toNat 1 ≤ ft (↑i : Int).toNat 0 ∧ ft (↑i : Int).toNat 0 ≤ fm (↑i : Int).toNat 2)) true ∧ LtN (↑i : Int).toNat d ∧ IxIn (↑i : Int) d ∧ LtN (↑i : Int).toNat r ∧ IxIn (↑i : Int) r ∧ EqB (decide ((↑i : Int) < (↑r : Int))) true ∧ True) ∧ (EqB false (TmB r d fm ft) ∧ True) ∧ True) (by kernel_rfl) ?_)
        simp only [eN]
        ((repeat' apply And.intro) <;> first | exact trivial | exact ⟨rfl⟩ | exact ⟨fun _ _ _ _ => rfl⟩ | (refine inR64 ?_ ?_ <;> omega) | (refine ⟨?_⟩; (try simp only [Int.toNat_natCast]); omega) | (refine ⟨?_, ?_⟩ <;> (try simp only [Int.toNat_natCast]) <;> omega) | (refine ⟨?_⟩; simp only [decide_eq_true_eq, decide_eq_false_iff_not]; omega) | (refine ⟨?_⟩; simp only [Int.toNat_natCast, decide_eq_true_eq, decide_eq_false_iff_not, Bool.not_eq_true', Bool.not_eq_false']; first | assumption | omega) | (refine ⟨?_⟩; first | exact hv | exact hv.symm))
    · have hx' : i = r := by omega
      subst hx'
      have hT := TmB_yes (r := i) (d := d) (fm := fm) (ft := ft) ⟨hl, hb⟩
      refine Tri.mono ?_ (lastQ_R (X := toX (fun x => x) 2 (KU9 lo hi e1 e2 i d fm ft)) (toX_ok hN (by kernel_rfl) (tm_end lo hi e1 e2 i d fm ft hT)))
      refine Tri.path (tbU9_ok base) 200 [false] (of_skel (q := (EqB (decide ((↑i : Int) < (↑i : Int))) false ∧ True) ∧ EqB false false ∧ EqN i i ∧ RowEq i 3 fm fm ∧ EqB false false ∧ EqN d d ∧ RowEq d 1 ft ft ∧ True) (by kernel_rfl) ?_)
      ((repeat' apply And.intro) <;> first | exact trivial | exact ⟨rfl⟩ | exact ⟨fun _ _ _ _ => rfl⟩ | (refine inR64 ?_ ?_ <;> omega) | (refine ⟨?_⟩; (try simp only [Int.toNat_natCast]); omega) | (refine ⟨?_, ?_⟩ <;> (try simp only [Int.toNat_natCast]) <;> omega) | (refine ⟨?_⟩; simp only [decide_eq_true_eq, decide_eq_false_iff_not]; omega) | (refine ⟨?_⟩; simp only [Int.toNat_natCast, decide_eq_true_eq, decide_eq_false_iff_not, Bool.not_eq_true', Bool.not_eq_false']; first | assumption | omega) | (refine ⟨?_⟩; first | exact hv | exact hv.symm))
set_option maxRecDepth 100000 in
theorem spTm : FnSpec Tryd.prog 82 FTm := by
  refine spec_body tbU9_ok Tryd.func82 (by kernel_rfl) (by kernel_rfl) fun gs g ps hF' hps => ?_
  unfold FTm at hF'
  split at hF' <;> try (cases hF'; done)
  rename_i lo hi e1 r fm e2 d ft
  cases hF'
  obtain ⟨h1, _⟩ := hps
  refine ⟨ldA0 (gU9 lo hi e1 e2 r d fm ft), ldH0 (gU9 lo hi e1 e2 r d fm ft), rfl, ⟨Nat.le_of_ble_eq_true (by kernel_rfl), Nat.le_of_ble_eq_true (by kernel_rfl)⟩, fun base E hE => ?_⟩
  exact Tri.flat (tm_all lo hi e1 e2 r d fm ft (by rw [hE]; rfl) h1.1)
noncomputable def fV9 : Func := Tryd.f35
noncomputable def tbV9 : Tab := mkTab tyAll Tryd.prog [] [(74, FRin)] []
noncomputable def gV9 (lo hi b0 : Int) (e1 e2 : TypeId) (r d : Nat) (fm ft : Nat → Nat → Int) : List GV := [.agg [.lit (.int .i64 lo), .lit (.int .i64 hi), .rows e1 3 r fm], .lit (.int .i64 b0), .rows e2 1 d ft]
noncomputable def JV9 (lo hi b0 : Int) (e1 e2 : TypeId) (r d : Nat) (fm ft : Nat → Nat → Int) (i : Nat) : JS := ⟨48, [(1, .lit (.int .i64 b0)), (2, .isl 1 d), (3, .ptr 2 0), (7, .lit (.int .i64 (i : Nat)))], [(2, .cells [.lit (.int .i64 lo), .lit (.int .i64 hi), .isl 0 r] 40 none)], [(0, ⟨false, e1, 3, r, fm⟩), (1, ⟨false, e2, 1, d, ft⟩)], 3⟩
noncomputable def KV9 (lo hi b0 : Int) (e1 e2 : TypeId) (r d : Nat) (fm ft : Nat → Nat → Int) : JS := ⟨48, [(1, .lit (.int .i64 b0)), (3, .ptr 2 0)], [(2, .cells [.lit (.int .i64 lo), .lit (.int .i64 hi), .isl 0 r] 40 none)], [(0, ⟨false, e1, 3, r, fm⟩), (1, ⟨false, e2, 1, d, ft⟩)], 3⟩
theorem tbV9_ok : ∀ base, TabOK Tryd.prog tbV9 base := mkTab_ok mixedP tyAll_ok (fun p hp => by
  rcases List.mem_cons.1 hp with rfl | hp
  · exact spRin
  cases hp) (fun p hp => by cases hp)
noncomputable def FRm : GSpec := fun gs => match gs with
  | [.agg [.lit (.int .i64 lo), .lit (.int .i64 hi), .rows e1 3 r fm], .lit (.int .i64 b0), .rows e2 1 d ft] => some (.sb (RmB lo hi b0 r d fm ft), [LeN r 1000000000000])
  | _ => none
set_option maxRecDepth 100000 in
set_option maxHeartbeats 2000000 in
theorem rm_end (lo hi b0 : Int) (e1 e2 : TypeId) (r d : Nat) (fm ft : Nat → Nat → Int) (hT : TmB r d fm ft = true) {base : Bs} {E : Ent} : TriL Tryd.prog base E ((flat (bodyC fV9)).drop 5) (KV9 lo hi b0 e1 e2 r d fm ft).A (KV9 lo hi b0 e1 e2 r d fm ft).h (finP tbV9 fV9 (.sb (RmB lo hi b0 r d fm ft))) := by
  have hv : RmB lo hi b0 r d fm ft = decide (lo ≤ b0 ∧ b0 ≤ hi) := by rw [RmB, hT, Bool.true_and]
  refine TriL.path tbV9_ok [] (by kernel_rfl) (of_skel (q := True ∧ (EqB (decide (lo ≤ b0 ∧ b0 ≤ hi)) (RmB lo hi b0 r d fm ft) ∧ True) ∧ True) (by kernel_rfl) ?_)
  ((repeat' apply And.intro) <;> first | exact trivial | exact ⟨rfl⟩ | exact ⟨fun _ _ _ _ => rfl⟩ | (refine inR64 ?_ ?_ <;> omega) | (refine ⟨?_⟩; (try simp only [Int.toNat_natCast]); omega) | (refine ⟨?_, ?_⟩ <;> (try simp only [Int.toNat_natCast]) <;> omega) | (refine ⟨?_⟩; simp only [decide_eq_true_eq, decide_eq_false_iff_not]; omega) | (refine ⟨?_⟩; simp only [Int.toNat_natCast, decide_eq_true_eq, decide_eq_false_iff_not, Bool.not_eq_true', Bool.not_eq_false']; first | assumption | omega) | (refine ⟨?_⟩; first | exact hv | exact hv.symm))
set_option maxRecDepth 100000 in
set_option maxHeartbeats 2000000 in
theorem rm_all (lo hi b0 : Int) (e1 e2 : TypeId) (r d : Nat) (fm ft : Nat → Nat → Int) {base : Bs} {E : Ent} (hN : E.h.next = 2) (hrN : r ≤ 1000000000000) : TriL Tryd.prog base E (flat (bodyC fV9)) (start fV9 (ldA0 (gV9 lo hi b0 e1 e2 r d fm ft))) (ldH0 (gV9 lo hi b0 e1 e2 r d fm ft)) (finP tbV9 fV9 (.sb (RmB lo hi b0 r d fm ft))) := by
  by_cases hl : d = r
  rotate_left
  · have hT := TmB_no (r := r) (d := d) (fm := fm) (ft := ft) (fun h => hl h.l)
    have hv : RmB lo hi b0 r d fm ft = false := by rw [RmB, hT, Bool.false_and]
    refine TriL.path tbV9_ok [true] (by kernel_rfl) (of_skel (q := (EqB (!decide ((↑d : Int) = (↑r : Int))) true ∧ True) ∧ (EqB false (RmB lo hi b0 r d fm ft) ∧ True) ∧ True) (by kernel_rfl) ?_)
    ((repeat' apply And.intro) <;> first | exact trivial | exact ⟨rfl⟩ | exact ⟨fun _ _ _ _ => rfl⟩ | (refine inR64 ?_ ?_ <;> omega) | (refine ⟨?_⟩; (try simp only [Int.toNat_natCast]); omega) | (refine ⟨?_, ?_⟩ <;> (try simp only [Int.toNat_natCast]) <;> omega) | (refine ⟨?_⟩; simp only [decide_eq_true_eq, decide_eq_false_iff_not]; omega) | (refine ⟨?_⟩; simp only [Int.toNat_natCast, decide_eq_true_eq, decide_eq_false_iff_not, Bool.not_eq_true', Bool.not_eq_false']; first | assumption | omega) | (refine ⟨?_⟩; first | exact hv | exact hv.symm))
  refine TriL.rounds 4 (by kernel_rfl) (fun x : {i : Nat // i ≤ r ∧ ∀ k, k < i → fm k 1 ≤ ft k 0 ∧ ft k 0 ≤ fm k 2} => JV9 lo hi b0 e1 e2 r d fm ft x.1) (fun x => r - x.1) ⟨0, Nat.zero_le _, fun k hk => absurd hk (Nat.not_lt_zero _)⟩ ?_ fun x => ?_
  · refine TriL.mono ?_ (preQ_ok (σ := fun x => x) hN (J0 := JV9 lo hi b0 e1 e2 r d fm ft 0))
    refine TriL.path tbV9_ok [false] (by kernel_rfl) (of_skel (q := (EqB (!decide ((↑d : Int) = (↑r : Int))) false ∧ True) ∧ EqI b0 b0 ∧ EqN d d ∧ EqN 0 0 ∧ EqI 0 (↑0 : Int) ∧ EqI lo lo ∧ EqI hi hi ∧ EqN r r ∧ EqB false false ∧ EqN r r ∧ RowEq r 3 fm fm ∧ EqB false false ∧ EqN d d ∧ RowEq d 1 ft ft ∧ True) (by kernel_rfl) ?_)
    ((repeat' apply And.intro) <;> first | exact trivial | exact ⟨rfl⟩ | exact ⟨fun _ _ _ _ => rfl⟩ | (refine inR64 ?_ ?_ <;> omega) | (refine ⟨?_⟩; (try simp only [Int.toNat_natCast]); omega) | (refine ⟨?_, ?_⟩ <;> (try simp only [Int.toNat_natCast]) <;> omega) | (refine ⟨?_⟩; simp only [decide_eq_true_eq, decide_eq_false_iff_not]; omega) | (refine ⟨?_⟩; simp only [Int.toNat_natCast, decide_eq_true_eq, decide_eq_false_iff_not, Bool.not_eq_true', Bool.not_eq_false']; first | assumption | omega) | (refine ⟨?_⟩; first | exact hv | exact hv.symm))
  · obtain ⟨i, hii, hb⟩ := x
    have eN : ((i : Nat) : Int).toNat = i := by omega
    by_cases hx : i < r
    · by_cases hp : fm i 1 ≤ ft i 0 ∧ ft i 0 ≤ fm i 2
      · refine Tri.mono ?_ (roundQ_R (σ := fun x => x) (X := fun _ _ => False) (⟨i + 1, hx, fun k hk => by
          rcases Nat.lt_succ_iff_lt_or_eq.1 hk with h | rfl
          · exact hb k h
          · exact hp⟩ : {i : Nat // i ≤ r ∧ ∀ k, k < i → fm k 1 ≤ ft k 0 ∧ ft k 0 ≤ fm k 2}) (by show r - (i + 1) < r - i; omega) hN (fun _ _ h => h.elim))
        refine Tri.path (tbV9_ok base) 200 [true, false] (of_skel (q := (InR IntKind.i64 ((↑i : Int) + 1) ∧ EqB (!decide (fm (↑i : Int).toNat 1 ≤ ft (↑i : Int).toNat 0 ∧ ft (↑i : Int).toNat 0 ≤ fm (↑i : Int).toNat 2)) false ∧ LtN (↑i : Int).toNat r ∧ IxIn (↑i : Int) r ∧ LtN (↑i : Int).toNat r ∧ IxIn (↑i : Int) r ∧ LtN (↑i : Int).toNat d ∧ IxIn (↑i : Int) d ∧ EqB (decide ((↑i : Int) < (↑d : Int))) true ∧ True) ∧ EqI b0 b0 ∧ EqN d d ∧ EqN 0 0 ∧ EqI ((↑i : Int) + 1) (↑(i + 1) : Int) ∧ EqI lo lo ∧ EqI hi hi ∧ EqN r r ∧ EqB false false ∧ EqN r r ∧ RowEq r 3 fm fm ∧ EqB false false ∧ EqN d d ∧ RowEq d 1 ft ft ∧ True) (by kernel_rfl) ?_)
        simp only [eN]
        ((repeat' apply And.intro) <;> first | exact trivial | exact ⟨rfl⟩ | exact ⟨fun _ _ _ _ => rfl⟩ | (refine inR64 ?_ ?_ <;> omega) | (refine ⟨?_⟩; (try simp only [Int.toNat_natCast]); omega) | (refine ⟨?_, ?_⟩ <;> (try simp only [Int.toNat_natCast]) <;> omega) | (refine ⟨?_⟩; simp only [decide_eq_true_eq, decide_eq_false_iff_not]; omega) | (refine ⟨?_⟩; simp only [Int.toNat_natCast, decide_eq_true_eq, decide_eq_false_iff_not, Bool.not_eq_true', Bool.not_eq_false']; first | assumption | omega) | (refine ⟨?_⟩; first | exact hv | exact hv.symm))
      · have hT := TmB_no (r := r) (d := d) (fm := fm) (ft := ft) (fun h => hp (h.m i hx))
        have hv : RmB lo hi b0 r d fm ft = false := by rw [RmB, hT, Bool.false_and]
        refine Tri.mono ?_ (lastQ_R (X := fun _ _ => False) (fun _ _ h => h.elim))
        refine Tri.path (tbV9_ok base) 200 [true, true] (of_skel (q := (EqB (!decide (fm (↑i : Int).toNat 1 ≤ ft (↑i : Int).toNat 0 ∧ ft (↑i : Int).toNat 0 ≤ fm (↑i : Int).toNat 2)) true ∧ LtN (↑i : Int).toNat r ∧ IxIn (↑i : Int) r ∧ LtN (↑i : Int).toNat r ∧ IxIn (↑i : Int) r ∧ LtN (↑i : Int).toNat d ∧ IxIn (↑i : Int) d ∧ EqB (decide ((↑i : Int) < (↑d : Int))) true ∧ True) ∧ (EqB false (RmB lo hi b0 r d fm ft) ∧ True) ∧ True) (by kernel_rfl) ?_)
        simp only [eN]
        ((repeat' apply And.intro) <;> first | exact trivial | exact ⟨rfl⟩ | exact ⟨fun _ _ _ _ => rfl⟩ | (refine inR64 ?_ ?_ <;> omega) | (refine ⟨?_⟩; (try simp only [Int.toNat_natCast]); omega) | (refine ⟨?_, ?_⟩ <;> (try simp only [Int.toNat_natCast]) <;> omega) | (refine ⟨?_⟩; simp only [decide_eq_true_eq, decide_eq_false_iff_not]; omega) | (refine ⟨?_⟩; simp only [Int.toNat_natCast, decide_eq_true_eq, decide_eq_false_iff_not, Bool.not_eq_true', Bool.not_eq_false']; first | assumption | omega) | (refine ⟨?_⟩; first | exact hv | exact hv.symm))
    · have hx' : i = r := by omega
      subst hx'
      have hT := TmB_yes (r := i) (d := d) (fm := fm) (ft := ft) ⟨hl, hb⟩
      refine Tri.mono ?_ (lastQ_R (X := toX (fun x => x) 2 (KV9 lo hi b0 e1 e2 i d fm ft)) (toX_ok hN (by kernel_rfl) (rm_end lo hi b0 e1 e2 i d fm ft hT)))
      refine Tri.path (tbV9_ok base) 200 [false] (of_skel (q := (EqB (decide ((↑i : Int) < (↑d : Int))) false ∧ True) ∧ EqI b0 b0 ∧ EqN 0 0 ∧ EqI lo lo ∧ EqI hi hi ∧ EqN i i ∧ EqB false false ∧ EqN i i ∧ RowEq i 3 fm fm ∧ EqB false false ∧ EqN d d ∧ RowEq d 1 ft ft ∧ True) (by kernel_rfl) ?_)
      ((repeat' apply And.intro) <;> first | exact trivial | exact ⟨rfl⟩ | exact ⟨fun _ _ _ _ => rfl⟩ | (refine inR64 ?_ ?_ <;> omega) | (refine ⟨?_⟩; (try simp only [Int.toNat_natCast]); omega) | (refine ⟨?_, ?_⟩ <;> (try simp only [Int.toNat_natCast]) <;> omega) | (refine ⟨?_⟩; simp only [decide_eq_true_eq, decide_eq_false_iff_not]; omega) | (refine ⟨?_⟩; simp only [Int.toNat_natCast, decide_eq_true_eq, decide_eq_false_iff_not, Bool.not_eq_true', Bool.not_eq_false']; first | assumption | omega) | (refine ⟨?_⟩; first | exact hv | exact hv.symm))
set_option maxRecDepth 100000 in
theorem spRm : FnSpec Tryd.prog 35 FRm := by
  refine spec_body tbV9_ok Tryd.func35 (by kernel_rfl) (by kernel_rfl) fun gs g ps hF' hps => ?_
  unfold FRm at hF'
  split at hF' <;> try (cases hF'; done)
  rename_i lo hi e1 r fm b0 e2 d ft
  cases hF'
  obtain ⟨h1, _⟩ := hps
  refine ⟨ldA0 (gV9 lo hi b0 e1 e2 r d fm ft), ldH0 (gV9 lo hi b0 e1 e2 r d fm ft), rfl, ⟨Nat.le_of_ble_eq_true (by kernel_rfl), Nat.le_of_ble_eq_true (by kernel_rfl)⟩, fun base E hE => ?_⟩
  exact Tri.flat (rm_all lo hi b0 e1 e2 r d fm ft (by rw [hE]; rfl) h1.1)

end PartOfKtm

section PartOfKrr
open Go Go.RowKit Go.Proofs
noncomputable def fQ : Func := Tryd.f37
noncomputable def tbQ : Tab := mkTab tyAll Tryd.prog [] [] []
noncomputable def gQ (lo hi : Int) (e1 e2 : TypeId) (r d : Nat) (b0 : Int) (fm ft : Nat → Nat → Int) : List GV := [.agg [.lit (.int .i64 lo), .lit (.int .i64 hi), .rows e1 3 r fm], .lit (.int .i64 b0), .rows e2 1 d ft]
noncomputable def JQ (lo hi : Int) (e1 e2 : TypeId) (r d : Nat) (b0 : Int) (fm ft : Nat → Nat → Int) (i : Nat) : JS := ⟨64, [(2, .isl 1 d), (3, .ptr 2 0), (7, .isl 3 i), (8, .lit (.int .i64 (i : Nat)))], [(2, .cells [.lit (.int .i64 lo), .lit (.int .i64 hi), .isl 0 r] 40 none), (3, .irow 3 1 i (fun k _ => hF b0 fm ft k))], [(0, ⟨false, e1, 3, r, fm⟩), (1, ⟨false, e2, 1, d, ft⟩)], 4⟩
noncomputable def KQ (lo hi : Int) (e1 e2 : TypeId) (r d : Nat) (b0 : Int) (fm ft : Nat → Nat → Int) (n : Nat) : JS := ⟨64, [(7, .isl 3 n)], [(3, .irow 3 1 n (fun k _ => hF b0 fm ft k))], [(0, ⟨false, e1, 3, r, fm⟩), (1, ⟨false, e2, 1, d, ft⟩)], 4⟩
theorem tbQ_ok : ∀ base, TabOK Tryd.prog tbQ base := mkTab_ok mixedP tyAll_ok (fun p hp => by cases hp) (fun p hp => by cases hp)
noncomputable def FRr : GSpec := fun gs => match gs with
  | [.agg [.lit (.int .i64 lo), .lit (.int .i64 hi), .rows e1 3 r fm], .lit (.int .i64 b0), .rows e2 1 d ft] => some (.rows 0 1 r (fun k _ => hF b0 fm ft k), [HtIn r d b0 fm ft])
  | _ => none
set_option maxRecDepth 100000 in
set_option maxHeartbeats 2000000 in
theorem rr_end (lo hi : Int) (e1 e2 : TypeId) (r d : Nat) (b0 : Int) (fm ft : Nat → Nat → Int) {base : Bs} {E : Ent} : TriL Tryd.prog base E ((flat (bodyC fQ)).drop 4) (KQ lo hi e1 e2 r d b0 fm ft r).A (KQ lo hi e1 e2 r d b0 fm ft r).h (finP tbQ fQ (.rows 0 1 r (fun k _ => hF b0 fm ft k))) := by
  refine TriL.path tbQ_ok [] (by kernel_rfl) (of_skel (q := True ∧ (EqN r r ∧ LeN r r ∧ (RowEq r 1 (fun k x => hF b0 fm ft k) fun k x => hF b0 fm ft k) ∧ True) ∧ True) (by kernel_rfl) ?_)
  ((repeat' apply And.intro) <;> first | exact trivial | exact ⟨rfl⟩ | exact ⟨fun _ _ _ _ => rfl⟩ | (refine inR64 ?_ ?_ <;> omega) | (refine ⟨?_⟩; (try simp only [Int.toNat_natCast]); omega) | (refine ⟨?_, ?_⟩ <;> (try simp only [Int.toNat_natCast]) <;> omega) | (refine ⟨?_⟩; simp only [decide_eq_true_eq, decide_eq_false_iff_not]; omega) | (refine ⟨?_⟩; simp only [Int.toNat_natCast, decide_eq_true_eq, decide_eq_false_iff_not]; first | assumption | omega) | (exact he_one _ _ rfl) | (refine he_snoc ?_; first | rfl | assumption) | (refine ⟨?_⟩; assumption))
set_option maxRecDepth 100000 in
set_option maxHeartbeats 2000000 in
theorem rr_all (lo hi : Int) (e1 e2 : TypeId) (r d : Nat) (b0 : Int) (fm ft : Nat → Nat → Int) {base : Bs} {E : Ent} (hN : E.h.next = 2) (H : HtIn r d b0 fm ft) : TriL Tryd.prog base E (flat (bodyC fQ)) (start fQ (ldA0 (gQ lo hi e1 e2 r d b0 fm ft))) (ldH0 (gQ lo hi e1 e2 r d b0 fm ft)) (finP tbQ fQ (.rows 0 1 r (fun k _ => hF b0 fm ft k))) := by
  have H1 := H.r1; have H2 := H.r8; have H3 := H.rd
  refine TriL.rounds 3 (by kernel_rfl) (fun x : {i : Nat // 1 ≤ i ∧ i ≤ r} => JQ lo hi e1 e2 r d b0 fm ft x.1) (fun x => r - x.1) ⟨1, Nat.le_refl _, H1⟩ ?_ fun x => ?_
  · refine TriL.mono ?_ (preQ_ok (σ := fun x => x) hN (J0 := JQ lo hi e1 e2 r d b0 fm ft 1))
    refine TriL.path tbQ_ok [] (by kernel_rfl) (of_skel (q := True ∧ EqN d d ∧ EqN 0 0 ∧ EqN 1 1 ∧ EqI 1 (↑1 : Int) ∧ EqI lo lo ∧ EqI hi hi ∧ EqN r r ∧ EqN 1 1 ∧ (RowEq 1 1 (rowOf [b0] 1) fun k x => hF b0 fm ft k) ∧ EqB false false ∧ EqN r r ∧ RowEq r 3 fm fm ∧ EqB false false ∧ EqN d d ∧ RowEq d 1 ft ft ∧ True) (by kernel_rfl) ?_)
    ((repeat' apply And.intro) <;> first | exact trivial | exact ⟨rfl⟩ | exact ⟨fun _ _ _ _ => rfl⟩ | (refine inR64 ?_ ?_ <;> omega) | (refine ⟨?_⟩; (try simp only [Int.toNat_natCast]); omega) | (refine ⟨?_, ?_⟩ <;> (try simp only [Int.toNat_natCast]) <;> omega) | (refine ⟨?_⟩; simp only [decide_eq_true_eq, decide_eq_false_iff_not]; omega) | (refine ⟨?_⟩; simp only [Int.toNat_natCast, decide_eq_true_eq, decide_eq_false_iff_not]; first | assumption | omega) | (exact he_one _ _ rfl) | (refine he_snoc ?_; first | rfl | assumption) | (refine ⟨?_⟩; assumption))
  · obtain ⟨i, h1i, hii⟩ := x
    by_cases hx : i < r
    · refine Tri.mono ?_ (roundQ_R (σ := sg [(3, 5)]) (X := fun _ _ => False) (⟨i + 1, by omega, hx⟩ : {i : Nat // 1 ≤ i ∧ i ≤ r}) (by show r - (i + 1) < r - i; omega) hN (fun _ _ h => h.elim))
      refine Tri.path (tbQ_ok base) 200 [true, true] (of_skel (q := (InR IntKind.i64 ((↑i : Int) + 1) ∧ LeN (i + 1) 65536 ∧ LeN i i ∧ LeN i i ∧ EqB true true ∧ LeN 1 1 ∧ InR IntKind.i64 (hF b0 fm ft ((↑i : Int) - 1).toNat + ((5464 + ft ((↑i : Int) - 1).toNat 0 + ft (↑i : Int).toNat 0) * (fm ((↑i : Int) - 1).toNat 0 - fm (↑i : Int).toNat 0) * 2927).tdiv (1000 * (fm ((↑i : Int) - 1).toNat 0 + fm (↑i : Int).toNat 0))) ∧ NeZ (1000 * (fm ((↑i : Int) - 1).toNat 0 + fm (↑i : Int).toNat 0)) ∧ InR IntKind.i64 (((5464 + ft ((↑i : Int) - 1).toNat 0 + ft (↑i : Int).toNat 0) * (fm ((↑i : Int) - 1).toNat 0 - fm (↑i : Int).toNat 0) * 2927).tdiv (1000 * (fm ((↑i : Int) - 1).toNat 0 + fm (↑i : Int).toNat 0))) ∧ InR IntKind.i64 (1000 * (fm ((↑i : Int) - 1).toNat 0 + fm (↑i : Int).toNat 0)) ∧ InR IntKind.i64 (fm ((↑i : Int) - 1).toNat 0 + fm (↑i : Int).toNat 0) ∧ InR IntKind.i64 ((5464 + ft ((↑i : Int) - 1).toNat 0 + ft (↑i : Int).toNat 0) * (fm ((↑i : Int) - 1).toNat 0 - fm (↑i : Int).toNat 0) * 2927) ∧ InR IntKind.i64 ((5464 + ft ((↑i : Int) - 1).toNat 0 + ft (↑i : Int).toNat 0) * (fm ((↑i : Int) - 1).toNat 0 - fm (↑i : Int).toNat 0)) ∧ InR IntKind.i64 (fm ((↑i : Int) - 1).toNat 0 - fm (↑i : Int).toNat 0) ∧ InR IntKind.i64 (5464 + ft ((↑i : Int) - 1).toNat 0 + ft (↑i : Int).toNat 0) ∧ LtN (↑i : Int).toNat d ∧ IxIn (↑i : Int) d ∧ InR IntKind.i64 (5464 + ft ((↑i : Int) - 1).toNat 0) ∧ LtN ((↑i : Int) - 1).toNat d ∧ IxIn ((↑i : Int) - 1) d ∧ InR IntKind.i64 ((↑i : Int) - 1) ∧ LtN ((↑i : Int) - 1).toNat i ∧ IxIn ((↑i : Int) - 1) i ∧ InR IntKind.i64 ((↑i : Int) - 1) ∧ LtN (↑i : Int).toNat r ∧ IxIn (↑i : Int) r ∧ LtN ((↑i : Int) - 1).toNat r ∧ IxIn ((↑i : Int) - 1) r ∧ InR IntKind.i64 ((↑i : Int) - 1) ∧ EqB (decide ((↑i : Int) < (↑r : Int))) true ∧ True) ∧ EqN d d ∧ EqN 0 0 ∧ EqN (i + 1) (i + 1) ∧ EqI ((↑i : Int) + 1) (↑(i + 1) : Int) ∧ EqI lo lo ∧ EqI hi hi ∧ EqN r r ∧ EqN (i + 1) (i + 1) ∧ (RowEq (i + 1) 1 (joinF i (fun k x => hF b0 fm ft k) (rowOf [hF b0 fm ft ((↑i : Int) - 1).toNat + ((5464 + ft ((↑i : Int) - 1).toNat 0 + ft (↑i : Int).toNat 0) * (fm ((↑i : Int) - 1).toNat 0 - fm (↑i : Int).toNat 0) * 2927).tdiv (1000 * (fm ((↑i : Int) - 1).toNat 0 + fm (↑i : Int).toNat 0))] 1)) fun k x => hF b0 fm ft k) ∧ EqB false false ∧ EqN r r ∧ RowEq r 3 fm fm ∧ EqB false false ∧ EqN d d ∧ RowEq d 1 ft ft ∧ True) (by kernel_rfl) ?_)
      obtain ⟨k, rfl⟩ : ∃ k, i = k + 1 := ⟨i - 1, by omega⟩
      have e1 : (((k + 1 : Nat) : Int) - 1).toNat = k := by omega
      have e2 : ((k + 1 : Nat) : Int).toNat = k + 1 := by omega
      have a := H.t k (by omega); have b := H.t (k + 1) hx; have c := H.m k (by omega); have e := H.m (k + 1) hx; have f := H.s k hx
      obtain ⟨g1, g2, g3, g4⟩ := step_in (t := 5464 + ft k 0 + ft (k + 1) 0) (by omega) (by omega) e.1 f c.2
      have g5 := hF_in H k (by omega)
      have hv : hF b0 fm ft (k + 1) = hF b0 fm ft k + ((5464 + ft k 0 + ft (k + 1) 0) * (fm k 0 - fm (k + 1) 0) * 2927).tdiv (1000 * (fm k 0 + fm (k + 1) 0)) := rfl
      simp only [e1, e2]
      generalize hF b0 fm ft k = u at *
      ((repeat' apply And.intro) <;> first | exact trivial | exact ⟨rfl⟩ | exact ⟨fun _ _ _ _ => rfl⟩ | (refine inR64 ?_ ?_ <;> omega) | (refine ⟨?_⟩; (try simp only [Int.toNat_natCast]); omega) | (refine ⟨?_, ?_⟩ <;> (try simp only [Int.toNat_natCast]) <;> omega) | (refine ⟨?_⟩; simp only [decide_eq_true_eq, decide_eq_false_iff_not]; omega) | (refine ⟨?_⟩; simp only [Int.toNat_natCast, decide_eq_true_eq, decide_eq_false_iff_not]; first | assumption | omega) | (exact he_one _ _ rfl) | (refine he_snoc ?_; first | rfl | assumption) | (refine ⟨?_⟩; assumption))
    · have hx' : i = r := by omega
      subst hx'
      refine Tri.mono ?_ (lastQ_R (X := toX (fun x => x) 2 (KQ lo hi e1 e2 i d b0 fm ft i)) (toX_ok hN (by kernel_rfl) (rr_end lo hi e1 e2 i d b0 fm ft)))
      refine Tri.path (tbQ_ok base) 200 [false] (of_skel (q := (EqB (decide ((↑i : Int) < (↑i : Int))) false ∧ True) ∧ EqN i i ∧ EqN i i ∧ (RowEq i 1 (fun k x => hF b0 fm ft k) fun k x => hF b0 fm ft k) ∧ EqB false false ∧ EqN i i ∧ RowEq i 3 fm fm ∧ EqB false false ∧ EqN d d ∧ RowEq d 1 ft ft ∧ True) (by kernel_rfl) ?_)
      ((repeat' apply And.intro) <;> first | exact trivial | exact ⟨rfl⟩ | exact ⟨fun _ _ _ _ => rfl⟩ | (refine inR64 ?_ ?_ <;> omega) | (refine ⟨?_⟩; (try simp only [Int.toNat_natCast]); omega) | (refine ⟨?_, ?_⟩ <;> (try simp only [Int.toNat_natCast]) <;> omega) | (refine ⟨?_⟩; simp only [decide_eq_true_eq, decide_eq_false_iff_not]; omega) | (refine ⟨?_⟩; simp only [Int.toNat_natCast, decide_eq_true_eq, decide_eq_false_iff_not]; first | assumption | omega) | (exact he_one _ _ rfl) | (refine he_snoc ?_; first | rfl | assumption) | (refine ⟨?_⟩; assumption))
set_option maxRecDepth 100000 in
theorem spRr : FnSpec Tryd.prog 37 FRr := by
  refine spec_body tbQ_ok Tryd.func37 (by kernel_rfl) (by kernel_rfl) fun gs g ps hF' hps => ?_
  unfold FRr at hF'
  split at hF' <;> try (cases hF'; done)
  rename_i lo hi e1 r fm b0 e2 d ft
  cases hF'
  obtain ⟨h1, _⟩ := hps
  refine ⟨ldA0 (gQ lo hi e1 e2 r d b0 fm ft), ldH0 (gQ lo hi e1 e2 r d b0 fm ft), rfl, ⟨Nat.le_of_ble_eq_true (by kernel_rfl), Nat.le_of_ble_eq_true (by kernel_rfl)⟩, fun base E hE => ?_⟩
  exact Tri.flat (rr_all lo hi e1 e2 r d b0 fm ft (by rw [hE]; rfl) h1)

end PartOfKrr

section PartOfKsa
open Go Go.RowKit Go.Proofs
noncomputable def fM : Func := Tryd.f36
noncomputable def tbM : Tab := mkTab tyAll Tryd.prog [] [] []
noncomputable def gM (e1 e2 : TypeId) (d1 d2 : Nat) (z1 z2 : Nat → Nat → Int) : List GV := [.rows e1 1 d1 z1, .rows e2 1 d2 z2]
noncomputable def sameR (d1 d2 : Nat) (z1 z2 : Nat → Nat → Int) : Bool := @decide (d1 = d2 ∧ ∀ i, i < d1 → z1 i 0 = z2 i 0) (Classical.propDecidable _)
noncomputable def JM (e1 e2 : TypeId) (d1 d2 : Nat) (z1 z2 : Nat → Nat → Int) (i : Nat) : JS := ⟨26, [(0, .isl 0 d1), (1, .isl 1 d2), (5, .lit (.int .i64 (i : Nat)))], [], [(0, ⟨false, e1, 1, d1, z1⟩), (1, ⟨false, e2, 1, d2, z2⟩)], 2⟩
noncomputable def KM (e1 e2 : TypeId) (d1 d2 : Nat) (z1 z2 : Nat → Nat → Int) : JS := ⟨26, [(0, .isl 0 d1)], [], [(0, ⟨false, e1, 1, d1, z1⟩), (1, ⟨false, e2, 1, d2, z2⟩)], 2⟩
theorem same_no {d1 d2 : Nat} {z1 z2 : Nat → Nat → Int} (h : ¬ (d1 = d2 ∧ ∀ i, i < d1 → z1 i 0 = z2 i 0)) : sameR d1 d2 z1 z2 = false := by unfold sameR; exact @decide_eq_false _ (Classical.propDecidable _) h
theorem same_yes {d1 d2 : Nat} {z1 z2 : Nat → Nat → Int} (h : d1 = d2 ∧ ∀ i, i < d1 → z1 i 0 = z2 i 0) : sameR d1 d2 z1 z2 = true := by unfold sameR; exact @decide_eq_true _ (Classical.propDecidable _) h
theorem tbM_ok : ∀ base, TabOK Tryd.prog tbM base := mkTab_ok mixedP tyAll_ok (fun p hp => by cases hp) (fun p hp => by cases hp)
noncomputable def FSa : GSpec := fun gs => match gs with
  | [.rows e1 1 d1 z1, .rows e2 1 d2 z2] => some (.sb (sameR d1 d2 z1 z2), [LeN d1 100000, LeN d2 100000])
  | _ => none
set_option maxRecDepth 100000 in
set_option maxHeartbeats 2000000 in
theorem sa_end (e1 e2 : TypeId) (d1 d2 : Nat) (z1 z2 : Nat → Nat → Int) (hg : sameR d1 d2 z1 z2 = true) {base : Bs} {E : Ent} : TriL Tryd.prog base E ((flat (bodyC fM)).drop 5) (KM e1 e2 d1 d2 z1 z2).A (KM e1 e2 d1 d2 z1 z2).h (finP tbM fM (.sb (sameR d1 d2 z1 z2))) := by
  refine TriL.path tbM_ok [] (by kernel_rfl) (of_skel (q := True ∧ (EqB true (sameR d1 d2 z1 z2) ∧ True) ∧ True) (by kernel_rfl) ?_)
  ((repeat' apply And.intro) <;> first | exact trivial | exact ⟨rfl⟩ | exact ⟨fun _ _ _ _ => rfl⟩ | (refine inR64 ?_ ?_ <;> omega) | (refine ⟨?_⟩; (try simp only [Int.toNat_natCast]); omega) | (refine ⟨?_, ?_⟩ <;> (try simp only [Int.toNat_natCast]) <;> omega) | (refine ⟨?_⟩; simp only [decide_eq_true_eq, decide_eq_false_iff_not]; omega) | (refine ⟨?_⟩; simp only [Int.toNat_natCast, decide_eq_true_eq, decide_eq_false_iff_not, Bool.not_eq_true', Bool.not_eq_false']; first | assumption | omega) | (refine ⟨?_⟩; first | exact hg.symm | exact hg))
set_option maxRecDepth 100000 in
set_option maxHeartbeats 2000000 in
theorem sa_all (e1 e2 : TypeId) (d1 d2 : Nat) (z1 z2 : Nat → Nat → Int) {base : Bs} {E : Ent} (hN : E.h.next = 2) (hr2 : d1 ≤ 100000) (hd2 : d2 ≤ 100000) : TriL Tryd.prog base E (flat (bodyC fM)) (start fM (ldA0 (gM e1 e2 d1 d2 z1 z2))) (ldH0 (gM e1 e2 d1 d2 z1 z2)) (finP tbM fM (.sb (sameR d1 d2 z1 z2))) := by
  by_cases hd : d1 = d2
  · refine TriL.rounds 4 (by kernel_rfl) (fun x : {i : Nat // i ≤ d1 ∧ ∀ j, j < i → z1 j 0 = z2 j 0} => JM e1 e2 d1 d2 z1 z2 x.1) (fun x => d1 - x.1) ⟨0, Nat.zero_le _, fun _ h => absurd h (Nat.not_lt_zero _)⟩ ?_ fun x => ?_
    · refine TriL.mono ?_ (preQ_ok (σ := fun x => x) hN (J0 := JM e1 e2 d1 d2 z1 z2 0))
      refine TriL.path tbM_ok [false] (by kernel_rfl) (of_skel (q := (EqB (!decide ((↑d1 : Int) = (↑d2 : Int))) false ∧ True) ∧ EqN d1 d1 ∧ EqN d2 d2 ∧ EqI 0 (↑0 : Int) ∧ EqB false false ∧ EqN d1 d1 ∧ RowEq d1 1 z1 z1 ∧ EqB false false ∧ EqN d2 d2 ∧ RowEq d2 1 z2 z2 ∧ True) (by kernel_rfl) ?_)
      ((repeat' apply And.intro) <;> first | exact trivial | exact ⟨rfl⟩ | exact ⟨fun _ _ _ _ => rfl⟩ | (refine inR64 ?_ ?_ <;> omega) | (refine ⟨?_⟩; (try simp only [Int.toNat_natCast]); omega) | (refine ⟨?_, ?_⟩ <;> (try simp only [Int.toNat_natCast]) <;> omega) | (refine ⟨?_⟩; simp only [decide_eq_true_eq, decide_eq_false_iff_not]; omega) | (refine ⟨?_⟩; simp only [Int.toNat_natCast, decide_eq_true_eq, decide_eq_false_iff_not, Bool.not_eq_true', Bool.not_eq_false']; first | assumption | omega) | (refine ⟨?_⟩; first | exact hg.symm | exact hg))
    · obtain ⟨i, hii, hall⟩ := x
      by_cases hx : i < d1
      · by_cases hz : z1 i 0 = z2 i 0
        · have hn : ∀ j, j < i + 1 → z1 j 0 = z2 j 0 := fun j hj => if h : j < i then hall j h else by
            obtain rfl : j = i := by omega
            exact hz
          refine Tri.mono ?_ (roundQ_R (σ := fun x => x) (X := fun _ _ => False) (⟨i + 1, hx, hn⟩ : {i : Nat // i ≤ d1 ∧ ∀ j, j < i → z1 j 0 = z2 j 0}) (by show d1 - (i + 1) < d1 - i; omega) hN (fun _ _ h => h.elim))
          refine Tri.path (tbM_ok base) 200 [true, false] (of_skel (q := (InR IntKind.i64 ((↑i : Int) + 1) ∧ EqB (!decide (z1 (↑i : Int).toNat 0 = z2 (↑i : Int).toNat 0)) false ∧ LtN (↑i : Int).toNat d2 ∧ IxIn (↑i : Int) d2 ∧ LtN (↑i : Int).toNat d1 ∧ IxIn (↑i : Int) d1 ∧ EqB (decide ((↑i : Int) < (↑d1 : Int))) true ∧ True) ∧ EqN d1 d1 ∧ EqN d2 d2 ∧ EqI ((↑i : Int) + 1) (↑(i + 1) : Int) ∧ EqB false false ∧ EqN d1 d1 ∧ RowEq d1 1 z1 z1 ∧ EqB false false ∧ EqN d2 d2 ∧ RowEq d2 1 z2 z2 ∧ True) (by kernel_rfl) ?_)
          ((repeat' apply And.intro) <;> first | exact trivial | exact ⟨rfl⟩ | exact ⟨fun _ _ _ _ => rfl⟩ | (refine inR64 ?_ ?_ <;> omega) | (refine ⟨?_⟩; (try simp only [Int.toNat_natCast]); omega) | (refine ⟨?_, ?_⟩ <;> (try simp only [Int.toNat_natCast]) <;> omega) | (refine ⟨?_⟩; simp only [decide_eq_true_eq, decide_eq_false_iff_not]; omega) | (refine ⟨?_⟩; simp only [Int.toNat_natCast, decide_eq_true_eq, decide_eq_false_iff_not, Bool.not_eq_true', Bool.not_eq_false']; first | assumption | omega) | (refine ⟨?_⟩; first | exact hg.symm | exact hg))
        · have hg := same_no (d1 := d1) (d2 := d2) (z1 := z1) (z2 := z2) (fun h => hz (h.2 i hx))
          refine Tri.mono ?_ (lastQ_R (X := fun _ _ => False) (fun _ _ h => h.elim))
          refine Tri.path (tbM_ok base) 200 [true, true] (of_skel (q := (EqB (!decide (z1 (↑i : Int).toNat 0 = z2 (↑i : Int).toNat 0)) true ∧ LtN (↑i : Int).toNat d2 ∧ IxIn (↑i : Int) d2 ∧ LtN (↑i : Int).toNat d1 ∧ IxIn (↑i : Int) d1 ∧ EqB (decide ((↑i : Int) < (↑d1 : Int))) true ∧ True) ∧ (EqB false (sameR d1 d2 z1 z2) ∧ True) ∧ True) (by kernel_rfl) ?_)
          ((repeat' apply And.intro) <;> first | exact trivial | exact ⟨rfl⟩ | exact ⟨fun _ _ _ _ => rfl⟩ | (refine inR64 ?_ ?_ <;> omega) | (refine ⟨?_⟩; (try simp only [Int.toNat_natCast]); omega) | (refine ⟨?_, ?_⟩ <;> (try simp only [Int.toNat_natCast]) <;> omega) | (refine ⟨?_⟩; simp only [decide_eq_true_eq, decide_eq_false_iff_not]; omega) | (refine ⟨?_⟩; simp only [Int.toNat_natCast, decide_eq_true_eq, decide_eq_false_iff_not, Bool.not_eq_true', Bool.not_eq_false']; first | assumption | omega) | (refine ⟨?_⟩; first | exact hg.symm | exact hg))
      · have hg : sameR d1 d2 z1 z2 = true := same_yes ⟨hd, fun j hj => hall j (by omega)⟩
        refine Tri.mono ?_ (lastQ_R (X := toX (fun x => x) 2 (KM e1 e2 d1 d2 z1 z2)) (toX_ok hN (by kernel_rfl) (sa_end e1 e2 d1 d2 z1 z2 hg)))
        refine Tri.path (tbM_ok base) 200 [false] (of_skel (q := (EqB (decide ((↑i : Int) < (↑d1 : Int))) false ∧ True) ∧ EqN d1 d1 ∧ EqB false false ∧ EqN d1 d1 ∧ RowEq d1 1 z1 z1 ∧ EqB false false ∧ EqN d2 d2 ∧ RowEq d2 1 z2 z2 ∧ True) (by kernel_rfl) ?_)
        ((repeat' apply And.intro) <;> first | exact trivial | exact ⟨rfl⟩ | exact ⟨fun _ _ _ _ => rfl⟩ | (refine inR64 ?_ ?_ <;> omega) | (refine ⟨?_⟩; (try simp only [Int.toNat_natCast]); omega) | (refine ⟨?_, ?_⟩ <;> (try simp only [Int.toNat_natCast]) <;> omega) | (refine ⟨?_⟩; simp only [decide_eq_true_eq, decide_eq_false_iff_not]; omega) | (refine ⟨?_⟩; simp only [Int.toNat_natCast, decide_eq_true_eq, decide_eq_false_iff_not, Bool.not_eq_true', Bool.not_eq_false']; first | assumption | omega) | (refine ⟨?_⟩; first | exact hg.symm | exact hg))
  · have hg := same_no (d1 := d1) (d2 := d2) (z1 := z1) (z2 := z2) (fun h => hd h.1)
    refine TriL.path tbM_ok [true] (by kernel_rfl) (of_skel (q := (EqB (!decide ((↑d1 : Int) = (↑d2 : Int))) true ∧ True) ∧ (EqB false (sameR d1 d2 z1 z2) ∧ True) ∧ True) (by kernel_rfl) ?_)
    ((repeat' apply And.intro) <;> first | exact trivial | exact ⟨rfl⟩ | exact ⟨fun _ _ _ _ => rfl⟩ | (refine inR64 ?_ ?_ <;> omega) | (refine ⟨?_⟩; (try simp only [Int.toNat_natCast]); omega) | (refine ⟨?_, ?_⟩ <;> (try simp only [Int.toNat_natCast]) <;> omega) | (refine ⟨?_⟩; simp only [decide_eq_true_eq, decide_eq_false_iff_not]; omega) | (refine ⟨?_⟩; simp only [Int.toNat_natCast, decide_eq_true_eq, decide_eq_false_iff_not, Bool.not_eq_true', Bool.not_eq_false']; first | assumption | omega) | (refine ⟨?_⟩; first | exact hg.symm | exact hg))
set_option maxRecDepth 100000 in
theorem spSa : FnSpec Tryd.prog 36 FSa := by
  refine spec_body tbM_ok Tryd.func36 (by kernel_rfl) (by kernel_rfl) fun gs g ps hF hps => ?_
  unfold FSa at hF
  split at hF <;> try (cases hF; done)
  rename_i e1 d1 z1 e2 d2 z2
  cases hF
  obtain ⟨h1, h2, _⟩ := hps
  refine ⟨ldA0 (gM e1 e2 d1 d2 z1 z2), ldH0 (gM e1 e2 d1 d2 z1 z2), rfl, ⟨Nat.le_of_ble_eq_true (by kernel_rfl), Nat.le_of_ble_eq_true (by kernel_rfl)⟩, fun base E hE => ?_⟩
  exact Tri.flat (sa_all e1 e2 d1 d2 z1 z2 (by rw [hE]; rfl) h1.p h2.p)

end PartOfKsa

section PartOfKri
open Go Go.RowKit Go.Proofs
theorem mark_fall {fm : Nat → Nat → Int} {k : Nat} (h : MkP fm (k + 1)) : fm (k + 1) 0 < fm k 0 := by
  have := h.b; simp only [mst] at this; omega
theorem ht_in {lo hi b0 : Int} {r d : Nat} {fm ft : Nat → Nat → Int} (h1 : TrB lo hi r fm = true) (h2 : TmB r d fm ft = true) (h3 : lo ≤ b0 ∧ b0 ≤ hi) : HtIn r d b0 fm ft := by
  have a := TrB_out h1
  have b := TmB_out h2
  have s := a.s
  refine ⟨a.r1, a.r8, by have := b.l; omega, by omega, fun k hk => ⟨(a.m k hk).a, ?_⟩, fun k hk => ?_, fun k hk => mark_fall (a.m _ hk)⟩
  · have := (a.m k hk).b
    have := mst_le (i := k) (fun j hj => a.m j (by omega))
    omega
  · have := b.m k hk; have := (a.m k hk).c; have := (a.m k hk).e; omega
theorem same_refl (r : Nat) (f : Nat → Nat → Int) : sameR r r f f = true := same_yes ⟨rfl, fun _ _ => rfl⟩

end PartOfKri
end Go.Proofs.YtknplcpjmpmblaaDoor.GY
