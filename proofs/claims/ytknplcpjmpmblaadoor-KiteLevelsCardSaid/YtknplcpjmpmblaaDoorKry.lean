/- Kites: levels, and what is above a height. -/
import Derived.Test.YtknplcpjmpmblaaDoorKrz
set_option linter.unusedVariables false
set_option linter.unusedSimpArgs false
namespace Go.Proofs.YtknplcpjmpmblaaDoor.GY
section PartOfKtp
open Go Go.RowKit Go.Proofs
noncomputable def fP9 : Func := Tryd.f38
noncomputable def tbP9 : Tab := mkTab tyAll Tryd.prog [] [] []
noncomputable def gP9 (lo hi : Int) (e1 : TypeId) (r : Nat) (fm : Nat → Nat → Int) (b : Bool) : List GV := [.agg [.lit (.int .i64 lo), .lit (.int .i64 hi), .rows e1 3 r fm], .lit (.bool b)]
def tpF (fm : Nat → Nat → Int) (b : Bool) : Nat → Nat → Int := fun k _ => if b then fm k 2 else fm k 1
noncomputable def JP9a (lo hi : Int) (e1 : TypeId) (r : Nat) (fm : Nat → Nat → Int) (b : Bool) : JS := ⟨35, [(1, .lit (.bool b)), (2, .ptr 1 0), (5, .lit (.slice none 0 0)), (6, .lit (.int .i64 0))], [(1, .cells [.lit (.int .i64 lo), .lit (.int .i64 hi), .isl 0 r] 40 none)], [(0, ⟨false, e1, 3, r, fm⟩)], 2⟩
noncomputable def JP9b (lo hi : Int) (e1 : TypeId) (r : Nat) (fm : Nat → Nat → Int) (b : Bool) (i : Nat) : JS := ⟨35, [(1, .lit (.bool b)), (2, .ptr 1 0), (5, .isl 2 i), (6, .lit (.int .i64 (i : Nat)))], [(1, .cells [.lit (.int .i64 lo), .lit (.int .i64 hi), .isl 0 r] 40 none), (2, .irow 3 1 i (tpF fm b))], [(0, ⟨false, e1, 3, r, fm⟩)], 3⟩
noncomputable def KP9 (lo hi : Int) (e1 : TypeId) (r : Nat) (fm : Nat → Nat → Int) (b : Bool) : JS := ⟨35, [(5, .isl 2 r)], [(2, .irow 3 1 r (tpF fm b))], [(0, ⟨false, e1, 3, r, fm⟩)], 3⟩
noncomputable def JP9 (lo hi : Int) (e1 : TypeId) (r : Nat) (fm : Nat → Nat → Int) (b : Bool) : Nat → JS
  | 0 => JP9a lo hi e1 r fm b
  | i + 1 => JP9b lo hi e1 r fm b (i + 1)
theorem tbP9_ok : ∀ base, TabOK Tryd.prog tbP9 base := mkTab_ok mixedP tyAll_ok (fun p hp => by cases hp) (fun p hp => by cases hp)
theorem tpT (fr : Nat → Nat → Int) (k j : Nat) : tpF fr true k j = fr k 2 := by simp [tpF]
theorem tpFf (fr : Nat → Nat → Int) (k j : Nat) : tpF fr false k j = fr k 1 := by simp [tpF]
theorem row_one {v : Int} {g : Nat → Nat → Int} (h : g 0 0 = v) : RowEq 1 1 (rowOf [v] 1) g := ⟨fun k j hk hj => by
  obtain rfl : k = 0 := by omega
  obtain rfl : j = 0 := by omega
  rw [h]; rfl⟩
theorem row_snoc {n : Nat} {v : Int} {f g : Nat → Nat → Int} (hf : ∀ k, k < n → f k 0 = g k 0) (h : g n 0 = v) : RowEq (n + 1) 1 (joinF n f (rowOf [v] 1)) g := ⟨fun k j hk hj => by
  obtain rfl : j = 0 := by omega
  unfold joinF
  by_cases hkn : k < n
  · rw [if_pos hkn]; exact hf k hkn
  · obtain rfl : k = n := by omega
    rw [if_neg hkn, h, Nat.sub_self]; rfl⟩
noncomputable def FTp : GSpec := fun gs => match gs with
  | [.agg [.lit (.int .i64 lo), .lit (.int .i64 hi), .rows e1 3 r fm], .lit (.bool b)] => some (.rows 0 1 r (tpF fm b), [LtN 0 r, LeN r 1000])
  | _ => none
set_option maxRecDepth 100000 in
set_option maxHeartbeats 2000000 in
theorem p9_endT (lo hi : Int) (e1 : TypeId) (r : Nat) (fm : Nat → Nat → Int) (hr0 : 0 < r) (hr2 : r ≤ 1000) {base : Bs} {E : Ent} : TriL Tryd.prog base E ((flat (bodyC fP9)).drop 4) (KP9 lo hi e1 r fm true).A (KP9 lo hi e1 r fm true).h (finP tbP9 fP9 (.rows 0 1 r (tpF fm true))) := by
  refine TriL.path tbP9_ok [] (by kernel_rfl) (of_skel (q := True ∧ (EqN r r ∧ LeN r r ∧ RowEq r 1 (tpF fm true) (tpF fm true) ∧ True) ∧ True) (by kernel_rfl) ?_)
  ((repeat' apply And.intro) <;> first | exact trivial | exact ⟨rfl⟩ | exact ⟨fun _ _ _ _ => rfl⟩ | (refine inR64 ?_ ?_ <;> omega) | (refine ⟨?_⟩; (try simp only [Int.toNat_natCast]); omega) | (refine ⟨?_, ?_⟩ <;> (try simp only [Int.toNat_natCast]) <;> omega) | (refine ⟨?_⟩; simp only [decide_eq_true_eq, decide_eq_false_iff_not]; omega) | (refine ⟨?_⟩; simp only [Int.toNat_natCast, decide_eq_true_eq, decide_eq_false_iff_not]; first | assumption | omega) | exact row_one (tpT _ _ _) | exact row_snoc (fun _ _ => rfl) (tpT _ _ _) | (simp only [Int.toNat_natCast]; exact row_snoc (fun _ _ => rfl) (tpT _ _ _)) | (refine ⟨fun k _ hk _ => ?_⟩; exact absurd hk (by omega)))
set_option maxRecDepth 100000 in
set_option maxHeartbeats 2000000 in
theorem p9_allT (lo hi : Int) (e1 : TypeId) (r : Nat) (fm : Nat → Nat → Int) (hr0 : 0 < r) (hr2 : r ≤ 1000) {base : Bs} {E : Ent} (hN : E.h.next = 1) : TriL Tryd.prog base E (flat (bodyC fP9)) (start fP9 (ldA0 (gP9 lo hi e1 r fm true))) (ldH0 (gP9 lo hi e1 r fm true)) (finP tbP9 fP9 (.rows 0 1 r (tpF fm true))) := by
  refine TriL.rounds 3 (by kernel_rfl) (fun x : {i : Nat // i ≤ r} => JP9 lo hi e1 r fm true x.1) (fun x => r - x.1) ⟨0, Nat.zero_le _⟩ ?_ fun x => ?_
  · refine TriL.mono ?_ (preQ_ok (σ := fun x => x) hN (J0 := JP9a lo hi e1 r fm true))
    refine TriL.path tbP9_ok [] (by kernel_rfl) (of_skel (q := True ∧ EqB true true ∧ EqN 0 0 ∧ EqV (Value.slice none 0 0) (Value.slice none 0 0) ∧ EqI 0 0 ∧ EqI lo lo ∧ EqI hi hi ∧ EqN r r ∧ EqB false false ∧ EqN r r ∧ RowEq r 3 fm fm ∧ True) (by kernel_rfl) ?_)
    ((repeat' apply And.intro) <;> first | exact trivial | exact ⟨rfl⟩ | exact ⟨fun _ _ _ _ => rfl⟩ | (refine inR64 ?_ ?_ <;> omega) | (refine ⟨?_⟩; (try simp only [Int.toNat_natCast]); omega) | (refine ⟨?_, ?_⟩ <;> (try simp only [Int.toNat_natCast]) <;> omega) | (refine ⟨?_⟩; simp only [decide_eq_true_eq, decide_eq_false_iff_not]; omega) | (refine ⟨?_⟩; simp only [Int.toNat_natCast, decide_eq_true_eq, decide_eq_false_iff_not]; first | assumption | omega) | exact row_one (tpT _ _ _) | exact row_snoc (fun _ _ => rfl) (tpT _ _ _) | (simp only [Int.toNat_natCast]; exact row_snoc (fun _ _ => rfl) (tpT _ _ _)) | (refine ⟨fun k _ hk _ => ?_⟩; exact absurd hk (by omega)))
  · obtain ⟨i, hii⟩ := x
    by_cases hx : i < r
    · cases i with
      | zero =>
        refine Tri.mono ?_ (roundQ_R (σ := sg [(2, 3)]) (X := fun _ _ => False) (⟨1, hx⟩ : {i : Nat // i ≤ r}) (by show r - 1 < r - 0; omega) hN (fun _ _ h => h.elim))
        refine Tri.path (tbP9_ok base) 200 [true,true] (of_skel (q := (InR IntKind.i64 (0 + 1) ∧ LeN 1 65536 ∧ EqB true true ∧ LeN 1 1 ∧ LtN 0 r ∧ IxIn 0 r ∧ LtN 0 r ∧ IxIn 0 r ∧ EqB (decide (0 < (↑r : Int))) true ∧ True) ∧ EqB true true ∧ EqN 0 0 ∧ EqN 1 1 ∧ EqI (0 + 1) (↑1 : Int) ∧ EqI lo lo ∧ EqI hi hi ∧ EqN r r ∧ EqN 1 1 ∧ RowEq 1 1 (rowOf [fm 0 2] 1) (tpF fm true) ∧ EqB false false ∧ EqN r r ∧ RowEq r 3 fm fm ∧ True) (by kernel_rfl) ?_)
        ((repeat' apply And.intro) <;> first | exact trivial | exact ⟨rfl⟩ | exact ⟨fun _ _ _ _ => rfl⟩ | (refine inR64 ?_ ?_ <;> omega) | (refine ⟨?_⟩; (try simp only [Int.toNat_natCast]); omega) | (refine ⟨?_, ?_⟩ <;> (try simp only [Int.toNat_natCast]) <;> omega) | (refine ⟨?_⟩; simp only [decide_eq_true_eq, decide_eq_false_iff_not]; omega) | (refine ⟨?_⟩; simp only [Int.toNat_natCast, decide_eq_true_eq, decide_eq_false_iff_not]; first | assumption | omega) | exact row_one (tpT _ _ _) | exact row_snoc (fun _ _ => rfl) (tpT _ _ _) | (simp only [Int.toNat_natCast]; exact row_snoc (fun _ _ => rfl) (tpT _ _ _)) | (refine ⟨fun k _ hk _ => ?_⟩; exact absurd hk (by omega)))
      | succ i =>
        refine Tri.mono ?_ (roundQ_R (σ := sg [(2, 4)]) (X := fun _ _ => False) (⟨i + 1 + 1, hx⟩ : {i : Nat // i ≤ r}) (by show r - (i + 1 + 1) < r - (i + 1); omega) hN (fun _ _ h => h.elim))
        refine Tri.path (tbP9_ok base) 200 [true,true] (of_skel (q := (InR IntKind.i64 ((↑(i + 1) : Int) + 1) ∧ LeN ((i + 1) + 1) 65536 ∧ LeN (i + 1) (i + 1) ∧ LeN (i + 1) (i + 1) ∧ EqB true true ∧ LeN 1 1 ∧ LtN (↑(i + 1) : Int).toNat r ∧ IxIn (↑(i + 1) : Int) r ∧ LtN (↑(i + 1) : Int).toNat r ∧ IxIn (↑(i + 1) : Int) r ∧ EqB (decide ((↑(i + 1) : Int) < (↑r : Int))) true ∧ True) ∧ EqB true true ∧ EqN 0 0 ∧ EqN ((i + 1) + 1) ((i + 1) + 1) ∧ EqI ((↑(i + 1) : Int) + 1) (↑((i + 1) + 1) : Int) ∧ EqI lo lo ∧ EqI hi hi ∧ EqN r r ∧ EqN ((i + 1) + 1) ((i + 1) + 1) ∧ RowEq ((i + 1) + 1) 1 (joinF (i + 1) (tpF fm true) (rowOf [fm (↑(i + 1) : Int).toNat 2] 1)) (tpF fm true) ∧ EqB false false ∧ EqN r r ∧ RowEq r 3 fm fm ∧ True) (by kernel_rfl) ?_)
        generalize i + 1 = i at *
        ((repeat' apply And.intro) <;> first | exact trivial | exact ⟨rfl⟩ | exact ⟨fun _ _ _ _ => rfl⟩ | (refine inR64 ?_ ?_ <;> omega) | (refine ⟨?_⟩; (try simp only [Int.toNat_natCast]); omega) | (refine ⟨?_, ?_⟩ <;> (try simp only [Int.toNat_natCast]) <;> omega) | (refine ⟨?_⟩; simp only [decide_eq_true_eq, decide_eq_false_iff_not]; omega) | (refine ⟨?_⟩; simp only [Int.toNat_natCast, decide_eq_true_eq, decide_eq_false_iff_not]; first | assumption | omega) | exact row_one (tpT _ _ _) | exact row_snoc (fun _ _ => rfl) (tpT _ _ _) | (simp only [Int.toNat_natCast]; exact row_snoc (fun _ _ => rfl) (tpT _ _ _)) | (refine ⟨fun k _ hk _ => ?_⟩; exact absurd hk (by omega)))
    · have hx' : r = i := by omega
      subst hx'
      obtain ⟨r, rfl⟩ : ∃ k, r = k + 1 := ⟨r - 1, by omega⟩
      refine Tri.mono ?_ (lastQ_R (X := toX (fun x => x) 1 (KP9 lo hi e1 (r + 1) fm true)) (toX_ok hN (by kernel_rfl) (p9_endT lo hi e1 (r + 1) fm hr0 hr2)))
      refine Tri.path (tbP9_ok base) 200 [false] (of_skel (q := (EqB (decide ((↑(r + 1) : Int) < (↑(r + 1) : Int))) false ∧ True) ∧ EqN (r + 1) (r + 1) ∧ EqN (r + 1) (r + 1) ∧ RowEq (r + 1) 1 (tpF fm true) (tpF fm true) ∧ EqB false false ∧ EqN (r + 1) (r + 1) ∧ RowEq (r + 1) 3 fm fm ∧ True) (by kernel_rfl) ?_)
      ((repeat' apply And.intro) <;> first | exact trivial | exact ⟨rfl⟩ | exact ⟨fun _ _ _ _ => rfl⟩ | (refine inR64 ?_ ?_ <;> omega) | (refine ⟨?_⟩; (try simp only [Int.toNat_natCast]); omega) | (refine ⟨?_, ?_⟩ <;> (try simp only [Int.toNat_natCast]) <;> omega) | (refine ⟨?_⟩; simp only [decide_eq_true_eq, decide_eq_false_iff_not]; omega) | (refine ⟨?_⟩; simp only [Int.toNat_natCast, decide_eq_true_eq, decide_eq_false_iff_not]; first | assumption | omega) | exact row_one (tpT _ _ _) | exact row_snoc (fun _ _ => rfl) (tpT _ _ _) | (simp only [Int.toNat_natCast]; exact row_snoc (fun _ _ => rfl) (tpT _ _ _)) | (refine ⟨fun k _ hk _ => ?_⟩; exact absurd hk (by omega)))
set_option maxRecDepth 100000 in
set_option maxHeartbeats 2000000 in
theorem p9_endFf (lo hi : Int) (e1 : TypeId) (r : Nat) (fm : Nat → Nat → Int) (hr0 : 0 < r) (hr2 : r ≤ 1000) {base : Bs} {E : Ent} : TriL Tryd.prog base E ((flat (bodyC fP9)).drop 4) (KP9 lo hi e1 r fm false).A (KP9 lo hi e1 r fm false).h (finP tbP9 fP9 (.rows 0 1 r (tpF fm false))) := by
  refine TriL.path tbP9_ok [] (by kernel_rfl) (of_skel (q := True ∧ (EqN r r ∧ LeN r r ∧ RowEq r 1 (tpF fm false) (tpF fm false) ∧ True) ∧ True) (by kernel_rfl) ?_)
  ((repeat' apply And.intro) <;> first | exact trivial | exact ⟨rfl⟩ | exact ⟨fun _ _ _ _ => rfl⟩ | (refine inR64 ?_ ?_ <;> omega) | (refine ⟨?_⟩; (try simp only [Int.toNat_natCast]); omega) | (refine ⟨?_, ?_⟩ <;> (try simp only [Int.toNat_natCast]) <;> omega) | (refine ⟨?_⟩; simp only [decide_eq_true_eq, decide_eq_false_iff_not]; omega) | (refine ⟨?_⟩; simp only [Int.toNat_natCast, decide_eq_true_eq, decide_eq_false_iff_not]; first | assumption | omega) | exact row_one (tpFf _ _ _) | exact row_snoc (fun _ _ => rfl) (tpFf _ _ _) | (simp only [Int.toNat_natCast]; exact row_snoc (fun _ _ => rfl) (tpFf _ _ _)) | (refine ⟨fun k _ hk _ => ?_⟩; exact absurd hk (by omega)))
set_option maxRecDepth 100000 in
set_option maxHeartbeats 2000000 in
theorem p9_allFf (lo hi : Int) (e1 : TypeId) (r : Nat) (fm : Nat → Nat → Int) (hr0 : 0 < r) (hr2 : r ≤ 1000) {base : Bs} {E : Ent} (hN : E.h.next = 1) : TriL Tryd.prog base E (flat (bodyC fP9)) (start fP9 (ldA0 (gP9 lo hi e1 r fm false))) (ldH0 (gP9 lo hi e1 r fm false)) (finP tbP9 fP9 (.rows 0 1 r (tpF fm false))) := by
  refine TriL.rounds 3 (by kernel_rfl) (fun x : {i : Nat // i ≤ r} => JP9 lo hi e1 r fm false x.1) (fun x => r - x.1) ⟨0, Nat.zero_le _⟩ ?_ fun x => ?_
  · refine TriL.mono ?_ (preQ_ok (σ := fun x => x) hN (J0 := JP9a lo hi e1 r fm false))
    refine TriL.path tbP9_ok [] (by kernel_rfl) (of_skel (q := True ∧ EqB false false ∧ EqN 0 0 ∧ EqV (Value.slice none 0 0) (Value.slice none 0 0) ∧ EqI 0 0 ∧ EqI lo lo ∧ EqI hi hi ∧ EqN r r ∧ EqB false false ∧ EqN r r ∧ RowEq r 3 fm fm ∧ True) (by kernel_rfl) ?_)
    ((repeat' apply And.intro) <;> first | exact trivial | exact ⟨rfl⟩ | exact ⟨fun _ _ _ _ => rfl⟩ | (refine inR64 ?_ ?_ <;> omega) | (refine ⟨?_⟩; (try simp only [Int.toNat_natCast]); omega) | (refine ⟨?_, ?_⟩ <;> (try simp only [Int.toNat_natCast]) <;> omega) | (refine ⟨?_⟩; simp only [decide_eq_true_eq, decide_eq_false_iff_not]; omega) | (refine ⟨?_⟩; simp only [Int.toNat_natCast, decide_eq_true_eq, decide_eq_false_iff_not]; first | assumption | omega) | exact row_one (tpFf _ _ _) | exact row_snoc (fun _ _ => rfl) (tpFf _ _ _) | (simp only [Int.toNat_natCast]; exact row_snoc (fun _ _ => rfl) (tpFf _ _ _)) | (refine ⟨fun k _ hk _ => ?_⟩; exact absurd hk (by omega)))
  · obtain ⟨i, hii⟩ := x
    by_cases hx : i < r
    · cases i with
      | zero =>
        refine Tri.mono ?_ (roundQ_R (σ := sg [(2, 3)]) (X := fun _ _ => False) (⟨1, hx⟩ : {i : Nat // i ≤ r}) (by show r - 1 < r - 0; omega) hN (fun _ _ h => h.elim))
        refine Tri.path (tbP9_ok base) 200 [true,true] (of_skel (q := (InR IntKind.i64 (0 + 1) ∧ LeN 1 65536 ∧ EqB true true ∧ LeN 1 1 ∧ LtN 0 r ∧ IxIn 0 r ∧ EqB (decide (0 < (↑r : Int))) true ∧ True) ∧ EqB false false ∧ EqN 0 0 ∧ EqN 1 1 ∧ EqI (0 + 1) (↑1 : Int) ∧ EqI lo lo ∧ EqI hi hi ∧ EqN r r ∧ EqN 1 1 ∧ RowEq 1 1 (rowOf [fm 0 1] 1) (tpF fm false) ∧ EqB false false ∧ EqN r r ∧ RowEq r 3 fm fm ∧ True) (by kernel_rfl) ?_)
        ((repeat' apply And.intro) <;> first | exact trivial | exact ⟨rfl⟩ | exact ⟨fun _ _ _ _ => rfl⟩ | (refine inR64 ?_ ?_ <;> omega) | (refine ⟨?_⟩; (try simp only [Int.toNat_natCast]); omega) | (refine ⟨?_, ?_⟩ <;> (try simp only [Int.toNat_natCast]) <;> omega) | (refine ⟨?_⟩; simp only [decide_eq_true_eq, decide_eq_false_iff_not]; omega) | (refine ⟨?_⟩; simp only [Int.toNat_natCast, decide_eq_true_eq, decide_eq_false_iff_not]; first | assumption | omega) | exact row_one (tpFf _ _ _) | exact row_snoc (fun _ _ => rfl) (tpFf _ _ _) | (simp only [Int.toNat_natCast]; exact row_snoc (fun _ _ => rfl) (tpFf _ _ _)) | (refine ⟨fun k _ hk _ => ?_⟩; exact absurd hk (by omega)))
      | succ i =>
        refine Tri.mono ?_ (roundQ_R (σ := sg [(2, 4)]) (X := fun _ _ => False) (⟨i + 1 + 1, hx⟩ : {i : Nat // i ≤ r}) (by show r - (i + 1 + 1) < r - (i + 1); omega) hN (fun _ _ h => h.elim))
        refine Tri.path (tbP9_ok base) 200 [true,true] (of_skel (q := (InR IntKind.i64 ((↑(i + 1) : Int) + 1) ∧ LeN ((i + 1) + 1) 65536 ∧ LeN (i + 1) (i + 1) ∧ LeN (i + 1) (i + 1) ∧ EqB true true ∧ LeN 1 1 ∧ LtN (↑(i + 1) : Int).toNat r ∧ IxIn (↑(i + 1) : Int) r ∧ EqB (decide ((↑(i + 1) : Int) < (↑r : Int))) true ∧ True) ∧ EqB false false ∧ EqN 0 0 ∧ EqN ((i + 1) + 1) ((i + 1) + 1) ∧ EqI ((↑(i + 1) : Int) + 1) (↑((i + 1) + 1) : Int) ∧ EqI lo lo ∧ EqI hi hi ∧ EqN r r ∧ EqN ((i + 1) + 1) ((i + 1) + 1) ∧ RowEq ((i + 1) + 1) 1 (joinF (i + 1) (tpF fm false) (rowOf [fm (↑(i + 1) : Int).toNat 1] 1)) (tpF fm false) ∧ EqB false false ∧ EqN r r ∧ RowEq r 3 fm fm ∧ True) (by kernel_rfl) ?_)
        generalize i + 1 = i at *
        ((repeat' apply And.intro) <;> first | exact trivial | exact ⟨rfl⟩ | exact ⟨fun _ _ _ _ => rfl⟩ | (refine inR64 ?_ ?_ <;> omega) | (refine ⟨?_⟩; (try simp only [Int.toNat_natCast]); omega) | (refine ⟨?_, ?_⟩ <;> (try simp only [Int.toNat_natCast]) <;> omega) | (refine ⟨?_⟩; simp only [decide_eq_true_eq, decide_eq_false_iff_not]; omega) | (refine ⟨?_⟩; simp only [Int.toNat_natCast, decide_eq_true_eq, decide_eq_false_iff_not]; first | assumption | omega) | exact row_one (tpFf _ _ _) | exact row_snoc (fun _ _ => rfl) (tpFf _ _ _) | (simp only [Int.toNat_natCast]; exact row_snoc (fun _ _ => rfl) (tpFf _ _ _)) | (refine ⟨fun k _ hk _ => ?_⟩; exact absurd hk (by omega)))
    · have hx' : r = i := by omega
      subst hx'
      obtain ⟨r, rfl⟩ : ∃ k, r = k + 1 := ⟨r - 1, by omega⟩
      refine Tri.mono ?_ (lastQ_R (X := toX (fun x => x) 1 (KP9 lo hi e1 (r + 1) fm false)) (toX_ok hN (by kernel_rfl) (p9_endFf lo hi e1 (r + 1) fm hr0 hr2)))
      refine Tri.path (tbP9_ok base) 200 [false] (of_skel (q := (EqB (decide ((↑(r + 1) : Int) < (↑(r + 1) : Int))) false ∧ True) ∧ EqN (r + 1) (r + 1) ∧ EqN (r + 1) (r + 1) ∧ RowEq (r + 1) 1 (tpF fm false) (tpF fm false) ∧ EqB false false ∧ EqN (r + 1) (r + 1) ∧ RowEq (r + 1) 3 fm fm ∧ True) (by kernel_rfl) ?_)
      ((repeat' apply And.intro) <;> first | exact trivial | exact ⟨rfl⟩ | exact ⟨fun _ _ _ _ => rfl⟩ | (refine inR64 ?_ ?_ <;> omega) | (refine ⟨?_⟩; (try simp only [Int.toNat_natCast]); omega) | (refine ⟨?_, ?_⟩ <;> (try simp only [Int.toNat_natCast]) <;> omega) | (refine ⟨?_⟩; simp only [decide_eq_true_eq, decide_eq_false_iff_not]; omega) | (refine ⟨?_⟩; simp only [Int.toNat_natCast, decide_eq_true_eq, decide_eq_false_iff_not]; first | assumption | omega) | exact row_one (tpFf _ _ _) | exact row_snoc (fun _ _ => rfl) (tpFf _ _ _) | (simp only [Int.toNat_natCast]; exact row_snoc (fun _ _ => rfl) (tpFf _ _ _)) | (refine ⟨fun k _ hk _ => ?_⟩; exact absurd hk (by omega)))
set_option maxRecDepth 100000 in
theorem spTp : FnSpec Tryd.prog 38 FTp := by
  refine spec_body tbP9_ok Tryd.func38 (by kernel_rfl) (by kernel_rfl) fun gs g ps hF' hps => ?_
  unfold FTp at hF'
  split at hF' <;> try (cases hF'; done)
  rename_i lo hi e1 r fm b
  cases hF'
  obtain ⟨h0, h1, _⟩ := hps
  refine ⟨ldA0 (gP9 lo hi e1 r fm b), ldH0 (gP9 lo hi e1 r fm b), rfl, ⟨Nat.le_of_ble_eq_true (by kernel_rfl), Nat.le_of_ble_eq_true (by kernel_rfl)⟩, fun base E hE => ?_⟩
  cases b with
  | true => exact Tri.flat (p9_allT lo hi e1 r fm h0.1 h1.1 (by rw [hE]; rfl))
  | false => exact Tri.flat (p9_allFf lo hi e1 r fm h0.1 h1.1 (by rw [hE]; rfl))

end PartOfKtp

section PartOfKlv
open Go Go.RowKit Go.Proofs
noncomputable def fL9 : Func := Tryd.f31
noncomputable def tbL9 : Tab := mkTab tyAll Tryd.prog [] [(37, FRr), (38, FTp)] []
noncomputable def gL9 (lo hi : Int) (e1 : TypeId) (r : Nat) (fm : Nat → Nat → Int) : List GV := [.agg [.lit (.int .i64 lo), .lit (.int .i64 hi), .rows e1 3 r fm]]
def lvF (lo hi : Int) (fm : Nat → Nat → Int) : Nat → Nat → Int := fun k j => if j = 0 then hF lo fm (tpF fm false) k else hF hi fm (tpF fm true) k
noncomputable def JL9a (lo hi : Int) (e1 : TypeId) (r : Nat) (fm : Nat → Nat → Int) : JS := ⟨40, [(3, .isl 2 r), (4, .isl 3 r), (5, .lit (.slice none 0 0)), (6, .lit (.int .i64 0))], [], [(0, ⟨false, e1, 3, r, fm⟩), (2, ⟨true, 0, 1, r, fun k _ => hF lo fm (tpF fm false) k⟩), (3, ⟨true, 0, 1, r, fun k _ => hF hi fm (tpF fm true) k⟩)], 4⟩
noncomputable def JL9b (lo hi : Int) (e1 : TypeId) (r : Nat) (fm : Nat → Nat → Int) (i : Nat) : JS := ⟨40, [(3, .isl 2 r), (4, .isl 3 r), (5, .isl 4 i), (6, .lit (.int .i64 (i : Nat)))], [(4, .irow 23 2 i (lvF lo hi fm))], [(0, ⟨false, e1, 3, r, fm⟩), (2, ⟨true, 0, 1, r, fun k _ => hF lo fm (tpF fm false) k⟩), (3, ⟨true, 0, 1, r, fun k _ => hF hi fm (tpF fm true) k⟩)], 5⟩
noncomputable def KL9 (lo hi : Int) (e1 : TypeId) (r : Nat) (fm : Nat → Nat → Int) : JS := ⟨40, [(5, .isl 4 r)], [(4, .irow 23 2 r (lvF lo hi fm))], [(0, ⟨false, e1, 3, r, fm⟩), (2, ⟨true, 0, 1, r, fun k _ => hF lo fm (tpF fm false) k⟩), (3, ⟨true, 0, 1, r, fun k _ => hF hi fm (tpF fm true) k⟩)], 5⟩
noncomputable def JL9 (lo hi : Int) (e1 : TypeId) (r : Nat) (fm : Nat → Nat → Int) : Nat → JS
  | 0 => JL9a lo hi e1 r fm
  | i + 1 => JL9b lo hi e1 r fm (i + 1)
theorem tbL9_ok : ∀ base, TabOK Tryd.prog tbL9 base := mkTab_ok mixedP tyAll_ok (fun p hp => by
  rcases List.mem_cons.1 hp with rfl | hp
  · exact spRr
  rcases List.mem_cons.1 hp with rfl | hp
  · exact spTp
  cases hp) (fun p hp => by cases hp)
theorem lv0 (lo hi : Int) (fm : Nat → Nat → Int) (k : Nat) : lvF lo hi fm k 0 = hF lo fm (tpF fm false) k := rfl
theorem lv1 (lo hi : Int) (fm : Nat → Nat → Int) (k : Nat) : lvF lo hi fm k 1 = hF hi fm (tpF fm true) k := rfl
theorem row_one2 {u v : Int} {g : Nat → Nat → Int} (h : g 0 0 = u) (h' : g 0 1 = v) : RowEq 1 2 (rowOf [u, v] 2) g := ⟨fun k j hk hj => by
  obtain rfl : k = 0 := by omega
  rcases (by omega : j = 0 ∨ j = 1) with rfl | rfl
  · rw [h]; rfl
  · rw [h']; rfl⟩
theorem row_snoc2 {n : Nat} {u v : Int} {f g : Nat → Nat → Int} (hf : ∀ k j, k < n → f k j = g k j) (h : g n 0 = u) (h' : g n 1 = v) : RowEq (n + 1) 2 (joinF n f (rowOf [u, v] 2)) g := ⟨fun k j hk hj => by
  unfold joinF
  by_cases hkn : k < n
  · rw [if_pos hkn]; exact hf k j hkn
  · obtain rfl : k = n := by omega
    rw [if_neg hkn, Nat.sub_self]
    rcases (by omega : j = 0 ∨ j = 1) with rfl | rfl
    · rw [h]; rfl
    · rw [h']; rfl⟩
theorem ht_ends {lo hi : Int} {r : Nat} {fm : Nat → Nat → Int} (h : TrOK lo hi r fm) (b : Bool) (v : Int) (hv : lo ≤ v ∧ v ≤ hi) : HtIn r r v fm (tpF fm b) := by
  have s := h.s
  refine ⟨h.r1, h.r8, Nat.le_refl _, by omega, fun k hk => ⟨(h.m k hk).a, ?_⟩, fun k hk => ?_, fun k hk => mark_fall (h.m _ hk)⟩
  · have := (h.m k hk).b
    have := mst_le (i := k) (fun j hj => h.m j (by omega))
    omega
  · have m := h.m k hk
    have a := m.c; have b' := m.d; have c := m.e
    unfold tpF
    split <;> omega
noncomputable def FLv : GSpec := fun gs => match gs with
  | [.agg [.lit (.int .i64 lo), .lit (.int .i64 hi), .rows e1 3 r fm]] => some (.rows 0 2 r (lvF lo hi fm), [TrOK lo hi r fm])
  | _ => none
set_option maxRecDepth 100000 in
set_option maxHeartbeats 2000000 in
theorem l9_end (lo hi : Int) (e1 : TypeId) (r : Nat) (fm : Nat → Nat → Int) (hr0 : 0 < r) (hr2 : r ≤ 8) (hA : HtIn r r lo fm (tpF fm false)) (hB : HtIn r r hi fm (tpF fm true)) {base : Bs} {E : Ent} : TriL Tryd.prog base E ((flat (bodyC fL9)).drop 5) (KL9 lo hi e1 r fm).A (KL9 lo hi e1 r fm).h (finP tbL9 fL9 (.rows 0 2 r (lvF lo hi fm))) := by
  refine TriL.path tbL9_ok [] (by kernel_rfl) (of_skel (q := True ∧ (EqN r r ∧ LeN r r ∧ RowEq r 2 (lvF lo hi fm) (lvF lo hi fm) ∧ True) ∧ True) (by kernel_rfl) ?_)
  ((repeat' apply And.intro) <;> first | exact trivial | exact ⟨rfl⟩ | exact ⟨fun _ _ _ _ => rfl⟩ | (refine inR64 ?_ ?_ <;> omega) | (refine ⟨?_⟩; (try simp only [Int.toNat_natCast]); omega) | (refine ⟨?_, ?_⟩ <;> (try simp only [Int.toNat_natCast]) <;> omega) | (refine ⟨?_⟩; simp only [decide_eq_true_eq, decide_eq_false_iff_not]; omega) | (refine ⟨?_⟩; simp only [Int.toNat_natCast, decide_eq_true_eq, decide_eq_false_iff_not]; first | assumption | omega) | exact hA | exact hB | exact row_one2 rfl rfl | exact row_snoc2 (fun _ _ _ => rfl) rfl rfl | (simp only [Int.toNat_natCast]; exact row_snoc2 (fun _ _ _ => rfl) rfl rfl))
set_option maxRecDepth 100000 in
set_option maxHeartbeats 2000000 in
theorem l9_all (lo hi : Int) (e1 : TypeId) (r : Nat) (fm : Nat → Nat → Int) (hr0 : 0 < r) (hr2 : r ≤ 8) (hA : HtIn r r lo fm (tpF fm false)) (hB : HtIn r r hi fm (tpF fm true)) {base : Bs} {E : Ent} (hN : E.h.next = 1) : TriL Tryd.prog base E (flat (bodyC fL9)) (start fL9 (ldA0 (gL9 lo hi e1 r fm))) (ldH0 (gL9 lo hi e1 r fm)) (finP tbL9 fL9 (.rows 0 2 r (lvF lo hi fm))) := by
  refine TriL.rounds 4 (by kernel_rfl) (fun x : {i : Nat // i ≤ r} => JL9 lo hi e1 r fm x.1) (fun x => r - x.1) ⟨0, Nat.zero_le _⟩ ?_ fun x => ?_
  · refine TriL.mono ?_ (preQ_ok (σ := (sg [(2, 3), (3, 5)])) hN (J0 := JL9a lo hi e1 r fm))
    refine TriL.path tbL9_ok [] (by kernel_rfl) (of_skel (q := (LeN r r ∧ LeN r r ∧ HtIn r r hi fm (tpF fm true) ∧ EqC (some [AV.lit (Value.int IntKind.i64 lo), AV.lit (Value.int IntKind.i64 hi), AV.isl 0 r]) (some [AV.lit (Value.int IntKind.i64 lo), AV.lit (Value.int IntKind.i64 hi), AV.isl 0 r]) ∧ EqC (some [AV.lit (Value.int IntKind.i64 lo)]) (some [AV.lit (Value.int IntKind.i64 lo)]) ∧ EqC (some [AV.lit (Value.int IntKind.i64 lo), AV.lit (Value.int IntKind.i64 hi), AV.isl 0 r]) (some [AV.lit (Value.int IntKind.i64 lo), AV.lit (Value.int IntKind.i64 hi), AV.isl 0 r]) ∧ EqC (some [AV.lit (Value.int IntKind.i64 lo), AV.lit (Value.int IntKind.i64 hi), AV.isl 0 r]) (some [AV.lit (Value.int IntKind.i64 lo), AV.lit (Value.int IntKind.i64 hi), AV.isl 0 r]) ∧ EqC (some [AV.lit (Value.int IntKind.i64 hi)]) (some [AV.lit (Value.int IntKind.i64 hi)]) ∧ EqC (some [AV.lit (Value.int IntKind.i64 lo), AV.lit (Value.int IntKind.i64 hi), AV.isl 0 r]) (some [AV.lit (Value.int IntKind.i64 lo), AV.lit (Value.int IntKind.i64 hi), AV.isl 0 r]) ∧ LeN r r ∧ LtN 0 r ∧ LeN r 1000 ∧ EqC (some [AV.lit (Value.int IntKind.i64 lo), AV.lit (Value.int IntKind.i64 hi), AV.isl 0 r]) (some [AV.lit (Value.int IntKind.i64 lo), AV.lit (Value.int IntKind.i64 hi), AV.isl 0 r]) ∧ EqC (some [AV.lit (Value.int IntKind.i64 lo)]) (some [AV.lit (Value.int IntKind.i64 lo)]) ∧ EqC (some [AV.lit (Value.int IntKind.i64 lo), AV.lit (Value.int IntKind.i64 hi), AV.isl 0 r]) (some [AV.lit (Value.int IntKind.i64 lo), AV.lit (Value.int IntKind.i64 hi), AV.isl 0 r]) ∧ EqC (some [AV.lit (Value.int IntKind.i64 lo), AV.lit (Value.int IntKind.i64 hi), AV.isl 0 r]) (some [AV.lit (Value.int IntKind.i64 lo), AV.lit (Value.int IntKind.i64 hi), AV.isl 0 r]) ∧ EqC (some [AV.lit (Value.int IntKind.i64 hi)]) (some [AV.lit (Value.int IntKind.i64 hi)]) ∧ EqC (some [AV.lit (Value.int IntKind.i64 lo), AV.lit (Value.int IntKind.i64 hi), AV.isl 0 r]) (some [AV.lit (Value.int IntKind.i64 lo), AV.lit (Value.int IntKind.i64 hi), AV.isl 0 r]) ∧ LeN r r ∧ LeN r r ∧ HtIn r r lo fm (tpF fm false) ∧ EqC (some [AV.lit (Value.int IntKind.i64 lo), AV.lit (Value.int IntKind.i64 hi), AV.isl 0 r]) (some [AV.lit (Value.int IntKind.i64 lo), AV.lit (Value.int IntKind.i64 hi), AV.isl 0 r]) ∧ EqC (some [AV.lit (Value.int IntKind.i64 lo)]) (some [AV.lit (Value.int IntKind.i64 lo)]) ∧ EqC (some [AV.lit (Value.int IntKind.i64 lo), AV.lit (Value.int IntKind.i64 hi), AV.isl 0 r]) (some [AV.lit (Value.int IntKind.i64 lo), AV.lit (Value.int IntKind.i64 hi), AV.isl 0 r]) ∧ EqC (some [AV.lit (Value.int IntKind.i64 lo), AV.lit (Value.int IntKind.i64 hi), AV.isl 0 r]) (some [AV.lit (Value.int IntKind.i64 lo), AV.lit (Value.int IntKind.i64 hi), AV.isl 0 r]) ∧ EqC (some [AV.lit (Value.int IntKind.i64 hi)]) (some [AV.lit (Value.int IntKind.i64 hi)]) ∧ EqC (some [AV.lit (Value.int IntKind.i64 lo), AV.lit (Value.int IntKind.i64 hi), AV.isl 0 r]) (some [AV.lit (Value.int IntKind.i64 lo), AV.lit (Value.int IntKind.i64 hi), AV.isl 0 r]) ∧ LeN r r ∧ LtN 0 r ∧ LeN r 1000 ∧ True) ∧ EqN r r ∧ EqN r r ∧ EqV (Value.slice none 0 0) (Value.slice none 0 0) ∧ EqI 0 0 ∧ EqB false false ∧ EqN r r ∧ RowEq r 3 fm fm ∧ EqB true true ∧ EqN r r ∧ (RowEq r 1 (fun k x => hF lo fm (tpF fm false) k) fun k x => hF lo fm (tpF fm false) k) ∧ EqB true true ∧ EqN r r ∧ (RowEq r 1 (fun k x => hF hi fm (tpF fm true) k) fun k x => hF hi fm (tpF fm true) k) ∧ True) (by kernel_rfl) ?_)
    ((repeat' apply And.intro) <;> first | exact trivial | exact ⟨rfl⟩ | exact ⟨fun _ _ _ _ => rfl⟩ | (refine inR64 ?_ ?_ <;> omega) | (refine ⟨?_⟩; (try simp only [Int.toNat_natCast]); omega) | (refine ⟨?_, ?_⟩ <;> (try simp only [Int.toNat_natCast]) <;> omega) | (refine ⟨?_⟩; simp only [decide_eq_true_eq, decide_eq_false_iff_not]; omega) | (refine ⟨?_⟩; simp only [Int.toNat_natCast, decide_eq_true_eq, decide_eq_false_iff_not]; first | assumption | omega) | exact hA | exact hB | exact row_one2 rfl rfl | exact row_snoc2 (fun _ _ _ => rfl) rfl rfl | (simp only [Int.toNat_natCast]; exact row_snoc2 (fun _ _ _ => rfl) rfl rfl))
  · obtain ⟨i, hii⟩ := x
    by_cases hx : i < r
    · cases i with
      | zero =>
        refine Tri.mono ?_ (roundQ_R (σ := sg [(4, 5)]) (X := fun _ _ => False) (⟨1, hx⟩ : {i : Nat // i ≤ r}) (by show r - 1 < r - 0; omega) hN (fun _ _ h => h.elim))
        refine Tri.path (tbL9_ok base) 200 [true,true] (of_skel (q := (InR IntKind.i64 (0 + 1) ∧ LeN 1 65536 ∧ EqB true true ∧ LeN 1 1 ∧ LtN 0 r ∧ IxIn 0 r ∧ LtN 0 r ∧ IxIn 0 r ∧ EqB (decide (0 < (↑r : Int))) true ∧ True) ∧ EqN r r ∧ EqN r r ∧ EqN 1 1 ∧ EqI (0 + 1) (↑1 : Int) ∧ EqN 1 1 ∧ RowEq 1 2 (rowOf [hF lo fm (tpF fm false) 0, hF hi fm (tpF fm true) 0] 2) (lvF lo hi fm) ∧ EqB false false ∧ EqN r r ∧ RowEq r 3 fm fm ∧ EqB true true ∧ EqN r r ∧ (RowEq r 1 (fun k x => hF lo fm (tpF fm false) k) fun k x => hF lo fm (tpF fm false) k) ∧ EqB true true ∧ EqN r r ∧ (RowEq r 1 (fun k x => hF hi fm (tpF fm true) k) fun k x => hF hi fm (tpF fm true) k) ∧ True) (by kernel_rfl) ?_)
        ((repeat' apply And.intro) <;> first | exact trivial | exact ⟨rfl⟩ | exact ⟨fun _ _ _ _ => rfl⟩ | (refine inR64 ?_ ?_ <;> omega) | (refine ⟨?_⟩; (try simp only [Int.toNat_natCast]); omega) | (refine ⟨?_, ?_⟩ <;> (try simp only [Int.toNat_natCast]) <;> omega) | (refine ⟨?_⟩; simp only [decide_eq_true_eq, decide_eq_false_iff_not]; omega) | (refine ⟨?_⟩; simp only [Int.toNat_natCast, decide_eq_true_eq, decide_eq_false_iff_not]; first | assumption | omega) | exact hA | exact hB | exact row_one2 rfl rfl | exact row_snoc2 (fun _ _ _ => rfl) rfl rfl | (simp only [Int.toNat_natCast]; exact row_snoc2 (fun _ _ _ => rfl) rfl rfl))
      | succ i =>
        refine Tri.mono ?_ (roundQ_R (σ := sg [(4, 6)]) (X := fun _ _ => False) (⟨i + 1 + 1, hx⟩ : {i : Nat // i ≤ r}) (by show r - (i + 1 + 1) < r - (i + 1); omega) hN (fun _ _ h => h.elim))
        refine Tri.path (tbL9_ok base) 200 [true,true] (of_skel (q := (InR IntKind.i64 ((↑(i + 1) : Int) + 1) ∧ LeN ((i + 1) + 1) 65536 ∧ LeN (i + 1) (i + 1) ∧ LeN (i + 1) (i + 1) ∧ EqB true true ∧ LeN 1 1 ∧ LtN (↑(i + 1) : Int).toNat r ∧ IxIn (↑(i + 1) : Int) r ∧ LtN (↑(i + 1) : Int).toNat r ∧ IxIn (↑(i + 1) : Int) r ∧ EqB (decide ((↑(i + 1) : Int) < (↑r : Int))) true ∧ True) ∧ EqN r r ∧ EqN r r ∧ EqN ((i + 1) + 1) ((i + 1) + 1) ∧ EqI ((↑(i + 1) : Int) + 1) (↑((i + 1) + 1) : Int) ∧ EqN ((i + 1) + 1) ((i + 1) + 1) ∧ RowEq ((i + 1) + 1) 2 (joinF (i + 1) (lvF lo hi fm) (rowOf [hF lo fm (tpF fm false) (↑(i + 1) : Int).toNat, hF hi fm (tpF fm true) (↑(i + 1) : Int).toNat] 2)) (lvF lo hi fm) ∧ EqB false false ∧ EqN r r ∧ RowEq r 3 fm fm ∧ EqB true true ∧ EqN r r ∧ (RowEq r 1 (fun k x => hF lo fm (tpF fm false) k) fun k x => hF lo fm (tpF fm false) k) ∧ EqB true true ∧ EqN r r ∧ (RowEq r 1 (fun k x => hF hi fm (tpF fm true) k) fun k x => hF hi fm (tpF fm true) k) ∧ True) (by kernel_rfl) ?_)
        generalize i + 1 = i at *
        ((repeat' apply And.intro) <;> first | exact trivial | exact ⟨rfl⟩ | exact ⟨fun _ _ _ _ => rfl⟩ | (refine inR64 ?_ ?_ <;> omega) | (refine ⟨?_⟩; (try simp only [Int.toNat_natCast]); omega) | (refine ⟨?_, ?_⟩ <;> (try simp only [Int.toNat_natCast]) <;> omega) | (refine ⟨?_⟩; simp only [decide_eq_true_eq, decide_eq_false_iff_not]; omega) | (refine ⟨?_⟩; simp only [Int.toNat_natCast, decide_eq_true_eq, decide_eq_false_iff_not]; first | assumption | omega) | exact hA | exact hB | exact row_one2 rfl rfl | exact row_snoc2 (fun _ _ _ => rfl) rfl rfl | (simp only [Int.toNat_natCast]; exact row_snoc2 (fun _ _ _ => rfl) rfl rfl))
    · have hx' : r = i := by omega
      subst hx'
      obtain ⟨r, rfl⟩ : ∃ k, r = k + 1 := ⟨r - 1, by omega⟩
      refine Tri.mono ?_ (lastQ_R (X := toX (fun x => x) 1 (KL9 lo hi e1 (r + 1) fm)) (toX_ok hN (by kernel_rfl) (l9_end lo hi e1 (r + 1) fm hr0 hr2 hA hB)))
      refine Tri.path (tbL9_ok base) 200 [false] (of_skel (q := (EqB (decide ((↑(r + 1) : Int) < (↑(r + 1) : Int))) false ∧ True) ∧ EqN (r + 1) (r + 1) ∧ EqN (r + 1) (r + 1) ∧ RowEq (r + 1) 2 (lvF lo hi fm) (lvF lo hi fm) ∧ EqB false false ∧ EqN (r + 1) (r + 1) ∧ RowEq (r + 1) 3 fm fm ∧ EqB true true ∧ EqN (r + 1) (r + 1) ∧ (RowEq (r + 1) 1 (fun k x => hF lo fm (tpF fm false) k) fun k x => hF lo fm (tpF fm false) k) ∧ EqB true true ∧ EqN (r + 1) (r + 1) ∧ (RowEq (r + 1) 1 (fun k x => hF hi fm (tpF fm true) k) fun k x => hF hi fm (tpF fm true) k) ∧ True) (by kernel_rfl) ?_)
      ((repeat' apply And.intro) <;> first | exact trivial | exact ⟨rfl⟩ | exact ⟨fun _ _ _ _ => rfl⟩ | (refine inR64 ?_ ?_ <;> omega) | (refine ⟨?_⟩; (try simp only [Int.toNat_natCast]); omega) | (refine ⟨?_, ?_⟩ <;> (try simp only [Int.toNat_natCast]) <;> omega) | (refine ⟨?_⟩; simp only [decide_eq_true_eq, decide_eq_false_iff_not]; omega) | (refine ⟨?_⟩; simp only [Int.toNat_natCast, decide_eq_true_eq, decide_eq_false_iff_not]; first | assumption | omega) | exact hA | exact hB | exact row_one2 rfl rfl | exact row_snoc2 (fun _ _ _ => rfl) rfl rfl | (simp only [Int.toNat_natCast]; exact row_snoc2 (fun _ _ _ => rfl) rfl rfl))
set_option maxRecDepth 100000 in
theorem spLv : FnSpec Tryd.prog 31 FLv := by
  refine spec_body tbL9_ok Tryd.func31 (by kernel_rfl) (by kernel_rfl) fun gs g ps hF' hps => ?_
  unfold FLv at hF'
  split at hF' <;> try (cases hF'; done)
  rename_i lo hi e1 r fm
  cases hF'
  obtain ⟨h0, _⟩ := hps
  have s := h0.s
  refine ⟨ldA0 (gL9 lo hi e1 r fm), ldH0 (gL9 lo hi e1 r fm), rfl, ⟨Nat.le_of_ble_eq_true (by kernel_rfl), Nat.le_of_ble_eq_true (by kernel_rfl)⟩, fun base E hE => ?_⟩
  exact Tri.flat (l9_all lo hi e1 r fm h0.r1 h0.r8 (ht_ends h0 false lo (by omega)) (ht_ends h0 true hi (by omega)) (by rw [hE]; rfl))

end PartOfKlv

section PartOfKss
open Go Go.RowKit Go.Proofs
noncomputable def fW9 : Func := Tryd.f30
noncomputable def tbW9 : Tab := mkTab tyAll Tryd.prog [] [] [(23, 2)]
noncomputable def gW9 (e1 e2 : TypeId) (r : Nat) (z1 z2 : Nat → Nat → Int) : List GV := [.rows e1 2 r z1, .rows e2 2 r z2]
noncomputable def JW9 (e1 e2 : TypeId) (r : Nat) (z1 z2 : Nat → Nat → Int) (i : Nat) : JS := ⟨26, [(0, .isl 0 r), (1, .isl 1 r), (5, .lit (.int .i64 (i : Nat)))], [], [(0, ⟨false, e1, 2, r, z1⟩), (1, ⟨false, e2, 2, r, z2⟩)], 2⟩
noncomputable def KW9 (e1 e2 : TypeId) (r : Nat) (z1 z2 : Nat → Nat → Int) : JS := ⟨26, [(0, .isl 0 r)], [], [(0, ⟨false, e1, 2, r, z1⟩), (1, ⟨false, e2, 2, r, z2⟩)], 2⟩
theorem tbW9_ok : ∀ base, TabOK Tryd.prog tbW9 base := mkTab_ok mixedP tyAll_ok (fun p hp => by cases hp) (fun p hp => by
  rcases List.mem_cons.1 hp with rfl | hp
  · exact span_eq
  cases hp)
noncomputable def FSs : GSpec := fun gs => match gs with
  | [.rows e1 2 r z1, .rows e2 2 r2 z2] => some (.sb true, [EqN r r2, LeN r 100000, ∀ i, i < r → z1 i 0 = z2 i 0 ∧ z1 i 1 = z2 i 1])
  | _ => none
set_option maxRecDepth 100000 in
set_option maxHeartbeats 2000000 in
theorem ss_end (e1 e2 : TypeId) (r : Nat) (z1 z2 : Nat → Nat → Int) {base : Bs} {E : Ent} : TriL Tryd.prog base E ((flat (bodyC fW9)).drop 5) (KW9 e1 e2 r z1 z2).A (KW9 e1 e2 r z1 z2).h (finP tbW9 fW9 (.sb true)) := by
  refine TriL.path tbW9_ok [] (by kernel_rfl) (of_skel (q := True ∧ (EqB true true ∧ True) ∧ True) (by kernel_rfl) ?_)
  ((repeat' apply And.intro) <;> first | exact trivial | exact ⟨rfl⟩ | exact ⟨fun _ _ _ _ => rfl⟩ | (refine inR64 ?_ ?_ <;> omega) | (refine ⟨?_⟩; (try simp only [Int.toNat_natCast]); omega) | (refine ⟨?_, ?_⟩ <;> (try simp only [Int.toNat_natCast]) <;> omega) | (refine ⟨?_⟩; simp only [decide_eq_true_eq, decide_eq_false_iff_not]; omega) | (refine ⟨?_⟩; simp only [Int.toNat_natCast, decide_eq_true_eq, decide_eq_false_iff_not, Bool.not_eq_true', Bool.not_eq_false', Bool.and_eq_true, isEq]; first | assumption | omega) | (refine ⟨?_⟩; simp))
set_option maxRecDepth 100000 in
set_option maxHeartbeats 2000000 in
theorem ss_all (e1 e2 : TypeId) (r : Nat) (z1 z2 : Nat → Nat → Int) {base : Bs} {E : Ent} (hN : E.h.next = 2) (hr2 : r ≤ 100000) (hz : ∀ i, i < r → z1 i 0 = z2 i 0 ∧ z1 i 1 = z2 i 1) : TriL Tryd.prog base E (flat (bodyC fW9)) (start fW9 (ldA0 (gW9 e1 e2 r z1 z2))) (ldH0 (gW9 e1 e2 r z1 z2)) (finP tbW9 fW9 (.sb true)) := by
  refine TriL.rounds 4 (by kernel_rfl) (fun x : {i : Nat // i ≤ r} => JW9 e1 e2 r z1 z2 x.1) (fun x => r - x.1) ⟨0, Nat.zero_le _⟩ ?_ fun x => ?_
  · refine TriL.mono ?_ (preQ_ok (σ := fun x => x) hN (J0 := JW9 e1 e2 r z1 z2 0))
    refine TriL.path tbW9_ok [false] (by kernel_rfl) (of_skel (q := (EqB (!decide ((↑r : Int) = (↑r : Int))) false ∧ True) ∧ EqN r r ∧ EqN r r ∧ EqI 0 (↑0 : Int) ∧ EqB false false ∧ EqN r r ∧ RowEq r 2 z1 z1 ∧ EqB false false ∧ EqN r r ∧ RowEq r 2 z2 z2 ∧ True) (by kernel_rfl) ?_)
    ((repeat' apply And.intro) <;> first | exact trivial | exact ⟨rfl⟩ | exact ⟨fun _ _ _ _ => rfl⟩ | (refine inR64 ?_ ?_ <;> omega) | (refine ⟨?_⟩; (try simp only [Int.toNat_natCast]); omega) | (refine ⟨?_, ?_⟩ <;> (try simp only [Int.toNat_natCast]) <;> omega) | (refine ⟨?_⟩; simp only [decide_eq_true_eq, decide_eq_false_iff_not]; omega) | (refine ⟨?_⟩; simp only [Int.toNat_natCast, decide_eq_true_eq, decide_eq_false_iff_not, Bool.not_eq_true', Bool.not_eq_false', Bool.and_eq_true, isEq]; first | assumption | omega) | (refine ⟨?_⟩; simp))
  · obtain ⟨i, hii⟩ := x
    have eN : ((i : Nat) : Int).toNat = i := by omega
    by_cases hx : i < r
    · have q := hz i hx
      refine Tri.mono ?_ (roundQ_R (σ := fun x => x) (X := fun _ _ => False) (⟨i + 1, hx⟩ : {i : Nat // i ≤ r}) (by show r - (i + 1) < r - i; omega) hN (fun _ _ h => h.elim))
      refine Tri.path (tbW9_ok base) 200 [true, false] (of_skel (q := (InR IntKind.i64 ((↑i : Int) + 1) ∧ EqB (!isEq [z1 (↑i : Int).toNat 0, z1 (↑i : Int).toNat 1] [z2 (↑i : Int).toNat 0, z2 (↑i : Int).toNat 1]) false ∧ LtN (↑i : Int).toNat r ∧ IxIn (↑i : Int) r ∧ LtN (↑i : Int).toNat r ∧ IxIn (↑i : Int) r ∧ EqB (decide ((↑i : Int) < (↑r : Int))) true ∧ True) ∧ EqN r r ∧ EqN r r ∧ EqI ((↑i : Int) + 1) (↑(i + 1) : Int) ∧ EqB false false ∧ EqN r r ∧ RowEq r 2 z1 z1 ∧ EqB false false ∧ EqN r r ∧ RowEq r 2 z2 z2 ∧ True) (by kernel_rfl) ?_)
      simp only [eN]
      ((repeat' apply And.intro) <;> first | exact trivial | exact ⟨rfl⟩ | exact ⟨fun _ _ _ _ => rfl⟩ | (refine inR64 ?_ ?_ <;> omega) | (refine ⟨?_⟩; (try simp only [Int.toNat_natCast]); omega) | (refine ⟨?_, ?_⟩ <;> (try simp only [Int.toNat_natCast]) <;> omega) | (refine ⟨?_⟩; simp only [decide_eq_true_eq, decide_eq_false_iff_not]; omega) | (refine ⟨?_⟩; simp only [Int.toNat_natCast, decide_eq_true_eq, decide_eq_false_iff_not, Bool.not_eq_true', Bool.not_eq_false', Bool.and_eq_true, isEq]; first | assumption | omega) | (refine ⟨?_⟩; simp) | (refine ⟨?_⟩; simp [isEq, q.1, q.2]))
    · have hx' : i = r := by omega
      subst hx'
      refine Tri.mono ?_ (lastQ_R (X := toX (fun x => x) 2 (KW9 e1 e2 i z1 z2)) (toX_ok hN (by kernel_rfl) (ss_end e1 e2 i z1 z2)))
      refine Tri.path (tbW9_ok base) 200 [false] (of_skel (q := (EqB (decide ((↑i : Int) < (↑i : Int))) false ∧ True) ∧ EqN i i ∧ EqB false false ∧ EqN i i ∧ RowEq i 2 z1 z1 ∧ EqB false false ∧ EqN i i ∧ RowEq i 2 z2 z2 ∧ True) (by kernel_rfl) ?_)
      ((repeat' apply And.intro) <;> first | exact trivial | exact ⟨rfl⟩ | exact ⟨fun _ _ _ _ => rfl⟩ | (refine inR64 ?_ ?_ <;> omega) | (refine ⟨?_⟩; (try simp only [Int.toNat_natCast]); omega) | (refine ⟨?_, ?_⟩ <;> (try simp only [Int.toNat_natCast]) <;> omega) | (refine ⟨?_⟩; simp only [decide_eq_true_eq, decide_eq_false_iff_not]; omega) | (refine ⟨?_⟩; simp only [Int.toNat_natCast, decide_eq_true_eq, decide_eq_false_iff_not, Bool.not_eq_true', Bool.not_eq_false', Bool.and_eq_true, isEq]; first | assumption | omega) | (refine ⟨?_⟩; simp))
set_option maxRecDepth 100000 in
theorem spSs : FnSpec Tryd.prog 30 FSs := by
  refine spec_body tbW9_ok Tryd.func30 (by kernel_rfl) (by kernel_rfl) fun gs g ps hF' hps => ?_
  unfold FSs at hF'
  split at hF' <;> try (cases hF'; done)
  rename_i e1 r z1 e2 r2 z2
  cases hF'
  obtain ⟨h0, h1, h2, _⟩ := hps
  obtain rfl : r = r2 := h0.1
  refine ⟨ldA0 (gW9 e1 e2 r z1 z2), ldH0 (gW9 e1 e2 r z1 z2), rfl, ⟨Nat.le_of_ble_eq_true (by kernel_rfl), Nat.le_of_ble_eq_true (by kernel_rfl)⟩, fun base E hE => ?_⟩
  exact Tri.flat (ss_all e1 e2 r z1 z2 (by rw [hE]; rfl) h1.1 h2)

end PartOfKss

section PartOfKab
open Go Go.RowKit Go.Proofs
noncomputable def fA9 : Func := Tryd.f33
noncomputable def tbA9 : Tab := mkTab tyAll Tryd.prog [] [(31, FLv)] []
noncomputable def gA9 (lo hi : Int) (e1 : TypeId) (r : Nat) (fm : Nat → Nat → Int) (h : Int) : List GV := [.agg [.lit (.int .i64 lo), .lit (.int .i64 hi), .rows e1 3 r fm], .lit (.int .i64 h)]
def firI (p : Nat → Bool) : Nat → Nat → Int
  | 0, _ => -1
  | k + 1, i => if p i then (i : Nat) else firI p k (i + 1)
def firF (p : Nat → Bool) (n i : Nat) : Int := firI p (n - i) i
def abP (lo hi : Int) (fm : Nat → Nat → Int) (h : Int) (j : Nat) : Nat → Bool := fun k => decide (h < lvF lo hi fm k j)
def canF (lo hi : Int) (r : Nat) (fm : Nat → Nat → Int) (h : Int) (i : Nat) : Int := firF (abP lo hi fm h 1) r i
def sureF (lo hi : Int) (r : Nat) (fm : Nat → Nat → Int) (h : Int) (i : Nat) : Int := firF (abP lo hi fm h 0) r i
noncomputable def JA9 (lo hi : Int) (e1 : TypeId) (r : Nat) (fm : Nat → Nat → Int) (h : Int) (i : Nat) : JS := ⟨37, [(1, .lit (.int .i64 h)), (6, .isl 2 r), (7, .lit (.int .i64 (canF lo hi r fm h i))), (8, .lit (.int .i64 (sureF lo hi r fm h i))), (9, .lit (.int .i64 ((i : Nat) - 1)))], [], [(0, ⟨false, e1, 3, r, fm⟩), (2, ⟨true, 0, 2, r, lvF lo hi fm⟩)], 3⟩
noncomputable def KA9 (lo hi : Int) (e1 : TypeId) (r : Nat) (fm : Nat → Nat → Int) (h : Int) : JS := ⟨37, [(7, .lit (.int .i64 (canF lo hi r fm h 0))), (8, .lit (.int .i64 (sureF lo hi r fm h 0)))], [], [(0, ⟨false, e1, 3, r, fm⟩), (2, ⟨true, 0, 2, r, lvF lo hi fm⟩)], 3⟩
theorem fir_end (p : Nat → Bool) (n : Nat) : firF p n n = -1 := by unfold firF; rw [Nat.sub_self]; rfl
theorem fir_yes {p : Nat → Bool} {n i : Nat} (h : i < n) (hp : p i = true) : firF p n i = (i : Nat) := by
  obtain ⟨k, hk⟩ : ∃ k, n - i = k + 1 := ⟨n - i - 1, by omega⟩
  unfold firF; rw [hk]; simp [firI, hp]
theorem fir_no {p : Nat → Bool} {n i : Nat} (h : i < n) (hp : p i = false) : firF p n i = firF p n (i + 1) := by
  obtain ⟨k, hk⟩ : ∃ k, n - i = k + 1 := ⟨n - i - 1, by omega⟩
  unfold firF; rw [hk, show n - (i + 1) = k by omega]; simp [firI, hp]
theorem tbA9_ok : ∀ base, TabOK Tryd.prog tbA9 base := mkTab_ok mixedP tyAll_ok (fun p hp => by
  rcases List.mem_cons.1 hp with rfl | hp
  · exact spLv
  cases hp) (fun p hp => by cases hp)
noncomputable def FAb : GSpec := fun gs => match gs with
  | [.agg [.lit (.int .i64 lo), .lit (.int .i64 hi), .rows e1 3 r fm], .lit (.int .i64 h)] => some (.tup [.lit (.int .i64 (canF lo hi r fm h 0)), .lit (.int .i64 (sureF lo hi r fm h 0))], [TrOK lo hi r fm])
  | _ => none
set_option maxRecDepth 100000 in
set_option maxHeartbeats 2000000 in
theorem ab_end (lo hi : Int) (e1 : TypeId) (r : Nat) (fm : Nat → Nat → Int) (h : Int) {base : Bs} {E : Ent} : TriL Tryd.prog base E ((flat (bodyC fA9)).drop 5) (KA9 lo hi e1 r fm h).A (KA9 lo hi e1 r fm h).h (finP tbA9 fA9 (.tup [.lit (.int .i64 (canF lo hi r fm h 0)), .lit (.int .i64 (sureF lo hi r fm h 0))])) := by
  refine TriL.path tbA9_ok [] (by kernel_rfl) (of_skel (q := True ∧ (EqI (canF lo hi r fm h 0) (canF lo hi r fm h 0) ∧ EqI (sureF lo hi r fm h 0) (sureF lo hi r fm h 0) ∧ True) ∧ True) (by kernel_rfl) ?_)
  ((repeat' apply And.intro) <;> first | exact trivial | exact ⟨rfl⟩ | exact ⟨fun _ _ _ _ => rfl⟩ | (refine inR64 ?_ ?_ <;> omega) | (refine ⟨?_⟩; (try simp only [Int.toNat_natCast]); omega) | (refine ⟨?_, ?_⟩ <;> (try simp only [Int.toNat_natCast]) <;> omega) | (refine ⟨?_⟩; simp only [decide_eq_true_eq, decide_eq_false_iff_not]; omega) | (refine ⟨?_⟩; simp only [Int.toNat_natCast, decide_eq_true_eq, decide_eq_false_iff_not]; first | assumption | omega) | exact hT | (refine ⟨?_⟩; first | exact fir_end _ _ | exact (fir_end _ _).symm))
set_option maxRecDepth 100000 in
set_option maxHeartbeats 2000000 in
theorem ab_all (lo hi : Int) (e1 : TypeId) (r : Nat) (fm : Nat → Nat → Int) (h : Int) {base : Bs} {E : Ent} (hN : E.h.next = 1) (hT : TrOK lo hi r fm) : TriL Tryd.prog base E (flat (bodyC fA9)) (start fA9 (ldA0 (gA9 lo hi e1 r fm h))) (ldH0 (gA9 lo hi e1 r fm h)) (finP tbA9 fA9 (.tup [.lit (.int .i64 (canF lo hi r fm h 0)), .lit (.int .i64 (sureF lo hi r fm h 0))])) := by
  have hr1 := hT.r1
  have hr8 := hT.r8
  refine TriL.rounds 4 (by kernel_rfl) (fun x : {i : Nat // i ≤ r} => JA9 lo hi e1 r fm h x.1) (fun x => x.1) ⟨r, Nat.le_refl _⟩ ?_ fun x => ?_
  · refine TriL.mono ?_ (preQ_ok (σ := (fun x => x)) hN (J0 := JA9 lo hi e1 r fm h r))
    refine TriL.path tbA9_ok [] (by kernel_rfl) (of_skel (q := (InR IntKind.i64 ((↑r : Int) - 1) ∧ LeN r r ∧ TrOK lo hi r fm ∧ True) ∧ EqI h h ∧ EqN r r ∧ EqI (-1) (canF lo hi r fm h r) ∧ EqI (-1) (sureF lo hi r fm h r) ∧ EqI ((↑r : Int) - 1) ((↑r : Int) - 1) ∧ EqB false false ∧ EqN r r ∧ RowEq r 3 fm fm ∧ EqB true true ∧ EqN r r ∧ RowEq r 2 (lvF lo hi fm) (lvF lo hi fm) ∧ True) (by kernel_rfl) ?_)
    ((repeat' apply And.intro) <;> first | exact trivial | exact ⟨rfl⟩ | exact ⟨fun _ _ _ _ => rfl⟩ | (refine inR64 ?_ ?_ <;> omega) | (refine ⟨?_⟩; (try simp only [Int.toNat_natCast]); omega) | (refine ⟨?_, ?_⟩ <;> (try simp only [Int.toNat_natCast]) <;> omega) | (refine ⟨?_⟩; simp only [decide_eq_true_eq, decide_eq_false_iff_not]; omega) | (refine ⟨?_⟩; simp only [Int.toNat_natCast, decide_eq_true_eq, decide_eq_false_iff_not]; first | assumption | omega) | exact hT | (refine ⟨?_⟩; first | exact fir_end _ _ | exact (fir_end _ _).symm))
  · obtain ⟨i, hii⟩ := x
    cases i with
    | zero =>
      refine Tri.mono ?_ (lastQ_R (X := toX (fun x => x) 1 (KA9 lo hi e1 r fm h)) (toX_ok hN (by kernel_rfl) (ab_end lo hi e1 r fm h)))
      refine Tri.path (tbA9_ok base) 200 [false] (of_skel (q := (EqB false false ∧ True) ∧ EqI (canF lo hi r fm h 0) (canF lo hi r fm h 0) ∧ EqI (sureF lo hi r fm h 0) (sureF lo hi r fm h 0) ∧ EqB false false ∧ EqN r r ∧ RowEq r 3 fm fm ∧ EqB true true ∧ EqN r r ∧ RowEq r 2 (lvF lo hi fm) (lvF lo hi fm) ∧ True) (by kernel_rfl) ?_)
      ((repeat' apply And.intro) <;> first | exact trivial | exact ⟨rfl⟩ | exact ⟨fun _ _ _ _ => rfl⟩ | (refine inR64 ?_ ?_ <;> omega) | (refine ⟨?_⟩; (try simp only [Int.toNat_natCast]); omega) | (refine ⟨?_, ?_⟩ <;> (try simp only [Int.toNat_natCast]) <;> omega) | (refine ⟨?_⟩; simp only [decide_eq_true_eq, decide_eq_false_iff_not]; omega) | (refine ⟨?_⟩; simp only [Int.toNat_natCast, decide_eq_true_eq, decide_eq_false_iff_not]; first | assumption | omega) | exact hT | (refine ⟨?_⟩; first | exact fir_end _ _ | exact (fir_end _ _).symm))
    | succ i =>
      have hx : i < r := by omega
      have eN : (((i + 1 : Nat) : Int) - 1).toNat = i := by omega
      refine Tri.mono ?_ (roundQ_R (σ := fun x => x) (X := fun _ _ => False) (⟨i, by omega⟩ : {i : Nat // i ≤ r}) (by show i < i + 1; omega) hN (fun _ _ h => h.elim))
      by_cases hc : h < lvF lo hi fm i 1
      · by_cases hs : h < lvF lo hi fm i 0
        · have c1 : canF lo hi r fm h i = (i : Nat) := fir_yes hx (decide_eq_true hc)
          have s1 : sureF lo hi r fm h i = (i : Nat) := fir_yes hx (decide_eq_true hs)
          refine Tri.path (tbA9_ok base) 200 [true,true,true] (of_skel (q := (InR IntKind.i64 ((↑(i + 1) : Int) - 1 - 1) ∧ EqB (decide (lvF lo hi fm ((↑(i + 1) : Int) - 1).toNat 0 > h)) true ∧ LtN ((↑(i + 1) : Int) - 1).toNat r ∧ IxIn ((↑(i + 1) : Int) - 1) r ∧ EqB (decide (lvF lo hi fm ((↑(i + 1) : Int) - 1).toNat 1 > h)) true ∧ LtN ((↑(i + 1) : Int) - 1).toNat r ∧ IxIn ((↑(i + 1) : Int) - 1) r ∧ EqB (decide ((↑(i + 1) : Int) - 1 ≥ 0)) true ∧ True) ∧ EqI h h ∧ EqN r r ∧ EqI ((↑(i + 1) : Int) - 1) (canF lo hi r fm h i) ∧ EqI ((↑(i + 1) : Int) - 1) (sureF lo hi r fm h i) ∧ EqI ((↑(i + 1) : Int) - 1 - 1) ((↑i : Int) - 1) ∧ EqB false false ∧ EqN r r ∧ RowEq r 3 fm fm ∧ EqB true true ∧ EqN r r ∧ RowEq r 2 (lvF lo hi fm) (lvF lo hi fm) ∧ True) (by kernel_rfl) ?_)
          simp only [eN]
          ((repeat' apply And.intro) <;> first | exact trivial | exact ⟨rfl⟩ | exact ⟨fun _ _ _ _ => rfl⟩ | (refine inR64 ?_ ?_ <;> omega) | (refine ⟨?_⟩; (try simp only [Int.toNat_natCast]); omega) | (refine ⟨?_, ?_⟩ <;> (try simp only [Int.toNat_natCast]) <;> omega) | (refine ⟨?_⟩; simp only [decide_eq_true_eq, decide_eq_false_iff_not]; omega) | (refine ⟨?_⟩; simp only [Int.toNat_natCast, decide_eq_true_eq, decide_eq_false_iff_not]; first | assumption | omega) | (refine ⟨?_⟩; first | exact c1.symm | exact s1.symm | (rw [c1]; omega) | (rw [s1]; omega)))
        · have c1 : canF lo hi r fm h i = (i : Nat) := fir_yes hx (decide_eq_true hc)
          have s1 : sureF lo hi r fm h i = sureF lo hi r fm h (i + 1) := fir_no hx (decide_eq_false hs)
          refine Tri.path (tbA9_ok base) 200 [true,true,false] (of_skel (q := (InR IntKind.i64 ((↑(i + 1) : Int) - 1 - 1) ∧ EqB (decide (lvF lo hi fm ((↑(i + 1) : Int) - 1).toNat 0 > h)) false ∧ LtN ((↑(i + 1) : Int) - 1).toNat r ∧ IxIn ((↑(i + 1) : Int) - 1) r ∧ EqB (decide (lvF lo hi fm ((↑(i + 1) : Int) - 1).toNat 1 > h)) true ∧ LtN ((↑(i + 1) : Int) - 1).toNat r ∧ IxIn ((↑(i + 1) : Int) - 1) r ∧ EqB (decide ((↑(i + 1) : Int) - 1 ≥ 0)) true ∧ True) ∧ EqI h h ∧ EqN r r ∧ EqI ((↑(i + 1) : Int) - 1) (canF lo hi r fm h i) ∧ EqI (sureF lo hi r fm h (i + 1)) (sureF lo hi r fm h i) ∧ EqI ((↑(i + 1) : Int) - 1 - 1) ((↑i : Int) - 1) ∧ EqB false false ∧ EqN r r ∧ RowEq r 3 fm fm ∧ EqB true true ∧ EqN r r ∧ RowEq r 2 (lvF lo hi fm) (lvF lo hi fm) ∧ True) (by kernel_rfl) ?_)
          simp only [eN]
          ((repeat' apply And.intro) <;> first | exact trivial | exact ⟨rfl⟩ | exact ⟨fun _ _ _ _ => rfl⟩ | (refine inR64 ?_ ?_ <;> omega) | (refine ⟨?_⟩; (try simp only [Int.toNat_natCast]); omega) | (refine ⟨?_, ?_⟩ <;> (try simp only [Int.toNat_natCast]) <;> omega) | (refine ⟨?_⟩; simp only [decide_eq_true_eq, decide_eq_false_iff_not]; omega) | (refine ⟨?_⟩; simp only [Int.toNat_natCast, decide_eq_true_eq, decide_eq_false_iff_not]; first | assumption | omega) | (refine ⟨?_⟩; first | exact c1.symm | exact s1.symm | (rw [c1]; omega) | (rw [s1]; omega)))
      · by_cases hs : h < lvF lo hi fm i 0
        · have c1 : canF lo hi r fm h i = canF lo hi r fm h (i + 1) := fir_no hx (decide_eq_false hc)
          have s1 : sureF lo hi r fm h i = (i : Nat) := fir_yes hx (decide_eq_true hs)
          refine Tri.path (tbA9_ok base) 200 [true,false,true] (of_skel (q := (InR IntKind.i64 ((↑(i + 1) : Int) - 1 - 1) ∧ EqB (decide (lvF lo hi fm ((↑(i + 1) : Int) - 1).toNat 0 > h)) true ∧ LtN ((↑(i + 1) : Int) - 1).toNat r ∧ IxIn ((↑(i + 1) : Int) - 1) r ∧ EqB (decide (lvF lo hi fm ((↑(i + 1) : Int) - 1).toNat 1 > h)) false ∧ LtN ((↑(i + 1) : Int) - 1).toNat r ∧ IxIn ((↑(i + 1) : Int) - 1) r ∧ EqB (decide ((↑(i + 1) : Int) - 1 ≥ 0)) true ∧ True) ∧ EqI h h ∧ EqN r r ∧ EqI (canF lo hi r fm h (i + 1)) (canF lo hi r fm h i) ∧ EqI ((↑(i + 1) : Int) - 1) (sureF lo hi r fm h i) ∧ EqI ((↑(i + 1) : Int) - 1 - 1) ((↑i : Int) - 1) ∧ EqB false false ∧ EqN r r ∧ RowEq r 3 fm fm ∧ EqB true true ∧ EqN r r ∧ RowEq r 2 (lvF lo hi fm) (lvF lo hi fm) ∧ True) (by kernel_rfl) ?_)
          simp only [eN]
          ((repeat' apply And.intro) <;> first | exact trivial | exact ⟨rfl⟩ | exact ⟨fun _ _ _ _ => rfl⟩ | (refine inR64 ?_ ?_ <;> omega) | (refine ⟨?_⟩; (try simp only [Int.toNat_natCast]); omega) | (refine ⟨?_, ?_⟩ <;> (try simp only [Int.toNat_natCast]) <;> omega) | (refine ⟨?_⟩; simp only [decide_eq_true_eq, decide_eq_false_iff_not]; omega) | (refine ⟨?_⟩; simp only [Int.toNat_natCast, decide_eq_true_eq, decide_eq_false_iff_not]; first | assumption | omega) | (refine ⟨?_⟩; first | exact c1.symm | exact s1.symm | (rw [c1]; omega) | (rw [s1]; omega)))
        · have c1 : canF lo hi r fm h i = canF lo hi r fm h (i + 1) := fir_no hx (decide_eq_false hc)
          have s1 : sureF lo hi r fm h i = sureF lo hi r fm h (i + 1) := fir_no hx (decide_eq_false hs)
          refine Tri.path (tbA9_ok base) 200 [true,false,false] (of_skel (q := (InR IntKind.i64 ((↑(i + 1) : Int) - 1 - 1) ∧ EqB (decide (lvF lo hi fm ((↑(i + 1) : Int) - 1).toNat 0 > h)) false ∧ LtN ((↑(i + 1) : Int) - 1).toNat r ∧ IxIn ((↑(i + 1) : Int) - 1) r ∧ EqB (decide (lvF lo hi fm ((↑(i + 1) : Int) - 1).toNat 1 > h)) false ∧ LtN ((↑(i + 1) : Int) - 1).toNat r ∧ IxIn ((↑(i + 1) : Int) - 1) r ∧ EqB (decide ((↑(i + 1) : Int) - 1 ≥ 0)) true ∧ True) ∧ EqI h h ∧ EqN r r ∧ EqI (canF lo hi r fm h (i + 1)) (canF lo hi r fm h i) ∧ EqI (sureF lo hi r fm h (i + 1)) (sureF lo hi r fm h i) ∧ EqI ((↑(i + 1) : Int) - 1 - 1) ((↑i : Int) - 1) ∧ EqB false false ∧ EqN r r ∧ RowEq r 3 fm fm ∧ EqB true true ∧ EqN r r ∧ RowEq r 2 (lvF lo hi fm) (lvF lo hi fm) ∧ True) (by kernel_rfl) ?_)
          simp only [eN]
          ((repeat' apply And.intro) <;> first | exact trivial | exact ⟨rfl⟩ | exact ⟨fun _ _ _ _ => rfl⟩ | (refine inR64 ?_ ?_ <;> omega) | (refine ⟨?_⟩; (try simp only [Int.toNat_natCast]); omega) | (refine ⟨?_, ?_⟩ <;> (try simp only [Int.toNat_natCast]) <;> omega) | (refine ⟨?_⟩; simp only [decide_eq_true_eq, decide_eq_false_iff_not]; omega) | (refine ⟨?_⟩; simp only [Int.toNat_natCast, decide_eq_true_eq, decide_eq_false_iff_not]; first | assumption | omega) | (refine ⟨?_⟩; first | exact c1.symm | exact s1.symm | (rw [c1]; omega) | (rw [s1]; omega)))
set_option maxRecDepth 100000 in
theorem spAb : FnSpec Tryd.prog 33 FAb := by
  refine spec_body tbA9_ok Tryd.func33 (by kernel_rfl) (by kernel_rfl) fun gs g ps hF' hps => ?_
  unfold FAb at hF'
  split at hF' <;> try (cases hF'; done)
  rename_i lo hi e1 r fm h
  cases hF'
  obtain ⟨h0, _⟩ := hps
  refine ⟨ldA0 (gA9 lo hi e1 r fm h), ldH0 (gA9 lo hi e1 r fm h), rfl, ⟨Nat.le_of_ble_eq_true (by kernel_rfl), Nat.le_of_ble_eq_true (by kernel_rfl)⟩, fun base E hE => ?_⟩
  exact Tri.flat (ab_all lo hi e1 r fm h (by rw [hE]; rfl) h0)

end PartOfKab

section PartOfKnp
open Go Go.RowKit Go.Proofs
noncomputable def natE (tb : Tab) (fn : Func) (σ : Nat → Nat) (N : Nat) (J : JS) (A : AA) (h : AH) : Prop := match leaves tb A.ds (h.start []) with
  | some h2 => match aresults h2 A tb fn.results.toList with
    | some vs => All h2.sc ∧ All (wk σ N (oneA (one vs)) h2 J)
    | none => False
  | none => False
/-- How a function ends that is used as a function of abstract values. -/
noncomputable def natP (tb : Tab) (fn : Func) (σ : Nat → Nat) (N : Nat) (J : JS) : Post3 := fun e A h => match e with
  | .norm => natE tb fn σ N J A h
  | .ret => natE tb fn σ N J A h
  | _ => False
theorem natP_ok {tb : Tab} {fn : Func} {σ : Nat → Nat} {N : Nat} {J : JS} {e : AExit} {A : AA} {h : AH} (hx : natP tb fn σ N J e A h) : (e = .norm ∨ e = .ret) ∧ ∃ h2 vs, leaves tb A.ds (h.start []) = some h2 ∧ aresults h2 A tb fn.results.toList = some vs ∧ All h2.sc ∧ All (wk σ N (oneA (one vs)) h2 J) := by
  have key : ∀ {A : AA} {h : AH}, natE tb fn σ N J A h → ∃ h2 vs, leaves tb A.ds (h.start []) = some h2 ∧ aresults h2 A tb fn.results.toList = some vs ∧ All h2.sc ∧ All (wk σ N (oneA (one vs)) h2 J) := fun {A h} hy => by
    unfold natE at hy
    split at hy
    · rename_i h2 e1
      split at hy
      · rename_i vs e2
        exact ⟨h2, vs, e1, e2, hy.1, hy.2⟩
      · exact hy.elim
    · exact hy.elim
  cases e with
  | norm => exact ⟨.inl rfl, key hx⟩
  | ret => exact ⟨.inr rfl, key hx⟩
  | exit j => exact hx.elim
  | goto l => exact hx.elim

end PartOfKnp

section PartOfKlc
open Go Go.RowKit Go.Proofs
noncomputable def fCL9 : Func := Tryd.f106
noncomputable def tbCL9 : Tab := mkTab tyAll Tryd.prog [124, 125] [(83, FHe)] []
noncomputable def gCL9 (lo hi : Int) (e1 : TypeId) (r : Nat) (fm : Nat → Nat → Int) : List GV := []
noncomputable def JCCL9 (lo hi : Int) (e1 : TypeId) (r : Nat) (fm : Nat → Nat → Int) : JS := ⟨0, [], [(1, .cells [.lit (.int .i64 lo), .lit (.int .i64 hi), .isl 0 r] 40 none)], [(0, ⟨false, e1, 3, r, fm⟩)], 2⟩
noncomputable def JECL9 (lo hi : Int) (e1 : TypeId) (r : Nat) (fm : Nat → Nat → Int) : JS := ⟨1, [(0, .isl 2 r)], [(1, .cells [.lit (.int .i64 lo), .lit (.int .i64 hi), .isl 0 r] 40 none)], [(0, ⟨false, e1, 3, r, fm⟩), (2, ⟨true, 0, 1, r, fun k _ => hF lo fm (tpF fm false) k⟩)], 3⟩
noncomputable def JCL9a (lo hi : Int) (e1 : TypeId) (r : Nat) (fm : Nat → Nat → Int) : JS := ⟨32, [(0, .fn 124 [] []), (2, .ptr 1 0), (6, .lit (.slice none 0 0)), (10, .isl 0 r), (11, .lit (.int .i64 (r : Nat))), (12, .lit (.int .i64 0))], [(1, .cells [.lit (.int .i64 lo), .lit (.int .i64 hi), .isl 0 r] 40 none)], [(0, ⟨false, e1, 3, r, fm⟩)], 2⟩
noncomputable def JCL9b (lo hi : Int) (e1 : TypeId) (r : Nat) (fm : Nat → Nat → Int) (i : Nat) : JS := ⟨32, [(0, .fn 124 [] []), (2, .ptr 1 0), (6, .isl 2 i), (10, .isl 0 r), (11, .lit (.int .i64 (r : Nat))), (12, .lit (.int .i64 (i : Nat)))], [(1, .cells [.lit (.int .i64 lo), .lit (.int .i64 hi), .isl 0 r] 40 none), (2, .irow 3 1 i (tpF fm false))], [(0, ⟨false, e1, 3, r, fm⟩)], 3⟩
noncomputable def KCL9 (lo hi : Int) (e1 : TypeId) (r : Nat) (fm : Nat → Nat → Int) : JS := ⟨32, [(0, .fn 124 [] []), (2, .ptr 1 0), (6, .isl 2 r)], [(1, .cells [.lit (.int .i64 lo), .lit (.int .i64 hi), .isl 0 r] 40 none), (2, .irow 3 1 r (tpF fm false))], [(0, ⟨false, e1, 3, r, fm⟩)], 3⟩
noncomputable def JCL9 (lo hi : Int) (e1 : TypeId) (r : Nat) (fm : Nat → Nat → Int) : Nat → JS
  | 0 => JCL9a lo hi e1 r fm
  | i + 1 => JCL9b lo hi e1 r fm (i + 1)
theorem tbCL9_ok : ∀ base, TabOK Tryd.prog tbCL9 base := mkTab_ok mixedP tyAll_ok (fun p hp => by
  rcases List.mem_cons.1 hp with rfl | hp
  · exact spHe
  cases hp) (fun p hp => by cases hp)
set_option maxRecDepth 100000 in
set_option maxHeartbeats 2000000 in
theorem cl9_endCL9 (lo hi : Int) (e1 : TypeId) (r : Nat) (fm : Nat → Nat → Int)  (hr0 : 0 < r) (hr2 : r ≤ 8) (hA : HtIn r r lo fm (tpF fm false)) {base : Bs} {E : Ent} : TriL Tryd.prog base E ((flat (bodyC fCL9)).drop 4) (KCL9 lo hi e1 r fm).A (KCL9 lo hi e1 r fm).h (natP tbCL9 fCL9 (sg [(2, 4)]) 2 (JECL9 lo hi e1 r fm)) := by
  refine TriL.path tbCL9_ok [] (by kernel_rfl) (of_skel (q := (LeN r r ∧ LeN r r ∧ HtIn r r lo fm (tpF fm false) ∧ EqC (some [AV.isl 0 r]) (some [AV.isl 0 r]) ∧ EqC (some [AV.lit (Value.int IntKind.i64 lo), AV.lit (Value.int IntKind.i64 hi)]) (some [AV.lit (Value.int IntKind.i64 lo), AV.lit (Value.int IntKind.i64 hi)]) ∧ True) ∧ True ∧ EqN r r ∧ EqI lo lo ∧ EqI hi hi ∧ EqN r r ∧ EqB false false ∧ EqN r r ∧ RowEq r 3 fm fm ∧ EqB true true ∧ EqN r r ∧ (RowEq r 1 (fun k x => hF lo fm (tpF fm false) k) fun k x => hF lo fm (tpF fm false) k) ∧ True) (by kernel_rfl) ?_)
  ((repeat' apply And.intro) <;> first | exact trivial | exact ⟨rfl⟩ | exact ⟨fun _ _ _ _ => rfl⟩ | (refine inR64 ?_ ?_ <;> omega) | (refine ⟨?_⟩; (try simp only [Int.toNat_natCast]); omega) | (refine ⟨?_, ?_⟩ <;> (try simp only [Int.toNat_natCast]) <;> omega) | (refine ⟨?_⟩; simp only [decide_eq_true_eq, decide_eq_false_iff_not]; omega) | (refine ⟨?_⟩; simp only [Int.toNat_natCast, decide_eq_true_eq, decide_eq_false_iff_not]; first | assumption | omega) | exact hA | exact row_one (tpFf _ _ _) | exact row_snoc (fun _ _ => rfl) (tpFf _ _ _) | (simp only [Int.toNat_natCast]; exact row_snoc (fun _ _ => rfl) (tpFf _ _ _)) | exact ⟨fun _ _ _ _ => rfl⟩)
set_option maxRecDepth 100000 in
set_option maxHeartbeats 2000000 in
theorem cl9_allCL9 (lo hi : Int) (e1 : TypeId) (r : Nat) (fm : Nat → Nat → Int)  (hr0 : 0 < r) (hr2 : r ≤ 8) (hA : HtIn r r lo fm (tpF fm false)) {sc : List Prop} {orc : List Bool} {base : Bs} {E : Ent} (hN : E.h.next = 2) : TriL Tryd.prog base E (flat (bodyC fCL9)) (start fCL9 [.fn 124 [] [], .fn 125 [] [], .ptr 1 0]) (⟨(JCCL9 lo hi e1 r fm).h.m, (JCCL9 lo hi e1 r fm).h.next, (JCCL9 lo hi e1 r fm).h.ro, sc, orc⟩) (natP tbCL9 fCL9 (sg [(2, 4)]) 2 (JECL9 lo hi e1 r fm)) := by
  refine TriL.rounds 3 (by kernel_rfl) (fun x : {i : Nat // i ≤ r} => JCL9 lo hi e1 r fm x.1) (fun x => r - x.1) ⟨0, Nat.zero_le _⟩ ?_ fun x => ?_
  · refine TriL.mono ?_ (preQ_ok (σ := fun x => x) hN (J0 := JCL9a lo hi e1 r fm))
    refine TriL.path tbCL9_ok [] (by kernel_rfl) (of_skel (q := True ∧ EqN 0 0 ∧ EqV (Value.slice none 0 0) (Value.slice none 0 0) ∧ EqN r r ∧ EqI (↑r : Int) (↑r : Int) ∧ EqI 0 0 ∧ EqI lo lo ∧ EqI hi hi ∧ EqN r r ∧ EqB false false ∧ EqN r r ∧ RowEq r 3 fm fm ∧ True) (by kernel_rfl) ?_)
    ((repeat' apply And.intro) <;> first | exact trivial | exact ⟨rfl⟩ | exact ⟨fun _ _ _ _ => rfl⟩ | (refine inR64 ?_ ?_ <;> omega) | (refine ⟨?_⟩; (try simp only [Int.toNat_natCast]); omega) | (refine ⟨?_, ?_⟩ <;> (try simp only [Int.toNat_natCast]) <;> omega) | (refine ⟨?_⟩; simp only [decide_eq_true_eq, decide_eq_false_iff_not]; omega) | (refine ⟨?_⟩; simp only [Int.toNat_natCast, decide_eq_true_eq, decide_eq_false_iff_not]; first | assumption | omega) | exact hA | exact row_one (tpFf _ _ _) | exact row_snoc (fun _ _ => rfl) (tpFf _ _ _) | (simp only [Int.toNat_natCast]; exact row_snoc (fun _ _ => rfl) (tpFf _ _ _)) | exact ⟨fun _ _ _ _ => rfl⟩)
  · obtain ⟨i, hii⟩ := x
    by_cases hx : i < r
    · cases i with
      | zero =>
        refine Tri.mono ?_ (roundQ_R (σ := sg [(2, 5)]) (X := fun _ _ => False) (⟨1, hx⟩ : {i : Nat // i ≤ r}) (by show r - 1 < r - 0; omega) hN (fun _ _ h => h.elim))
        refine Tri.path (tbCL9_ok base) 200 [true,true] (of_skel (q := (InR IntKind.i64 (0 + 1) ∧ LeN 1 65536 ∧ EqB true true ∧ LeN 1 1 ∧ LtN 0 r ∧ IxIn 0 r ∧ EqB (decide (0 < (↑r : Int))) true ∧ True) ∧ EqN 0 0 ∧ EqN 1 1 ∧ EqN r r ∧ EqI (↑r : Int) (↑r : Int) ∧ EqI (0 + 1) (↑1 : Int) ∧ EqI lo lo ∧ EqI hi hi ∧ EqN r r ∧ EqN 1 1 ∧ RowEq 1 1 (rowOf [fm 0 1] 1) (tpF fm false) ∧ EqB false false ∧ EqN r r ∧ RowEq r 3 fm fm ∧ True) (by kernel_rfl) ?_)
        ((repeat' apply And.intro) <;> first | exact trivial | exact ⟨rfl⟩ | exact ⟨fun _ _ _ _ => rfl⟩ | (refine inR64 ?_ ?_ <;> omega) | (refine ⟨?_⟩; (try simp only [Int.toNat_natCast]); omega) | (refine ⟨?_, ?_⟩ <;> (try simp only [Int.toNat_natCast]) <;> omega) | (refine ⟨?_⟩; simp only [decide_eq_true_eq, decide_eq_false_iff_not]; omega) | (refine ⟨?_⟩; simp only [Int.toNat_natCast, decide_eq_true_eq, decide_eq_false_iff_not]; first | assumption | omega) | exact hA | exact row_one (tpFf _ _ _) | exact row_snoc (fun _ _ => rfl) (tpFf _ _ _) | (simp only [Int.toNat_natCast]; exact row_snoc (fun _ _ => rfl) (tpFf _ _ _)) | exact ⟨fun _ _ _ _ => rfl⟩)
      | succ i =>
        refine Tri.mono ?_ (roundQ_R (σ := sg [(2, 6)]) (X := fun _ _ => False) (⟨i + 1 + 1, hx⟩ : {i : Nat // i ≤ r}) (by show r - (i + 1 + 1) < r - (i + 1); omega) hN (fun _ _ h => h.elim))
        refine Tri.path (tbCL9_ok base) 200 [true,true] (of_skel (q := (InR IntKind.i64 ((↑(i + 1) : Int) + 1) ∧ LeN ((i + 1) + 1) 65536 ∧ LeN (i + 1) (i + 1) ∧ LeN (i + 1) (i + 1) ∧ EqB true true ∧ LeN 1 1 ∧ LtN (↑(i + 1) : Int).toNat r ∧ IxIn (↑(i + 1) : Int) r ∧ EqB (decide ((↑(i + 1) : Int) < (↑r : Int))) true ∧ True) ∧ EqN 0 0 ∧ EqN ((i + 1) + 1) ((i + 1) + 1) ∧ EqN r r ∧ EqI (↑r : Int) (↑r : Int) ∧ EqI ((↑(i + 1) : Int) + 1) (↑((i + 1) + 1) : Int) ∧ EqI lo lo ∧ EqI hi hi ∧ EqN r r ∧ EqN ((i + 1) + 1) ((i + 1) + 1) ∧ RowEq ((i + 1) + 1) 1 (joinF (i + 1) (tpF fm false) (rowOf [fm (↑(i + 1) : Int).toNat 1] 1)) (tpF fm false) ∧ EqB false false ∧ EqN r r ∧ RowEq r 3 fm fm ∧ True) (by kernel_rfl) ?_)
        generalize i + 1 = i at *
        ((repeat' apply And.intro) <;> first | exact trivial | exact ⟨rfl⟩ | exact ⟨fun _ _ _ _ => rfl⟩ | (refine inR64 ?_ ?_ <;> omega) | (refine ⟨?_⟩; (try simp only [Int.toNat_natCast]); omega) | (refine ⟨?_, ?_⟩ <;> (try simp only [Int.toNat_natCast]) <;> omega) | (refine ⟨?_⟩; simp only [decide_eq_true_eq, decide_eq_false_iff_not]; omega) | (refine ⟨?_⟩; simp only [Int.toNat_natCast, decide_eq_true_eq, decide_eq_false_iff_not]; first | assumption | omega) | exact hA | exact row_one (tpFf _ _ _) | exact row_snoc (fun _ _ => rfl) (tpFf _ _ _) | (simp only [Int.toNat_natCast]; exact row_snoc (fun _ _ => rfl) (tpFf _ _ _)) | exact ⟨fun _ _ _ _ => rfl⟩)
    · have hx' : r = i := by omega
      subst hx'
      obtain ⟨r, rfl⟩ : ∃ k, r = k + 1 := ⟨r - 1, by omega⟩
      refine Tri.mono ?_ (lastQ_R (X := toX (fun x => x) 2 (KCL9 lo hi e1 (r + 1) fm)) (toX_ok hN (by kernel_rfl) (cl9_endCL9 lo hi e1 (r + 1) fm hr0 hr2 hA)))
      refine Tri.path (tbCL9_ok base) 200 [false] (of_skel (q := (EqB (decide ((↑(r + 1) : Int) < (↑(r + 1) : Int))) false ∧ True) ∧ EqN 0 0 ∧ EqN (r + 1) (r + 1) ∧ EqI lo lo ∧ EqI hi hi ∧ EqN (r + 1) (r + 1) ∧ EqN (r + 1) (r + 1) ∧ RowEq (r + 1) 1 (tpF fm false) (tpF fm false) ∧ EqB false false ∧ EqN (r + 1) (r + 1) ∧ RowEq (r + 1) 3 fm fm ∧ True) (by kernel_rfl) ?_)
      ((repeat' apply And.intro) <;> first | exact trivial | exact ⟨rfl⟩ | exact ⟨fun _ _ _ _ => rfl⟩ | (refine inR64 ?_ ?_ <;> omega) | (refine ⟨?_⟩; (try simp only [Int.toNat_natCast]); omega) | (refine ⟨?_, ?_⟩ <;> (try simp only [Int.toNat_natCast]) <;> omega) | (refine ⟨?_⟩; simp only [decide_eq_true_eq, decide_eq_false_iff_not]; omega) | (refine ⟨?_⟩; simp only [Int.toNat_natCast, decide_eq_true_eq, decide_eq_false_iff_not]; first | assumption | omega) | exact hA | exact row_one (tpFf _ _ _) | exact row_snoc (fun _ _ => rfl) (tpFf _ _ _) | (simp only [Int.toNat_natCast]; exact row_snoc (fun _ _ => rfl) (tpFf _ _ _)) | exact ⟨fun _ _ _ _ => rfl⟩)
noncomputable def fCH9 : Func := Tryd.f106
noncomputable def tbCH9 : Tab := mkTab tyAll Tryd.prog [124, 125] [(83, FHe)] []
noncomputable def gCH9 (lo hi : Int) (e1 : TypeId) (r : Nat) (fm : Nat → Nat → Int) : List GV := []
noncomputable def JCCH9 (lo hi : Int) (e1 : TypeId) (r : Nat) (fm : Nat → Nat → Int) : JS := ⟨0, [], [(1, .cells [.lit (.int .i64 lo), .lit (.int .i64 hi), .isl 0 r] 40 none)], [(0, ⟨false, e1, 3, r, fm⟩), (2, ⟨true, 0, 1, r, fun k _ => hF lo fm (tpF fm false) k⟩)], 3⟩
noncomputable def JECH9 (lo hi : Int) (e1 : TypeId) (r : Nat) (fm : Nat → Nat → Int) : JS := ⟨1, [(0, .isl 3 r)], [(1, .cells [.lit (.int .i64 lo), .lit (.int .i64 hi), .isl 0 r] 40 none)], [(0, ⟨false, e1, 3, r, fm⟩), (2, ⟨true, 0, 1, r, fun k _ => hF lo fm (tpF fm false) k⟩), (3, ⟨true, 0, 1, r, fun k _ => hF hi fm (tpF fm true) k⟩)], 4⟩
noncomputable def JCH9a (lo hi : Int) (e1 : TypeId) (r : Nat) (fm : Nat → Nat → Int) : JS := ⟨32, [(0, .fn 125 [] []), (2, .ptr 1 0), (6, .lit (.slice none 0 0)), (10, .isl 0 r), (11, .lit (.int .i64 (r : Nat))), (12, .lit (.int .i64 0))], [(1, .cells [.lit (.int .i64 lo), .lit (.int .i64 hi), .isl 0 r] 40 none)], [(0, ⟨false, e1, 3, r, fm⟩), (2, ⟨true, 0, 1, r, fun k _ => hF lo fm (tpF fm false) k⟩)], 3⟩
noncomputable def JCH9b (lo hi : Int) (e1 : TypeId) (r : Nat) (fm : Nat → Nat → Int) (i : Nat) : JS := ⟨32, [(0, .fn 125 [] []), (2, .ptr 1 0), (6, .isl 3 i), (10, .isl 0 r), (11, .lit (.int .i64 (r : Nat))), (12, .lit (.int .i64 (i : Nat)))], [(1, .cells [.lit (.int .i64 lo), .lit (.int .i64 hi), .isl 0 r] 40 none), (3, .irow 3 1 i (tpF fm true))], [(0, ⟨false, e1, 3, r, fm⟩), (2, ⟨true, 0, 1, r, fun k _ => hF lo fm (tpF fm false) k⟩)], 4⟩
noncomputable def KCH9 (lo hi : Int) (e1 : TypeId) (r : Nat) (fm : Nat → Nat → Int) : JS := ⟨32, [(0, .fn 125 [] []), (2, .ptr 1 0), (6, .isl 3 r)], [(1, .cells [.lit (.int .i64 lo), .lit (.int .i64 hi), .isl 0 r] 40 none), (3, .irow 3 1 r (tpF fm true))], [(0, ⟨false, e1, 3, r, fm⟩), (2, ⟨true, 0, 1, r, fun k _ => hF lo fm (tpF fm false) k⟩)], 4⟩
noncomputable def JCH9 (lo hi : Int) (e1 : TypeId) (r : Nat) (fm : Nat → Nat → Int) : Nat → JS
  | 0 => JCH9a lo hi e1 r fm
  | i + 1 => JCH9b lo hi e1 r fm (i + 1)
theorem tbCH9_ok : ∀ base, TabOK Tryd.prog tbCH9 base := mkTab_ok mixedP tyAll_ok (fun p hp => by
  rcases List.mem_cons.1 hp with rfl | hp
  · exact spHe
  cases hp) (fun p hp => by cases hp)
set_option maxRecDepth 100000 in
set_option maxHeartbeats 2000000 in
theorem ch9_endCH9 (lo hi : Int) (e1 : TypeId) (r : Nat) (fm : Nat → Nat → Int)  (hr0 : 0 < r) (hr2 : r ≤ 8) (hA : HtIn r r hi fm (tpF fm true)) {base : Bs} {E : Ent} : TriL Tryd.prog base E ((flat (bodyC fCH9)).drop 4) (KCH9 lo hi e1 r fm).A (KCH9 lo hi e1 r fm).h (natP tbCH9 fCH9 (sg [(3, 5)]) 3 (JECH9 lo hi e1 r fm)) := by
  refine TriL.path tbCH9_ok [] (by kernel_rfl) (of_skel (q := (LeN r r ∧ LeN r r ∧ HtIn r r hi fm (tpF fm true) ∧ EqC (some [AV.isl 0 r]) (some [AV.isl 0 r]) ∧ EqC (some [AV.lit (Value.int IntKind.i64 lo), AV.lit (Value.int IntKind.i64 hi)]) (some [AV.lit (Value.int IntKind.i64 lo), AV.lit (Value.int IntKind.i64 hi)]) ∧ True) ∧ True ∧ EqN r r ∧ EqI lo lo ∧ EqI hi hi ∧ EqN r r ∧ EqB false false ∧ EqN r r ∧ RowEq r 3 fm fm ∧ EqB true true ∧ EqN r r ∧ (RowEq r 1 (fun k x => hF lo fm (tpF fm false) k) fun k x => hF lo fm (tpF fm false) k) ∧ EqB true true ∧ EqN r r ∧ (RowEq r 1 (fun k x => hF hi fm (tpF fm true) k) fun k x => hF hi fm (tpF fm true) k) ∧ True) (by kernel_rfl) ?_)
  ((repeat' apply And.intro) <;> first | exact trivial | exact ⟨rfl⟩ | exact ⟨fun _ _ _ _ => rfl⟩ | (refine inR64 ?_ ?_ <;> omega) | (refine ⟨?_⟩; (try simp only [Int.toNat_natCast]); omega) | (refine ⟨?_, ?_⟩ <;> (try simp only [Int.toNat_natCast]) <;> omega) | (refine ⟨?_⟩; simp only [decide_eq_true_eq, decide_eq_false_iff_not]; omega) | (refine ⟨?_⟩; simp only [Int.toNat_natCast, decide_eq_true_eq, decide_eq_false_iff_not]; first | assumption | omega) | exact hA | exact row_one (tpT _ _ _) | exact row_snoc (fun _ _ => rfl) (tpT _ _ _) | (simp only [Int.toNat_natCast]; exact row_snoc (fun _ _ => rfl) (tpT _ _ _)) | exact ⟨fun _ _ _ _ => rfl⟩)
set_option maxRecDepth 100000 in
set_option maxHeartbeats 2000000 in
theorem ch9_allCH9 (lo hi : Int) (e1 : TypeId) (r : Nat) (fm : Nat → Nat → Int)  (hr0 : 0 < r) (hr2 : r ≤ 8) (hA : HtIn r r hi fm (tpF fm true)) {sc : List Prop} {orc : List Bool} {base : Bs} {E : Ent} (hN : E.h.next = 3) : TriL Tryd.prog base E (flat (bodyC fCH9)) (start fCH9 [.fn 125 [] [], .fn 124 [] [], .ptr 1 0]) (⟨(JCCH9 lo hi e1 r fm).h.m, (JCCH9 lo hi e1 r fm).h.next, (JCCH9 lo hi e1 r fm).h.ro, sc, orc⟩) (natP tbCH9 fCH9 (sg [(3, 5)]) 3 (JECH9 lo hi e1 r fm)) := by
  refine TriL.rounds 3 (by kernel_rfl) (fun x : {i : Nat // i ≤ r} => JCH9 lo hi e1 r fm x.1) (fun x => r - x.1) ⟨0, Nat.zero_le _⟩ ?_ fun x => ?_
  · refine TriL.mono ?_ (preQ_ok (σ := fun x => x) hN (J0 := JCH9a lo hi e1 r fm))
    refine TriL.path tbCH9_ok [] (by kernel_rfl) (of_skel (q := True ∧ EqN 0 0 ∧ EqV (Value.slice none 0 0) (Value.slice none 0 0) ∧ EqN r r ∧ EqI (↑r : Int) (↑r : Int) ∧ EqI 0 0 ∧ EqI lo lo ∧ EqI hi hi ∧ EqN r r ∧ EqB false false ∧ EqN r r ∧ RowEq r 3 fm fm ∧ EqB true true ∧ EqN r r ∧ (RowEq r 1 (fun k x => hF lo fm (tpF fm false) k) fun k x => hF lo fm (tpF fm false) k) ∧ True) (by kernel_rfl) ?_)
    ((repeat' apply And.intro) <;> first | exact trivial | exact ⟨rfl⟩ | exact ⟨fun _ _ _ _ => rfl⟩ | (refine inR64 ?_ ?_ <;> omega) | (refine ⟨?_⟩; (try simp only [Int.toNat_natCast]); omega) | (refine ⟨?_, ?_⟩ <;> (try simp only [Int.toNat_natCast]) <;> omega) | (refine ⟨?_⟩; simp only [decide_eq_true_eq, decide_eq_false_iff_not]; omega) | (refine ⟨?_⟩; simp only [Int.toNat_natCast, decide_eq_true_eq, decide_eq_false_iff_not]; first | assumption | omega) | exact hA | exact row_one (tpT _ _ _) | exact row_snoc (fun _ _ => rfl) (tpT _ _ _) | (simp only [Int.toNat_natCast]; exact row_snoc (fun _ _ => rfl) (tpT _ _ _)) | exact ⟨fun _ _ _ _ => rfl⟩)
  · obtain ⟨i, hii⟩ := x
    by_cases hx : i < r
    · cases i with
      | zero =>
        refine Tri.mono ?_ (roundQ_R (σ := sg [(3, 6)]) (X := fun _ _ => False) (⟨1, hx⟩ : {i : Nat // i ≤ r}) (by show r - 1 < r - 0; omega) hN (fun _ _ h => h.elim))
        refine Tri.path (tbCH9_ok base) 200 [true,true] (of_skel (q := (InR IntKind.i64 (0 + 1) ∧ LeN 1 65536 ∧ EqB true true ∧ LeN 1 1 ∧ LtN 0 r ∧ IxIn 0 r ∧ EqB (decide (0 < (↑r : Int))) true ∧ True) ∧ EqN 0 0 ∧ EqN 1 1 ∧ EqN r r ∧ EqI (↑r : Int) (↑r : Int) ∧ EqI (0 + 1) (↑1 : Int) ∧ EqI lo lo ∧ EqI hi hi ∧ EqN r r ∧ EqN 1 1 ∧ RowEq 1 1 (rowOf [fm 0 2] 1) (tpF fm true) ∧ EqB false false ∧ EqN r r ∧ RowEq r 3 fm fm ∧ EqB true true ∧ EqN r r ∧ (RowEq r 1 (fun k x => hF lo fm (tpF fm false) k) fun k x => hF lo fm (tpF fm false) k) ∧ True) (by kernel_rfl) ?_)
        ((repeat' apply And.intro) <;> first | exact trivial | exact ⟨rfl⟩ | exact ⟨fun _ _ _ _ => rfl⟩ | (refine inR64 ?_ ?_ <;> omega) | (refine ⟨?_⟩; (try simp only [Int.toNat_natCast]); omega) | (refine ⟨?_, ?_⟩ <;> (try simp only [Int.toNat_natCast]) <;> omega) | (refine ⟨?_⟩; simp only [decide_eq_true_eq, decide_eq_false_iff_not]; omega) | (refine ⟨?_⟩; simp only [Int.toNat_natCast, decide_eq_true_eq, decide_eq_false_iff_not]; first | assumption | omega) | exact hA | exact row_one (tpT _ _ _) | exact row_snoc (fun _ _ => rfl) (tpT _ _ _) | (simp only [Int.toNat_natCast]; exact row_snoc (fun _ _ => rfl) (tpT _ _ _)) | exact ⟨fun _ _ _ _ => rfl⟩)
      | succ i =>
        refine Tri.mono ?_ (roundQ_R (σ := sg [(3, 7)]) (X := fun _ _ => False) (⟨i + 1 + 1, hx⟩ : {i : Nat // i ≤ r}) (by show r - (i + 1 + 1) < r - (i + 1); omega) hN (fun _ _ h => h.elim))
        refine Tri.path (tbCH9_ok base) 200 [true,true] (of_skel (q := (InR IntKind.i64 ((↑(i + 1) : Int) + 1) ∧ LeN ((i + 1) + 1) 65536 ∧ LeN (i + 1) (i + 1) ∧ LeN (i + 1) (i + 1) ∧ EqB true true ∧ LeN 1 1 ∧ LtN (↑(i + 1) : Int).toNat r ∧ IxIn (↑(i + 1) : Int) r ∧ EqB (decide ((↑(i + 1) : Int) < (↑r : Int))) true ∧ True) ∧ EqN 0 0 ∧ EqN ((i + 1) + 1) ((i + 1) + 1) ∧ EqN r r ∧ EqI (↑r : Int) (↑r : Int) ∧ EqI ((↑(i + 1) : Int) + 1) (↑((i + 1) + 1) : Int) ∧ EqI lo lo ∧ EqI hi hi ∧ EqN r r ∧ EqN ((i + 1) + 1) ((i + 1) + 1) ∧ RowEq ((i + 1) + 1) 1 (joinF (i + 1) (tpF fm true) (rowOf [fm (↑(i + 1) : Int).toNat 2] 1)) (tpF fm true) ∧ EqB false false ∧ EqN r r ∧ RowEq r 3 fm fm ∧ EqB true true ∧ EqN r r ∧ (RowEq r 1 (fun k x => hF lo fm (tpF fm false) k) fun k x => hF lo fm (tpF fm false) k) ∧ True) (by kernel_rfl) ?_)
        generalize i + 1 = i at *
        ((repeat' apply And.intro) <;> first | exact trivial | exact ⟨rfl⟩ | exact ⟨fun _ _ _ _ => rfl⟩ | (refine inR64 ?_ ?_ <;> omega) | (refine ⟨?_⟩; (try simp only [Int.toNat_natCast]); omega) | (refine ⟨?_, ?_⟩ <;> (try simp only [Int.toNat_natCast]) <;> omega) | (refine ⟨?_⟩; simp only [decide_eq_true_eq, decide_eq_false_iff_not]; omega) | (refine ⟨?_⟩; simp only [Int.toNat_natCast, decide_eq_true_eq, decide_eq_false_iff_not]; first | assumption | omega) | exact hA | exact row_one (tpT _ _ _) | exact row_snoc (fun _ _ => rfl) (tpT _ _ _) | (simp only [Int.toNat_natCast]; exact row_snoc (fun _ _ => rfl) (tpT _ _ _)) | exact ⟨fun _ _ _ _ => rfl⟩)
    · have hx' : r = i := by omega
      subst hx'
      obtain ⟨r, rfl⟩ : ∃ k, r = k + 1 := ⟨r - 1, by omega⟩
      refine Tri.mono ?_ (lastQ_R (X := toX (fun x => x) 3 (KCH9 lo hi e1 (r + 1) fm)) (toX_ok hN (by kernel_rfl) (ch9_endCH9 lo hi e1 (r + 1) fm hr0 hr2 hA)))
      refine Tri.path (tbCH9_ok base) 200 [false] (of_skel (q := (EqB (decide ((↑(r + 1) : Int) < (↑(r + 1) : Int))) false ∧ True) ∧ EqN 0 0 ∧ EqN (r + 1) (r + 1) ∧ EqI lo lo ∧ EqI hi hi ∧ EqN (r + 1) (r + 1) ∧ EqN (r + 1) (r + 1) ∧ RowEq (r + 1) 1 (tpF fm true) (tpF fm true) ∧ EqB false false ∧ EqN (r + 1) (r + 1) ∧ RowEq (r + 1) 3 fm fm ∧ EqB true true ∧ EqN (r + 1) (r + 1) ∧ (RowEq (r + 1) 1 (fun k x => hF lo fm (tpF fm false) k) fun k x => hF lo fm (tpF fm false) k) ∧ True) (by kernel_rfl) ?_)
      ((repeat' apply And.intro) <;> first | exact trivial | exact ⟨rfl⟩ | exact ⟨fun _ _ _ _ => rfl⟩ | (refine inR64 ?_ ?_ <;> omega) | (refine ⟨?_⟩; (try simp only [Int.toNat_natCast]); omega) | (refine ⟨?_, ?_⟩ <;> (try simp only [Int.toNat_natCast]) <;> omega) | (refine ⟨?_⟩; simp only [decide_eq_true_eq, decide_eq_false_iff_not]; omega) | (refine ⟨?_⟩; simp only [Int.toNat_natCast, decide_eq_true_eq, decide_eq_false_iff_not]; first | assumption | omega) | exact hA | exact row_one (tpT _ _ _) | exact row_snoc (fun _ _ => rfl) (tpT _ _ _) | (simp only [Int.toNat_natCast]; exact row_snoc (fun _ _ => rfl) (tpT _ _ _)) | exact ⟨fun _ _ _ _ => rfl⟩)

end PartOfKlc

section PartOfKln
open Go Go.RowKit Go.Proofs
structure SameS (a b : AH) : Prop where
  p : a = b
noncomputable def natLs (lo hi : Int) (e1 : TypeId) (r : Nat) (fm : Nat → Nat → Int) : AH → List AV → Option (AV × AH) := fun h args => match args with
  | [.fn a [] [], .fn c [] [], .ptr b o] => match Nat.beq b 1 with
    | true => match Nat.beq o 0 with
      | true => match Nat.beq a 124 with
        | true => match Nat.beq c 125 with
          | true => some (.isl 2 r, ⟨(JECL9 lo hi e1 r fm).h.m, (JECL9 lo hi e1 r fm).h.next, (JECL9 lo hi e1 r fm).h.ro, SameS (h.start []) ((JCCL9 lo hi e1 r fm).h.start []) :: LtN 0 r :: LeN r 8 :: HtIn r r lo fm (tpF fm false) :: h.sc, h.orc⟩)
          | false => none
        | false => match Nat.beq a 125 with
          | true => match Nat.beq c 124 with
            | true => some (.isl 3 r, ⟨(JECH9 lo hi e1 r fm).h.m, (JECH9 lo hi e1 r fm).h.next, (JECH9 lo hi e1 r fm).h.ro, SameS (h.start []) ((JCCH9 lo hi e1 r fm).h.start []) :: LtN 0 r :: LeN r 8 :: HtIn r r hi fm (tpF fm true) :: h.sc, h.orc⟩)
            | false => none
          | false => none
      | false => none
    | false => none
  | _ => none
set_option maxRecDepth 100000 in
set_option maxHeartbeats 2000000 in
theorem natLs_ok (lo hi : Int) (e1 : TypeId) (r : Nat) (fm : Nat → Nat → Int) (base : Bs) : NatOK Tryd.prog base 106 (natLs lo hi e1 r fm) := by
  refine nat_tri (tbCL9_ok base) (c := bodyC fCL9) Tryd.func106 (enter_of Tryd.func106 (by kernel_rfl) (by kernel_rfl)) (by kernel_rfl) fun h args v h' hg => ?_
  unfold natLs at hg
  split at hg <;> try (cases hg; done)
  rename_i a c b o
  split at hg <;> try (cases hg; done)
  rename_i hb
  split at hg <;> try (cases hg; done)
  rename_i ho
  obtain rfl : b = 1 := Nat.eq_of_beq_eq_true hb
  obtain rfl : o = 0 := Nat.eq_of_beq_eq_true ho
  split at hg
  · rename_i ha
    split at hg <;> try (cases hg; done)
    rename_i hc
    obtain rfl : a = 124 := Nat.eq_of_beq_eq_true ha
    obtain rfl : c = 125 := Nat.eq_of_beq_eq_true hc
    cases hg
    refine ⟨fun hs => hs.2.2.2.2, fun hs => ?_⟩
    obtain ⟨⟨hs1⟩, ⟨h0⟩, ⟨h8⟩, hH, _⟩ := hs
    obtain ⟨m, next, ro, sc, orc⟩ := h
    obtain rfl : m = (JCCL9 lo hi e1 r fm).h.m := congrArg AH.m hs1
    obtain rfl : next = (JCCL9 lo hi e1 r fm).h.next := congrArg AH.next hs1
    obtain rfl : ro = (JCCL9 lo hi e1 r fm).h.ro := congrArg AH.ro hs1
    refine ⟨⟨Nat.le_of_ble_eq_true (by kernel_rfl), Nat.le_of_ble_eq_true (by kernel_rfl)⟩, fun E' hE => Tri.mono (Tri.flat (cl9_allCL9 lo hi e1 r fm h0 h8 hH (by rw [hE]; rfl))) fun e A h1 hx => ?_⟩
    obtain ⟨q1, h2, vs, q2, q3, q4, q5⟩ := natP_ok hx
    exact ⟨q1, h2, vs, q2, q3, q4, _, JECL9 lo hi e1 r fm, q5, by kernel_rfl, rfl, rfl, rfl⟩
  · split at hg <;> try (cases hg; done)
    rename_i ha
    split at hg <;> try (cases hg; done)
    rename_i hc
    obtain rfl : a = 125 := Nat.eq_of_beq_eq_true ha
    obtain rfl : c = 124 := Nat.eq_of_beq_eq_true hc
    cases hg
    refine ⟨fun hs => hs.2.2.2.2, fun hs => ?_⟩
    obtain ⟨⟨hs1⟩, ⟨h0⟩, ⟨h8⟩, hH, _⟩ := hs
    obtain ⟨m, next, ro, sc, orc⟩ := h
    obtain rfl : m = (JCCH9 lo hi e1 r fm).h.m := congrArg AH.m hs1
    obtain rfl : next = (JCCH9 lo hi e1 r fm).h.next := congrArg AH.next hs1
    obtain rfl : ro = (JCCH9 lo hi e1 r fm).h.ro := congrArg AH.ro hs1
    refine ⟨⟨Nat.le_of_ble_eq_true (by kernel_rfl), Nat.le_of_ble_eq_true (by kernel_rfl)⟩, fun E' hE => Tri.mono (Tri.flat (ch9_allCH9 lo hi e1 r fm h0 h8 hH (by rw [hE]; rfl))) fun e A h1 hx => ?_⟩
    obtain ⟨q1, h2, vs, q2, q3, q4, q5⟩ := natP_ok hx
    exact ⟨q1, h2, vs, q2, q3, q4, _, JECH9 lo hi e1 r fm, q5, by kernel_rfl, rfl, rfl, rfl⟩

end PartOfKln

section PartOfKle
open Go Go.RowKit Go.Proofs
noncomputable def fE9 : Func := Tryd.f77
noncomputable def tbE9 (lo hi : Int) (e1 : TypeId) (r : Nat) (fm : Nat → Nat → Int) : Tab := (mkTab tyAll Tryd.prog [105] [] []).nats [(106, natLs lo hi e1 r fm)]
noncomputable def gE9 (lo hi : Int) (e1 : TypeId) (r : Nat) (fm : Nat → Nat → Int) : List GV := [.agg [.lit (.int .i64 lo), .lit (.int .i64 hi), .rows e1 3 r fm]]
noncomputable def JE9a (lo hi : Int) (e1 : TypeId) (r : Nat) (fm : Nat → Nat → Int) : JS := ⟨32, [(3, .isl 2 r), (4, .isl 3 r), (5, .lit (.slice none 0 0)), (14, .lit (.int .i64 (r : Nat))), (15, .lit (.int .i64 0))], [], [(0, ⟨false, e1, 3, r, fm⟩), (2, ⟨true, 0, 1, r, fun k _ => hF lo fm (tpF fm false) k⟩), (3, ⟨true, 0, 1, r, fun k _ => hF hi fm (tpF fm true) k⟩)], 4⟩
noncomputable def JE9b (lo hi : Int) (e1 : TypeId) (r : Nat) (fm : Nat → Nat → Int) (i : Nat) : JS := ⟨32, [(3, .isl 2 r), (4, .isl 3 r), (5, .isl 4 i), (14, .lit (.int .i64 (r : Nat))), (15, .lit (.int .i64 (i : Nat)))], [(4, .irow 23 2 i (lvF lo hi fm))], [(0, ⟨false, e1, 3, r, fm⟩), (2, ⟨true, 0, 1, r, fun k _ => hF lo fm (tpF fm false) k⟩), (3, ⟨true, 0, 1, r, fun k _ => hF hi fm (tpF fm true) k⟩)], 5⟩
noncomputable def KE9 (lo hi : Int) (e1 : TypeId) (r : Nat) (fm : Nat → Nat → Int) : JS := ⟨32, [(5, .isl 4 r)], [(4, .irow 23 2 r (lvF lo hi fm))], [(0, ⟨false, e1, 3, r, fm⟩), (2, ⟨true, 0, 1, r, fun k _ => hF lo fm (tpF fm false) k⟩), (3, ⟨true, 0, 1, r, fun k _ => hF hi fm (tpF fm true) k⟩)], 5⟩
noncomputable def JE9 (lo hi : Int) (e1 : TypeId) (r : Nat) (fm : Nat → Nat → Int) : Nat → JS
  | 0 => JE9a lo hi e1 r fm
  | i + 1 => JE9b lo hi e1 r fm (i + 1)
theorem tbE9_ok (lo hi : Int) (e1 : TypeId) (r : Nat) (fm : Nat → Nat → Int) : ∀ base, TabOK Tryd.prog (tbE9 lo hi e1 r fm) base := fun base => nats_ok (mkTab_ok mixedP tyAll_ok (fun p hp => by cases hp) (fun p hp => by cases hp) base) (fun p hp => by
  rw [List.mem_singleton.1 hp]
  exact natLs_ok lo hi e1 r fm base)
noncomputable def FLe : GSpec := fun gs => match gs with
  | [.agg [.lit (.int .i64 lo), .lit (.int .i64 hi), .rows e1 3 r fm]] => some (.rows 0 2 r (lvF lo hi fm), [TrOK lo hi r fm])
  | _ => none
set_option maxRecDepth 100000 in
set_option maxHeartbeats 2000000 in
theorem e9_end (lo hi : Int) (e1 : TypeId) (r : Nat) (fm : Nat → Nat → Int) (hr0 : 0 < r) (hr2 : r ≤ 8) (hA : HtIn r r lo fm (tpF fm false)) (hB : HtIn r r hi fm (tpF fm true)) {base : Bs} {E : Ent} : TriL Tryd.prog base E ((flat (bodyC fE9)).drop 5) (KE9 lo hi e1 r fm).A (KE9 lo hi e1 r fm).h (finP (tbE9 lo hi e1 r fm) fE9 (.rows 0 2 r (lvF lo hi fm))) := by
  refine TriL.path (tbE9_ok lo hi e1 r fm) [] (by kernel_rfl) (of_skel (q := True ∧ (EqN r r ∧ LeN r r ∧ RowEq r 2 (lvF lo hi fm) (lvF lo hi fm) ∧ True) ∧ True) (by kernel_rfl) ?_)
  ((repeat' apply And.intro) <;> first | exact trivial | exact ⟨rfl⟩ | exact ⟨fun _ _ _ _ => rfl⟩ | (refine inR64 ?_ ?_ <;> omega) | (refine ⟨?_⟩; (try simp only [Int.toNat_natCast]); omega) | (refine ⟨?_, ?_⟩ <;> (try simp only [Int.toNat_natCast]) <;> omega) | (refine ⟨?_⟩; simp only [decide_eq_true_eq, decide_eq_false_iff_not]; omega) | (refine ⟨?_⟩; simp only [Int.toNat_natCast, decide_eq_true_eq, decide_eq_false_iff_not]; first | assumption | omega) | exact hA | exact hB | (refine ⟨?_⟩; kernel_rfl) | exact row_one2 rfl rfl | exact row_snoc2 (fun _ _ _ => rfl) rfl rfl | (simp only [Int.toNat_natCast]; exact row_snoc2 (fun _ _ _ => rfl) rfl rfl))
set_option maxRecDepth 100000 in
set_option maxHeartbeats 2000000 in
theorem e9_all (lo hi : Int) (e1 : TypeId) (r : Nat) (fm : Nat → Nat → Int) (hr0 : 0 < r) (hr2 : r ≤ 8) (hA : HtIn r r lo fm (tpF fm false)) (hB : HtIn r r hi fm (tpF fm true)) {base : Bs} {E : Ent} (hN : E.h.next = 1) : TriL Tryd.prog base E (flat (bodyC fE9)) (start fE9 (ldA0 (gE9 lo hi e1 r fm))) ((ldH0 (gE9 lo hi e1 r fm))) (finP (tbE9 lo hi e1 r fm) fE9 (.rows 0 2 r (lvF lo hi fm))) := by
  refine TriL.rounds 4 (by kernel_rfl) (fun x : {i : Nat // i ≤ r} => JE9 lo hi e1 r fm x.1) (fun x => r - x.1) ⟨0, Nat.zero_le _⟩ ?_ fun x => ?_
  · refine TriL.mono ?_ (preQ_ok (σ := fun x => x) hN (J0 := JE9a lo hi e1 r fm))
    refine TriL.path (tbE9_ok lo hi e1 r fm) [] (by kernel_rfl) (of_skel (q := (SameS { m := (T.e.n (some (AO.cells [AV.lit (Value.int IntKind.i64 lo), AV.lit (Value.int IntKind.i64 hi), AV.isl 0 r] 40 none)) T.e).n none T.e, next := 3, ro := T.e.n (some { fr := false, el := e1, sz := 3, n := r, f := fm }) (T.e.n (some { fr := true, el := 0, sz := 1, n := r, f := fun k x => hF lo fm (tpF fm false) k }) T.e), sc := [], orc := [] } { m := (T.e.n (some (AO.cells [AV.lit (Value.int IntKind.i64 lo), AV.lit (Value.int IntKind.i64 hi), AV.isl 0 r] 40 none)) T.e).n none T.e, next := 3, ro := T.e.n (some { fr := false, el := e1, sz := 3, n := r, f := fm }) (T.e.n (some { fr := true, el := 0, sz := 1, n := r, f := fun k x => hF lo fm (tpF fm false) k }) T.e), sc := [], orc := [] } ∧ LtN 0 r ∧ LeN r 8 ∧ HtIn r r hi fm (tpF fm true) ∧ SameS { m := (T.e.n (some (AO.cells [AV.lit (Value.int IntKind.i64 lo), AV.lit (Value.int IntKind.i64 hi), AV.isl 0 r] 40 none)) T.e).n none T.e, next := 2, ro := T.e.n (some { fr := false, el := e1, sz := 3, n := r, f := fm }) T.e, sc := [], orc := [] } { m := (T.e.n (some (AO.cells [AV.lit (Value.int IntKind.i64 lo), AV.lit (Value.int IntKind.i64 hi), AV.isl 0 r] 40 none)) T.e).n none T.e, next := 2, ro := T.e.n (some { fr := false, el := e1, sz := 3, n := r, f := fm }) T.e, sc := [], orc := [] } ∧ LtN 0 r ∧ LeN r 8 ∧ HtIn r r lo fm (tpF fm false) ∧ True) ∧ EqN r r ∧ EqN r r ∧ EqV (Value.slice none 0 0) (Value.slice none 0 0) ∧ EqI (↑r : Int) (↑r : Int) ∧ EqI 0 0 ∧ EqB false false ∧ EqN r r ∧ RowEq r 3 fm fm ∧ EqB true true ∧ EqN r r ∧ (RowEq r 1 (fun k x => hF lo fm (tpF fm false) k) fun k x => hF lo fm (tpF fm false) k) ∧ EqB true true ∧ EqN r r ∧ (RowEq r 1 (fun k x => hF hi fm (tpF fm true) k) fun k x => hF hi fm (tpF fm true) k) ∧ True) (by kernel_rfl) ?_)
    ((repeat' apply And.intro) <;> first | exact trivial | exact ⟨rfl⟩ | exact ⟨fun _ _ _ _ => rfl⟩ | (refine inR64 ?_ ?_ <;> omega) | (refine ⟨?_⟩; (try simp only [Int.toNat_natCast]); omega) | (refine ⟨?_, ?_⟩ <;> (try simp only [Int.toNat_natCast]) <;> omega) | (refine ⟨?_⟩; simp only [decide_eq_true_eq, decide_eq_false_iff_not]; omega) | (refine ⟨?_⟩; simp only [Int.toNat_natCast, decide_eq_true_eq, decide_eq_false_iff_not]; first | assumption | omega) | exact hA | exact hB | (refine ⟨?_⟩; kernel_rfl) | exact row_one2 rfl rfl | exact row_snoc2 (fun _ _ _ => rfl) rfl rfl | (simp only [Int.toNat_natCast]; exact row_snoc2 (fun _ _ _ => rfl) rfl rfl))
  · obtain ⟨i, hii⟩ := x
    by_cases hx : i < r
    · cases i with
      | zero =>
        refine Tri.mono ?_ (roundQ_R (σ := sg [(4, 5)]) (X := fun _ _ => False) (⟨1, hx⟩ : {i : Nat // i ≤ r}) (by show r - 1 < r - 0; omega) hN (fun _ _ h => h.elim))
        refine Tri.path (tbE9_ok lo hi e1 r fm base) 200 [true,true] (of_skel (q := (InR IntKind.i64 (0 + 1) ∧ LeN 1 65536 ∧ EqB true true ∧ LeN 1 1 ∧ LtN 0 r ∧ IxIn 0 r ∧ LtN 0 r ∧ IxIn 0 r ∧ EqB (decide (0 < (↑r : Int))) true ∧ True) ∧ EqN r r ∧ EqN r r ∧ EqN 1 1 ∧ EqI (↑r : Int) (↑r : Int) ∧ EqI (0 + 1) (↑1 : Int) ∧ EqN 1 1 ∧ RowEq 1 2 (rowOf [hF lo fm (tpF fm false) 0, hF hi fm (tpF fm true) 0] 2) (lvF lo hi fm) ∧ EqB false false ∧ EqN r r ∧ RowEq r 3 fm fm ∧ EqB true true ∧ EqN r r ∧ (RowEq r 1 (fun k x => hF lo fm (tpF fm false) k) fun k x => hF lo fm (tpF fm false) k) ∧ EqB true true ∧ EqN r r ∧ (RowEq r 1 (fun k x => hF hi fm (tpF fm true) k) fun k x => hF hi fm (tpF fm true) k) ∧ True) (by kernel_rfl) ?_)
        ((repeat' apply And.intro) <;> first | exact trivial | exact ⟨rfl⟩ | exact ⟨fun _ _ _ _ => rfl⟩ | (refine inR64 ?_ ?_ <;> omega) | (refine ⟨?_⟩; (try simp only [Int.toNat_natCast]); omega) | (refine ⟨?_, ?_⟩ <;> (try simp only [Int.toNat_natCast]) <;> omega) | (refine ⟨?_⟩; simp only [decide_eq_true_eq, decide_eq_false_iff_not]; omega) | (refine ⟨?_⟩; simp only [Int.toNat_natCast, decide_eq_true_eq, decide_eq_false_iff_not]; first | assumption | omega) | exact hA | exact hB | (refine ⟨?_⟩; kernel_rfl) | exact row_one2 rfl rfl | exact row_snoc2 (fun _ _ _ => rfl) rfl rfl | (simp only [Int.toNat_natCast]; exact row_snoc2 (fun _ _ _ => rfl) rfl rfl))
      | succ i =>
        refine Tri.mono ?_ (roundQ_R (σ := sg [(4, 6)]) (X := fun _ _ => False) (⟨i + 1 + 1, hx⟩ : {i : Nat // i ≤ r}) (by show r - (i + 1 + 1) < r - (i + 1); omega) hN (fun _ _ h => h.elim))
        refine Tri.path (tbE9_ok lo hi e1 r fm base) 200 [true,true] (of_skel (q := (InR IntKind.i64 ((↑(i + 1) : Int) + 1) ∧ LeN ((i + 1) + 1) 65536 ∧ LeN (i + 1) (i + 1) ∧ LeN (i + 1) (i + 1) ∧ EqB true true ∧ LeN 1 1 ∧ LtN (↑(i + 1) : Int).toNat r ∧ IxIn (↑(i + 1) : Int) r ∧ LtN (↑(i + 1) : Int).toNat r ∧ IxIn (↑(i + 1) : Int) r ∧ EqB (decide ((↑(i + 1) : Int) < (↑r : Int))) true ∧ True) ∧ EqN r r ∧ EqN r r ∧ EqN ((i + 1) + 1) ((i + 1) + 1) ∧ EqI (↑r : Int) (↑r : Int) ∧ EqI ((↑(i + 1) : Int) + 1) (↑((i + 1) + 1) : Int) ∧ EqN ((i + 1) + 1) ((i + 1) + 1) ∧ RowEq ((i + 1) + 1) 2 (joinF (i + 1) (lvF lo hi fm) (rowOf [hF lo fm (tpF fm false) (↑(i + 1) : Int).toNat, hF hi fm (tpF fm true) (↑(i + 1) : Int).toNat] 2)) (lvF lo hi fm) ∧ EqB false false ∧ EqN r r ∧ RowEq r 3 fm fm ∧ EqB true true ∧ EqN r r ∧ (RowEq r 1 (fun k x => hF lo fm (tpF fm false) k) fun k x => hF lo fm (tpF fm false) k) ∧ EqB true true ∧ EqN r r ∧ (RowEq r 1 (fun k x => hF hi fm (tpF fm true) k) fun k x => hF hi fm (tpF fm true) k) ∧ True) (by kernel_rfl) ?_)
        generalize i + 1 = i at *
        ((repeat' apply And.intro) <;> first | exact trivial | exact ⟨rfl⟩ | exact ⟨fun _ _ _ _ => rfl⟩ | (refine inR64 ?_ ?_ <;> omega) | (refine ⟨?_⟩; (try simp only [Int.toNat_natCast]); omega) | (refine ⟨?_, ?_⟩ <;> (try simp only [Int.toNat_natCast]) <;> omega) | (refine ⟨?_⟩; simp only [decide_eq_true_eq, decide_eq_false_iff_not]; omega) | (refine ⟨?_⟩; simp only [Int.toNat_natCast, decide_eq_true_eq, decide_eq_false_iff_not]; first | assumption | omega) | exact hA | exact hB | (refine ⟨?_⟩; kernel_rfl) | exact row_one2 rfl rfl | exact row_snoc2 (fun _ _ _ => rfl) rfl rfl | (simp only [Int.toNat_natCast]; exact row_snoc2 (fun _ _ _ => rfl) rfl rfl))
    · have hx' : r = i := by omega
      subst hx'
      obtain ⟨r, rfl⟩ : ∃ k, r = k + 1 := ⟨r - 1, by omega⟩
      refine Tri.mono ?_ (lastQ_R (X := toX (fun x => x) 1 (KE9 lo hi e1 (r + 1) fm)) (toX_ok hN (by kernel_rfl) (e9_end lo hi e1 (r + 1) fm hr0 hr2 hA hB)))
      refine Tri.path (tbE9_ok lo hi e1 (r + 1) fm base) 200 [false] (of_skel (q := (EqB (decide ((↑(r + 1) : Int) < (↑(r + 1) : Int))) false ∧ True) ∧ EqN (r + 1) (r + 1) ∧ EqN (r + 1) (r + 1) ∧ RowEq (r + 1) 2 (lvF lo hi fm) (lvF lo hi fm) ∧ EqB false false ∧ EqN (r + 1) (r + 1) ∧ RowEq (r + 1) 3 fm fm ∧ EqB true true ∧ EqN (r + 1) (r + 1) ∧ (RowEq (r + 1) 1 (fun k x => hF lo fm (tpF fm false) k) fun k x => hF lo fm (tpF fm false) k) ∧ EqB true true ∧ EqN (r + 1) (r + 1) ∧ (RowEq (r + 1) 1 (fun k x => hF hi fm (tpF fm true) k) fun k x => hF hi fm (tpF fm true) k) ∧ True) (by kernel_rfl) ?_)
      ((repeat' apply And.intro) <;> first | exact trivial | exact ⟨rfl⟩ | exact ⟨fun _ _ _ _ => rfl⟩ | (refine inR64 ?_ ?_ <;> omega) | (refine ⟨?_⟩; (try simp only [Int.toNat_natCast]); omega) | (refine ⟨?_, ?_⟩ <;> (try simp only [Int.toNat_natCast]) <;> omega) | (refine ⟨?_⟩; simp only [decide_eq_true_eq, decide_eq_false_iff_not]; omega) | (refine ⟨?_⟩; simp only [Int.toNat_natCast, decide_eq_true_eq, decide_eq_false_iff_not]; first | assumption | omega) | exact hA | exact hB | (refine ⟨?_⟩; kernel_rfl) | exact row_one2 rfl rfl | exact row_snoc2 (fun _ _ _ => rfl) rfl rfl | (simp only [Int.toNat_natCast]; exact row_snoc2 (fun _ _ _ => rfl) rfl rfl))
/-- A spec, one tuple of arguments at a time. -/
theorem spec_each {P : Program} {f : FuncId} {F : GSpec} (hent : EnterOK P f) (H : ∀ gs0 g0 ps0, F gs0 = some (g0, ps0) → All ps0 → ∃ F' : GSpec, FnSpec P f F' ∧ ∃ ps', F' gs0 = some (g0, ps') ∧ All ps') : FnSpec P f F := by
  refine ⟨hent, fun w vs gs g ps hv hF hps => ?_⟩
  obtain ⟨F', hs, ps', h1, h2⟩ := H gs g ps hF hps
  exact hs.2 w vs gs g ps' hv h1 h2
set_option maxRecDepth 100000 in
theorem spLe : FnSpec Tryd.prog 77 FLe := by
  refine spec_each (enter_of Tryd.func77 (by kernel_rfl) (by kernel_rfl)) fun gs0 g0 ps0 hF0 hps0 => ?_
  unfold FLe at hF0
  split at hF0 <;> try (cases hF0; done)
  rename_i lo hi e1 r fm
  cases hF0
  obtain ⟨h0, _⟩ := hps0
  have s := h0.s
  classical
  refine ⟨fun gs => if gs = gE9 lo hi e1 r fm then some (.rows 0 2 r (lvF lo hi fm), []) else none, ?_, [], if_pos rfl, trivial⟩
  refine spec_body (tbE9_ok lo hi e1 r fm) Tryd.func77 (by kernel_rfl) (by kernel_rfl) fun gs g ps hF' hps => ?_
  by_cases hgs : gs = gE9 lo hi e1 r fm
  · rw [if_pos hgs] at hF'
    subst hgs
    cases hF'
    refine ⟨ldA0 (gE9 lo hi e1 r fm), ldH0 (gE9 lo hi e1 r fm), rfl, ⟨Nat.le_of_ble_eq_true (by kernel_rfl), Nat.le_of_ble_eq_true (by kernel_rfl)⟩, fun base E hE => ?_⟩
    exact Tri.flat (e9_all lo hi e1 r fm h0.r1 h0.r8 (ht_ends h0 false lo (by omega)) (ht_ends h0 true hi (by omega)) (by rw [hE]; rfl))
  · rw [if_neg hgs] at hF'
    cases hF'

end PartOfKle

section PartOfKix
open Go Go.RowKit Go.Proofs
noncomputable def fI9 : Func := Tryd.f79
noncomputable def tbI9 : Tab := mkTab tyAll Tryd.prog [80, 81] [] []
noncomputable def JI9 (lo hi : Int) (e1 : TypeId) (r : Nat) (fm : Nat → Nat → Int) (h : Int) : JS := ⟨0, [], [(1, .cells [.lit (.int .i64 lo), .lit (.int .i64 hi), .isl 0 r] 40 none), (2, .cells [.lit (.int .i64 h)] 3 none)], [(0, ⟨false, e1, 3, r, fm⟩), (3, ⟨true, 0, 2, r, lvF lo hi fm⟩)], 4⟩
theorem tbI9_ok : ∀ base, TabOK Tryd.prog tbI9 base := mkTab_ok mixedP tyAll_ok (fun p hp => by cases hp) (fun p hp => by cases hp)
noncomputable def JRI1 (lo hi : Int) (e1 : TypeId) (r : Nat) (fm : Nat → Nat → Int) (h : Int) : JS := ⟨1, [(0, .lit (.int .i64 (canF lo hi r fm h 0)))], [(1, .cells [.lit (.int .i64 lo), .lit (.int .i64 hi), .isl 0 r] 40 none), (2, .cells [.lit (.int .i64 h)] 3 none)], [(0, ⟨false, e1, 3, r, fm⟩), (3, ⟨true, 0, 2, r, lvF lo hi fm⟩)], 4⟩
noncomputable def JI1 (lo hi : Int) (e1 : TypeId) (r : Nat) (fm : Nat → Nat → Int) (h : Int) (i : Nat) : JS := ⟨19, [(0, .isl 3 r), (1, .fn 80 [] [.ptr 2 0]), (7, .lit (.int .i64 (r : Nat))), (8, .lit (.int .i64 (i : Nat)))], [(1, .cells [.lit (.int .i64 lo), .lit (.int .i64 hi), .isl 0 r] 40 none), (2, .cells [.lit (.int .i64 h)] 3 none)], [(0, ⟨false, e1, 3, r, fm⟩), (3, ⟨true, 0, 2, r, lvF lo hi fm⟩)], 4⟩
noncomputable def KI1 (lo hi : Int) (e1 : TypeId) (r : Nat) (fm : Nat → Nat → Int) (h : Int) : JS := ⟨19, [], [(1, .cells [.lit (.int .i64 lo), .lit (.int .i64 hi), .isl 0 r] 40 none), (2, .cells [.lit (.int .i64 h)] 3 none)], [(0, ⟨false, e1, 3, r, fm⟩), (3, ⟨true, 0, 2, r, lvF lo hi fm⟩)], 4⟩
set_option maxRecDepth 100000 in
set_option maxHeartbeats 2000000 in
theorem endI1 (lo hi : Int) (e1 : TypeId) (r : Nat) (fm : Nat → Nat → Int) (h : Int) (c1 : canF lo hi r fm h 0 = -1) {base : Bs} {E : Ent} : TriL Tryd.prog base E ((flat (bodyC fI9)).drop 3) (KI1 lo hi e1 r fm h).A (KI1 lo hi e1 r fm h).h (natP tbI9 fI9 (fun x => x) 4 (JRI1 lo hi e1 r fm h)) := by
  refine TriL.path tbI9_ok [] (by kernel_rfl) (of_skel (q := True ∧ True ∧ EqI (-1) (canF lo hi r fm h 0) ∧ EqI lo lo ∧ EqI hi hi ∧ EqN r r ∧ EqI h h ∧ EqB false false ∧ EqN r r ∧ RowEq r 3 fm fm ∧ EqB true true ∧ EqN r r ∧ RowEq r 2 (lvF lo hi fm) (lvF lo hi fm) ∧ True) (by kernel_rfl) ?_)
  ((repeat' apply And.intro) <;> first | exact trivial | exact ⟨rfl⟩ | exact ⟨fun _ _ _ _ => rfl⟩ | (refine inR64 ?_ ?_ <;> omega) | (refine ⟨?_⟩; (try simp only [Int.toNat_natCast]); omega) | (refine ⟨?_, ?_⟩ <;> (try simp only [Int.toNat_natCast]) <;> omega) | (refine ⟨?_⟩; simp only [decide_eq_true_eq, decide_eq_false_iff_not]; omega) | (refine ⟨?_⟩; simp only [Int.toNat_natCast, decide_eq_true_eq, decide_eq_false_iff_not]; first | assumption | omega) | (refine ⟨?_⟩; first | exact c1 | exact c1.symm | (simp only [c1]; done) | (rw [c1]; omega)))
set_option maxRecDepth 100000 in
set_option maxHeartbeats 2000000 in
theorem allI1 (lo hi : Int) (e1 : TypeId) (r : Nat) (fm : Nat → Nat → Int) (h : Int) {sc : List Prop} {orc : List Bool} {base : Bs} {E : Ent} (hN : E.h.next = 4) (hr : r ≤ 100000) : TriL Tryd.prog base E (flat (bodyC fI9)) (start fI9 [.isl 3 r, .fn 80 [] [.ptr 2 0]]) ⟨(JI9 lo hi e1 r fm h).h.m, (JI9 lo hi e1 r fm h).h.next, (JI9 lo hi e1 r fm h).h.ro, sc, orc⟩ (natP tbI9 fI9 (fun x => x) 4 (JRI1 lo hi e1 r fm h)) := by
  refine TriL.rounds 2 (by kernel_rfl) (fun x : {i : Nat // i ≤ r ∧ firF (abP lo hi fm h 1) r 0 = firF (abP lo hi fm h 1) r i} => JI1 lo hi e1 r fm h x.1) (fun x => r - x.1) ⟨0, Nat.zero_le _, rfl⟩ ?_ fun x => ?_
  · refine TriL.mono ?_ (preQ_ok (σ := fun x => x) hN (J0 := JI1 lo hi e1 r fm h 0))
    refine TriL.path tbI9_ok [] (by kernel_rfl) (of_skel (q := True ∧ EqN r r ∧ EqN 0 0 ∧ EqI (↑r : Int) (↑r : Int) ∧ EqI 0 (↑0 : Int) ∧ EqI lo lo ∧ EqI hi hi ∧ EqN r r ∧ EqI h h ∧ EqB false false ∧ EqN r r ∧ RowEq r 3 fm fm ∧ EqB true true ∧ EqN r r ∧ RowEq r 2 (lvF lo hi fm) (lvF lo hi fm) ∧ True) (by kernel_rfl) ?_)
    ((repeat' apply And.intro) <;> first | exact trivial | exact ⟨rfl⟩ | exact ⟨fun _ _ _ _ => rfl⟩ | (refine inR64 ?_ ?_ <;> omega) | (refine ⟨?_⟩; (try simp only [Int.toNat_natCast]); omega) | (refine ⟨?_, ?_⟩ <;> (try simp only [Int.toNat_natCast]) <;> omega) | (refine ⟨?_⟩; simp only [decide_eq_true_eq, decide_eq_false_iff_not]; omega) | (refine ⟨?_⟩; simp only [Int.toNat_natCast, decide_eq_true_eq, decide_eq_false_iff_not]; first | assumption | omega))
  · obtain ⟨i, hii, hb⟩ := x
    have eN : ((i : Nat) : Int).toNat = i := by omega
    by_cases hx : i < r
    · by_cases hp : h < lvF lo hi fm i 1
      · have c1 : canF lo hi r fm h 0 = (i : Nat) := hb.trans (fir_yes hx (decide_eq_true hp))
        refine Tri.mono ?_ (lastQ_R (X := fun _ _ => False) (fun _ _ h => h.elim))
        refine Tri.path (tbI9_ok base) 200 [true, true] (of_skel (q := (EqB (decide (lvF lo hi fm (↑i : Int).toNat 1 > h)) true ∧ LtN (↑i : Int).toNat r ∧ IxIn (↑i : Int) r ∧ EqB (decide ((↑i : Int) < (↑r : Int))) true ∧ True) ∧ True ∧ EqI (↑i : Int) (canF lo hi r fm h 0) ∧ EqI lo lo ∧ EqI hi hi ∧ EqN r r ∧ EqI h h ∧ EqB false false ∧ EqN r r ∧ RowEq r 3 fm fm ∧ EqB true true ∧ EqN r r ∧ RowEq r 2 (lvF lo hi fm) (lvF lo hi fm) ∧ True) (by kernel_rfl) ?_)
        simp only [eN]
        ((repeat' apply And.intro) <;> first | exact trivial | exact ⟨rfl⟩ | exact ⟨fun _ _ _ _ => rfl⟩ | (refine inR64 ?_ ?_ <;> omega) | (refine ⟨?_⟩; (try simp only [Int.toNat_natCast]); omega) | (refine ⟨?_, ?_⟩ <;> (try simp only [Int.toNat_natCast]) <;> omega) | (refine ⟨?_⟩; simp only [decide_eq_true_eq, decide_eq_false_iff_not]; omega) | (refine ⟨?_⟩; simp only [Int.toNat_natCast, decide_eq_true_eq, decide_eq_false_iff_not]; first | assumption | omega) | (refine ⟨?_⟩; first | exact c1 | exact c1.symm | (simp only [c1]; done) | (rw [c1]; omega)))
      · refine Tri.mono ?_ (roundQ_R (σ := fun x => x) (X := fun _ _ => False) (⟨i + 1, hx, hb.trans (fir_no hx (decide_eq_false hp))⟩ : {i : Nat // i ≤ r ∧ firF (abP lo hi fm h 1) r 0 = firF (abP lo hi fm h 1) r i}) (by show r - (i + 1) < r - i; omega) hN (fun _ _ h => h.elim))
        refine Tri.path (tbI9_ok base) 200 [true, false] (of_skel (q := (InR IntKind.i64 ((↑i : Int) + 1) ∧ EqB (decide (lvF lo hi fm (↑i : Int).toNat 1 > h)) false ∧ LtN (↑i : Int).toNat r ∧ IxIn (↑i : Int) r ∧ EqB (decide ((↑i : Int) < (↑r : Int))) true ∧ True) ∧ EqN r r ∧ EqN 0 0 ∧ EqI (↑r : Int) (↑r : Int) ∧ EqI ((↑i : Int) + 1) (↑(i + 1) : Int) ∧ EqI lo lo ∧ EqI hi hi ∧ EqN r r ∧ EqI h h ∧ EqB false false ∧ EqN r r ∧ RowEq r 3 fm fm ∧ EqB true true ∧ EqN r r ∧ RowEq r 2 (lvF lo hi fm) (lvF lo hi fm) ∧ True) (by kernel_rfl) ?_)
        simp only [eN]
        ((repeat' apply And.intro) <;> first | exact trivial | exact ⟨rfl⟩ | exact ⟨fun _ _ _ _ => rfl⟩ | (refine inR64 ?_ ?_ <;> omega) | (refine ⟨?_⟩; (try simp only [Int.toNat_natCast]); omega) | (refine ⟨?_, ?_⟩ <;> (try simp only [Int.toNat_natCast]) <;> omega) | (refine ⟨?_⟩; simp only [decide_eq_true_eq, decide_eq_false_iff_not]; omega) | (refine ⟨?_⟩; simp only [Int.toNat_natCast, decide_eq_true_eq, decide_eq_false_iff_not]; first | assumption | omega))
    · have hx' : i = r := by omega
      subst hx'
      have c1 : canF lo hi i fm h 0 = -1 := hb.trans (fir_end _ _)
      refine Tri.mono ?_ (lastQ_R (X := toX (fun x => x) 4 (KI1 lo hi e1 i fm h)) (toX_ok hN (by kernel_rfl) (endI1 lo hi e1 i fm h c1)))
      refine Tri.path (tbI9_ok base) 200 [false] (of_skel (q := (EqB (decide ((↑i : Int) < (↑i : Int))) false ∧ True) ∧ EqI lo lo ∧ EqI hi hi ∧ EqN i i ∧ EqI h h ∧ EqB false false ∧ EqN i i ∧ RowEq i 3 fm fm ∧ EqB true true ∧ EqN i i ∧ RowEq i 2 (lvF lo hi fm) (lvF lo hi fm) ∧ True) (by kernel_rfl) ?_)
      ((repeat' apply And.intro) <;> first | exact trivial | exact ⟨rfl⟩ | exact ⟨fun _ _ _ _ => rfl⟩ | (refine inR64 ?_ ?_ <;> omega) | (refine ⟨?_⟩; (try simp only [Int.toNat_natCast]); omega) | (refine ⟨?_, ?_⟩ <;> (try simp only [Int.toNat_natCast]) <;> omega) | (refine ⟨?_⟩; simp only [decide_eq_true_eq, decide_eq_false_iff_not]; omega) | (refine ⟨?_⟩; simp only [Int.toNat_natCast, decide_eq_true_eq, decide_eq_false_iff_not]; first | assumption | omega))
noncomputable def JRI0 (lo hi : Int) (e1 : TypeId) (r : Nat) (fm : Nat → Nat → Int) (h : Int) : JS := ⟨1, [(0, .lit (.int .i64 (sureF lo hi r fm h 0)))], [(1, .cells [.lit (.int .i64 lo), .lit (.int .i64 hi), .isl 0 r] 40 none), (2, .cells [.lit (.int .i64 h)] 3 none)], [(0, ⟨false, e1, 3, r, fm⟩), (3, ⟨true, 0, 2, r, lvF lo hi fm⟩)], 4⟩
noncomputable def JI0 (lo hi : Int) (e1 : TypeId) (r : Nat) (fm : Nat → Nat → Int) (h : Int) (i : Nat) : JS := ⟨19, [(0, .isl 3 r), (1, .fn 81 [] [.ptr 2 0]), (7, .lit (.int .i64 (r : Nat))), (8, .lit (.int .i64 (i : Nat)))], [(1, .cells [.lit (.int .i64 lo), .lit (.int .i64 hi), .isl 0 r] 40 none), (2, .cells [.lit (.int .i64 h)] 3 none)], [(0, ⟨false, e1, 3, r, fm⟩), (3, ⟨true, 0, 2, r, lvF lo hi fm⟩)], 4⟩
noncomputable def KI0 (lo hi : Int) (e1 : TypeId) (r : Nat) (fm : Nat → Nat → Int) (h : Int) : JS := ⟨19, [], [(1, .cells [.lit (.int .i64 lo), .lit (.int .i64 hi), .isl 0 r] 40 none), (2, .cells [.lit (.int .i64 h)] 3 none)], [(0, ⟨false, e1, 3, r, fm⟩), (3, ⟨true, 0, 2, r, lvF lo hi fm⟩)], 4⟩
set_option maxRecDepth 100000 in
set_option maxHeartbeats 2000000 in
theorem endI0 (lo hi : Int) (e1 : TypeId) (r : Nat) (fm : Nat → Nat → Int) (h : Int) (c1 : sureF lo hi r fm h 0 = -1) {base : Bs} {E : Ent} : TriL Tryd.prog base E ((flat (bodyC fI9)).drop 3) (KI0 lo hi e1 r fm h).A (KI0 lo hi e1 r fm h).h (natP tbI9 fI9 (fun x => x) 4 (JRI0 lo hi e1 r fm h)) := by
  refine TriL.path tbI9_ok [] (by kernel_rfl) (of_skel (q := True ∧ True ∧ EqI (-1) (sureF lo hi r fm h 0) ∧ EqI lo lo ∧ EqI hi hi ∧ EqN r r ∧ EqI h h ∧ EqB false false ∧ EqN r r ∧ RowEq r 3 fm fm ∧ EqB true true ∧ EqN r r ∧ RowEq r 2 (lvF lo hi fm) (lvF lo hi fm) ∧ True) (by kernel_rfl) ?_)
  ((repeat' apply And.intro) <;> first | exact trivial | exact ⟨rfl⟩ | exact ⟨fun _ _ _ _ => rfl⟩ | (refine inR64 ?_ ?_ <;> omega) | (refine ⟨?_⟩; (try simp only [Int.toNat_natCast]); omega) | (refine ⟨?_, ?_⟩ <;> (try simp only [Int.toNat_natCast]) <;> omega) | (refine ⟨?_⟩; simp only [decide_eq_true_eq, decide_eq_false_iff_not]; omega) | (refine ⟨?_⟩; simp only [Int.toNat_natCast, decide_eq_true_eq, decide_eq_false_iff_not]; first | assumption | omega) | (refine ⟨?_⟩; first | exact c1 | exact c1.symm | (simp only [c1]; done) | (rw [c1]; omega)))
set_option maxRecDepth 100000 in
set_option maxHeartbeats 2000000 in
theorem allI0 (lo hi : Int) (e1 : TypeId) (r : Nat) (fm : Nat → Nat → Int) (h : Int) {sc : List Prop} {orc : List Bool} {base : Bs} {E : Ent} (hN : E.h.next = 4) (hr : r ≤ 100000) : TriL Tryd.prog base E (flat (bodyC fI9)) (start fI9 [.isl 3 r, .fn 81 [] [.ptr 2 0]]) ⟨(JI9 lo hi e1 r fm h).h.m, (JI9 lo hi e1 r fm h).h.next, (JI9 lo hi e1 r fm h).h.ro, sc, orc⟩ (natP tbI9 fI9 (fun x => x) 4 (JRI0 lo hi e1 r fm h)) := by
  refine TriL.rounds 2 (by kernel_rfl) (fun x : {i : Nat // i ≤ r ∧ firF (abP lo hi fm h 0) r 0 = firF (abP lo hi fm h 0) r i} => JI0 lo hi e1 r fm h x.1) (fun x => r - x.1) ⟨0, Nat.zero_le _, rfl⟩ ?_ fun x => ?_
  · refine TriL.mono ?_ (preQ_ok (σ := fun x => x) hN (J0 := JI0 lo hi e1 r fm h 0))
    refine TriL.path tbI9_ok [] (by kernel_rfl) (of_skel (q := True ∧ EqN r r ∧ EqN 0 0 ∧ EqI (↑r : Int) (↑r : Int) ∧ EqI 0 (↑0 : Int) ∧ EqI lo lo ∧ EqI hi hi ∧ EqN r r ∧ EqI h h ∧ EqB false false ∧ EqN r r ∧ RowEq r 3 fm fm ∧ EqB true true ∧ EqN r r ∧ RowEq r 2 (lvF lo hi fm) (lvF lo hi fm) ∧ True) (by kernel_rfl) ?_)
    ((repeat' apply And.intro) <;> first | exact trivial | exact ⟨rfl⟩ | exact ⟨fun _ _ _ _ => rfl⟩ | (refine inR64 ?_ ?_ <;> omega) | (refine ⟨?_⟩; (try simp only [Int.toNat_natCast]); omega) | (refine ⟨?_, ?_⟩ <;> (try simp only [Int.toNat_natCast]) <;> omega) | (refine ⟨?_⟩; simp only [decide_eq_true_eq, decide_eq_false_iff_not]; omega) | (refine ⟨?_⟩; simp only [Int.toNat_natCast, decide_eq_true_eq, decide_eq_false_iff_not]; first | assumption | omega))
  · obtain ⟨i, hii, hb⟩ := x
    have eN : ((i : Nat) : Int).toNat = i := by omega
    by_cases hx : i < r
    · by_cases hp : h < lvF lo hi fm i 0
      · have c1 : sureF lo hi r fm h 0 = (i : Nat) := hb.trans (fir_yes hx (decide_eq_true hp))
        refine Tri.mono ?_ (lastQ_R (X := fun _ _ => False) (fun _ _ h => h.elim))
        refine Tri.path (tbI9_ok base) 200 [true, true] (of_skel (q := (EqB (decide (lvF lo hi fm (↑i : Int).toNat 0 > h)) true ∧ LtN (↑i : Int).toNat r ∧ IxIn (↑i : Int) r ∧ EqB (decide ((↑i : Int) < (↑r : Int))) true ∧ True) ∧ True ∧ EqI (↑i : Int) (sureF lo hi r fm h 0) ∧ EqI lo lo ∧ EqI hi hi ∧ EqN r r ∧ EqI h h ∧ EqB false false ∧ EqN r r ∧ RowEq r 3 fm fm ∧ EqB true true ∧ EqN r r ∧ RowEq r 2 (lvF lo hi fm) (lvF lo hi fm) ∧ True) (by kernel_rfl) ?_)
        simp only [eN]
        ((repeat' apply And.intro) <;> first | exact trivial | exact ⟨rfl⟩ | exact ⟨fun _ _ _ _ => rfl⟩ | (refine inR64 ?_ ?_ <;> omega) | (refine ⟨?_⟩; (try simp only [Int.toNat_natCast]); omega) | (refine ⟨?_, ?_⟩ <;> (try simp only [Int.toNat_natCast]) <;> omega) | (refine ⟨?_⟩; simp only [decide_eq_true_eq, decide_eq_false_iff_not]; omega) | (refine ⟨?_⟩; simp only [Int.toNat_natCast, decide_eq_true_eq, decide_eq_false_iff_not]; first | assumption | omega) | (refine ⟨?_⟩; first | exact c1 | exact c1.symm | (simp only [c1]; done) | (rw [c1]; omega)))
      · refine Tri.mono ?_ (roundQ_R (σ := fun x => x) (X := fun _ _ => False) (⟨i + 1, hx, hb.trans (fir_no hx (decide_eq_false hp))⟩ : {i : Nat // i ≤ r ∧ firF (abP lo hi fm h 0) r 0 = firF (abP lo hi fm h 0) r i}) (by show r - (i + 1) < r - i; omega) hN (fun _ _ h => h.elim))
        refine Tri.path (tbI9_ok base) 200 [true, false] (of_skel (q := (InR IntKind.i64 ((↑i : Int) + 1) ∧ EqB (decide (lvF lo hi fm (↑i : Int).toNat 0 > h)) false ∧ LtN (↑i : Int).toNat r ∧ IxIn (↑i : Int) r ∧ EqB (decide ((↑i : Int) < (↑r : Int))) true ∧ True) ∧ EqN r r ∧ EqN 0 0 ∧ EqI (↑r : Int) (↑r : Int) ∧ EqI ((↑i : Int) + 1) (↑(i + 1) : Int) ∧ EqI lo lo ∧ EqI hi hi ∧ EqN r r ∧ EqI h h ∧ EqB false false ∧ EqN r r ∧ RowEq r 3 fm fm ∧ EqB true true ∧ EqN r r ∧ RowEq r 2 (lvF lo hi fm) (lvF lo hi fm) ∧ True) (by kernel_rfl) ?_)
        simp only [eN]
        ((repeat' apply And.intro) <;> first | exact trivial | exact ⟨rfl⟩ | exact ⟨fun _ _ _ _ => rfl⟩ | (refine inR64 ?_ ?_ <;> omega) | (refine ⟨?_⟩; (try simp only [Int.toNat_natCast]); omega) | (refine ⟨?_, ?_⟩ <;> (try simp only [Int.toNat_natCast]) <;> omega) | (refine ⟨?_⟩; simp only [decide_eq_true_eq, decide_eq_false_iff_not]; omega) | (refine ⟨?_⟩; simp only [Int.toNat_natCast, decide_eq_true_eq, decide_eq_false_iff_not]; first | assumption | omega))
    · have hx' : i = r := by omega
      subst hx'
      have c1 : sureF lo hi i fm h 0 = -1 := hb.trans (fir_end _ _)
      refine Tri.mono ?_ (lastQ_R (X := toX (fun x => x) 4 (KI0 lo hi e1 i fm h)) (toX_ok hN (by kernel_rfl) (endI0 lo hi e1 i fm h c1)))
      refine Tri.path (tbI9_ok base) 200 [false] (of_skel (q := (EqB (decide ((↑i : Int) < (↑i : Int))) false ∧ True) ∧ EqI lo lo ∧ EqI hi hi ∧ EqN i i ∧ EqI h h ∧ EqB false false ∧ EqN i i ∧ RowEq i 3 fm fm ∧ EqB true true ∧ EqN i i ∧ RowEq i 2 (lvF lo hi fm) (lvF lo hi fm) ∧ True) (by kernel_rfl) ?_)
      ((repeat' apply And.intro) <;> first | exact trivial | exact ⟨rfl⟩ | exact ⟨fun _ _ _ _ => rfl⟩ | (refine inR64 ?_ ?_ <;> omega) | (refine ⟨?_⟩; (try simp only [Int.toNat_natCast]); omega) | (refine ⟨?_, ?_⟩ <;> (try simp only [Int.toNat_natCast]) <;> omega) | (refine ⟨?_⟩; simp only [decide_eq_true_eq, decide_eq_false_iff_not]; omega) | (refine ⟨?_⟩; simp only [Int.toNat_natCast, decide_eq_true_eq, decide_eq_false_iff_not]; first | assumption | omega))
noncomputable def natIx (lo hi : Int) (e1 : TypeId) (r : Nat) (fm : Nat → Nat → Int) (h : Int) : AH → List AV → Option (AV × AH) := fun h0 args => match args with
  | [.isl id n, .fn a [] [.ptr b o]] => match Nat.beq id 3 with
    | true => match Nat.beq b 2 with
      | true => match Nat.beq o 0 with
        | true => match Nat.beq a 80 with
          | true => some (.lit (.int .i64 (canF lo hi r fm h 0)), ⟨(JRI1 lo hi e1 r fm h).h.m, (JRI1 lo hi e1 r fm h).h.next, (JRI1 lo hi e1 r fm h).h.ro, SameS (h0.start []) ((JI9 lo hi e1 r fm h).h.start []) :: EqN n r :: LeN r 100000 :: h0.sc, h0.orc⟩)
          | false => match Nat.beq a 81 with
            | true => some (.lit (.int .i64 (sureF lo hi r fm h 0)), ⟨(JRI0 lo hi e1 r fm h).h.m, (JRI0 lo hi e1 r fm h).h.next, (JRI0 lo hi e1 r fm h).h.ro, SameS (h0.start []) ((JI9 lo hi e1 r fm h).h.start []) :: EqN n r :: LeN r 100000 :: h0.sc, h0.orc⟩)
            | false => none
        | false => none
      | false => none
    | false => none
  | _ => none
set_option maxRecDepth 100000 in
set_option maxHeartbeats 2000000 in
theorem natIx_ok (lo hi : Int) (e1 : TypeId) (r : Nat) (fm : Nat → Nat → Int) (h : Int) (base : Bs) : NatOK Tryd.prog base 79 (natIx lo hi e1 r fm h) := by
  refine nat_tri (tbI9_ok base) (c := bodyC fI9) Tryd.func79 (enter_of Tryd.func79 (by kernel_rfl) (by kernel_rfl)) (by kernel_rfl) fun h0 args v h' hg => ?_
  unfold natIx at hg
  split at hg <;> try (cases hg; done)
  rename_i id n a b o
  split at hg <;> try (cases hg; done)
  rename_i hi'
  split at hg <;> try (cases hg; done)
  rename_i hb
  split at hg <;> try (cases hg; done)
  rename_i ho
  obtain rfl : id = 3 := Nat.eq_of_beq_eq_true hi'
  obtain rfl : b = 2 := Nat.eq_of_beq_eq_true hb
  obtain rfl : o = 0 := Nat.eq_of_beq_eq_true ho
  split at hg
  · rename_i ha
    obtain rfl : a = 80 := Nat.eq_of_beq_eq_true ha
    cases hg
    refine ⟨fun hs => hs.2.2.2, fun hs => ?_⟩
    obtain ⟨⟨hs1⟩, ⟨hn⟩, ⟨h8⟩, _⟩ := hs
    obtain rfl : r = n := hn.symm
    obtain ⟨m, next, ro, sc, orc⟩ := h0
    obtain rfl : m = (JI9 lo hi e1 r fm h).h.m := congrArg AH.m hs1
    obtain rfl : next = (JI9 lo hi e1 r fm h).h.next := congrArg AH.next hs1
    obtain rfl : ro = (JI9 lo hi e1 r fm h).h.ro := congrArg AH.ro hs1
    refine ⟨⟨Nat.le_of_ble_eq_true (by kernel_rfl), Nat.le_of_ble_eq_true (by kernel_rfl)⟩, fun E' hE => Tri.mono (Tri.flat (allI1 lo hi e1 r fm h (by rw [hE]; rfl) h8)) fun e A h1 hx => ?_⟩
    obtain ⟨q1, h2, vs, q2, q3, q4, q5⟩ := natP_ok hx
    exact ⟨q1, h2, vs, q2, q3, q4, _, JRI1 lo hi e1 r fm h, q5, by kernel_rfl, rfl, rfl, rfl⟩
  · split at hg <;> try (cases hg; done)
    rename_i ha
    obtain rfl : a = 81 := Nat.eq_of_beq_eq_true ha
    cases hg
    refine ⟨fun hs => hs.2.2.2, fun hs => ?_⟩
    obtain ⟨⟨hs1⟩, ⟨hn⟩, ⟨h8⟩, _⟩ := hs
    obtain rfl : r = n := hn.symm
    obtain ⟨m, next, ro, sc, orc⟩ := h0
    obtain rfl : m = (JI9 lo hi e1 r fm h).h.m := congrArg AH.m hs1
    obtain rfl : next = (JI9 lo hi e1 r fm h).h.next := congrArg AH.next hs1
    obtain rfl : ro = (JI9 lo hi e1 r fm h).h.ro := congrArg AH.ro hs1
    refine ⟨⟨Nat.le_of_ble_eq_true (by kernel_rfl), Nat.le_of_ble_eq_true (by kernel_rfl)⟩, fun E' hE => Tri.mono (Tri.flat (allI0 lo hi e1 r fm h (by rw [hE]; rfl) h8)) fun e A h1 hx => ?_⟩
    obtain ⟨q1, h2, vs, q2, q3, q4, q5⟩ := natP_ok hx
    exact ⟨q1, h2, vs, q2, q3, q4, _, JRI0 lo hi e1 r fm h, q5, by kernel_rfl, rfl, rfl, rfl⟩

end PartOfKix

section PartOfKav
open Go Go.RowKit Go.Proofs
noncomputable def fV8 : Func := Tryd.f28
noncomputable def tbV8 (lo hi : Int) (e1 : TypeId) (r : Nat) (fm : Nat → Nat → Int) (h : Int) : Tab := (mkTab tyAll Tryd.prog [65] [(76, FTr), (78, FBtw), (77, FLe)] []).nats [(79, natIx lo hi e1 r fm h)]
noncomputable def gV8 (lo hi : Int) (e1 : TypeId) (r : Nat) (fm : Nat → Nat → Int) (h : Int) : List GV := [.agg [.lit (.int .i64 lo), .lit (.int .i64 hi), .rows e1 3 r fm], .lit (.int .i64 h)]
noncomputable def okA (lo hi : Int) (r : Nat) (fm : Nat → Nat → Int) (h : Int) : Bool := TrB lo hi r fm && decide (-100000 ≤ h ∧ h ≤ 100000)
noncomputable def avC (lo hi : Int) (r : Nat) (fm : Nat → Nat → Int) (h : Int) : Int := bif okA lo hi r fm h then (bif decide (canF lo hi r fm h 0 < 0) then 0 else canF lo hi r fm h 0) else 0
noncomputable def avS (lo hi : Int) (r : Nat) (fm : Nat → Nat → Int) (h : Int) : Int := bif okA lo hi r fm h then (bif decide (canF lo hi r fm h 0 < 0) then 0 else sureF lo hi r fm h 0) else 0
noncomputable def avE (lo hi : Int) (r : Nat) (fm : Nat → Nat → Int) (h : Int) : Int := bif okA lo hi r fm h then (bif decide (canF lo hi r fm h 0 < 0) then 5 else 0) else 2
theorem tbV8_ok (lo hi : Int) (e1 : TypeId) (r : Nat) (fm : Nat → Nat → Int) (h : Int) : ∀ base, TabOK Tryd.prog (tbV8 lo hi e1 r fm h) base := fun base => nats_ok (mkTab_ok mixedP tyAll_ok (fun p hp => by
  rcases List.mem_cons.1 hp with rfl | hp
  · exact spTr
  rcases List.mem_cons.1 hp with rfl | hp
  · exact spBtw
  rcases List.mem_cons.1 hp with rfl | hp
  · exact spLe
  cases hp) (fun p hp => by cases hp) base) (fun p hp => by
  rw [List.mem_singleton.1 hp]
  exact natIx_ok lo hi e1 r fm h base)
noncomputable def FAv : GSpec := fun gs => match gs with
  | [.agg [.lit (.int .i64 lo), .lit (.int .i64 hi), .rows e1 3 r fm], .lit (.int .i64 h)] => some (.tup [.lit (.int .i64 (avC lo hi r fm h)), .lit (.int .i64 (avS lo hi r fm h)), .lit (.int .i64 (avE lo hi r fm h))], [])
  | _ => none
set_option maxRecDepth 100000 in
set_option maxHeartbeats 2000000 in
theorem av_all (lo hi : Int) (e1 : TypeId) (r : Nat) (fm : Nat → Nat → Int) (h : Int) {base : Bs} {E : Ent} : Tri Tryd.prog base E (bodyC fV8) (start fV8 (ldA0 (gV8 lo hi e1 r fm h))) (ldH0 (gV8 lo hi e1 r fm h)) (finP (tbV8 lo hi e1 r fm h) fV8 (.tup [.lit (.int .i64 (avC lo hi r fm h)), .lit (.int .i64 (avS lo hi r fm h)), .lit (.int .i64 (avE lo hi r fm h))])) := by
  cases h1 : TrB lo hi r fm
  · have hok : okA lo hi r fm h = false := by simp [okA, h1]
    have v1 : avC lo hi r fm h = 0 := by simp [avC, hok]
    have v2 : avS lo hi r fm h = 0 := by simp [avS, hok]
    have v3 : avE lo hi r fm h = 2 := by simp [avE, hok]
    refine Tri.path (tbV8_ok lo hi e1 r fm h base) 200 [false, true] (of_skel (q := (EqB true true ∧ EqB (TrB lo hi r fm) false ∧ LeN r r ∧ True) ∧ (EqI 0 (avC lo hi r fm h) ∧ EqI 0 (avS lo hi r fm h) ∧ EqI 2 (avE lo hi r fm h) ∧ True) ∧ True) (by kernel_rfl) ?_)
    ((repeat' apply And.intro) <;> first | exact trivial | exact ⟨rfl⟩ | exact ⟨fun _ _ _ _ => rfl⟩ | (refine inR64 ?_ ?_ <;> omega) | (refine ⟨?_⟩; (try simp only [Int.toNat_natCast]); omega) | (refine ⟨?_, ?_⟩ <;> (try simp only [Int.toNat_natCast]) <;> omega) | (refine ⟨?_⟩; simp only [decide_eq_true_eq, decide_eq_false_iff_not]; omega) | assumption | (refine ⟨?_⟩; assumption) | exact hT | (refine ⟨?_⟩; simp only [Bool.not_eq_true', Bool.not_eq_false', decide_eq_true_eq, decide_eq_false_iff_not]; first | assumption | omega) | (refine ⟨?_⟩; first | exact v1.symm | exact v2.symm | exact v3.symm))
  have hT := TrB_out h1
  have hr8 := hT.r8
  by_cases h2 : -100000 ≤ h ∧ h ≤ 100000
  rotate_left
  · have hok : okA lo hi r fm h = false := by simp [okA, h1, h2, decide_false, Bool.and_false]
    have v1 : avC lo hi r fm h = 0 := by simp [avC, hok]
    have v2 : avS lo hi r fm h = 0 := by simp [avS, hok]
    have v3 : avE lo hi r fm h = 2 := by simp [avE, hok]
    refine Tri.path (tbV8_ok lo hi e1 r fm h base) 200 [true, true, true] (of_skel (q := (EqB true true ∧ EqB (!decide (-100000 ≤ h ∧ h ≤ 100000)) true ∧ EqB (TrB lo hi r fm) true ∧ LeN r r ∧ True) ∧ (EqI 0 (avC lo hi r fm h) ∧ EqI 0 (avS lo hi r fm h) ∧ EqI 2 (avE lo hi r fm h) ∧ True) ∧ True) (by kernel_rfl) ?_)
    ((repeat' apply And.intro) <;> first | exact trivial | exact ⟨rfl⟩ | exact ⟨fun _ _ _ _ => rfl⟩ | (refine inR64 ?_ ?_ <;> omega) | (refine ⟨?_⟩; (try simp only [Int.toNat_natCast]); omega) | (refine ⟨?_, ?_⟩ <;> (try simp only [Int.toNat_natCast]) <;> omega) | (refine ⟨?_⟩; simp only [decide_eq_true_eq, decide_eq_false_iff_not]; omega) | assumption | (refine ⟨?_⟩; assumption) | exact hT | (refine ⟨?_⟩; simp only [Bool.not_eq_true', Bool.not_eq_false', decide_eq_true_eq, decide_eq_false_iff_not]; first | assumption | omega) | (refine ⟨?_⟩; first | exact v1.symm | exact v2.symm | exact v3.symm))
  by_cases h3 : canF lo hi r fm h 0 < 0
  · have hok : okA lo hi r fm h = true := by simp [okA, h1, h2, decide_true, Bool.and_true]
    have v1 : avC lo hi r fm h = 0 := by simp [avC, hok, h3]
    have v2 : avS lo hi r fm h = 0 := by simp [avS, hok, h3]
    have v3 : avE lo hi r fm h = 5 := by simp [avE, hok, h3]
    refine Tri.path (tbV8_ok lo hi e1 r fm h base) 200 [true, false, false, true] (of_skel (q := (EqB (decide (canF lo hi r fm h 0 < 0)) true ∧ SameS { m := (T.e.n (some (AO.cells [AV.lit (Value.int IntKind.i64 lo), AV.lit (Value.int IntKind.i64 hi), AV.isl 0 r] 40 none)) T.e).n none (T.e.n (some (AO.cells [AV.lit (Value.int IntKind.i64 h)] 3 none)) T.e), next := 4, ro := ((T.e.n (some { fr := true, el := 0, sz := 2, n := r, f := lvF lo hi fm }) T.e).n none T.e).n (some { fr := false, el := e1, sz := 3, n := r, f := fm }) T.e, sc := [], orc := [] } { m := (T.e.n (some (AO.cells [AV.lit (Value.int IntKind.i64 lo), AV.lit (Value.int IntKind.i64 hi), AV.isl 0 r] 40 none)) T.e).n none (T.e.n (some (AO.cells [AV.lit (Value.int IntKind.i64 h)] 3 none)) T.e), next := 4, ro := ((T.e.n (some { fr := true, el := 0, sz := 2, n := r, f := lvF lo hi fm }) T.e).n none T.e).n (some { fr := false, el := e1, sz := 3, n := r, f := fm }) T.e, sc := [], orc := [] } ∧ EqN r r ∧ LeN r 100000 ∧ LeN r r ∧ TrOK lo hi r fm ∧ EqB false false ∧ EqB (!decide (-100000 ≤ h ∧ h ≤ 100000)) false ∧ EqB (TrB lo hi r fm) true ∧ LeN r r ∧ True) ∧ (EqI 0 (avC lo hi r fm h) ∧ EqI 0 (avS lo hi r fm h) ∧ EqI 5 (avE lo hi r fm h) ∧ True) ∧ True) (by kernel_rfl) ?_)
    ((repeat' apply And.intro) <;> first | exact trivial | exact ⟨rfl⟩ | exact ⟨fun _ _ _ _ => rfl⟩ | (refine inR64 ?_ ?_ <;> omega) | (refine ⟨?_⟩; (try simp only [Int.toNat_natCast]); omega) | (refine ⟨?_, ?_⟩ <;> (try simp only [Int.toNat_natCast]) <;> omega) | (refine ⟨?_⟩; simp only [decide_eq_true_eq, decide_eq_false_iff_not]; omega) | assumption | (refine ⟨?_⟩; assumption) | exact hT | (refine ⟨?_⟩; simp only [Bool.not_eq_true', Bool.not_eq_false', decide_eq_true_eq, decide_eq_false_iff_not]; first | assumption | omega) | (refine ⟨?_⟩; first | exact v1.symm | exact v2.symm | exact v3.symm))
  · have hok : okA lo hi r fm h = true := by simp [okA, h1, h2, decide_true, Bool.and_true]
    have v1 : avC lo hi r fm h = canF lo hi r fm h 0 := by simp [avC, hok, h3]
    have v2 : avS lo hi r fm h = sureF lo hi r fm h 0 := by simp [avS, hok, h3]
    have v3 : avE lo hi r fm h = 0 := by simp [avE, hok, h3]
    refine Tri.path (tbV8_ok lo hi e1 r fm h base) 200 [true, false, false, false] (of_skel (q := (SameS { m := (T.e.n (some (AO.cells [AV.lit (Value.int IntKind.i64 lo), AV.lit (Value.int IntKind.i64 hi), AV.isl 0 r] 40 none)) T.e).n none (T.e.n (some (AO.cells [AV.lit (Value.int IntKind.i64 h)] 3 none)) T.e), next := 4, ro := ((T.e.n (some { fr := true, el := 0, sz := 2, n := r, f := lvF lo hi fm }) T.e).n none T.e).n (some { fr := false, el := e1, sz := 3, n := r, f := fm }) T.e, sc := [], orc := [] } { m := (T.e.n (some (AO.cells [AV.lit (Value.int IntKind.i64 lo), AV.lit (Value.int IntKind.i64 hi), AV.isl 0 r] 40 none)) T.e).n none (T.e.n (some (AO.cells [AV.lit (Value.int IntKind.i64 h)] 3 none)) T.e), next := 4, ro := ((T.e.n (some { fr := true, el := 0, sz := 2, n := r, f := lvF lo hi fm }) T.e).n none T.e).n (some { fr := false, el := e1, sz := 3, n := r, f := fm }) T.e, sc := [], orc := [] } ∧ EqN r r ∧ LeN r 100000 ∧ EqB (decide (canF lo hi r fm h 0 < 0)) false ∧ SameS { m := (T.e.n (some (AO.cells [AV.lit (Value.int IntKind.i64 lo), AV.lit (Value.int IntKind.i64 hi), AV.isl 0 r] 40 none)) T.e).n none (T.e.n (some (AO.cells [AV.lit (Value.int IntKind.i64 h)] 3 none)) T.e), next := 4, ro := ((T.e.n (some { fr := true, el := 0, sz := 2, n := r, f := lvF lo hi fm }) T.e).n none T.e).n (some { fr := false, el := e1, sz := 3, n := r, f := fm }) T.e, sc := [], orc := [] } { m := (T.e.n (some (AO.cells [AV.lit (Value.int IntKind.i64 lo), AV.lit (Value.int IntKind.i64 hi), AV.isl 0 r] 40 none)) T.e).n none (T.e.n (some (AO.cells [AV.lit (Value.int IntKind.i64 h)] 3 none)) T.e), next := 4, ro := ((T.e.n (some { fr := true, el := 0, sz := 2, n := r, f := lvF lo hi fm }) T.e).n none T.e).n (some { fr := false, el := e1, sz := 3, n := r, f := fm }) T.e, sc := [], orc := [] } ∧ EqN r r ∧ LeN r 100000 ∧ LeN r r ∧ TrOK lo hi r fm ∧ EqB false false ∧ EqB (!decide (-100000 ≤ h ∧ h ≤ 100000)) false ∧ EqB (TrB lo hi r fm) true ∧ LeN r r ∧ True) ∧ (EqI (canF lo hi r fm h 0) (avC lo hi r fm h) ∧ EqI (sureF lo hi r fm h 0) (avS lo hi r fm h) ∧ EqI 0 (avE lo hi r fm h) ∧ True) ∧ True) (by kernel_rfl) ?_)
    ((repeat' apply And.intro) <;> first | exact trivial | exact ⟨rfl⟩ | exact ⟨fun _ _ _ _ => rfl⟩ | (refine inR64 ?_ ?_ <;> omega) | (refine ⟨?_⟩; (try simp only [Int.toNat_natCast]); omega) | (refine ⟨?_, ?_⟩ <;> (try simp only [Int.toNat_natCast]) <;> omega) | (refine ⟨?_⟩; simp only [decide_eq_true_eq, decide_eq_false_iff_not]; omega) | assumption | (refine ⟨?_⟩; assumption) | exact hT | (refine ⟨?_⟩; simp only [Bool.not_eq_true', Bool.not_eq_false', decide_eq_true_eq, decide_eq_false_iff_not]; first | assumption | omega) | (refine ⟨?_⟩; first | exact v1.symm | exact v2.symm | exact v3.symm))
set_option maxRecDepth 100000 in
theorem spAv : FnSpec Tryd.prog 28 FAv := by
  refine spec_each (enter_of Tryd.func28 (by kernel_rfl) (by kernel_rfl)) fun gs0 g0 ps0 hF0 hps0 => ?_
  unfold FAv at hF0
  split at hF0 <;> try (cases hF0; done)
  rename_i lo hi e1 r fm h
  cases hF0
  classical
  refine ⟨fun gs => if gs = gV8 lo hi e1 r fm h then some (.tup [.lit (.int .i64 (avC lo hi r fm h)), .lit (.int .i64 (avS lo hi r fm h)), .lit (.int .i64 (avE lo hi r fm h))], []) else none, ?_, [], if_pos rfl, trivial⟩
  refine spec_body (tbV8_ok lo hi e1 r fm h) Tryd.func28 (by kernel_rfl) (by kernel_rfl) fun gs g ps hF' hps => ?_
  by_cases hgs : gs = gV8 lo hi e1 r fm h
  · rw [if_pos hgs] at hF'
    subst hgs
    cases hF'
    refine ⟨ldA0 (gV8 lo hi e1 r fm h), ldH0 (gV8 lo hi e1 r fm h), rfl, ⟨Nat.le_of_ble_eq_true (by kernel_rfl), Nat.le_of_ble_eq_true (by kernel_rfl)⟩, fun base E hE => ?_⟩
    exact av_all lo hi e1 r fm h
  · rw [if_neg hgs] at hF'
    cases hF'

end PartOfKav
end Go.Proofs.YtknplcpjmpmblaaDoor.GY
