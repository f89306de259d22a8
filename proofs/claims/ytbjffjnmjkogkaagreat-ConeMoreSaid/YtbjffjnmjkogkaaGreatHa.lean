import Derived.Test.YtbjffjnmjkogkaaGreatTy
import Derived.Test.YtbjffjnmjkogkaaGreatVv
import Derived.Test.YtbjffjnmjkogkaaGreatVw
import Derived.Test.YtbjffjnmjkogkaaGreatZvm
set_option linter.unusedVariables false
set_option linter.unusedSimpArgs false
namespace Go.Proofs.YtbjffjnmjkogkaaGreat.GY
open Go Go.RowKit Go.Proofs
def reps (n : Nat) (f : Nat → Nat → Int) : List Rep := (List.range n).map fun k => ⟨f k 0, f k 1, f k 2, f k 3, f k 4, f k 5, f k 6⟩
def lnks (n : Nat) (f : Nat → Nat → Int) : List Lnk := (List.range n).map fun k => ⟨f k 0, f k 1, f k 2⟩
def prts (n : Nat) (f : Nat → Nat → Int) : List Prt := (List.range n).map fun k => ⟨f k 0, f k 1, f k 2, f k 3⟩
def nums (n : Nat) (f : Nat → Nat → Int) : List Int := (List.range n).map fun k => f k 0
@[simp] theorem reps_len (n : Nat) (f : Nat → Nat → Int) : (reps n f).length = n := by simp [reps]
@[simp] theorem lnks_len (n : Nat) (f : Nat → Nat → Int) : (lnks n f).length = n := by simp [lnks]
@[simp] theorem prts_len (n : Nat) (f : Nat → Nat → Int) : (prts n f).length = n := by simp [prts]
@[simp] theorem nums_len (n : Nat) (f : Nat → Nat → Int) : (nums n f).length = n := by simp [nums]
theorem rws_of {w : World} {v : Value} {e : TypeId} {k n : Nat} {f : Nat → Nat → Int} (h : Reads1 w 0 v (.rows e k n f)) : ∃ A c, v = .slice A n c ∧ Rws w (.slice A n c) k ((List.range n).map fun i => (List.range k).map fun j => f i j) := by
  obtain ⟨A, c, rfl, h1, h2, h3⟩ := h
  refine ⟨A, c, rfl, A, c, by simp, by simpa using h1, h2, ?_⟩
  rcases Nat.eq_zero_or_pos n with h0 | h0
  · left; subst h0; rfl
  · right
    obtain ⟨b, o, hA, _, hb, hc⟩ := h3 h0
    refine ⟨b, o, hA, hb, fun i row hi j u hj => ?_⟩
    rw [List.getElem?_map] at hi
    cases hr : (List.range n)[i]? with
    | none => rw [hr] at hi; cases hi
    | some q =>
      rw [hr] at hi
      have hq := List.getElem?_eq_some_iff.1 hr
      obtain ⟨hlt, hq⟩ := hq
      rw [List.getElem_range] at hq
      subst hq
      cases hi
      rw [List.getElem?_map] at hj
      cases hr2 : (List.range k)[j]? with
      | none => rw [hr2] at hj; cases hj
      | some q2 =>
        rw [hr2] at hj
        obtain ⟨hlt2, hq2⟩ := List.getElem?_eq_some_iff.1 hr2
        rw [List.getElem_range] at hq2
        subst hq2
        cases hj
        have := hc i j (by simpa using hlt) (by simpa using hlt2)
        rw [Nat.add_assoc]
        exact this
theorem reps_of {w : World} {v : Value} {e : TypeId} {n : Nat} {f : Nat → Nat → Int} (h : Reads1 w 0 v (.rows e 7 n f)) : ∃ A c, v = .slice A (reps n f).length c ∧ Reps w (.slice A (reps n f).length c) (reps n f) := by
  obtain ⟨A, c, hv, hr⟩ := rws_of h
  refine ⟨A, c, by rw [reps_len]; exact hv, ?_⟩
  unfold Reps
  rw [reps_len]
  have : (reps n f).map repL = (List.range n).map fun i => (List.range 7).map fun j => f i j := by
    unfold reps; rw [List.map_map]; apply List.map_congr_left; intro i _; rfl
  rw [this]; exact hr
theorem lnks_of {w : World} {v : Value} {e : TypeId} {n : Nat} {f : Nat → Nat → Int} (h : Reads1 w 0 v (.rows e 3 n f)) : ∃ A c, v = .slice A (lnks n f).length c ∧ Lnks w (.slice A (lnks n f).length c) (lnks n f) := by
  obtain ⟨A, c, hv, hr⟩ := rws_of h
  refine ⟨A, c, by rw [lnks_len]; exact hv, ?_⟩
  unfold Lnks
  rw [lnks_len]
  have : (lnks n f).map lnkL = (List.range n).map fun i => (List.range 3).map fun j => f i j := by
    unfold lnks; rw [List.map_map]; apply List.map_congr_left; intro i _; rfl
  rw [this]; exact hr
theorem prts_of {w : World} {v : Value} {e : TypeId} {n : Nat} {f : Nat → Nat → Int} (h : Reads1 w 0 v (.rows e 4 n f)) : ∃ A c, v = .slice A (prts n f).length c ∧ Prts w (.slice A (prts n f).length c) (prts n f) := by
  obtain ⟨A, c, hv, hr⟩ := rws_of h
  refine ⟨A, c, by rw [prts_len]; exact hv, ?_⟩
  unfold Prts
  rw [prts_len]
  have : (prts n f).map prtL = (List.range n).map fun i => (List.range 4).map fun j => f i j := by
    unfold prts; rw [List.map_map]; apply List.map_congr_left; intro i _; rfl
  rw [this]; exact hr
theorem nums_of {w : World} {v : Value} {e : TypeId} {n : Nat} {f : Nat → Nat → Int} (h : Reads1 w 0 v (.rows e 1 n f)) : ∃ A c, v = .slice A (nums n f).length c ∧ Ints w (.slice A (nums n f).length c) (nums n f) := by
  obtain ⟨A, c, rfl, h1, h2, h3⟩ := h
  refine ⟨A, c, by rw [nums_len], A, c, rfl, by simpa using h1, h2, ?_⟩
  rcases Nat.eq_zero_or_pos n with h0 | h0
  · left; subst h0; rfl
  · right
    obtain ⟨b, o, hA, _, hb, hc⟩ := h3 h0
    refine ⟨b, o, hA, hb, fun i z hi => ?_⟩
    unfold nums at hi
    rw [List.getElem?_map] at hi
    cases hr : (List.range n)[i]? with
    | none => rw [hr] at hi; cases hi
    | some q =>
      rw [hr] at hi
      obtain ⟨hlt, hq⟩ := List.getElem?_eq_some_iff.1 hr
      rw [List.getElem_range] at hq
      subst hq
      cases hi
      have := hc i 0 (by simpa using hlt) (by omega)
      simpa using this
noncomputable def szq (s k n : Nat) : List Prop := match Nat.beq s k with
  | true => []
  | false => [EqN n 0]
theorem szq_ok {w : World} {lo : Nat} {v : Value} {e : TypeId} {s k n : Nat} {f : Nat → Nat → Int} (h : All (szq s k n)) (hr : Reads1 w lo v (.rows e s n f)) : Reads1 w lo v (.rows e k n f) := by
  unfold szq at h
  split at h
  · rename_i hb; obtain rfl := Nat.eq_of_beq_eq_true hb; exact hr
  · obtain ⟨⟨rfl⟩, _⟩ := h
    obtain ⟨A, c, h1, h2, h3, _⟩ := hr
    exact ⟨A, c, h1, h2, h3, fun h => absurd h (by omega)⟩
theorem watch_of {w : World} {v : Value} {n fall win hold dawn dusk : Int} {e1 e2 e3 : TypeId} {s1 s2 s3 r l p : Nat} {fr fl fp : Nat → Nat → Int} (hs : All (szq s1 7 r ++ (szq s2 3 l ++ szq s3 4 p)))
    (h : ReadsA w 0 v (.agg [.lit (.int .i64 n), .rows e1 s1 r fr, .rows e2 s2 l fl, .rows e3 s3 p fp, .lit (.int .i64 fall), .lit (.int .i64 win), .lit (.int .i64 hold), .lit (.int .i64 dawn), .lit (.int .i64 dusk)])) :
    ∃ A1 c1 A2 c2 A3 c3, v = wtV ⟨n, fall, win, hold, dawn, dusk⟩ (.slice A1 (reps r fr).length c1) (.slice A2 (lnks l fl).length c2) (.slice A3 (prts p fp).length c3) ∧ Reps w (.slice A1 (reps r fr).length c1) (reps r fr) ∧ Lnks w (.slice A2 (lnks l fl).length c2) (lnks l fl) ∧ Prts w (.slice A3 (prts p fp).length c3) (prts p fp) := by
  obtain ⟨vs, rfl, hv⟩ := h
  match vs, hv with
  | [v0, v1, v2, v3, v4, v5, v6, v7, v8], hv =>
    obtain ⟨h0, h1, h2, h3, h4, h5, h6, h7, h8, _⟩ := hv
    obtain ⟨q1, q2⟩ := All.append.1 hs
    obtain ⟨q2, q3⟩ := All.append.1 q2
    obtain ⟨A1, c1, rfl, r1⟩ := reps_of (e := e1) (szq_ok (e := e1) q1 h1)
    obtain ⟨A2, c2, rfl, r2⟩ := lnks_of (e := e2) (szq_ok (e := e2) q2 h2)
    obtain ⟨A3, c3, rfl, r3⟩ := prts_of (e := e3) (szq_ok (e := e3) q3 h3)
    simp only [Reads1] at h0 h4 h5 h6 h7 h8
    subst h0; subst h4; subst h5; subst h6; subst h7; subst h8
    exact ⟨A1, c1, A2, c2, A3, c3, rfl, r1, r2, r3⟩
noncomputable def FKn : GSpec := fun gs => match gs with
  | [] => some (.lit (.bool true), [])
  | _ => none
theorem spKn : FnSpec Tryz.prog 18 FKn := by
  refine ⟨enter_of Tryz.func18 (by kernel_rfl) (by kernel_rfl), fun w vs gs g ps hv hF hps => ?_⟩
  unfold FKn at hF
  split at hF <;> try (cases hF; done)
  cases hF
  match vs, hv with
  | [], _ => exact (GX.known_true w).mono fun e w' ⟨he, hb⟩ => ⟨_, he, rfl, hb⟩
noncomputable def FSh : GSpec := fun gs => match gs with
  | [.agg [.lit (.int .i64 n), .rows e1 s1 r fr, .rows e2 s2 l fl, .rows e3 s3 p fp, .lit (.int .i64 fall), .lit (.int .i64 win), .lit (.int .i64 hold), .lit (.int .i64 dawn), .lit (.int .i64 dusk)]] => some (.sb (decide (r ≤ 12) && decide (l ≤ 12) && decide (p ≤ 8)), szq s1 7 r ++ (szq s2 3 l ++ szq s3 4 p))
  | _ => none
theorem spSh : FnSpec Tryz.prog 17 FSh := by
  refine ⟨enter_of Tryz.func17 (by kernel_rfl) (by kernel_rfl), fun w vs gs g ps hv hF hps => ?_⟩
  unfold FSh at hF
  split at hF <;> try (cases hF; done)
  cases hF
  match vs, hv with
  | [v0], hv =>
    obtain ⟨h0, _⟩ := hv
    obtain ⟨A1, c1, A2, c2, A3, c3, rfl, r1, r2, r3⟩ := watch_of hps h0
    refine (short_any _ A1 A2 A3 _ _ _ c1 c2 c3 w).mono fun e w' ⟨he, hb⟩ => ⟨_, he, ?_, hb⟩
    simp [Reads, ReadsA, Reads1]
noncomputable def FWa : GSpec := fun gs => match gs with
  | [.agg [.lit (.int .i64 n), .rows e1 s1 r fr, .rows e2 s2 l fl, .rows e3 s3 p fp, .lit (.int .i64 fall), .lit (.int .i64 win), .lit (.int .i64 hold), .lit (.int .i64 dawn), .lit (.int .i64 dusk)]] => some (.sb (watchB ⟨n, fall, win, hold, dawn, dusk⟩ (reps r fr) (lnks l fl) (prts p fp)), szq s1 7 r ++ (szq s2 3 l ++ szq s3 4 p))
  | _ => none
theorem spWa : FnSpec Tryz.prog 21 FWa := by
  refine ⟨enter_of Tryz.func21 (by kernel_rfl) (by kernel_rfl), fun w vs gs g ps hv hF hps => ?_⟩
  unfold FWa at hF
  split at hF <;> try (cases hF; done)
  cases hF
  match vs, hv with
  | [v0], hv =>
    obtain ⟨h0, _⟩ := hv
    obtain ⟨A1, c1, A2, c2, A3, c3, rfl, r1, r2, r3⟩ := watch_of hps h0
    exact (rWatch_any _ A1 A2 A3 _ _ _ c1 c2 c3 w r1 r2 r3).mono fun e w' ⟨he, hb⟩ => ⟨_, he, rfl, hb⟩
noncomputable def FDe : GSpec := fun gs => match gs with
  | [.agg [.lit (.int .i64 n), .rows e1 s1 r fr, .rows e2 s2 l fl, .rows e3 s3 p fp, .lit (.int .i64 fall), .lit (.int .i64 win), .lit (.int .i64 hold), .lit (.int .i64 dawn), .lit (.int .i64 dusk)], .rows e4 s4 d z] => some (.sb (delB (reps r fr) (nums d z)), LeN r 1000 :: LeN d 1000 :: (szq s4 1 d ++ (szq s1 7 r ++ (szq s2 3 l ++ szq s3 4 p))))
  | _ => none
theorem spDe : FnSpec Tryz.prog 25 FDe := by
  refine ⟨enter_of Tryz.func25 (by kernel_rfl) (by kernel_rfl), fun w vs gs g ps hv hF hps => ?_⟩
  unfold FDe at hF
  split at hF <;> try (cases hF; done)
  cases hF
  obtain ⟨⟨q1⟩, ⟨q2⟩, hps⟩ := hps
  obtain ⟨hz0, hps⟩ := All.append.1 hps
  match vs, hv with
  | [v0, v1], hv =>
    obtain ⟨h0, h1, _⟩ := hv
    obtain ⟨A1, c1, A2, c2, A3, c3, rfl, r1, r2, r3⟩ := watch_of hps h0
    obtain ⟨E, ec, rfl, hz⟩ := nums_of (e := 0) (szq_ok (e := 0) hz0 h1)
    exact (rDelays_any _ A1 A2 A3 _ _ c1 c2 _ c3 E ec _ w r1 hz (by simpa using q1) (by simpa using q2)).mono fun e w' ⟨he, hb⟩ => ⟨_, he, rfl, hb⟩
noncomputable def FPl : GSpec := fun gs => match gs with
  | [.agg [.lit (.int .i64 n), .rows e1 s1 r fr, .rows e2 s2 l fl, .rows e3 s3 p fp, .lit (.int .i64 fall), .lit (.int .i64 win), .lit (.int .i64 hold), .lit (.int .i64 dawn), .lit (.int .i64 dusk)], .rows e4 s4 d z] => some (.tup [.lit (.int .i64 (playP ⟨n, fall, win, hold, dawn, dusk⟩ (reps r fr) (lnks l fl) (prts p fp) (nums d z)).1), .lit (.int .i64 (playP ⟨n, fall, win, hold, dawn, dusk⟩ (reps r fr) (lnks l fl) (prts p fp) (nums d z)).2)], szq s4 1 d ++ (szq s1 7 r ++ (szq s2 3 l ++ szq s3 4 p)))
  | _ => none
theorem spPl : FnSpec Tryz.prog 24 FPl := by
  refine ⟨enter_of Tryz.func24 (by kernel_rfl) (by kernel_rfl), fun w vs gs g ps hv hF hps => ?_⟩
  unfold FPl at hF
  split at hF <;> try (cases hF; done)
  cases hF
  obtain ⟨hz0, hps⟩ := All.append.1 hps
  match vs, hv with
  | [v0, v1], hv =>
    obtain ⟨h0, h1, _⟩ := hv
    obtain ⟨A1, c1, A2, c2, A3, c3, rfl, r1, r2, r3⟩ := watch_of hps h0
    obtain ⟨E, ec, rfl, hz⟩ := nums_of (e := 0) (szq_ok (e := 0) hz0 h1)
    exact (play_any _ A1 A2 A3 _ _ _ c1 c2 c3 E ec _ w r1 r2 r3 hz).mono fun e w' ⟨he, hb⟩ => ⟨_, he, ⟨[_, _], rfl, rfl, rfl, trivial⟩, hb⟩
end Go.Proofs.YtbjffjnmjkogkaaGreat.GY
