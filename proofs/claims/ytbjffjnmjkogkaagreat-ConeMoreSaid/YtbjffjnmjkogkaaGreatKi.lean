import Derived.Test.YtbjffjnmjkogkaaGreatHa
set_option linter.unusedVariables false
set_option linter.unusedSimpArgs false
namespace Go.Proofs.YtbjffjnmjkogkaaGreat.GY
open Go Go.RowKit Go.Proofs
theorem rows_of {w : World} {A : Option Addr} {n c k : Nat} {rows : List (List Int)} (h : Rws w (.slice A n c) k rows) (hn : rows.length = n) (hk : ∀ row ∈ rows, row.length = k) : Reads1 w 0 (.slice A n c) (.rows 0 k n fun i j => (rows.getD i []).getD j 0) := by
  obtain ⟨A', cap, hv, hl, hm, hc⟩ := h
  cases hv
  refine ⟨_, _, rfl, by omega, hm, fun h0 => ?_⟩
  rcases hc with rfl | ⟨b, off, rfl, hb, hc⟩
  · simp at h0
  · refine ⟨b, off, rfl, Nat.zero_le _, hb, fun i j hi hj => ?_⟩
    have h1 : rows[i]? = some (rows.getD i []) := by
      rw [List.getD_eq_getElem?_getD, List.getElem?_eq_getElem (by omega)]; rfl
    have h2 := hk _ (List.mem_of_getElem? h1)
    show w.cell? ⟨b, off + (i * k + j), none⟩ = some (.int .i64 ((rows.getD i []).getD j 0))
    generalize rows.getD i [] = row at h1 h2 ⊢
    have h3 : row[j]? = some (row.getD j 0) := by
      rw [List.getD_eq_getElem?_getD, List.getElem?_eq_getElem (by omega)]; rfl
    have := hc i _ h1 j _ h3
    rw [← Nat.add_assoc]
    exact this
theorem reps_in {w : World} {A : Option Addr} {c : Nat} {rs : List Rep} (h : Reps w (.slice A rs.length c) rs) : Reads1 w 0 (.slice A rs.length c) (.rows 0 7 rs.length fun i j => ((rs.map repL).getD i []).getD j 0) :=
  rows_of h (by simp) (fun row hr => by obtain ⟨x, _, rfl⟩ := List.mem_map.1 hr; rfl)
theorem lnks_in {w : World} {A : Option Addr} {c : Nat} {rs : List Lnk} (h : Lnks w (.slice A rs.length c) rs) : Reads1 w 0 (.slice A rs.length c) (.rows 0 3 rs.length fun i j => ((rs.map lnkL).getD i []).getD j 0) :=
  rows_of h (by simp) (fun row hr => by obtain ⟨x, _, rfl⟩ := List.mem_map.1 hr; rfl)
theorem prts_in {w : World} {A : Option Addr} {c : Nat} {rs : List Prt} (h : Prts w (.slice A rs.length c) rs) : Reads1 w 0 (.slice A rs.length c) (.rows 0 4 rs.length fun i j => ((rs.map prtL).getD i []).getD j 0) :=
  rows_of h (by simp) (fun row hr => by obtain ⟨x, _, rfl⟩ := List.mem_map.1 hr; rfl)
theorem nums_in {w : World} {A : Option Addr} {c : Nat} {zs : List Int} (h : Ints w (.slice A zs.length c) zs) : Reads1 w 0 (.slice A zs.length c) (.rows 0 1 zs.length fun i j => zs.getD i 0) := by
  obtain ⟨A', cap, hv, hl, hm, hc⟩ := h
  cases hv
  refine ⟨_, _, rfl, by omega, hm, fun h0 => ?_⟩
  rcases hc with rfl | ⟨b, off, rfl, hb, hc⟩
  · simp at h0
  · refine ⟨b, off, rfl, Nat.zero_le _, hb, fun i j hi hj => ?_⟩
    obtain rfl : j = 0 := by omega
    have h1 : zs[i]? = some (zs.getD i 0) := by
      rw [List.getD_eq_getElem?_getD, List.getElem?_eq_getElem (by omega)]; rfl
    have := hc i _ h1
    rw [Nat.mul_one, Nat.add_zero]
    exact this
noncomputable def wtG (m : Wn) (rs : List Rep) (ls : List Lnk) (ps : List Prt) : GV := .agg [.lit (.int .i64 m.n), .rows 0 7 rs.length fun i j => ((rs.map repL).getD i []).getD j 0, .rows 0 3 ls.length fun i j => ((ls.map lnkL).getD i []).getD j 0, .rows 0 4 ps.length fun i j => ((ps.map prtL).getD i []).getD j 0, .lit (.int .i64 m.fall), .lit (.int .i64 m.win), .lit (.int .i64 m.hold), .lit (.int .i64 m.dawn), .lit (.int .i64 m.dusk)]
theorem watch_in {m : Wn} {A1 A2 A3 : Option Addr} {rs : List Rep} {ls : List Lnk} {ps : List Prt} {c1 c2 c3 : Nat} {w : World} (h1 : Reps w (.slice A1 rs.length c1) rs) (h2 : Lnks w (.slice A2 ls.length c2) ls) (h3 : Prts w (.slice A3 ps.length c3) ps) :
    ReadsA w 0 (wtV m (.slice A1 rs.length c1) (.slice A2 ls.length c2) (.slice A3 ps.length c3)) (wtG m rs ls ps) :=
  ⟨[_, _, _, _, _, _, _, _, _], rfl, rfl, reps_in h1, lnks_in h2, prts_in h3, rfl, rfl, rfl, rfl, rfl, trivial⟩
noncomputable def repG (s : Rep) : GV := .agg [.lit (.int .i64 s.st), .lit (.int .i64 s.tk), .lit (.int .i64 s.pr), .lit (.int .i64 s.dlo), .lit (.int .i64 s.dhi), .lit (.int .i64 s.ur), .lit (.int .i64 s.co)]
theorem rep_in (s : Rep) (w : World) : ReadsA w 0 (repV s) (repG s) := ⟨[_, _, _, _, _, _, _], rfl, rfl, rfl, rfl, rfl, rfl, rfl, rfl, trivial⟩
theorem law_of {P : Program} {f : FuncId} {F : GSpec} (hs : FnSpec P f F) {w : World} {vs : List Value} {gs : List GV} (hv : All2 (ReadsA w 0) vs gs) {ps : List Prop} (hF : F gs = some (.lit (.bool true), ps)) (hp : All ps) :
    Calls P f vs.toArray w fun e w' => e = .returned (.bool true) ∧ Below w.heap.size w w' :=
  (hs.2 w vs gs _ _ hv hF hp).mono fun e w' ⟨v, he, hr, hb⟩ => ⟨by rw [he]; have : v = .bool true := hr; rw [this], hb⟩
end Go.Proofs.YtbjffjnmjkogkaaGreat.GY
