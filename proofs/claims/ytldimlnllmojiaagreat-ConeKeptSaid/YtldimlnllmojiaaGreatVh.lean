/- Part of a claim on cone. -/
import Derived.Test.YtldimlnllmojiaaGreatVg
import Derived.Deep.DeepCutAuto
import Derived.Deep.Cut
import Derived.LoopTactic
set_option linter.unusedVariables false
set_option linter.unusedSimpArgs false
namespace Go.Proofs.YtldimlnllmojiaaGreat
open Go.RowKit
def RwsAt (w : World) (b off k : Nat) (rs : List (List Int)) : Prop :=
  ∀ i row, rs[i]? = some row → ∀ (j : Nat) v, row[j]? = some v → w.cell? ⟨b, off + i * k + j, none⟩ = some (.int .i64 v)
def Rws (w : World) (V : Value) (k : Nat) (rs : List (List Int)) : Prop :=
  ∃ A cap, V = .slice A rs.length cap ∧ rs.length ≤ cap ∧ cap ≤ maxLen ∧ (rs = [] ∨ ∃ b off, A = some ⟨b, off, none⟩ ∧ b < w.heap.size ∧ RwsAt w b off k rs)
theorem Rws.below {w w' : World} {B k : Nat} {V : Value} {rs : List (List Int)} (h : Rws w V k rs) (hb : Below B w w') (hB : w.heap.size ≤ B) : Rws w' V k rs := by
  obtain ⟨A, cap, hv, hl, hm, h⟩ := h
  refine ⟨A, cap, hv, hl, hm, ?_⟩
  rcases h with h | ⟨b, off, hA, hlt, hc⟩
  · exact .inl h
  · exact .inr ⟨b, off, hA, Nat.lt_of_lt_of_le hlt hb.size, fun i row hi j v hj => (hb.cell (p := ⟨b, _, none⟩) (by show b < B; omega)).trans (hc i row hi j v hj)⟩
theorem rws_cells {w : World} {A : Option Addr} {c k n : Nat} {rs : List (List Int)} (h : Rws w (.slice A n c) k rs) {j : Nat} {row : List Int} (hx : rs[j]? = some row) :
    ∃ b off, A = some ⟨b, off, none⟩ ∧ n ≤ c ∧ c ≤ maxLen ∧ ∀ (i : Nat) v, row[i]? = some v → w.cell? ⟨b, off + j * k + i, none⟩ = some (.int .i64 v) := by
  obtain ⟨A', cap, hv, hl, hm, h⟩ := h
  obtain ⟨rfl, rfl, rfl⟩ : A = A' ∧ n = rs.length ∧ c = cap := by simpa using hv
  rcases h with rfl | ⟨b, off, hA, hlt, hc⟩
  · simp at hx
  · exact ⟨b, off, hA, hl, hm, fun i v hi => hc j row hx i v hi⟩
def repL (x : Rep) : List Int := [x.st, x.tk, x.pr, x.dlo, x.dhi, x.ur, x.co]
def Reps (w : World) (V : Value) (rs : List Rep) : Prop := Rws w V 7 (rs.map repL)
theorem rep_cells {w : World} {A : Option Addr} {c : Nat} {rs : List Rep} {j : Nat} {x : Rep} (h : Reps w (.slice A rs.length c) rs) (hx : rs[j]? = some x) :
    ∃ b off, A = some ⟨b, off, none⟩ ∧ rs.length ≤ c ∧ c ≤ maxLen ∧ w.cell? ⟨b, off + j * 7, none⟩ = some (.int .i64 x.st) ∧ w.cell? ⟨b, off + j * 7 + 1, none⟩ = some (.int .i64 x.tk) ∧ w.cell? ⟨b, off + j * 7 + 2, none⟩ = some (.int .i64 x.pr) ∧ w.cell? ⟨b, off + j * 7 + 3, none⟩ = some (.int .i64 x.dlo) ∧ w.cell? ⟨b, off + j * 7 + 4, none⟩ = some (.int .i64 x.dhi) ∧ w.cell? ⟨b, off + j * 7 + 5, none⟩ = some (.int .i64 x.ur) ∧ w.cell? ⟨b, off + j * 7 + 6, none⟩ = some (.int .i64 x.co) := by
  obtain ⟨b, off, hA, h1, h2, hc⟩ := rws_cells h (j := j) (row := repL x) (by rw [List.getElem?_map, hx]; rfl)
  exact ⟨b, off, hA, h1, h2, hc 0 _ rfl, hc 1 _ rfl, hc 2 _ rfl, hc 3 _ rfl, hc 4 _ rfl, hc 5 _ rfl, hc 6 _ rfl⟩
@[reducible] def repBox (x : Rep) : Obj := .cells #[.int .i64 x.st, .int .i64 x.tk, .int .i64 x.pr, .int .i64 x.dlo, .int .i64 x.dhi, .int .i64 x.ur, .int .i64 x.co] 77
def lnkL (x : Lnk) : List Int := [x.a, x.b, x.df]
def Lnks (w : World) (V : Value) (rs : List Lnk) : Prop := Rws w V 3 (rs.map lnkL)
theorem lnk_cells {w : World} {A : Option Addr} {c : Nat} {rs : List Lnk} {j : Nat} {x : Lnk} (h : Lnks w (.slice A rs.length c) rs) (hx : rs[j]? = some x) :
    ∃ b off, A = some ⟨b, off, none⟩ ∧ rs.length ≤ c ∧ c ≤ maxLen ∧ w.cell? ⟨b, off + j * 3, none⟩ = some (.int .i64 x.a) ∧ w.cell? ⟨b, off + j * 3 + 1, none⟩ = some (.int .i64 x.b) ∧ w.cell? ⟨b, off + j * 3 + 2, none⟩ = some (.int .i64 x.df) := by
  obtain ⟨b, off, hA, h1, h2, hc⟩ := rws_cells h (j := j) (row := lnkL x) (by rw [List.getElem?_map, hx]; rfl)
  exact ⟨b, off, hA, h1, h2, hc 0 _ rfl, hc 1 _ rfl, hc 2 _ rfl⟩
@[reducible] def lnkBox (x : Lnk) : Obj := .cells #[.int .i64 x.a, .int .i64 x.b, .int .i64 x.df] 80
def prtL (x : Prt) : List Int := [x.olo, x.ohi, x.dy, x.nt]
def Prts (w : World) (V : Value) (rs : List Prt) : Prop := Rws w V 4 (rs.map prtL)
theorem prt_cells {w : World} {A : Option Addr} {c : Nat} {rs : List Prt} {j : Nat} {x : Prt} (h : Prts w (.slice A rs.length c) rs) (hx : rs[j]? = some x) :
    ∃ b off, A = some ⟨b, off, none⟩ ∧ rs.length ≤ c ∧ c ≤ maxLen ∧ w.cell? ⟨b, off + j * 4, none⟩ = some (.int .i64 x.olo) ∧ w.cell? ⟨b, off + j * 4 + 1, none⟩ = some (.int .i64 x.ohi) ∧ w.cell? ⟨b, off + j * 4 + 2, none⟩ = some (.int .i64 x.dy) ∧ w.cell? ⟨b, off + j * 4 + 3, none⟩ = some (.int .i64 x.nt) := by
  obtain ⟨b, off, hA, h1, h2, hc⟩ := rws_cells h (j := j) (row := prtL x) (by rw [List.getElem?_map, hx]; rfl)
  exact ⟨b, off, hA, h1, h2, hc 0 _ rfl, hc 1 _ rfl, hc 2 _ rfl, hc 3 _ rfl⟩
@[reducible] def prtBox (x : Prt) : Obj := .cells #[.int .i64 x.olo, .int .i64 x.ohi, .int .i64 x.dy, .int .i64 x.nt] 58
def watchB (m : Wn) (rs : List Rep) (ls : List Lnk) (ps : List Prt) : Bool := ruleB m rs.length ls.length ps.length && rs.all (fun x => repB x m.n) && ls.all (fun x => lnkB x m.n) && ps.all prtB
set_option maxHeartbeats 4000000 in
set_option maxRecDepth 100000 in
theorem soundWatch_any (m : Wn) (A1 A2 A3 : Option Addr) (rs : List Rep) (ls : List Lnk) (ps : List Prt) (c1 c2 c3 : Nat) (w : World) (h1 : Reps w (.slice A1 rs.length c1) rs) (h2 : Lnks w (.slice A2 ls.length c2) ls) (h3 : Prts w (.slice A3 ps.length c3) ps) :
    Calls Tryz.prog 56 #[wtV m (.slice A1 rs.length c1) (.slice A2 ls.length c2) (.slice A3 ps.length c3)] w fun e w' => e = .returned (.bool (watchB m rs ls ps)) ∧ Below w.heap.size w w' := by
  have HC1 := Lib.hid h1
  have HC2 := Lib.hid h2
  have HC3 := Lib.hid h3
  clear h1 h2 h3
  have HR := Lib.hid ((Frm.nil w).add (.cells #[.int .i64 m.n, .slice A1 rs.length c1, .slice A2 ls.length c2, .slice A3 ps.length c3, .int .i64 m.fall, .int .i64 m.win, .int .i64 m.hold, .int .i64 m.dawn, .int .i64 m.dusk] 26) rfl)
  have x0 := HR.out.cells mZ
  cases q1 : ruleB m rs.length ls.length ps.length
  · have HB := Lib.hid (show watchB m rs ls ps = false by simp [watchB, q1])
    rw [HB.out]
    go_enter Tryz.func56, Tryz.ntmps56
    go_wp2_with (go_at_call 82; refine (soundRule_any _ _ _ _ _ _ _ _ _ _ _).mono ?_; rintro e wa ⟨rfl, hba⟩; have HRq := Lib.hid (Frm.below (w := w) (by (repeat (with_reducible first | exact HR.out | apply Frm.drew | apply Frm.alloc | apply Frm.drewN))) hba); clear HR x0; have HR := HRq; clear HRq; have x0 := HR.out.cells mZ)
    go_ret
    exact ⟨rfl, HR.out.b⟩
  have hm : 1 ≤ m.n ∧ m.n ≤ 6 := by
    simp only [ruleB, Bool.and_eq_true, betw, decide_eq_true_eq] at q1
    omega
  have HB := Lib.hid (show watchB m rs ls ps = (rs.all (fun x => repB x m.n) && ls.all (fun x => lnkB x m.n) && ps.all prtB) by simp [watchB, q1])
  rw [HB.out]
  go_enter Tryz.func56, Tryz.ntmps56
  go_wp2_with (go_at_call 82; refine (soundRule_any _ _ _ _ _ _ _ _ _ _ _).mono ?_; rintro e wa ⟨rfl, hba⟩; have HRq := Lib.hid (Frm.below (w := w) (by (repeat (with_reducible first | exact HR.out | apply Frm.drew | apply Frm.alloc | apply Frm.drewN))) hba); clear HR x0; have HR := HRq; clear HRq; have x0 := HR.out.cells mZ)
  go_loopw [4, 15] (fun _ i wr => ∃ n : Nat, n ≤ rs.length ∧ i = .int .i64 n ∧ (rs.take n).all (fun x => repB x m.n) = true ∧ Frm w [(w.heap.size, (.cells #[.int .i64 m.n, .slice A1 rs.length c1, .slice A2 ls.length c2, .slice A3 ps.length c3, .int .i64 m.fall, .int .i64 m.win, .int .i64 m.hold, .int .i64 m.dawn, .int .i64 m.dusk] 26))] wr) (fun _ i _ => rs.length - (intOf i).toNat)
  case atStart => exact ⟨0, Nat.zero_le _, rfl, by simp, (by (repeat (with_reducible first | exact HR.out | apply Frm.drew | apply Frm.alloc | apply Frm.drewN)))⟩
  case round =>
    obtain ⟨n, hn, rfl, hall, hF⟩ := hrel
    clear HR x0
    have HR := Lib.hid hF
    have HA := Lib.hid hall
    have HC := Lib.hid (HC1.out.below HR.out.b (Nat.le_refl _))
    clear hF hall
    have x0 := HR.out.cells mZ
    by_cases hnl : n < rs.length
    · obtain ⟨x, hx⟩ : ∃ x, rs[n]? = some x := ⟨_, List.getElem?_eq_getElem hnl⟩
      obtain ⟨b, off, hA, hcap, hmx, c00, c10, c20, c30, c40, c50, c60⟩ := rep_cells HC.out hx
      unfold maxLen at hmx
      subst hA
      have HX := Lib.hid hx
      clear hx HC
      go_upto_region 6 with fail
      have HRq := Lib.hid (HR.out.add (repBox x) rfl)
      clear HR x0 c00 c10 c20 c30 c40 c50 c60
      have HR := HRq
      clear HRq
      have x0 := HR.out.cells mZ
      have x1 := HR.out.cells (mS mZ)
      cases g1 : repB x m.n
      · have HN := Lib.hid (show (rs.all (fun x => repB x m.n) && ls.all (fun x => lnkB x m.n) && ps.all prtB) = false by have : rs.all (fun x => repB x m.n) = false := (by rw [List.all_eq_false]; exact ⟨x, List.mem_of_getElem? HX.out, by simp [g1]⟩); simp [this])
        go_wp2_with (go_at_call 83; refine (soundReport_any _ _ _ (by omega) (by omega)).mono ?_; rintro e wa ⟨rfl, hba⟩; have HRq := Lib.hid (Frm.below (w := w) (by (repeat (with_reducible first | exact HR.out | apply Frm.drew | apply Frm.alloc | apply Frm.drewN))) hba); clear HR; have HR := HRq; clear HRq)
        go_ret
        exact ⟨ret_bool HN.out.symm, HR.out.b⟩
      have HN := Lib.hid (show (rs.take (n + 1)).all (fun x => repB x m.n) = true by rw [List.take_add_one, HX.out]; simp only [List.all_append, HA.out, Option.toList, List.all_cons, List.all_nil, Bool.and_true, Bool.true_and]; exact g1)
      go_wp2_with (go_at_call 83; refine (soundReport_any _ _ _ (by omega) (by omega)).mono ?_; rintro e wa ⟨rfl, hba⟩; have HRq := Lib.hid (Frm.below (w := w) (by (repeat (with_reducible first | exact HR.out | apply Frm.drew | apply Frm.alloc | apply Frm.drewN))) hba); clear HR; have HR := HRq; clear HRq)
      go_roundw
      case rel => exact ⟨n + 1, by omega, by go_num, HN.out, Frm.less (by (repeat (with_reducible first | exact HR.out | apply Frm.drew | apply Frm.alloc | apply Frm.drewN))) (fun p hp => by simp only [List.mem_cons, List.not_mem_nil, or_false] at hp; subst hp; simp)⟩
      case measure => simp [intOf]; omega
    · obtain rfl : n = rs.length := by omega
      have HT0 := Lib.hid (show rs.all (fun x => repB x m.n) = true by have := HA.out; rwa [List.take_length] at this)
      clear HA HC
      go_wp2_with fail
      go_loopw [6, 28] (fun _ i wr => ∃ n : Nat, n ≤ ls.length ∧ i = .int .i64 n ∧ (ls.take n).all (fun x => lnkB x m.n) = true ∧ Frm w [(w.heap.size, (.cells #[.int .i64 m.n, .slice A1 rs.length c1, .slice A2 ls.length c2, .slice A3 ps.length c3, .int .i64 m.fall, .int .i64 m.win, .int .i64 m.hold, .int .i64 m.dawn, .int .i64 m.dusk] 26))] wr) (fun _ i _ => ls.length - (intOf i).toNat)
      case atStart => exact ⟨0, Nat.zero_le _, rfl, by simp, (by (repeat (with_reducible first | exact HR.out | apply Frm.drew | apply Frm.alloc | apply Frm.drewN)))⟩
      case round =>
        obtain ⟨n, hn, rfl, hall, hF⟩ := hrel
        clear HR x0
        have HR := Lib.hid hF
        have HA := Lib.hid hall
        have HC := Lib.hid (HC2.out.below HR.out.b (Nat.le_refl _))
        clear hF hall
        have x0 := HR.out.cells mZ
        by_cases hnl : n < ls.length
        · obtain ⟨x, hx⟩ : ∃ x, ls[n]? = some x := ⟨_, List.getElem?_eq_getElem hnl⟩
          obtain ⟨b, off, hA, hcap, hmx, c00, c10, c20⟩ := lnk_cells HC.out hx
          unfold maxLen at hmx
          subst hA
          have HX := Lib.hid hx
          clear hx HC
          go_upto_region 12 with fail
          have HRq := Lib.hid (HR.out.add (lnkBox x) rfl)
          clear HR x0 c00 c10 c20
          have HR := HRq
          clear HRq
          have x0 := HR.out.cells mZ
          have x1 := HR.out.cells (mS mZ)
          cases g1 : lnkB x m.n
          · have HN := Lib.hid (show (rs.all (fun x => repB x m.n) && ls.all (fun x => lnkB x m.n) && ps.all prtB) = false by have : ls.all (fun x => lnkB x m.n) = false := (by rw [List.all_eq_false]; exact ⟨x, List.mem_of_getElem? HX.out, by simp [g1]⟩); simp only [this, Bool.and_false, Bool.false_and])
            go_wp2_with (go_at_call 84; refine (soundLink_any _ _ _ (by omega) (by omega)).mono ?_; rintro e wa ⟨rfl, hba⟩; have HRq := Lib.hid (Frm.below (w := w) (by (repeat (with_reducible first | exact HR.out | apply Frm.drew | apply Frm.alloc | apply Frm.drewN))) hba); clear HR; have HR := HRq; clear HRq)
            go_ret
            exact ⟨ret_bool HN.out.symm, HR.out.b⟩
          have HN := Lib.hid (show (ls.take (n + 1)).all (fun x => lnkB x m.n) = true by rw [List.take_add_one, HX.out]; simp only [List.all_append, HA.out, Option.toList, List.all_cons, List.all_nil, Bool.and_true, Bool.true_and]; exact g1)
          go_wp2_with (go_at_call 84; refine (soundLink_any _ _ _ (by omega) (by omega)).mono ?_; rintro e wa ⟨rfl, hba⟩; have HRq := Lib.hid (Frm.below (w := w) (by (repeat (with_reducible first | exact HR.out | apply Frm.drew | apply Frm.alloc | apply Frm.drewN))) hba); clear HR; have HR := HRq; clear HRq)
          go_roundw
          case rel => exact ⟨n + 1, by omega, by go_num, HN.out, Frm.less (by (repeat (with_reducible first | exact HR.out | apply Frm.drew | apply Frm.alloc | apply Frm.drewN))) (fun p hp => by simp only [List.mem_cons, List.not_mem_nil, or_false] at hp; subst hp; simp)⟩
          case measure => simp [intOf]; omega
        · obtain rfl : n = ls.length := by omega
          have HT1 := Lib.hid (show ls.all (fun x => lnkB x m.n) = true by have := HA.out; rwa [List.take_length] at this)
          clear HA HC
          go_wp2_with fail
          go_loopw [8, 41] (fun _ i wr => ∃ n : Nat, n ≤ ps.length ∧ i = .int .i64 n ∧ (ps.take n).all prtB = true ∧ Frm w [(w.heap.size, (.cells #[.int .i64 m.n, .slice A1 rs.length c1, .slice A2 ls.length c2, .slice A3 ps.length c3, .int .i64 m.fall, .int .i64 m.win, .int .i64 m.hold, .int .i64 m.dawn, .int .i64 m.dusk] 26))] wr) (fun _ i _ => ps.length - (intOf i).toNat)
          case atStart => exact ⟨0, Nat.zero_le _, rfl, by simp, (by (repeat (with_reducible first | exact HR.out | apply Frm.drew | apply Frm.alloc | apply Frm.drewN)))⟩
          case round =>
            obtain ⟨n, hn, rfl, hall, hF⟩ := hrel
            clear HR x0
            have HR := Lib.hid hF
            have HA := Lib.hid hall
            have HC := Lib.hid (HC3.out.below HR.out.b (Nat.le_refl _))
            clear hF hall
            have x0 := HR.out.cells mZ
            by_cases hnl : n < ps.length
            · obtain ⟨x, hx⟩ : ∃ x, ps[n]? = some x := ⟨_, List.getElem?_eq_getElem hnl⟩
              obtain ⟨b, off, hA, hcap, hmx, c00, c10, c20, c30⟩ := prt_cells HC.out hx
              unfold maxLen at hmx
              subst hA
              have HX := Lib.hid hx
              clear hx HC
              go_upto_region 18 with fail
              have HRq := Lib.hid (HR.out.add (prtBox x) rfl)
              clear HR x0 c00 c10 c20 c30
              have HR := HRq
              clear HRq
              have x0 := HR.out.cells mZ
              have x1 := HR.out.cells (mS mZ)
              cases g1 : prtB x
              · have HN := Lib.hid (show (rs.all (fun x => repB x m.n) && ls.all (fun x => lnkB x m.n) && ps.all prtB) = false by have : ps.all prtB = false := (by rw [List.all_eq_false]; exact ⟨x, List.mem_of_getElem? HX.out, by simp [g1]⟩); simp only [this, Bool.and_false])
                go_wp2_with (go_at_call 85; refine (soundSignal_any _ _).mono ?_; rintro e wa ⟨rfl, hba⟩; have HRq := Lib.hid (Frm.below (w := w) (by (repeat (with_reducible first | exact HR.out | apply Frm.drew | apply Frm.alloc | apply Frm.drewN))) hba); clear HR; have HR := HRq; clear HRq)
                go_ret
                exact ⟨ret_bool HN.out.symm, HR.out.b⟩
              have HN := Lib.hid (show (ps.take (n + 1)).all prtB = true by rw [List.take_add_one, HX.out]; simp only [List.all_append, HA.out, Option.toList, List.all_cons, List.all_nil, Bool.and_true, Bool.true_and]; exact g1)
              go_wp2_with (go_at_call 85; refine (soundSignal_any _ _).mono ?_; rintro e wa ⟨rfl, hba⟩; have HRq := Lib.hid (Frm.below (w := w) (by (repeat (with_reducible first | exact HR.out | apply Frm.drew | apply Frm.alloc | apply Frm.drewN))) hba); clear HR; have HR := HRq; clear HRq)
              go_roundw
              case rel => exact ⟨n + 1, by omega, by go_num, HN.out, Frm.less (by (repeat (with_reducible first | exact HR.out | apply Frm.drew | apply Frm.alloc | apply Frm.drewN))) (fun p hp => by simp only [List.mem_cons, List.not_mem_nil, or_false] at hp; subst hp; simp)⟩
              case measure => simp [intOf]; omega
            · obtain rfl : n = ps.length := by omega
              have HT2 := Lib.hid (show ps.all prtB = true by have := HA.out; rwa [List.take_length] at this)
              clear HA HC
              go_wp2_with fail
              go_ret
              exact ⟨ret_bool (by rw [HT0.out, HT1.out, HT2.out]; rfl), HR.out.b⟩
end Go.Proofs.YtldimlnllmojiaaGreat
