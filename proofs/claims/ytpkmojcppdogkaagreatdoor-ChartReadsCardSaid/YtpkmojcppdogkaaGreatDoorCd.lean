/- The search for two stations that contradict each other, by the reference; which maps are possible; what the law asks. -/
import Derived.Test.YtpkmojcppdogkaaGreatDoorCc
set_option linter.unusedVariables false
set_option linter.unusedSimpArgs false
namespace Go.Proofs.YtpkmojcppdogkaaGreatDoor
open Go.RowKit
/-- What a search for the first two stations that contradict each other returns. -/
def ClRet (m : Mp) (cs : List Sta) (w : World) (e : Ending) (w' : World) : Prop :=
  Below w.heap.size w w' ∧ ((Agreed m cs ∧ e = .returned (.tuple #[.int .i64 0, .int .i64 0, .bool false])) ∨ ∃ i j : Nat, First m cs i j ∧ j < cs.length ∧ e = .returned (.tuple #[.int .i64 i, .int .i64 j, .bool true]))
set_option maxHeartbeats 1000000 in
set_option maxRecDepth 100000 in
theorem rClash_any (m : Mp) (A : Option Addr) (c : Nat) (cs : List Sta) (w : World) (hs : Sane m cs) (hc : Stas w (.slice A cs.length c) cs) :
    Calls Tryz.prog 107 #[mpV m (.slice A cs.length c)] w (ClRet m cs w) := by
  have hl12 := hs.len
  have HR := Lib.hid ((Frm.nil w).add (mpBox m (.slice A cs.length c)) rfl)
  have x0 := HR.out.cells (List.mem_cons_self ..)
  have HC := Lib.hid hc
  clear hc
  go_enter Tryz.func107, Tryz.ntmps107
  go_wp2_with fail
  go_loopw [5, 6] (fun i _ wr => ∃ n : Nat, n ≤ cs.length ∧ i = .int .i64 n ∧ (∀ i' j', i' < n → i' < j' → ¬ Contra m cs i' j') ∧ Frm w [(w.heap.size, (mpBox m (.slice A cs.length c)))] wr) (fun i _ _ => cs.length - (intOf i).toNat)
  case atStart => exact ⟨0, Nat.zero_le _, rfl, fun _ _ h => absurd h (Nat.not_lt_zero _), HR.out⟩
  case round =>
    obtain ⟨n, hn, rfl, hno, hF⟩ := hrel
    obtain ⟨wo, rfl⟩ : ∃ wo : World, wo = wr := ⟨_, rfl⟩
    have HN := Lib.hid hno
    have HF := Lib.hid hF
    have y0 := hF.cells (List.mem_cons_self ..)
    clear hno hF HR x0
    by_cases hlt : n < cs.length
    · go_wp2_with fail
      go_loopw [6] (fun k wr => ∃ p : Nat, p ≤ cs.length ∧ n < p ∧ k = .int .i64 p ∧ (∀ j', n < j' → j' < p → ¬ Contra m cs n j') ∧ Frm w [(w.heap.size, (mpBox m (.slice A cs.length c)))] wr) (fun k _ => cs.length - (intOf k).toNat)
      case atStart => exact ⟨n + 1, by omega, by omega, by go_num, fun j' h1 h2 => absurd h1 (by omega), HF.out⟩
      case round =>
        obtain ⟨p, hm1, hnm, rfl, hno2, hF2⟩ := hrel
        have HN2 := Lib.hid hno2
        have HF2 := Lib.hid hF2
        have z0 := hF2.cells (List.mem_cons_self ..)
        clear hno2 hF2
        by_cases hlm : p < cs.length
        · have Hx := Lib.hid (List.getElem?_eq_getElem hlt)
          have Hy := Lib.hid (List.getElem?_eq_getElem hlm)
          generalize cs[n] = x at *
          generalize cs[p] = y at *
          have HQ := Lib.hid (rContra_any m cs A c n p x y wr hs (HC.out.below HF2.out.b) Hx.out Hy.out)
          cases hq : contB m x y
          · have Hq := Lib.hid hq
            rw [hq] at HQ
            clear hq
            go_wp2_with (go_at_call 141; refine HQ.out.mono ?_; rintro e w1 ⟨rfl, hb1⟩)
            go_roundw
            case rel => exact ⟨p + 1, by omega, by omega, by go_num, fun j' h1 h2 h3 => by
              rcases Nat.lt_or_ge j' p with h4 | h4
              · exact HN2.out j' h1 h4 h3
              · obtain rfl : j' = p := by omega
                obtain ⟨a', b', ha', hb', hcc⟩ := h3
                cases ha'.symm.trans Hx.out
                cases hb'.symm.trans Hy.out
                exact absurd (hcc.symm.trans Hq.out) (by simp), HF2.out.below hb1⟩
            case measure => simp [intOf]; omega
          · have Hq := Lib.hid hq
            rw [hq] at HQ
            clear hq
            go_wp2_with (go_at_call 141; refine HQ.out.mono ?_; rintro e w1 ⟨rfl, hb1⟩)
            go_ret3
            refine ⟨(HF2.out.below hb1).b, .inr ⟨n, p, ⟨hnm, ⟨x, y, Hx.out, Hy.out, Hq.out⟩, fun i' j' hij hcon => ?_⟩, hlm, rfl⟩⟩
            rcases Nat.lt_trichotomy i' n with h | h | h
            · exact absurd hcon (HN.out i' j' h hij)
            · subst h
              rcases Nat.lt_or_ge j' p with h4 | h4
              · exact absurd hcon (HN2.out j' hij h4)
              · exact .inr ⟨rfl, h4⟩
            · exact .inl h
        · go_wp2_with fail
          go_roundw
          case rel => exact ⟨n + 1, by omega, by go_num, fun i' j' h1 h2 h3 => by
            rcases Nat.lt_or_ge i' n with h4 | h4
            · exact HN.out i' j' h4 h2 h3
            · obtain rfl : i' = n := by omega
              exact HN2.out j' h2 (by have := (contra_lt h3).2; omega) h3, HF2.out⟩
          case measure => simp [intOf]; omega
    · go_wp2_with fail
      go_ret3
      exact ⟨HF.out.b, .inl ⟨fun i' j' hij h => HN.out i' j' (by have := (contra_lt h).1; omega) hij h, rfl⟩⟩
noncomputable def agB (m : Mp) (cs : List Sta) : Bool := @decide (Agreed m cs) (Classical.propDecidable _)
theorem agB_yes {m : Mp} {cs : List Sta} (h : Agreed m cs) : agB m cs = true := by simp [agB, h]
theorem agB_no {m : Mp} {cs : List Sta} (h : ¬ Agreed m cs) : agB m cs = false := by simp [agB, h]
theorem agB_iff {m : Mp} {cs : List Sta} : agB m cs = true ↔ Agreed m cs := by simp [agB]
set_option maxHeartbeats 800000 in
theorem rPossible_any (m : Mp) (A : Option Addr) (c : Nat) (cs : List Sta) (w : World) (hs : Sane m cs) (hc : Stas w (.slice A cs.length c) cs) :
    Calls Tryz.prog 70 #[mpV m (.slice A cs.length c)] w fun e w' => e = .returned (.bool (agB m cs)) ∧ Below w.heap.size w w' := by
  have HR := Lib.hid ((Frm.nil w).add (mpBox m (.slice A cs.length c)) rfl)
  have HC := Lib.hid (hc.below HR.out.b)
  clear hc
  go_enter Tryz.func70, Tryz.ntmps70
  go_wp2_with fail
  refine (rClash_any m A c cs _ hs HC.out).mono ?_
  rintro e w1 ⟨hb1, h | h⟩
  · obtain ⟨ha, rfl⟩ := h
    have HA := Lib.hid (agB_yes ha)
    clear ha
    go_wp2
    go_ret
    exact ⟨ret_bool HA.out.symm, (HR.out.below hb1).b⟩
  · obtain ⟨i, j, hf, hj, rfl⟩ := h
    have HA := Lib.hid (agB_no hf.not)
    clear hf
    go_wp2
    go_ret
    exact ⟨ret_bool HA.out.symm, (HR.out.below hb1).b⟩
theorem short_any (m : Mp) (A : Option Addr) (c : Nat) (cs : List Sta) (w : World) :
    Calls Tryz.prog 12 #[mpV m (.slice A cs.length c)] w fun e w' => e = .returned (.bool (decide (cs.length ≤ 16))) ∧ Below w.heap.size w w' := by
  go_enter Tryz.func12, Tryz.ntmps12
  go_wp2
  go_ret
  exact ⟨ret_bool (by simp only [decide_eq_decide]; omega), (Below.refl _ _).alloc (Nat.le_refl _) _⟩
theorem short_is {m : Mp} {A : Option Addr} {c : Nat} {cs : List Sta} {b : Bool} (h : decide (cs.length ≤ 16) = b) (w : World) :
    Calls Tryz.prog 12 #[mpV m (.slice A cs.length c)] w fun e w' => e = .returned (.bool b) ∧ Below w.heap.size w w' := by
  rw [← h]; exact short_any m A c cs w
theorem rMap_is {m : Mp} {A : Option Addr} {c : Nat} {cs : List Sta} {b : Bool} {w : World} (hc : Stas w (.slice A cs.length c) cs) (h : mapB m cs = b) :
    Calls Tryz.prog 14 #[mpV m (.slice A cs.length c)] w fun e w' => e = .returned (.bool b) ∧ Below w.heap.size w w' := by
  rw [← h]; exact rMap_any m A c cs w hc
theorem soundMap_is {m : Mp} {A : Option Addr} {c : Nat} {cs : List Sta} {b : Bool} {w : World} (hc : Stas w (.slice A cs.length c) cs) (h : mapB m cs = b) :
    Calls Tryz.prog 48 #[mpV m (.slice A cs.length c)] w fun e w' => e = .returned (.bool b) ∧ Below w.heap.size w w' := by
  rw [← h]; exact soundMap_any m A c cs w hc
theorem rPossible_is {m : Mp} {A : Option Addr} {c : Nat} {cs : List Sta} {b : Bool} {w : World} (hs : Sane m cs) (hc : Stas w (.slice A cs.length c) cs) (h : agB m cs = b) :
    Calls Tryz.prog 70 #[mpV m (.slice A cs.length c)] w fun e w' => e = .returned (.bool b) ∧ Below w.heap.size w w' := by
  rw [← h]; exact rPossible_any m A c cs w hs hc
/-- The error of a map of which something is asked that is as defined or not. -/
noncomputable def askF (m : Mp) (cs : List Sta) (fine : Bool) : Int := if mapB m cs = false ∨ fine = false then 2 else if agB m cs then 0 else 7
set_option maxHeartbeats 800000 in
theorem asked_any (m : Mp) (A : Option Addr) (c : Nat) (cs : List Sta) (fine : Bool) (w : World) (hc : Stas w (.slice A cs.length c) cs) :
    Calls Tryz.prog 31 #[mpV m (.slice A cs.length c), .bool fine] w fun e w' => e = .returned (.int .i64 (askF m cs fine)) ∧ Below w.heap.size w w' := by
  have HR := Lib.hid ((Frm.nil w).add (mpBox m (.slice A cs.length c)) rfl)
  have x0 := HR.out.cells (List.mem_cons_self ..)
  have HC := Lib.hid hc
  clear hc
  cases hs : mapB m cs
  · have HA := Lib.hid (show askF m cs fine = 2 by simp [askF, hs])
    go_enter Tryz.func31, Tryz.ntmps31
    go_wp2_with (go_at_call 14; refine (rMap_is (HC.out.below (Frm.b (w := w) (bs := [(w.heap.size, (mpBox m (.slice A cs.length c)))]) (by (repeat (with_reducible first | exact HR.out | apply Frm.drew | apply Frm.alloc | apply Frm.drewN))))) hs).mono ?_; rintro e wa ⟨rfl, hba⟩; have HRq := Lib.hid (Frm.below (w := w) (bs := [(w.heap.size, (mpBox m (.slice A cs.length c)))]) (by (repeat (with_reducible first | exact HR.out | apply Frm.drew | apply Frm.alloc | apply Frm.drewN))) hba); clear HR; have HR := HRq; clear HRq hba; have x0 := HR.out.cells (List.mem_cons_self ..))
    go_ret
    exact ⟨ret_int HA.out.symm, HR.out.b⟩
  · have hsa := mapB_iff.1 hs
    cases fine
    · have HA := Lib.hid (show askF m cs false = 2 by simp [askF])
      go_enter Tryz.func31, Tryz.ntmps31
      go_wp2_with (go_at_call 14; refine (rMap_is (HC.out.below (Frm.b (w := w) (bs := [(w.heap.size, (mpBox m (.slice A cs.length c)))]) (by (repeat (with_reducible first | exact HR.out | apply Frm.drew | apply Frm.alloc | apply Frm.drewN))))) hs).mono ?_; rintro e wa ⟨rfl, hba⟩; have HRq := Lib.hid (Frm.below (w := w) (bs := [(w.heap.size, (mpBox m (.slice A cs.length c)))]) (by (repeat (with_reducible first | exact HR.out | apply Frm.drew | apply Frm.alloc | apply Frm.drewN))) hba); clear HR; have HR := HRq; clear HRq hba; have x0 := HR.out.cells (List.mem_cons_self ..))
      go_ret
      exact ⟨ret_int HA.out.symm, HR.out.b⟩
    · cases hq : agB m cs
      · have HA := Lib.hid (show askF m cs true = 7 by simp [askF, hs, hq])
        go_enter Tryz.func31, Tryz.ntmps31
        go_wp2_with (first | (go_at_call 14; refine (rMap_is (HC.out.below (Frm.b (w := w) (bs := [(w.heap.size, (mpBox m (.slice A cs.length c)))]) (by (repeat (with_reducible first | exact HR.out | apply Frm.drew | apply Frm.alloc | apply Frm.drewN))))) hs).mono ?_; rintro e wa ⟨rfl, hba⟩; have HRq := Lib.hid (Frm.below (w := w) (bs := [(w.heap.size, (mpBox m (.slice A cs.length c)))]) (by (repeat (with_reducible first | exact HR.out | apply Frm.drew | apply Frm.alloc | apply Frm.drewN))) hba); clear HR; have HR := HRq; clear HRq hba; have x0 := HR.out.cells (List.mem_cons_self ..)) | (go_at_call 70; refine (rPossible_is hsa (HC.out.below (Frm.b (w := w) (bs := [(w.heap.size, (mpBox m (.slice A cs.length c)))]) (by (repeat (with_reducible first | exact HR.out | apply Frm.drew | apply Frm.alloc | apply Frm.drewN))))) hq).mono ?_; rintro e wa ⟨rfl, hba⟩; have HRq := Lib.hid (Frm.below (w := w) (bs := [(w.heap.size, (mpBox m (.slice A cs.length c)))]) (by (repeat (with_reducible first | exact HR.out | apply Frm.drew | apply Frm.alloc | apply Frm.drewN))) hba); clear HR; have HR := HRq; clear HRq hba; have x0 := HR.out.cells (List.mem_cons_self ..)))
        go_ret
        exact ⟨ret_int HA.out.symm, HR.out.b⟩
      · have HA := Lib.hid (show askF m cs true = 0 by simp [askF, hs, hq])
        go_enter Tryz.func31, Tryz.ntmps31
        go_wp2_with (first | (go_at_call 14; refine (rMap_is (HC.out.below (Frm.b (w := w) (bs := [(w.heap.size, (mpBox m (.slice A cs.length c)))]) (by (repeat (with_reducible first | exact HR.out | apply Frm.drew | apply Frm.alloc | apply Frm.drewN))))) hs).mono ?_; rintro e wa ⟨rfl, hba⟩; have HRq := Lib.hid (Frm.below (w := w) (bs := [(w.heap.size, (mpBox m (.slice A cs.length c)))]) (by (repeat (with_reducible first | exact HR.out | apply Frm.drew | apply Frm.alloc | apply Frm.drewN))) hba); clear HR; have HR := HRq; clear HRq hba; have x0 := HR.out.cells (List.mem_cons_self ..)) | (go_at_call 70; refine (rPossible_is hsa (HC.out.below (Frm.b (w := w) (bs := [(w.heap.size, (mpBox m (.slice A cs.length c)))]) (by (repeat (with_reducible first | exact HR.out | apply Frm.drew | apply Frm.alloc | apply Frm.drewN))))) hq).mono ?_; rintro e wa ⟨rfl, hba⟩; have HRq := Lib.hid (Frm.below (w := w) (bs := [(w.heap.size, (mpBox m (.slice A cs.length c)))]) (by (repeat (with_reducible first | exact HR.out | apply Frm.drew | apply Frm.alloc | apply Frm.drewN))) hba); clear HR; have HR := HRq; clear HRq hba; have x0 := HR.out.cells (List.mem_cons_self ..)))
        go_ret
        exact ⟨ret_int HA.out.symm, HR.out.b⟩
theorem asked_is {m : Mp} {A : Option Addr} {c : Nat} {cs : List Sta} {fine : Bool} {K : Int} {w : World} (hc : Stas w (.slice A cs.length c) cs) (h : askF m cs fine = K) :
    Calls Tryz.prog 31 #[mpV m (.slice A cs.length c), .bool fine] w fun e w' => e = .returned (.int .i64 K) ∧ Below w.heap.size w w' := by
  rw [← h]; exact asked_any m A c cs fine w hc
set_option maxHeartbeats 400000 in
theorem look_any (m : Mp) (A : Option Addr) (n c : Nat) (w : World) :
    Calls Tryz.prog 50 #[mpV m (.slice A n c)] w fun e w' => e = .returned (viewV m.wd m.rw m.sl (.slice A n c)) ∧ Below w.heap.size w w' := by
  go_enter Tryz.func50, Tryz.ntmps50
  go_wp2
  exact bodyPost_ret (v := viewV m.wd m.rw m.sl (.slice A n c)) (by simp [results, Tryz.results50, go_sem]) rfl ⟨rfl, ((Below.refl _ _).alloc (Nat.le_refl _) _).alloc (by simp) _⟩
end Go.Proofs.YtpkmojcppdogkaaGreatDoor
