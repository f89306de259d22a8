/- The reference's Clash and Agree, and the law's short, agreed and asked. -/
import Derived.Test.YtffgcphmakfikaaDoorRcl
set_option linter.unusedVariables false
set_option linter.unusedSimpArgs false
namespace Go.Proofs.YtffgcphmakfikaaDoor
open Go.RowKit Go.Maps

set_option maxHeartbeats 800000 in
theorem rClash_nil (s : Stn) (A : Option Addr) (cap : Nat) (w : World) :
    Calls Tryd.prog 35 #[stV s (.slice A 0 cap)] w (ClRet s [] w) := by
  go_enter Tryd.func35, Tryd.ntmps35
  go_wp2_with fail
  go_loopw [5, 6] (fun i _ wr => i = .int .i64 0 ∧ wr = w.alloc (stBox s (.slice A 0 cap))) (fun i _ _ => 0 - (intOf i).toNat)
  case atStart => exact ⟨rfl, rfl⟩
  case round =>
    obtain ⟨rfl, rfl⟩ := hrel
    go_wp2_with fail
    go_ret3
    exact ⟨below_al (Below.refl _ _) _, .inl ⟨fun i j _ h => by have := (contra_lt h).1; simp at this, rfl⟩⟩
theorem rClash_any {s : Stn} {v : Value} {cs : List Chk} {w : World} (h : Chks w v cs) (hs : Sane s cs) :
    Calls Tryd.prog 35 #[stV s v] w (ClRet s cs w) := by
  obtain ⟨A, cap, rfl, hl, hm, h⟩ := h
  rcases h with rfl | ⟨b, off, rfl, hlt, hc⟩
  · exact rClash_nil s A cap w
  · exact rClash_some s cs b off cap w hs hl hm hlt hc

noncomputable def agB (s : Stn) (cs : List Chk) : Bool := @decide (Agreed s cs) (Classical.propDecidable _)
theorem agB_yes {s : Stn} {cs : List Chk} (h : Agreed s cs) : agB s cs = true := by simp [agB, h]
theorem agB_no {s : Stn} {cs : List Chk} (h : ¬ Agreed s cs) : agB s cs = false := by simp [agB, h]
theorem agB_iff {s : Stn} {cs : List Chk} : agB s cs = true ↔ Agreed s cs := by simp [agB]
theorem First.not {s : Stn} {cs : List Chk} {i j : Nat} (h : First s cs i j) : ¬ Agreed s cs := fun ha => ha i j h.1 h.2.1

set_option maxHeartbeats 800000 in
theorem rAgree_any {s : Stn} {v : Value} {cs : List Chk} {w : World} (hc : Chks w v cs) (hs : Sane s cs) :
    Calls Tryd.prog 13 #[stV s v] w fun e w' => e = .returned (.bool (agB s cs)) ∧ Below w.heap.size w w' := by
  obtain ⟨A, k, c, rfl⟩ := hc.shape
  have HR : Hid (Frm w [(w.heap.size, (stBox s (.slice A k c)))] (w.alloc (stBox s (.slice A k c)))) := Lib.hid ((Frm.nil w).add _ rfl)
  have HC := Lib.hid (hc.below HR.out.b)
  clear hc
  go_enter Tryd.func13, Tryd.ntmps13
  go_wp2_with fail
  refine (rClash_any HC.out hs).mono ?_
  rintro e w1 ⟨hb1, h | h⟩
  · obtain ⟨ha, rfl⟩ := h
    have HA := Lib.hid (agB_yes ha)
    clear ha
    go_wp2
    go_ret
    exact ⟨ret_bool HA.out.symm, (HR.out.below hb1).b⟩
  · obtain ⟨i, j, hf, hj, rfl⟩ := h
    have HA := Lib.hid (agB_no hf.not)
    clear hf
    go_wp2
    go_ret
    exact ⟨ret_bool HA.out.symm, (HR.out.below hb1).b⟩

set_option maxHeartbeats 800000 in
theorem short_any {s : Stn} {v : Value} {cs : List Chk} {w : World} (hc : Chks w v cs) :
    Calls Tryd.prog 12 #[stV s v] w fun e w' => e = .returned (.bool (decide (cs.length ≤ 16))) ∧ Below w.heap.size w w' := by
  obtain ⟨A, c, rfl, _, _, _⟩ := hc
  go_enter Tryd.func12, Tryd.ntmps12
  go_wp2
  go_ret
  exact ⟨ret_bool (by simp only [decide_eq_decide]; omega), below_al (Below.refl _ _) _⟩

theorem rStation_is {s : Stn} {v : Value} {cs : List Chk} {b : Bool} {w : World} (hc : Chks w v cs) (h : soundB s cs = b) :
    Calls Tryd.prog 8 #[stV s v] w fun e w' => e = .returned (.bool b) ∧ Below w.heap.size w w' := by
  rw [← h]; exact rStation_any hc

/-- The error of a station of which something is asked that is as defined or not. -/
noncomputable def askF (s : Stn) (cs : List Chk) (fine : Bool) : Int := if soundB s cs = false ∨ fine = false then 2 else if agB s cs then 0 else 7
theorem rDay_is {n : Int} {b : Bool} (h : betw n 0 400 = b) (w : World) :
    Calls Tryd.prog 14 #[.int .i64 n] w fun e w' => e = .returned (.bool b) ∧ w = w' := by
  rw [← h]; exact rDay_any n w
theorem rReading_is {r : Rdg} {b : Bool} (h : readB r = b) (w : World) :
    Calls Tryd.prog 5 #[rdV r] w fun e w' => e = .returned (.bool b) ∧ Below w.heap.size w w' := by
  rw [← h]; exact rReading_any r w
theorem in_is {n lo hi : Int} {b : Bool} (h : betw n lo hi = b) (w : World) :
    Calls Tryd.prog 15 #[.int .i64 n, .int .i64 lo, .int .i64 hi] w fun e w' => e = .returned (.bool b) ∧ w = w' := by
  rw [← h]; exact in_any n lo hi w
theorem short_is {s : Stn} {v : Value} {cs : List Chk} {b : Bool} {w : World} (hc : Chks w v cs) (h : decide (cs.length ≤ 16) = b) :
    Calls Tryd.prog 12 #[stV s v] w fun e w' => e = .returned (.bool b) ∧ Below w.heap.size w w' := by
  rw [← h]; exact short_any hc
theorem askF_bad {s : Stn} {cs : List Chk} {fine : Bool} (h : soundB s cs = false) : askF s cs fine = 2 := by simp [askF, h]
theorem askF_not {s : Stn} {cs : List Chk} : askF s cs false = 2 := by simp [askF]
theorem askF_ok {s : Stn} {cs : List Chk} (h : soundB s cs = true) (ha : Agreed s cs) : askF s cs true = 0 := by simp [askF, h, agB_yes ha]
theorem askF_rule {s : Stn} {cs : List Chk} {i j : Nat} (h : soundB s cs = true) (hf : First s cs i j) : askF s cs true = 7 := by simp [askF, h, agB_no hf.not]
theorem soundB_16 {s : Stn} {cs : List Chk} (h : ¬ cs.length ≤ 16) : soundB s cs = false := by simp [soundB]; omega

set_option maxHeartbeats 800000 in
theorem agreed_any {s : Stn} {v : Value} {cs : List Chk} {w : World} (hc : Chks w v cs) :
    Calls Tryd.prog 4 #[stV s v] w fun e w' => e = .returned (.bool (soundB s cs && agB s cs)) ∧ Below w.heap.size w w' := by
  obtain ⟨A, k, c, rfl⟩ := hc.shape
  have HR : Hid (Frm w [(w.heap.size, (stBox s (.slice A k c)))] (w.alloc (stBox s (.slice A k c)))) := Lib.hid ((Frm.nil w).add _ rfl)
  have HC := Lib.hid (hc.below HR.out.b)
  clear hc
  have x0 := HR.out.cells (List.mem_cons_self ..)
  go_enter Tryd.func4, Tryd.ntmps4
  go_wp2_with fail
  refine (short_any HC.out).mono ?_
  rintro e w1 ⟨rfl, hb1⟩
  have HR1 := Lib.hid (HR.out.below hb1)
  have HC1 := Lib.hid (HC.out.below hb1)
  have x1 := HR1.out.cells (List.mem_cons_self ..)
  clear hb1 x0
  by_cases h16 : cs.length ≤ 16
  · go_wp2_with fail
    refine (rStation_any HC1.out).mono ?_
    rintro e w2 ⟨rfl, hb2⟩
    have HR2 := Lib.hid (HR1.out.below hb2)
    have HC2 := Lib.hid (HC1.out.below hb2)
    have x2 := HR2.out.cells (List.mem_cons_self ..)
    clear hb2 x1
    cases hs : soundB s cs
    · have Hs := Lib.hid hs
      clear hs
      go_wp2
      go_ret
      exact ⟨ret_bool (by rw [Hs.out]; rfl), HR2.out.b⟩
    · have hgs := good_of_soundB hs
      have Hs := Lib.hid hs
      clear hs
      go_wp2_with fail
      refine (rAgree_any HC2.out hgs.sane).mono ?_
      rintro e w3 ⟨rfl, hb3⟩
      have HB3 := Lib.hid (HR2.out.below hb3).b
      clear hb3 x2
      go_wp2
      go_ret
      exact ⟨ret_bool (by rw [Hs.out]; simp), HB3.out⟩
  · have HS := Lib.hid (show soundB s cs = false by simp [soundB]; omega)
    go_wp2
    go_ret
    exact ⟨ret_bool (by rw [HS.out]; rfl), HR1.out.b⟩
end Go.Proofs.YtffgcphmakfikaaDoor
