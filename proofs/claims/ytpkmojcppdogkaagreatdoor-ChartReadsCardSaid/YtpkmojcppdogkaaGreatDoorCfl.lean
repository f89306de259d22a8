/- Which fields are as defined, by the program and by the reference; neighbours. -/
import Derived.Test.YtpkmojcppdogkaaGreatDoorCdd
set_option linter.unusedVariables false
set_option linter.unusedSimpArgs false
namespace Go.Proofs.YtpkmojcppdogkaaGreatDoor
open Go.RowKit
open Go.Maps
set_option maxHeartbeats 4000000 in
set_option maxRecDepth 100000 in
theorem soundField_any (wd : Int) (A : Option Addr) (c : Nat) (zs : List Int) (w : World) (hz : Ints w (.slice A zs.length c) zs) :
    Calls Tryz.prog 49 #[.agg #[.int .i64 wd, .slice A zs.length c]] w fun e w' => e = .returned (.bool (fieldB wd zs)) ∧ Below w.heap.size w w' := by
  have HZ0 := Lib.hid hz
  have hlen : zs.length ≤ maxLen := by
    obtain ⟨A', cap, hv, hl, hm, h⟩ := hz
    omega
  unfold maxLen at hlen
  clear hz
  have HR := Lib.hid ((Frm.nil w).add (.cells #[.int .i64 wd, .slice A zs.length c] 27) rfl)
  have x0 := HR.out.cells (List.mem_cons_self ..)
  cases q1 : betw wd 1 6
  · have HB := Lib.hid (show fieldB wd zs = false by simp [fieldB, q1])
    rw [HB.out]
    go_enter Tryz.func49, Tryz.ntmps49
    go_wp2_with (go_at_call 86; refine (between_any _ _ _ _).mono ?_; rintro e wq ⟨rfl, rfl⟩)
    go_ret
    exact ⟨rfl, HR.out.b⟩
  have hw := betw_iff.1 q1
  have n0 : (0 : Int) ≤ zs.length := by omega
  have t1 : (zs.length : Int).tmod wd = zs.length % wd := Int.tmod_eq_emod_of_nonneg n0
  have t2 : (zs.length : Int).tdiv wd = zs.length / wd := Int.tdiv_eq_ediv_of_nonneg n0
  have b0 : 0 ≤ (zs.length : Int) % wd := Int.emod_nonneg _ (by omega)
  have b1 : (zs.length : Int) % wd < wd := Int.emod_lt_of_pos _ (by omega)
  have b2 : 0 ≤ (zs.length : Int) / wd := Int.ediv_nonneg n0 (by omega)
  have b3 : (zs.length : Int) / wd ≤ zs.length := Int.ediv_le_self _ n0
  have t3 : IntKind.i64.wrap ((zs.length : Int) % wd) = zs.length % wd := IntWalk.i64_in _ (by omega)
  have t4 : IntKind.i64.wrap ((zs.length : Int) / wd) = zs.length / wd := IntWalk.i64_in _ (by omega)
  have t5 : (wd == 0) = false := by simp; omega
  have t6 : ¬ wd = 0 := by omega
  by_cases q2 : (zs.length : Int) % wd = 0
  rotate_left
  · have HB := Lib.hid (show fieldB wd zs = false by simp [fieldB, q2])
    rw [HB.out]
    go_enter Tryz.func49, Tryz.ntmps49
    go_wp2_with (go_at_call 86; refine (between_any _ _ _ _).mono ?_; rintro e wq ⟨rfl, rfl⟩)
    go_ret
    exact ⟨rfl, HR.out.b⟩
  cases q3 : betw ((zs.length : Int) / wd) 1 5
  · have HB := Lib.hid (show fieldB wd zs = false by simp [fieldB, q3])
    rw [HB.out]
    go_enter Tryz.func49, Tryz.ntmps49
    go_wp2_with (go_at_call 86; refine (between_any _ _ _ _).mono ?_; rintro e wq ⟨rfl, rfl⟩)
    go_ret
    exact ⟨rfl, HR.out.b⟩
  have HB := Lib.hid (show fieldB wd zs = zs.all fun z => betw z 0 99999 by simp [fieldB, q1, q2, q3])
  rw [HB.out]
  go_enter Tryz.func49, Tryz.ntmps49
  go_wp2_with (go_at_call 86; refine (between_any _ _ _ _).mono ?_; rintro e wq ⟨rfl, rfl⟩)
  go_loopw [4, 31] (fun _ i wr => ∃ n : Nat, n ≤ zs.length ∧ i = .int .i64 n ∧ ((zs.take n).all fun z => betw z 0 99999) = true ∧ Frm w [(w.heap.size, (.cells #[.int .i64 wd, .slice A zs.length c] 27))] wr) (fun _ i _ => zs.length - (intOf i).toNat)
  case atStart => exact ⟨0, Nat.zero_le _, rfl, by simp, (by (repeat (with_reducible first | exact HR.out | apply Frm.drew | apply Frm.alloc | apply Frm.drewN)))⟩
  case round =>
    obtain ⟨n, hn, rfl, hall, hF⟩ := hrel
    clear HR x0 t1 t2 t3 t4 t5 t6 b0 b1 b2 b3 q2 q3 q1
    have HR := Lib.hid hF
    have HA := Lib.hid hall
    clear hF hall
    have x0 := HR.out.cells (List.mem_cons_self ..)
    by_cases hnl : n < zs.length
    · obtain ⟨x, hx⟩ : ∃ x, zs[n]? = some x := ⟨_, List.getElem?_eq_getElem hnl⟩
      obtain ⟨b, off, hA, hcap, hmx, c0⟩ := ints_cells (HZ0.out.below HR.out.b) hx
      unfold maxLen at hmx
      subst hA
      have HX := Lib.hid hx
      clear hx
      cases g : betw x 0 99999
      · have HN := Lib.hid (show (zs.all fun z => betw z 0 99999) = false by rw [List.all_eq_false]; exact ⟨x, List.mem_of_getElem? HX.out, by simp [g]⟩)
        go_wp2_with (go_at_call 88; refine (value_any _ _).mono ?_; rintro e wq ⟨rfl, rfl⟩)
        go_ret
        exact ⟨ret_bool HN.out.symm, HR.out.b⟩
      · have HN := Lib.hid (show ((zs.take (n + 1)).all fun z => betw z 0 99999) = true by rw [List.take_add_one, HX.out]; simp only [List.all_append, HA.out, Option.toList, List.all_cons, List.all_nil, Bool.and_true, Bool.true_and]; simp [g])
        go_wp2_with (go_at_call 88; refine (value_any _ _).mono ?_; rintro e wq ⟨rfl, rfl⟩)
        go_roundw
        case rel => exact ⟨n + 1, by omega, by go_num, HN.out, HR.out⟩
        case measure => simp [intOf]; omega
    · obtain rfl : n = zs.length := by omega
      have HT := Lib.hid (show (zs.all fun z => betw z 0 99999) = true by have := HA.out; rwa [List.take_length] at this)
      go_wp2_with fail
      go_ret
      exact ⟨ret_bool HT.out.symm, HR.out.b⟩
theorem soundField_is {wd : Int} {A : Option Addr} {c : Nat} {zs : List Int} {b : Bool} {w : World} (hz : Ints w (.slice A zs.length c) zs) (h : fieldB wd zs = b) :
    Calls Tryz.prog 49 #[.agg #[.int .i64 wd, .slice A zs.length c]] w fun e w' => e = .returned (.bool b) ∧ Below w.heap.size w w' := by
  rw [← h]; exact soundField_any wd A c zs w hz
set_option maxHeartbeats 4000000 in
set_option maxRecDepth 100000 in
theorem rField_any (wd : Int) (A : Option Addr) (c : Nat) (zs : List Int) (w : World) (hz : Ints w (.slice A zs.length c) zs) :
    Calls Tryz.prog 15 #[.agg #[.int .i64 wd, .slice A zs.length c]] w fun e w' => e = .returned (.bool (fieldB wd zs)) ∧ Below w.heap.size w w' := by
  have HZ0 := Lib.hid hz
  have hlen : zs.length ≤ maxLen := by
    obtain ⟨A', cap, hv, hl, hm, h⟩ := hz
    omega
  unfold maxLen at hlen
  clear hz
  have HR := Lib.hid ((Frm.nil w).add (.cells #[.int .i64 wd, .slice A zs.length c] 27) rfl)
  have x0 := HR.out.cells (List.mem_cons_self ..)
  cases q1 : betw wd 1 6
  · have HB := Lib.hid (show fieldB wd zs = false by simp [fieldB, q1])
    rw [HB.out]
    go_enter Tryz.func15, Tryz.ntmps15
    go_wp2_with (go_at_call 44; refine (in_any _ _ _ _).mono ?_; rintro e wq ⟨rfl, rfl⟩)
    go_ret
    exact ⟨rfl, HR.out.b⟩
  have hw := betw_iff.1 q1
  have n0 : (0 : Int) ≤ zs.length := by omega
  have t1 : (zs.length : Int).tmod wd = zs.length % wd := Int.tmod_eq_emod_of_nonneg n0
  have t2 : (zs.length : Int).tdiv wd = zs.length / wd := Int.tdiv_eq_ediv_of_nonneg n0
  have b0 : 0 ≤ (zs.length : Int) % wd := Int.emod_nonneg _ (by omega)
  have b1 : (zs.length : Int) % wd < wd := Int.emod_lt_of_pos _ (by omega)
  have b2 : 0 ≤ (zs.length : Int) / wd := Int.ediv_nonneg n0 (by omega)
  have b3 : (zs.length : Int) / wd ≤ zs.length := Int.ediv_le_self _ n0
  have t3 : IntKind.i64.wrap ((zs.length : Int) % wd) = zs.length % wd := IntWalk.i64_in _ (by omega)
  have t4 : IntKind.i64.wrap ((zs.length : Int) / wd) = zs.length / wd := IntWalk.i64_in _ (by omega)
  have t5 : (wd == 0) = false := by simp; omega
  have t6 : ¬ wd = 0 := by omega
  by_cases q2 : (zs.length : Int) % wd = 0
  rotate_left
  · have HB := Lib.hid (show fieldB wd zs = false by simp [fieldB, q2])
    rw [HB.out]
    go_enter Tryz.func15, Tryz.ntmps15
    go_wp2_with (go_at_call 44; refine (in_any _ _ _ _).mono ?_; rintro e wq ⟨rfl, rfl⟩)
    go_ret
    exact ⟨rfl, HR.out.b⟩
  cases q3 : betw ((zs.length : Int) / wd) 1 5
  · have HB := Lib.hid (show fieldB wd zs = false by simp [fieldB, q3])
    rw [HB.out]
    go_enter Tryz.func15, Tryz.ntmps15
    go_wp2_with (go_at_call 44; refine (in_any _ _ _ _).mono ?_; rintro e wq ⟨rfl, rfl⟩)
    go_ret
    exact ⟨rfl, HR.out.b⟩
  have HB := Lib.hid (show fieldB wd zs = zs.all fun z => betw z 0 99999 by simp [fieldB, q1, q2, q3])
  rw [HB.out]
  go_enter Tryz.func15, Tryz.ntmps15
  go_wp2_with (go_at_call 44; refine (in_any _ _ _ _).mono ?_; rintro e wq ⟨rfl, rfl⟩)
  go_loopw [3] (fun i wr => ∃ n : Nat, n ≤ zs.length ∧ i = .int .i64 n ∧ ((zs.take n).all fun z => betw z 0 99999) = true ∧ Frm w [(w.heap.size, (.cells #[.int .i64 wd, .slice A zs.length c] 27))] wr) (fun i _ => zs.length - (intOf i).toNat)
  case atStart => exact ⟨0, Nat.zero_le _, rfl, by simp, (by (repeat (with_reducible first | exact HR.out | apply Frm.drew | apply Frm.alloc | apply Frm.drewN)))⟩
  case round =>
    obtain ⟨n, hn, rfl, hall, hF⟩ := hrel
    clear HR x0 t1 t2 t3 t4 t5 t6 b0 b1 b2 b3 q2 q3 q1
    have HR := Lib.hid hF
    have HA := Lib.hid hall
    clear hF hall
    have x0 := HR.out.cells (List.mem_cons_self ..)
    by_cases hnl : n < zs.length
    · obtain ⟨x, hx⟩ : ∃ x, zs[n]? = some x := ⟨_, List.getElem?_eq_getElem hnl⟩
      obtain ⟨b, off, hA, hcap, hmx, c0⟩ := ints_cells (HZ0.out.below HR.out.b) hx
      unfold maxLen at hmx
      subst hA
      have HX := Lib.hid hx
      clear hx
      cases g : betw x 0 99999
      · have HN := Lib.hid (show (zs.all fun z => betw z 0 99999) = false by rw [List.all_eq_false]; exact ⟨x, List.mem_of_getElem? HX.out, by simp [g]⟩)
        go_wp2_with (go_at_call 45; refine (rValue_any _ _).mono ?_; rintro e wq ⟨rfl, rfl⟩)
        go_ret
        exact ⟨ret_bool HN.out.symm, HR.out.b⟩
      · have HN := Lib.hid (show ((zs.take (n + 1)).all fun z => betw z 0 99999) = true by rw [List.take_add_one, HX.out]; simp only [List.all_append, HA.out, Option.toList, List.all_cons, List.all_nil, Bool.and_true, Bool.true_and]; simp [g])
        go_wp2_with (go_at_call 45; refine (rValue_any _ _).mono ?_; rintro e wq ⟨rfl, rfl⟩)
        go_roundw
        case rel => exact ⟨n + 1, by omega, by go_num, HN.out, HR.out⟩
        case measure => simp [intOf]; omega
    · obtain rfl : n = zs.length := by omega
      have HT := Lib.hid (show (zs.all fun z => betw z 0 99999) = true by have := HA.out; rwa [List.take_length] at this)
      go_wp2_with fail
      go_ret
      exact ⟨ret_bool HT.out.symm, HR.out.b⟩
theorem rField_is {wd : Int} {A : Option Addr} {c : Nat} {zs : List Int} {b : Bool} {w : World} (hz : Ints w (.slice A zs.length c) zs) (h : fieldB wd zs = b) :
    Calls Tryz.prog 15 #[.agg #[.int .i64 wd, .slice A zs.length c]] w fun e w' => e = .returned (.bool b) ∧ Below w.heap.size w w' := by
  rw [← h]; exact rField_any wd A c zs w hz
theorem few_is {wd : Int} {A : Option Addr} {c : Nat} {zs : List Int} {b : Bool} (h : decide (zs.length ≤ 40) = b) (w : World) :
    Calls Tryz.prog 13 #[.agg #[.int .i64 wd, .slice A zs.length c]] w fun e w' => e = .returned (.bool b) ∧ Below w.heap.size w w' := by
  rw [← h]
  go_enter Tryz.func13, Tryz.ntmps13
  go_wp2
  go_ret
  exact ⟨ret_bool (by simp only [decide_eq_decide]; omega), (Below.refl _ _).alloc (Nat.le_refl _) _⟩
/-- A field that is as defined. -/
theorem fieldB_all {wd : Int} {zs : List Int} (h : fieldB wd zs = true) : (∀ z ∈ zs, betw z 0 99999 = true) ∧ 1 ≤ wd ∧ wd ≤ 6 ∧ zs.length ≤ 30 ∧ 1 ≤ zs.length := by
  simp only [fieldB, Bool.and_eq_true, decide_eq_true_eq, List.all_eq_true] at h
  obtain ⟨⟨⟨h1, h2⟩, h3⟩, h4⟩ := h
  have h1' := betw_iff.1 h1
  have h3' := betw_iff.1 h3
  have he := Int.emod_add_mul_ediv (zs.length : Int) wd
  rw [h2] at he
  have ha := area h1'.1 h1'.2 h3'.1 h3'.2
  exact ⟨h4, h1'.1, h1'.2, by omega, by omega⟩
set_option maxHeartbeats 1000000 in
theorem rNeighbours_any (wd a b : Int) (w : World) (h1 : 1 ≤ wd) (h2 : wd ≤ 1000) (ha : 0 ≤ a) (ha' : a ≤ 1000000) (hb : 0 ≤ b) (hb' : b ≤ 1000000) :
    Calls Tryz.prog 26 #[.int .i64 wd, .int .i64 a, .int .i64 b] w fun e w' => e = .returned (.bool (decide (distI wd a b = 1))) ∧ Below w.heap.size w w' := by
  by_cases h : distI wd a b = 1
  all_goals
    go_enter Tryz.func26, Tryz.ntmps26
    go_wp2_with fail
    refine (rDistance_any wd a b _ h1 h2 ha ha' hb hb').mono ?_
    rintro e w1 ⟨rfl, hb1⟩
    have HB := Lib.hid hb1
    clear hb1
    go_wp2_with fail
    go_ret
    exact ⟨ret_bool (by simp [h]), HB.out⟩
end Go.Proofs.YtpkmojcppdogkaaGreatDoor
