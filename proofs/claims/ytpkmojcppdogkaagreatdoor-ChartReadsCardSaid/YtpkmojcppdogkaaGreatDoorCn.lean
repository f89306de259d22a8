/- The chart's small functions of numbers: greatest and least of two, how far two numbers and two points are apart. -/
import Derived.Test.YtpkmojcppdogkaaGreatDoorCf
set_option linter.unusedVariables false
set_option linter.unusedSimpArgs false
namespace Go.Proofs.YtpkmojcppdogkaaGreatDoor
open Go.RowKit
set_option maxHeartbeats 400000 in
theorem greatest_two (a x : Int) (b off : Nat) (w : World) (hx : w.cell? ⟨b, off, none⟩ = some (.int .i64 x)) :
    Calls Tryz.prog 118 #[.int .i64 a, .slice (some ⟨b, off, none⟩) 1 1] w fun e w' => e = .returned (.int .i64 (max a x)) ∧ w = w' := by
  by_cases h : a < x
  · have Hm := Lib.hid (show x = max a x by omega)
    go_enter Tryz.func118, Tryz.ntmps118
    go_wp2
    go_loop [0, 6, 9] (fun r _ k => (k = .int .i64 0 ∧ r = .int .i64 a) ∨ (k = .int .i64 1 ∧ r = .int .i64 x)) (fun _ _ k => (1 - intOf k).toNat)
    case atStart => exact .inl ⟨rfl, rfl⟩
    case round =>
      rcases hrel with ⟨rfl, rfl⟩ | ⟨rfl, rfl⟩
      · go_wp2
        go_round
        case rel => exact .inr ⟨rfl, rfl⟩
        case measure => simp [intOf]
      · go_wp2
        go_ret
        exact ⟨ret_int Hm.out, rfl⟩
  · have Hm := Lib.hid (show a = max a x by omega)
    go_enter Tryz.func118, Tryz.ntmps118
    go_wp2
    go_loop [0, 6, 9] (fun r _ k => (k = .int .i64 0 ∧ r = .int .i64 a) ∨ (k = .int .i64 1 ∧ r = .int .i64 a)) (fun _ _ k => (1 - intOf k).toNat)
    case atStart => exact .inl ⟨rfl, rfl⟩
    case round =>
      rcases hrel with ⟨rfl, rfl⟩ | ⟨rfl, rfl⟩
      · go_wp2
        go_round
        case rel => exact .inr ⟨rfl, rfl⟩
        case measure => simp [intOf]
      · go_wp2
        go_ret
        exact ⟨ret_int Hm.out, rfl⟩
set_option maxHeartbeats 400000 in
theorem least_two (a x : Int) (b off : Nat) (w : World) (hx : w.cell? ⟨b, off, none⟩ = some (.int .i64 x)) :
    Calls Tryz.prog 176 #[.int .i64 a, .slice (some ⟨b, off, none⟩) 1 1] w fun e w' => e = .returned (.int .i64 (min a x)) ∧ w = w' := by
  by_cases h : x < a
  · have Hm := Lib.hid (show x = min a x by omega)
    go_enter Tryz.func176, Tryz.ntmps176
    go_wp2
    go_loop [0, 6, 9] (fun r _ k => (k = .int .i64 0 ∧ r = .int .i64 a) ∨ (k = .int .i64 1 ∧ r = .int .i64 x)) (fun _ _ k => (1 - intOf k).toNat)
    case atStart => exact .inl ⟨rfl, rfl⟩
    case round =>
      rcases hrel with ⟨rfl, rfl⟩ | ⟨rfl, rfl⟩
      · go_wp2
        go_round
        case rel => exact .inr ⟨rfl, rfl⟩
        case measure => simp [intOf]
      · go_wp2
        go_ret
        exact ⟨ret_int Hm.out, rfl⟩
  · have Hm := Lib.hid (show a = min a x by omega)
    go_enter Tryz.func176, Tryz.ntmps176
    go_wp2
    go_loop [0, 6, 9] (fun r _ k => (k = .int .i64 0 ∧ r = .int .i64 a) ∨ (k = .int .i64 1 ∧ r = .int .i64 a)) (fun _ _ k => (1 - intOf k).toNat)
    case atStart => exact .inl ⟨rfl, rfl⟩
    case round =>
      rcases hrel with ⟨rfl, rfl⟩ | ⟨rfl, rfl⟩
      · go_wp2
        go_round
        case rel => exact .inr ⟨rfl, rfl⟩
        case measure => simp [intOf]
      · go_wp2
        go_ret
        exact ⟨ret_int Hm.out, rfl⟩
def farI (a b : Int) : Int := max (a - b) (b - a)
set_option maxHeartbeats 400000 in
theorem difference_any (a b : Int) (w : World) (ha : -1000000000 ≤ a) (ha' : a ≤ 1000000000) (hb : -1000000000 ≤ b) (hb' : b ≤ 1000000000) :
    Calls Tryz.prog 91 #[.int .i64 a, .int .i64 b] w fun e w' => e = .returned (.int .i64 (farI a b)) ∧ Below w.heap.size w w' := by
  have e1 : IntKind.i64.wrap (a - b) = a - b := IntWalk.i64_in _ (by omega)
  have e2 : IntKind.i64.wrap (b - a) = b - a := IntWalk.i64_in _ (by omega)
  go_enter Tryz.func91, Tryz.ntmps91
  go_wp2_with (go_at_call 118; refine (greatest_two _ (b - a) _ _ _ (by simp)).mono ?_; rintro e w' ⟨rfl, rfl⟩)
  go_wp2
  go_ret
  exact ⟨rfl, (Below.refl _ _).alloc (Nat.le_refl _) _⟩
/-- How far two points are apart. -/
def rowsI (wd a b : Int) : Int := farI (a / wd) (b / wd)
def colsI (wd a b : Int) : Int := farI (a % wd) (b % wd)
set_option maxHeartbeats 4000000 in
theorem apart_any (wd rw a b : Int) (w : World) (h1 : 1 ≤ wd) (h2 : wd ≤ 1000) (ha : 0 ≤ a) (ha' : a ≤ 1000000) (hb : 0 ≤ b) (hb' : b ≤ 1000000) :
    Calls Tryz.prog 149 #[.agg #[.int .i64 wd, .int .i64 rw], .int .i64 a, .int .i64 b] w fun e w' => e = .returned (.tuple #[.int .i64 (rowsI wd a b), .int .i64 (colsI wd a b)]) ∧ Below w.heap.size w w' := by
  have q0 : 0 ≤ a / wd := Int.ediv_nonneg ha (by omega)
  have q1 : a / wd ≤ a := Int.ediv_le_self _ ha
  have q2 : 0 ≤ b / wd := Int.ediv_nonneg hb (by omega)
  have q3 : b / wd ≤ b := Int.ediv_le_self _ hb
  have m0 : 0 ≤ a % wd := Int.emod_nonneg _ (by omega)
  have m1 : a % wd < wd := Int.emod_lt_of_pos _ (by omega)
  have m2 : 0 ≤ b % wd := Int.emod_nonneg _ (by omega)
  have m3 : b % wd < wd := Int.emod_lt_of_pos _ (by omega)
  have D1 := fun W => difference_any (a / wd) (b / wd) W (by omega) (by omega) (by omega) (by omega)
  have D2 := fun W => difference_any (a % wd) (b % wd) W (by omega) (by omega) (by omega) (by omega)
  have e1 : a.tdiv wd = a / wd := Int.tdiv_eq_ediv_of_nonneg ha
  have e2 : b.tdiv wd = b / wd := Int.tdiv_eq_ediv_of_nonneg hb
  have e3 : a.tmod wd = a % wd := Int.tmod_eq_emod_of_nonneg ha
  have e4 : b.tmod wd = b % wd := Int.tmod_eq_emod_of_nonneg hb
  have e5 : IntKind.i64.wrap (a / wd) = a / wd := IntWalk.i64_in _ (by omega)
  have e6 : IntKind.i64.wrap (b / wd) = b / wd := IntWalk.i64_in _ (by omega)
  have e7 : IntKind.i64.wrap (a % wd) = a % wd := IntWalk.i64_in _ (by omega)
  have e8 : IntKind.i64.wrap (b % wd) = b % wd := IntWalk.i64_in _ (by omega)
  have e9 : (wd == 0) = false := by simp; omega
  have e10 : ¬ wd = 0 := by omega
  unfold rowsI colsI
  go_enter Tryz.func149, Tryz.ntmps149
  go_wp2_with fail
  have HR := Lib.hid ((Frm.nil w).add (.cells #[.int .i64 wd, .int .i64 rw] 85) rfl)
  have x0 := HR.out.cells (List.mem_cons_self ..)
  go_region_held3 (fun w' => (∀ o, w'.cell? ⟨w.heap.size, o, none⟩ = #[Value.int .i64 wd, .int .i64 rw][o]?)) ((exact (fun hF : Frm w [(w.heap.size, .cells #[.int .i64 wd, .int .i64 rw] 85)] _ => hF.cells (List.mem_cons_self ..)) (by (repeat (with_reducible first | exact HR.out | apply Frm.drew | apply Frm.alloc | apply Frm.drewN))))) ((go_at_call 91; (first | (with_reducible refine (D1 _).mono ?_) | (with_reducible refine (D2 _).mono ?_)); rintro e wa ⟨rfl, hba⟩; have HRq := Lib.hid (Frm.below (w := w) (bs := [(w.heap.size, .cells #[.int .i64 wd, .int .i64 rw] 85)]) (by (repeat (with_reducible first | exact HR.out | apply Frm.drew | apply Frm.alloc | apply Frm.drewN))) hba); clear HR; have HR := HRq; clear HRq hba))
  all_goals
    go_wp2_with fail
    refine bodyPost_ret (v := .tuple #[.int .i64 (farI (a / wd) (b / wd)), .int .i64 (farI (a % wd) (b % wd))]) (by simp [results, Tryz.results149, go_sem]) rfl ⟨rfl, HR.out.b⟩
theorem farI_bd {a b N : Int} (ha : 0 ≤ a) (ha' : a ≤ N) (hb : 0 ≤ b) (hb' : b ≤ N) : 0 ≤ farI a b ∧ farI a b ≤ N := by unfold farI; omega
/-- The distance of two points. -/
def distI (wd a b : Int) : Int := rowsI wd a b + colsI wd a b
theorem dist_bd {wd a b : Int} (h1 : 1 ≤ wd) (ha : 0 ≤ a) (ha' : a ≤ 1000000) (hb : 0 ≤ b) (hb' : b ≤ 1000000) : 0 ≤ rowsI wd a b ∧ rowsI wd a b ≤ 1000000 ∧ 0 ≤ colsI wd a b ∧ colsI wd a b ≤ wd := by
  have q0 : 0 ≤ a / wd := Int.ediv_nonneg ha (by omega)
  have q1 : a / wd ≤ a := Int.ediv_le_self _ ha
  have q2 : 0 ≤ b / wd := Int.ediv_nonneg hb (by omega)
  have q3 : b / wd ≤ b := Int.ediv_le_self _ hb
  have m0 : 0 ≤ a % wd := Int.emod_nonneg _ (by omega)
  have m1 : a % wd < wd := Int.emod_lt_of_pos _ (by omega)
  have m2 : 0 ≤ b % wd := Int.emod_nonneg _ (by omega)
  have m3 : b % wd < wd := Int.emod_lt_of_pos _ (by omega)
  have := farI_bd q0 (N := 1000000) (by omega) q2 (by omega)
  have := farI_bd m0 (N := wd) (by omega) m2 (by omega)
  exact ⟨this.1 |> fun _ => by unfold rowsI; omega, by unfold rowsI; omega, by unfold colsI; omega, by unfold colsI; omega⟩
set_option maxHeartbeats 1000000 in
theorem distance_any (wd rw a b : Int) (w : World) (h1 : 1 ≤ wd) (h2 : wd ≤ 1000) (ha : 0 ≤ a) (ha' : a ≤ 1000000) (hb : 0 ≤ b) (hb' : b ≤ 1000000) :
    Calls Tryz.prog 117 #[.agg #[.int .i64 wd, .int .i64 rw], .int .i64 a, .int .i64 b] w fun e w' => e = .returned (.int .i64 (distI wd a b)) ∧ Below w.heap.size w w' := by
  obtain ⟨d0, d1, d2, d3⟩ := dist_bd h1 ha ha' hb hb'
  have e1 : IntKind.i64.wrap (rowsI wd a b + colsI wd a b) = rowsI wd a b + colsI wd a b := IntWalk.i64_in _ (by omega)
  unfold distI
  go_enter Tryz.func117, Tryz.ntmps117
  go_wp2_with fail
  refine (apart_any wd rw a b _ h1 h2 ha ha' hb hb').mono ?_
  rintro e w1 ⟨rfl, hb1⟩
  have HB := Lib.hid (((Below.refl w.heap.size w).alloc (Nat.le_refl _) _).trans (hb1.mono (by simp)))
  clear hb1
  go_wp2
  go_ret
  exact ⟨rfl, HB.out⟩
/-- A view: a map and its grid. -/
@[reducible] def viewV (wd rw sl : Int) (S : Value) : Value := .agg #[.int .i64 wd, .int .i64 rw, .int .i64 sl, S, .int .i64 wd, .int .i64 rw]
set_option maxHeartbeats 4000000 in
theorem change_any (wd rw sl a b : Int) (S : Value) (w : World) (h1 : 1 ≤ wd) (h2 : wd ≤ 1000) (hs : 0 ≤ sl) (hs' : sl ≤ 1000000) (ha : 0 ≤ a) (ha' : a ≤ 1000000) (hb : 0 ≤ b) (hb' : b ≤ 1000000) :
    Calls Tryz.prog 151 #[viewV wd rw sl S, .int .i64 a, .int .i64 b] w fun e w' => e = .returned (.int .i64 (sl * distI wd a b)) ∧ Below w.heap.size w w' := by
  obtain ⟨d0, d1, d2, d3⟩ := dist_bd h1 ha ha' hb hb'
  have p0 : 0 ≤ sl * distI wd a b := Int.mul_nonneg hs (by unfold distI; omega)
  have p1 : sl * distI wd a b ≤ 1000000 * 2000000 := Int.mul_le_mul hs' (by unfold distI; omega) (by unfold distI; omega) (by omega)
  have e1 : IntKind.i64.wrap (sl * distI wd a b) = sl * distI wd a b := IntWalk.i64_in _ (by omega)
  go_enter Tryz.func151, Tryz.ntmps151
  go_wp2_with fail
  have HR := Lib.hid ((Frm.nil w).add (.cells #[.int .i64 wd, .int .i64 rw, .int .i64 sl, S, .int .i64 wd, .int .i64 rw] 87) rfl)
  have x0 := HR.out.cells (List.mem_cons_self ..)
  go_region_held3 (fun w' => (∀ o, w'.cell? ⟨w.heap.size, o, none⟩ = #[Value.int .i64 wd, .int .i64 rw, .int .i64 sl, S, .int .i64 wd, .int .i64 rw][o]?)) ((exact (fun hF : Frm w [(w.heap.size, (.cells #[.int .i64 wd, .int .i64 rw, .int .i64 sl, S, .int .i64 wd, .int .i64 rw] 87))] _ => hF.cells (List.mem_cons_self ..)) (by (repeat (with_reducible first | exact HR.out | apply Frm.drew | apply Frm.alloc | apply Frm.drewN))))) ((go_at_call 117; refine (distance_any wd rw a b _ h1 h2 ha ha' hb hb').mono ?_; rintro e wa ⟨rfl, hba⟩; have HRq := Lib.hid (Frm.below (w := w) (bs := [(w.heap.size, (.cells #[.int .i64 wd, .int .i64 rw, .int .i64 sl, S, .int .i64 wd, .int .i64 rw] 87))]) (by (repeat (with_reducible first | exact HR.out | apply Frm.drew | apply Frm.alloc | apply Frm.drewN))) hba); clear HR; have HR := HRq; clear HRq hba))
  all_goals
    go_wp2_with fail
    go_ret
    exact ⟨rfl, HR.out.b⟩
end Go.Proofs.YtpkmojcppdogkaaGreatDoor
