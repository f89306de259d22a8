/- The program's variadic least and greatest, of two numbers. -/
import Derived.Test.YtffgcphmakfikaaDoorStn
import Derived.Deep.RegionHeld3
set_option linter.unusedVariables false
set_option linter.unusedSimpArgs false
namespace Go.Proofs.YtffgcphmakfikaaDoor
open Go.RowKit
set_option maxHeartbeats 400000 in
theorem greatest_two (a x : Int) (b off : Nat) (w : World) (hx : w.cell? ⟨b, off, none⟩ = some (.int .i64 x)) :
    Calls Tryd.prog 53 #[.int .i64 a, .slice (some ⟨b, off, none⟩) 1 1] w fun e w' => e = .returned (.int .i64 (max a x)) ∧ w = w' := by
  by_cases h : a < x
  · have Hm := Lib.hid (show x = max a x by omega)
    go_enter Tryd.func53, Tryd.ntmps53
    go_wp2
    go_loop [0, 6, 9] (fun r _ k => (k = .int .i64 0 ∧ r = .int .i64 a) ∨ (k = .int .i64 1 ∧ r = .int .i64 x)) (fun _ _ k => (1 - intOf k).toNat)
    case atStart => exact .inl ⟨rfl, rfl⟩
    case round =>
      rcases hrel with ⟨rfl, rfl⟩ | ⟨rfl, rfl⟩
      · go_wp2
        go_round
        case rel => exact .inr ⟨rfl, rfl⟩
        case measure => simp [intOf]
      · go_wp2
        go_ret
        exact ⟨ret_int Hm.out, rfl⟩
  · have Hm := Lib.hid (show a = max a x by omega)
    go_enter Tryd.func53, Tryd.ntmps53
    go_wp2
    go_loop [0, 6, 9] (fun r _ k => (k = .int .i64 0 ∧ r = .int .i64 a) ∨ (k = .int .i64 1 ∧ r = .int .i64 a)) (fun _ _ k => (1 - intOf k).toNat)
    case atStart => exact .inl ⟨rfl, rfl⟩
    case round =>
      rcases hrel with ⟨rfl, rfl⟩ | ⟨rfl, rfl⟩
      · go_wp2
        go_round
        case rel => exact .inr ⟨rfl, rfl⟩
        case measure => simp [intOf]
      · go_wp2
        go_ret
        exact ⟨ret_int Hm.out, rfl⟩
set_option maxHeartbeats 400000 in
theorem least_two (a x : Int) (b off : Nat) (w : World) (hx : w.cell? ⟨b, off, none⟩ = some (.int .i64 x)) :
    Calls Tryd.prog 54 #[.int .i64 a, .slice (some ⟨b, off, none⟩) 1 1] w fun e w' => e = .returned (.int .i64 (min a x)) ∧ w = w' := by
  by_cases h : x < a
  · have Hm := Lib.hid (show x = min a x by omega)
    go_enter Tryd.func54, Tryd.ntmps54
    go_wp2
    go_loop [0, 6, 9] (fun r _ k => (k = .int .i64 0 ∧ r = .int .i64 a) ∨ (k = .int .i64 1 ∧ r = .int .i64 x)) (fun _ _ k => (1 - intOf k).toNat)
    case atStart => exact .inl ⟨rfl, rfl⟩
    case round =>
      rcases hrel with ⟨rfl, rfl⟩ | ⟨rfl, rfl⟩
      · go_wp2
        go_round
        case rel => exact .inr ⟨rfl, rfl⟩
        case measure => simp [intOf]
      · go_wp2
        go_ret
        exact ⟨ret_int Hm.out, rfl⟩
  · have Hm := Lib.hid (show a = min a x by omega)
    go_enter Tryd.func54, Tryd.ntmps54
    go_wp2
    go_loop [0, 6, 9] (fun r _ k => (k = .int .i64 0 ∧ r = .int .i64 a) ∨ (k = .int .i64 1 ∧ r = .int .i64 a)) (fun _ _ k => (1 - intOf k).toNat)
    case atStart => exact .inl ⟨rfl, rfl⟩
    case round =>
      rcases hrel with ⟨rfl, rfl⟩ | ⟨rfl, rfl⟩
      · go_wp2
        go_round
        case rel => exact .inr ⟨rfl, rfl⟩
        case measure => simp [intOf]
      · go_wp2
        go_ret
        exact ⟨ret_int Hm.out, rfl⟩
/-- The value of a view. -/
@[reducible] def vwV (s : Stn) (v m : Value) : Value := .agg #[.int .i64 s.hl, .int .i64 s.hh, .int .i64 s.gl, .int .i64 s.gh, .int .i64 s.dr, .int .i64 s.rd, .int .i64 s.ea, .int .i64 s.sl, v, m]
def farI (a b : Int) : Int := max (a - b) (b - a)
set_option maxHeartbeats 400000 in
theorem change_any (s : Stn) (v m : Value) (a b : Int) (w : World) (hd : 0 ≤ s.dr) (hd' : s.dr ≤ 1000) (ha : 0 ≤ a) (ha' : a ≤ 10000) (hb : 0 ≤ b) (hb' : b ≤ 10000) :
    Calls Tryd.prog 63 #[vwV s v m, .int .i64 a, .int .i64 b] w fun e w' => e = .returned (.int .i64 (s.dr * farI a b)) ∧ Below w.heap.size w w' := by
  have hm0 : 0 ≤ max (a - b) (b - a) := by omega
  have hm1 : max (a - b) (b - a) ≤ 10000 := by omega
  have hp0 : 0 ≤ s.dr * max (a - b) (b - a) := Int.mul_nonneg hd hm0
  have hp1 : s.dr * max (a - b) (b - a) ≤ 1000 * 10000 := Int.mul_le_mul hd' hm1 hm0 (by omega)
  have e1 : IntKind.i64.wrap (a - b) = a - b := IntWalk.i64_in _ (by omega)
  have e2 : IntKind.i64.wrap (b - a) = b - a := IntWalk.i64_in _ (by omega)
  have e3 : IntKind.i64.wrap (s.dr * max (a - b) (b - a)) = s.dr * max (a - b) (b - a) := IntWalk.i64_in _ (by omega)
  go_enter Tryd.func63, Tryd.ntmps63
  go_wp2_with fail
  go_region_held3 (fun w' => w'.cell? ⟨w.heap.size, 4, none⟩ = some (.int .i64 s.dr)) (go_keep) ((go_at_call 53; refine (greatest_two _ (b - a) _ _ _ (by simp)).mono ?_; rintro e w' ⟨rfl, rfl⟩))
  go_wp2
  go_ret
  exact ⟨rfl, (((Below.refl _ _).alloc (Nat.le_refl _) _).alloc (by simp) _).drew⟩
end Go.Proofs.YtffgcphmakfikaaDoor
