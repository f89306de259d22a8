/- Part of a claim on cone. -/
import Derived.Test.YtldimlnllmojiaaGreatVb
set_option linter.unusedVariables false
set_option linter.unusedSimpArgs false
namespace Go.Proofs.YtldimlnllmojiaaGreat
open Go.RowKit
open Go.Shelf
attribute [local go_sem] Oper.semAt_some
theorem values_any (A : Option Addr) (n c : Nat) (w : World) :
    Calls Tryz.prog 97 #[.slice A n c] w fun e w' => e = .returned (Value.func (.func 113) #[] #[.pointer (some ⟨w.heap.size, 0, none⟩)]) ∧ w' = w.alloc (.cells #[.slice A n c] 100) := by
  go_enter Tryz.func97, Tryz.ntmps97
  go_wp2
  go_ret
  exact ⟨rfl, rfl⟩
set_option maxHeartbeats 1600000 in
set_option maxRecDepth 100000 in
theorem at_any (m : Int) (A : Option Addr) (c : Nat) (ss : List (Int × Int)) (w : World) (hlen : ss.length ≤ 1000) (hS : Sps w (.slice A ss.length c) ss) (hs : ∀ b off, A = some ⟨b, off, none⟩ → b < w.heap.size) :
    Calls Tryz.prog 73 #[.slice A ss.length c, .int .i64 m] w fun e w' => e = .returned (.bool (seenB ss m)) ∧ Below w.heap.size w w' := by
  have HR := Lib.hid (((Frm.nil w).add (.cells #[.int .i64 m] 3) rfl).add (k := w.heap.size + 1) (.cells #[.slice A ss.length c] 100) (by simp))
  have HS := Lib.hid hS
  clear hS
  go_enter Tryz.func73, Tryz.ntmps73
  go_wp2_with fail
  go_at_call 97
  refine (values_any _ _ _ _).mono ?_
  rintro e _ ⟨rfl, rfl⟩
  obtain ⟨W2, hW2⟩ : ∃ W2, (w.alloc (.cells #[.int .i64 m] 3)).alloc (.cells #[.slice A ss.length c] 100) = W2 := ⟨_, rfl⟩
  rw [hW2] at HR
  have hF := Lib.hid (first_in m A c ss (w.heap.size + 1) w.heap.size W2 hlen (HS.out.below HR.out.b (Nat.le_refl _)) (HR.out.lt mZ) (HR.out.h _ (mS mZ)) (HR.out.h _ mZ) (fun b off h => Nat.lt_of_lt_of_le (hs b off h) HR.out.size))
  have hz : (w.alloc (.cells #[.int .i64 m] 3)).heap.size = w.heap.size + 1 := by simp
  rw [hW2, hz]
  clear hW2 hz
  go_wp2_with fail
  go_at_call 96
  refine hF.out.mono ?_
  rintro e W3 ⟨y, rfl, hb3⟩
  have HB := Lib.hid (HR.out.below hb3).b
  clear hb3
  go_wp2_with fail
  go_ret
  exact ⟨rfl, below_al HB.out _⟩
set_option maxHeartbeats 1600000 in
set_option maxRecDepth 100000 in
theorem must_ok (m : Int) (A : Option Addr) (c : Nat) (ss : List (Int × Int)) (w : World) (hlen : ss.length ≤ 1000) (hS : Sps w (.slice A ss.length c) ss) (hs : ∀ b off, A = some ⟨b, off, none⟩ → b < w.heap.size) (hm : seenB ss m = true) :
    Calls Tryz.prog 129 #[.slice A ss.length c, .int .i64 m] w fun e w' => e = .returned (.tuple #[]) ∧ Below w.heap.size w w' := by
  have HA := Lib.hid (at_any m A c ss w hlen hS hs)
  rw [hm] at HA
  clear hS
  go_enter Tryz.func129, Tryz.ntmps129
  go_wp2_with fail
  go_at_call 73
  refine HA.out.mono ?_
  rintro e W3 ⟨rfl, hb3⟩
  go_wp2_with fail
  go_end0
  exact ⟨rfl, hb3⟩
set_option maxHeartbeats 1600000 in
set_option maxRecDepth 100000 in
theorem must_no (m : Int) (A : Option Addr) (c : Nat) (ss : List (Int × Int)) (w : World) (hlen : ss.length ≤ 1000) (hS : Sps w (.slice A ss.length c) ss) (hs : ∀ b off, A = some ⟨b, off, none⟩ → b < w.heap.size) (hm : seenB ss m = false) :
    Calls Tryz.prog 129 #[.slice A ss.length c, .int .i64 m] w fun e w' => e = .panicked [{ v := .iface 154 (.int .i64 m), recovered := false }] ∧ Below w.heap.size w w' := by
  have HA := Lib.hid (at_any m A c ss w hlen hS hs)
  rw [hm] at HA
  clear hS
  go_enter Tryz.func129, Tryz.ntmps129
  go_wp2_with fail
  go_at_call 73
  refine HA.out.mono ?_
  rintro e W3 ⟨rfl, hb3⟩
  go_wp2_with fail
  exact ⟨rfl, rfl, hb3⟩
theorem minutes_any (lo hi : Int) (w : World) :
    Calls Tryz.prog 115 #[.agg #[.int .i64 lo, .int .i64 hi]] w fun e w' => e = .returned (Value.func (.func 127) #[] #[.pointer (some ⟨w.heap.size, 0, none⟩)]) ∧ w' = w.alloc (.cells #[.int .i64 lo, .int .i64 hi] 56) := by
  go_enter Tryz.func115, Tryz.ntmps115
  go_wp2
  go_ret
  exact ⟨rfl, rfl⟩
end Go.Proofs.YtldimlnllmojiaaGreat
