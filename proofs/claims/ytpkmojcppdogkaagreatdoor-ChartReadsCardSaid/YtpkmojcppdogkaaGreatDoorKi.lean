/- Lists of numbers in memory. -/
import Derived.Test.YtpkmojcppdogkaaGreatDoorCt
import Derived.Test.YtpkmojcppdogkaaGreatDoorZyf
set_option linter.unusedVariables false
set_option linter.unusedSimpArgs false
namespace Go.Proofs.YtpkmojcppdogkaaGreatDoor
open Go.RowKit
def Tab (w : World) : Prop := Lib.TabIs Tryz.prog w "internal/strconv.uint64pow10" .u64 Lib.pow10Tab
theorem Tab.below {w w' : World} (h : Tab w) (hb : Below w.heap.size w w') : Tab w' := Lib.tabBelow_of_tabIs h w' hb
/-- A slice that reads as a list of numbers. -/
def Ints (w : World) (v : Value) (zs : List Int) : Prop :=
  ∃ A cap, v = .slice A zs.length cap ∧ zs.length ≤ cap ∧ cap ≤ maxLen ∧ (zs = [] ∨ ∃ b off, A = some ⟨b, off, none⟩ ∧ b < w.heap.size ∧ ∀ (i : Nat) (z : Int), zs[i]? = some z → w.cell? ⟨b, off + i, none⟩ = some (.int .i64 z))
theorem int_cell {w W : World} {A : Option Addr} {cap i : Nat} {zs : List Int} {z : Int} (h : Ints w (.slice A zs.length cap) zs) (hb : Below w.heap.size w W) (hi : zs[i]? = some z) : ∃ b off, A = some ⟨b, off, none⟩ ∧ zs.length ≤ cap ∧ cap ≤ maxLen ∧ W.cell? ⟨b, off + i, none⟩ = some (.int .i64 z) := by
  obtain ⟨A', cap', hv, hl, hm, h⟩ := h
  obtain ⟨rfl, -, rfl⟩ : A = A' ∧ zs.length = zs.length ∧ cap = cap' := by simpa using hv
  rcases h with rfl | ⟨b, off, hA, hlt, hc⟩
  · simp at hi
  · exact ⟨b, off, hA, hl, hm, (hb.cell (p := ⟨b, _, none⟩) hlt).trans (hc i z hi)⟩
theorem int_at {w W : World} {b off cap i : Nat} {zs : List Int} {z : Int} (h : Ints w (.slice (some ⟨b, off, none⟩) zs.length cap) zs) (hb : Below w.heap.size w W) (hi : zs[i]? = some z) : W.cell? ⟨b, off + i, none⟩ = some (.int .i64 z) := by
  obtain ⟨b', off', hA, _, _, hc⟩ := int_cell h hb hi
  obtain ⟨rfl, rfl⟩ : b = b' ∧ off = off' := by simpa using hA
  exact hc
end Go.Proofs.YtpkmojcppdogkaaGreatDoor
