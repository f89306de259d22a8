/- The last line of a sheet, by the program: of any text of ASCII bytes. -/
import Derived.Test.YtffgcphmakfikaaDoorBase
import Derived.Test.YtffgcphmakfikaaDoorShelf
import Derived.Lib.AppendIntMem
import Derived.Lib.ItoaLen
import Derived.Laws.RangeString
import Derived.Laws.RangeAny
import Derived.IntWalk
set_option linter.unusedVariables false
set_option linter.unusedSimpArgs false
namespace Go.Proofs.YtffgcphmakfikaaDoor
open Go.RowKit

/-- The table of powers of ten of the library. -/
def Tab (w : World) : Prop := Lib.TabIs Tryd.prog w "internal/strconv.uint64pow10" .u64 Lib.pow10Tab
theorem Tab.below {w w' : World} (h : Tab w) (hb : Below w.heap.size w w') : Tab w' := Lib.tabBelow_of_tabIs h w' hb

theorem itoa_any (n : Int) (w : World) (h0 : -1000000000000000 ≤ n) (h1 : n ≤ 1000000000000000) (ht : Tab w) :
    Calls Tryd.prog 68 #[.int .i64 n] w fun e w' => e = .returned (.string ⟨(Lib.itoa n).toArray⟩) ∧ Below w.heap.size w w' :=
  (Tryd.strconv_Itoa n (by omega) (by omega) w ht).mono fun _ _ h => h.elim fun he h => ⟨he, h.elim fun k h => h.elim fun os h => h ▸ Lib.below_grow _ w (Nat.le_refl _) k os⟩

/-- The sum of the digits, each as often as its place says, and how many digits there are. -/
def digStep (p : Int × Int) (c : UInt8) : Int × Int := if 48 ≤ c.toNat ∧ c.toNat ≤ 57 then (p.1 + ((c.toNat : Int) - 48) * (1 + p.2 % 8), p.2 + 1) else p
def digs (l : List UInt8) : Int × Int := l.foldl digStep (0, 0)
def checkF (l : List UInt8) : Int := 100 + (digs l).1 % 97
def endF (l : List UInt8) : List UInt8 := [101, 110, 100, 32] ++ (Lib.itoa (checkF l)).drop 1 ++ [10]
theorem digs_snoc (l : List UInt8) (c : UInt8) : digs (l ++ [c]) = digStep (digs l) c := by simp [digs, List.foldl_append]
theorem digs_bd (l : List UInt8) : 0 ≤ (digs l).1 ∧ (digs l).1 ≤ 72 * l.length ∧ 0 ≤ (digs l).2 ∧ (digs l).2 ≤ l.length := by
  unfold digs
  suffices h : ∀ (l : List UInt8) (p : Int × Int) (n : Nat), (0 ≤ p.1 ∧ p.1 ≤ 72 * n ∧ 0 ≤ p.2 ∧ p.2 ≤ n) → 0 ≤ (l.foldl digStep p).1 ∧ (l.foldl digStep p).1 ≤ 72 * ((n + l.length : Nat) : Int) ∧ 0 ≤ (l.foldl digStep p).2 ∧ (l.foldl digStep p).2 ≤ ((n + l.length : Nat) : Int) by
    simpa using h l (0, 0) 0 (by simp)
  intro l
  induction l with
  | nil => intro p n h; simpa using h
  | cons c l ih =>
    intro p n h
    rw [List.foldl_cons]
    have := ih (digStep p c) (n + 1) (by
      unfold digStep
      by_cases hc : 48 ≤ c.toNat ∧ c.toNat ≤ 57
      · rw [if_pos hc]
        have h1 : 0 ≤ 1 + p.2 % 8 := by omega
        have h2 : 1 + p.2 % 8 ≤ 8 := by omega
        have h3 : (0 : Int) ≤ (c.toNat : Int) - 48 := by omega
        have h4 : (c.toNat : Int) - 48 ≤ 9 := by omega
        have h5 : 0 ≤ ((c.toNat : Int) - 48) * (1 + p.2 % 8) := Int.mul_nonneg h3 h1
        have h6 : ((c.toNat : Int) - 48) * (1 + p.2 % 8) ≤ 9 * 8 := Int.mul_le_mul h4 h2 h1 (by omega)
        simp only
        omega
      · rw [if_neg hc]; omega)
    simp only [List.length_cons]
    have e : n + (l.length + 1) = n + 1 + l.length := by omega
    rw [e]
    exact this
theorem take_byte (s : ByteArray) (k : Nat) (h : k < s.size) : s.data.toList.take (k + 1) = s.data.toList.take k ++ [s[k]] := by
  rw [List.take_succ_eq_append_getElem (by simpa using h)]; rfl

theorem itoa_pos (n : Int) : 1 ≤ (Lib.itoa n).length := by
  unfold Lib.itoa
  split
  · simp
  · rw [Lib.decDigits_length]; exact Lib.nDigits_pos _

theorem endStr (l : List UInt8) : (({ data := #[101, 110, 100, 32] } : ByteArray) ++ ({ data := l.toArray } : ByteArray).extract 1 l.length ++ { data := #[10] }) = { data := ([101, 110, 100, 32] ++ l.drop 1 ++ [10]).toArray } := by
  apply ByteArray.ext
  apply Array.ext'
  simp [ByteArray.data_extract]
  exact List.take_of_length_le (by simp)

set_option maxHeartbeats 800000 in
theorem ending_any (s : ByteArray) (w : World) (hs : s.size ≤ 1000000) (ha : ∀ (k : Nat) (h : k < s.size), (s[k]'h).toNat < 128) (ht : Tab w) :
    Calls Tryd.prog 44 #[.string s] w fun e w' => e = .returned (.string ⟨(endF s.data.toList).toArray⟩) ∧ Below w.heap.size w w' := by
  go_enter Tryd.func44, Tryd.ntmps44
  go_wp2
  go_loopw [3, 4] (fun a b wr => ∃ k : Nat, k ≤ s.size ∧ wr = w.iter s k ∧ a = .int .i64 (digs (s.data.toList.take k)).1 ∧ b = .int .i64 (digs (s.data.toList.take k)).2) (fun _ _ wr => s.size - wr.iterPos w.heap.size)
  case atStart => exact ⟨0, Nat.zero_le _, rfl, rfl, rfl⟩
  case round =>
    obtain ⟨k, hk, rfl, rfl, rfl⟩ := hrel
    have hd := digs_bd (s.data.toList.take k)
    have hl : (s.data.toList.take k).length ≤ k := List.length_take_le _ _
    obtain ⟨hd0, hd1, hd2, hd3⟩ := hd
    by_cases hlt : k < s.size
    · have hak := ha k hlt
      have hnx := fun ty => run_next_ascii (P := Tryd.prog) w s k ty hlt hak
      have HS := Lib.hid (digs_snoc (s.data.toList.take k) s[k])
      have HT := Lib.hid (take_byte s k hlt)
      generalize hp : digs (s.data.toList.take k) = p at *
      have Hp := Lib.hid hp
      clear hp
      obtain ⟨p1, p2⟩ := p
      simp only at hd0 hd1 hd2 hd3
      generalize s[k] = c at *
      have hr : (0 : Int) ≤ c.toNat := by omega
      by_cases h1 : 48 ≤ c.toNat
      · by_cases h2 : c.toNat ≤ 57
        · have e1 : digStep (p1, p2) c = (p1 + ((c.toNat : Int) - 48) * (1 + p2 % 8), p2 + 1) := by simp [digStep, h1, h2]
          have E1 := Lib.hid e1
          clear e1
          have m1 : 0 ≤ ((c.toNat : Int) - 48) * (1 + p2 % 8) := Int.mul_nonneg (by omega) (by omega)
          have m2 : ((c.toNat : Int) - 48) * (1 + p2 % 8) ≤ 9 * 8 := Int.mul_le_mul (by omega) (by omega) (by omega) (by omega)
          go_wp2
          all_goals
            go_roundw
            case rel => exact ⟨k + 1, by omega, rfl, by rw [HT.out, HS.out, E1.out], by rw [HT.out, HS.out, E1.out]⟩
            case measure => simp; omega
        · have e1 : digStep (p1, p2) c = (p1, p2) := by simp [digStep, h2]
          have E1 := Lib.hid e1
          clear e1
          go_wp2
          all_goals
            go_roundw
            case rel => exact ⟨k + 1, by omega, rfl, by rw [HT.out, HS.out, E1.out], by rw [HT.out, HS.out, E1.out]⟩
            case measure => simp; omega
      · have e1 : digStep (p1, p2) c = (p1, p2) := by simp [digStep, h1]
        have E1 := Lib.hid e1
        clear e1
        go_wp2
        all_goals
          go_roundw
          case rel => exact ⟨k + 1, by omega, rfl, by rw [HT.out, HS.out, E1.out], by rw [HT.out, HS.out, E1.out]⟩
          case measure => simp; omega
    · obtain rfl : k = s.size := by omega
      have hfull : s.data.toList.take s.size = s.data.toList := List.take_of_length_le (by simp)
      have hnx := fun ty => run_next_end (P := Tryd.prog) w s s.size ty (by omega)
      have HB := Lib.hid ((Below.refl w.heap.size w).alloc (Nat.le_refl _) (.stringIter s s.size))
      have Ht := Lib.hid (ht.below HB.out)
      have HE := Lib.hid (show checkF s.data.toList = 100 + (digs (s.data.toList.take s.size)).1 % 97 by rw [hfull]; rfl)
      have HF := Lib.hid (show endF s.data.toList = [101, 110, 100, 32] ++ (Lib.itoa (checkF s.data.toList)).drop 1 ++ [10] from rfl)
      have hlen := Lib.itoa_length_le (100 + (digs (s.data.toList.take s.size)).1 % 97) (by omega) (by omega)
      have hlen1 : 1 ≤ (Lib.itoa (100 + (digs (s.data.toList.take s.size)).1 % 97)).length := itoa_pos _
      clear ht hfull
      generalize (digs (s.data.toList.take s.size)).1 = p at *
      generalize (digs (s.data.toList.take s.size)).2 = q at *
      go_wp2_with (go_at_call 68; refine (itoa_any _ _ (by omega) (by omega) Ht.out).mono ?_; rintro e w1 ⟨rfl, hb1⟩)
      go_ret
      exact ⟨by rw [HF.out, HE.out]; exact congrArg (fun x => Ending.returned (.string x)) (endStr _), HB.out.trans (hb1.mono (by simp [World.iter]))⟩
end Go.Proofs.YtffgcphmakfikaaDoor
