/- A comparison more: the bounds, and whether the comparisons agree. -/
import Derived.Test.YtbpkkphmmengnaaDoorIdm
import Derived.Test.YtbpkkphmmengnaaDoorRag
set_option linter.unusedVariables false
set_option linter.unusedSimpArgs false
namespace Go.Proofs.YtbpkkphmmengnaaDoor
open Go.RowKit Go.Maps
theorem lowF_snoc (s : Stn) (d : Int) (cs : List Chk) (c : Chk) : lowF s d (cs ++ [c]) = max (lowF s d cs) (c.lo - s.dr * farI d c.day) := by simp [lowF, List.foldl_append]
theorem highF_snoc (s : Stn) (d : Int) (cs : List Chk) (c : Chk) : highF s d (cs ++ [c]) = min (highF s d cs) (c.hi + s.dr * farI d c.day) := by simp [highF, List.foldl_append]
theorem snoc_sound {s : Stn} {cs : List Chk} {c : Chk} (hs : soundB s cs = true) (hl : cs.length < 12) (hc : chkB c = true) : soundB s (cs ++ [c]) = true := by
  simp only [soundB, Bool.and_eq_true, List.all_eq_true] at hs ⊢
  obtain ⟨⟨⟨⟨⟨⟨⟨_, ha⟩, hb⟩, hc'⟩, hd⟩, he⟩, hf⟩, hg⟩ := hs
  refine ⟨⟨⟨⟨⟨⟨⟨by simp; omega, fun z hz => ?_⟩, hb⟩, hc'⟩, hd⟩, he⟩, hf⟩, hg⟩
  rcases List.mem_append.1 hz with hz | hz
  · exact ha z hz
  · obtain rfl : z = c := by simpa using hz
    exact hc
/-- A comparison between the bounds of its day contradicts none. -/
theorem snoc_agreed {s : Stn} {cs : List Chk} {c : Chk} (hs : Sane s cs) (ha : Agreed s cs) (h1 : lowF s c.day cs ≤ c.lo) (h2 : c.lo ≤ c.hi) (h3 : c.hi ≤ highF s c.day cs) : Agreed s (cs ++ [c]) := by
  refine agreed_mk fun a ha' b hb' => ?_
  have hd := hs.d0
  rcases List.mem_append.1 ha' with hx | hx
  · rcases List.mem_append.1 hb' with hy | hy
    · exact agreed_pair hs ha hx hy
    · obtain rfl : b = c := by simpa using hy
      have q := (lowF_ge s b.day cs).2 a hx
      rw [farI_comm] at q
      omega
  · obtain rfl : a = c := by simpa using hx
    rcases List.mem_append.1 hb' with hy | hy
    · have q := (highF_le s a.day cs).2 b hy
      omega
    · obtain rfl : b = a := by simpa using hy
      rw [farI_self]
      simp only [Int.mul_zero]
      omega
end Go.Proofs.YtbpkkphmmengnaaDoor
