/- The bounds of an index: pure arithmetic. -/
import Derived.Test.YtffgcphmakfikaaDoorKn
set_option linter.unusedVariables false
set_option linter.unusedSimpArgs false
namespace Go.Proofs.YtffgcphmakfikaaDoor
open Go.RowKit

theorem foldl_max_ge {α : Type} (f : α → Int) : ∀ (l : List α) (a : Int), a ≤ l.foldl (fun x c => max x (f c)) a ∧ ∀ c ∈ l, f c ≤ l.foldl (fun x c => max x (f c)) a
  | [], a => ⟨Int.le_refl _, fun c hc => by cases hc⟩
  | d :: l, a => by
    obtain ⟨h1, h2⟩ := foldl_max_ge f l (max a (f d))
    rw [List.foldl_cons]
    refine ⟨by omega, fun c hc => ?_⟩
    rcases List.mem_cons.1 hc with rfl | hc
    · omega
    · exact h2 c hc
theorem foldl_max_le {α : Type} (f : α → Int) : ∀ (l : List α) (a b : Int), a ≤ b → (∀ c ∈ l, f c ≤ b) → l.foldl (fun x c => max x (f c)) a ≤ b
  | [], a, b, h, _ => h
  | d :: l, a, b, h, hl => foldl_max_le f l (max a (f d)) b (by have := hl d (List.mem_cons_self ..); omega) (fun c hc => hl c (List.mem_cons_of_mem _ hc))
theorem foldl_min_le {α : Type} (f : α → Int) : ∀ (l : List α) (a : Int), l.foldl (fun x c => min x (f c)) a ≤ a ∧ ∀ c ∈ l, l.foldl (fun x c => min x (f c)) a ≤ f c
  | [], a => ⟨Int.le_refl _, fun c hc => by cases hc⟩
  | d :: l, a => by
    obtain ⟨h1, h2⟩ := foldl_min_le f l (min a (f d))
    rw [List.foldl_cons]
    refine ⟨by omega, fun c hc => ?_⟩
    rcases List.mem_cons.1 hc with rfl | hc
    · omega
    · exact h2 c hc
theorem foldl_min_ge {α : Type} (f : α → Int) : ∀ (l : List α) (a b : Int), b ≤ a → (∀ c ∈ l, b ≤ f c) → b ≤ l.foldl (fun x c => min x (f c)) a
  | [], a, b, h, _ => h
  | d :: l, a, b, h, hl => foldl_min_ge f l (min a (f d)) b (by have := hl d (List.mem_cons_self ..); omega) (fun c hc => hl c (List.mem_cons_of_mem _ hc))

theorem lowF_ge (s : Stn) (d : Int) (cs : List Chk) : -2000 ≤ lowF s d cs ∧ ∀ c ∈ cs, c.lo - s.dr * farI d c.day ≤ lowF s d cs := foldl_max_ge (fun c : Chk => c.lo - s.dr * farI d c.day) cs (-2000)
theorem lowF_le {s : Stn} {d b : Int} {cs : List Chk} (h : -2000 ≤ b) (hc : ∀ c ∈ cs, c.lo - s.dr * farI d c.day ≤ b) : lowF s d cs ≤ b := foldl_max_le (fun c : Chk => c.lo - s.dr * farI d c.day) cs (-2000) b h hc
theorem highF_le (s : Stn) (d : Int) (cs : List Chk) : highF s d cs ≤ 2000 ∧ ∀ c ∈ cs, highF s d cs ≤ c.hi + s.dr * farI d c.day := foldl_min_le (fun c : Chk => c.hi + s.dr * farI d c.day) cs 2000
theorem highF_ge {s : Stn} {d b : Int} {cs : List Chk} (h : b ≤ 2000) (hc : ∀ c ∈ cs, b ≤ c.hi + s.dr * farI d c.day) : b ≤ highF s d cs := foldl_min_ge (fun c : Chk => c.hi + s.dr * farI d c.day) cs 2000 b h hc

theorem farI_tri (a b c : Int) : farI a c ≤ farI a b + farI b c := by unfold farI; omega
theorem farI_comm (a b : Int) : farI a b = farI b a := by unfold farI; omega
theorem farI_self (a : Int) : farI a a = 0 := by unfold farI; omega
theorem farI_nonneg (a b : Int) : 0 ≤ farI a b := by unfold farI; omega
theorem mul_far {d x y : Int} (hd : 0 ≤ d) (h : x ≤ y) : d * x ≤ d * y := Int.mul_le_mul_of_nonneg_left h hd

/-- What it means that two comparisons do not contradict each other. -/
theorem contraB_no {s : Stn} {a b : Chk} (h : contraB s a b = false) : a.lo - b.hi ≤ s.dr * farI a.day b.day ∧ b.lo - a.hi ≤ s.dr * farI a.day b.day := by
  simp only [contraB, decide_eq_false_iff_not] at h
  omega
theorem agreed_pair {s : Stn} {cs : List Chk} (hs : Sane s cs) (ha : Agreed s cs) {a b : Chk} (h1 : a ∈ cs) (h2 : b ∈ cs) : a.lo - b.hi ≤ s.dr * farI a.day b.day := by
  obtain ⟨i, hi, rfl⟩ := List.mem_iff_getElem.1 h1
  obtain ⟨j, hj, rfl⟩ := List.mem_iff_getElem.1 h2
  rcases Nat.lt_trichotomy i j with h | h | h
  · exact (contraB_no (ha.no h (List.getElem?_eq_getElem hi) (List.getElem?_eq_getElem hj))).1
  · subst h
    have := (hs.all _ (List.getElem_mem hi)).lh
    rw [farI_self, Int.mul_zero]
    omega
  · rw [farI_comm]
    exact (contraB_no (ha.no h (List.getElem?_eq_getElem hj) (List.getElem?_eq_getElem hi))).2
theorem agreed_mk {s : Stn} {cs : List Chk} (h : ∀ a ∈ cs, ∀ b ∈ cs, a.lo - b.hi ≤ s.dr * farI a.day b.day) : Agreed s cs := by
  rintro i j _ ⟨a, b, ha, hb, hc⟩
  have h1 := h a (List.mem_of_getElem? ha) b (List.mem_of_getElem? hb)
  have h2 := h b (List.mem_of_getElem? hb) a (List.mem_of_getElem? ha)
  rw [farI_comm] at h2
  simp only [contraB, decide_eq_true_eq] at hc
  omega
/-- Where the comparisons agree, the bounds of a day are a span. -/
theorem low_le_high {s : Stn} {cs : List Chk} (hs : Sane s cs) (ha : Agreed s cs) (d : Int) : lowF s d cs ≤ highF s d cs := by
  have hd := hs.d0
  refine lowF_le (highF_ge (by omega) fun b hb => ?_) fun a h1 => highF_ge ?_ fun b h2 => ?_
  · have := hs.all b hb
    have h3 := this.l0; have h4 := this.lh
    have h5 : 0 ≤ s.dr * farI d b.day := Int.mul_nonneg hd (farI_nonneg _ _)
    omega
  · have := hs.all a h1
    have h3 := this.h1; have h4 := this.lh
    have h5 : 0 ≤ s.dr * farI d a.day := Int.mul_nonneg hd (farI_nonneg _ _)
    omega
  · have h3 := agreed_pair hs ha h1 h2
    have h4 : s.dr * farI a.day b.day ≤ s.dr * (farI d a.day + farI d b.day) := mul_far hd (by have := farI_tri a.day d b.day; rw [farI_comm a.day d] at this; exact this)
    rw [Int.mul_add] at h4
    omega
/-- The bounds of two days differ by no more than the index can drift between them. -/
theorem low_lip {s : Stn} {cs : List Chk} (hd : 0 ≤ s.dr) (a b : Int) : lowF s a cs ≤ lowF s b cs + s.dr * farI a b := by
  have h0 : 0 ≤ s.dr * farI a b := Int.mul_nonneg hd (farI_nonneg _ _)
  refine lowF_le (by have := (lowF_ge s b cs).1; omega) fun c hc => ?_
  have h1 := (lowF_ge s b cs).2 c hc
  have h2 : s.dr * farI b c.day ≤ s.dr * (farI a b + farI a c.day) := mul_far hd (by have := farI_tri b a c.day; rw [farI_comm b a] at this; exact this)
  rw [Int.mul_add] at h2
  omega
theorem high_lip {s : Stn} {cs : List Chk} (hd : 0 ≤ s.dr) (a b : Int) : highF s a cs - s.dr * farI a b ≤ highF s b cs := by
  have h0 : 0 ≤ s.dr * farI a b := Int.mul_nonneg hd (farI_nonneg _ _)
  refine highF_ge (by have := (highF_le s a cs).1; omega) fun c hc => ?_
  have h1 := (highF_le s a cs).2 c hc
  have h2 : s.dr * farI a c.day ≤ s.dr * (farI a b + farI b c.day) := mul_far hd (farI_tri a b c.day)
  rw [Int.mul_add] at h2
  omega
/-- On its own day a comparison holds the bounds. -/
theorem low_own {s : Stn} {cs : List Chk} {c : Chk} (hc : c ∈ cs) : c.lo ≤ lowF s c.day cs := by
  have := (lowF_ge s c.day cs).2 c hc
  rw [farI_self, Int.mul_zero] at this
  omega
theorem high_own {s : Stn} {cs : List Chk} {c : Chk} (hc : c ∈ cs) : highF s c.day cs ≤ c.hi := by
  have := (highF_le s c.day cs).2 c hc
  rw [farI_self, Int.mul_zero] at this
  omega
end Go.Proofs.YtffgcphmakfikaaDoor
