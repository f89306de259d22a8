/- Rows of stations; stations in another order. -/
import Derived.Test.YtaolfdgkflfekaaGreatDoorRwb
import Derived.Test.YtaolfdgkflfekaaGreatDoorSam
import Derived.Test.YtaolfdgkflfekaaGreatDoorCc
set_option linter.unusedVariables false
set_option linter.unusedSimpArgs false
namespace Go.Proofs.YtaolfdgkflfekaaGreatDoor
open Go.RowKit
open Go.Maps
def stL (c : Sta) : List Value := [.int .i64 c.pt, .int .i64 c.lo, .int .i64 c.hi]
def stasL : List Sta → List Value
  | [] => []
  | c :: r => stL c ++ stasL r
theorem stasL_len : ∀ cs : List Sta, (stasL cs).length = cs.length * 3
  | [] => rfl
  | c :: r => by simp only [stasL, stL, List.length_append, List.length_cons, List.length_nil, stasL_len r]; omega
theorem stasL_at : ∀ (cs : List Sta) (i : Nat) (c : Sta), cs[i]? = some c → (stasL cs)[i * 3]? = some (.int .i64 c.pt) ∧ (stasL cs)[i * 3 + 1]? = some (.int .i64 c.lo) ∧ (stasL cs)[i * 3 + 2]? = some (.int .i64 c.hi)
  | [], i, c, h => by simp at h
  | x :: r, 0, c, h => by
    obtain rfl : x = c := by simpa using h
    exact ⟨rfl, rfl, rfl⟩
  | x :: r, i + 1, c, h => by
    obtain ⟨a, b, d⟩ := stasL_at r i c (by simpa using h)
    have e : ∀ k, (stasL (x :: r))[k + 3]? = (stasL r)[k]? := fun k => by
      rw [stasL, List.getElem?_append_right (by simp [stL])]
      simp [stL]
    rw [show (i + 1) * 3 = i * 3 + 3 by omega, show i * 3 + 3 + 1 = (i * 3 + 1) + 3 by omega, show i * 3 + 3 + 2 = (i * 3 + 2) + 3 by omega, e, e, e]
    exact ⟨a, b, d⟩
theorem stasL_get {cs : List Sta} {j : Nat} {u : Value} (h : (stasL cs)[j]? = some u) : ∃ c, cs[j / 3]? = some c ∧ (stL c)[j % 3]? = some u := by
  have hl : j < cs.length * 3 := by rw [← stasL_len]; exact (List.getElem?_eq_some_iff.1 h).1
  have hi : j / 3 < cs.length := by omega
  refine ⟨cs[j / 3], List.getElem?_eq_getElem hi, ?_⟩
  obtain ⟨a, b, d⟩ := stasL_at cs (j / 3) _ (List.getElem?_eq_getElem hi)
  rcases (by omega : j % 3 = 0 ∨ j % 3 = 1 ∨ j % 3 = 2) with e | e | e
  · rw [show j = j / 3 * 3 by omega, a] at h; rw [e]; exact h
  · rw [show j = j / 3 * 3 + 1 by omega, b] at h; rw [e]; exact h
  · rw [show j = j / 3 * 3 + 2 by omega, d] at h; rw [e]; exact h
theorem stasL_one {cs : List Sta} : ∀ u ∈ stasL cs, u.oneCell' = true := fun u hu => by
  obtain ⟨j, hj⟩ := List.mem_iff_getElem?.1 hu
  obtain ⟨c, _, hr⟩ := stasL_get hj
  rcases (by omega : j % 3 = 0 ∨ j % 3 = 1 ∨ j % 3 = 2) with e | e | e <;> (rw [e] at hr; simp [stL] at hr; subst hr; rfl)
theorem stasL_add (cs : List Sta) (c : Sta) : stasL (cs ++ [c]) = stasL cs ++ stL c := by
  induction cs with
  | nil => simp [stasL]
  | cons x r ih => simp only [List.cons_append, stasL, ih, List.append_assoc]

theorem stasL_app : ∀ (a b : List Sta), stasL (a ++ b) = stasL a ++ stasL b
  | [], b => rfl
  | x :: a, b => by simp only [List.cons_append, stasL, stasL_app a b, List.append_assoc]
theorem news_stas {W : World} {b off : Nat} {T : List Sta} (h : StasAt W b off T) : ∀ j u, (stasL T)[j]? = some u → W.cell? ((⟨b, off, none⟩ : Addr).add j) = some u := fun j u hj => by
  obtain ⟨x, hx, hr⟩ := stasL_get hj
  obtain ⟨c0, c1, c2⟩ := h _ _ hx
  rw [Go.WideShapes.add_plain]
  rcases (by omega : j % 3 = 0 ∨ j % 3 = 1 ∨ j % 3 = 2) with e | e | e
  · rw [e] at hr; simp [stL] at hr; subst hr; rw [show off + j = off + j / 3 * 3 by omega]; exact c0
  · rw [e] at hr; simp [stL] at hr; subst hr; rw [show off + j = off + j / 3 * 3 + 1 by omega]; exact c1
  · rw [e] at hr; simp [stL] at hr; subst hr; rw [show off + j = off + j / 3 * 3 + 2 by omega]; exact c2
theorem Tryz.infoSta : (Tryz.prog.info? 57).map (fun i => (i.zero, i.size, i.bytes)) = some (some (.agg #[.int .i64 0, .int .i64 0, .int .i64 0]), 3, 24) := by kernel_rfl
@[reducible] def rwS (v : Value) (n : Nat) (L : List Sta) : Rw := ⟨57, 3, v, n, stasL L⟩
theorem RW.app_stas {w W : World} {base n k c b off N2 : Nat} {bs : List (Nat × Obj)} {rest : List Rw} {v : Value} {L T : List Sta} {o : Oper} {a : Act} {K : Act → World → Prop} {Q : Exit → Act → World → Prop} (s x : Operand) (ho : o.op = .call { callee := .builtin .append, args := #[s, x], argTypes := #[22, 22] })
    (h : RW w base bs (rwS v n L :: rest) W) (hs : a.eval s = v) (hx : a.eval x = .slice (some ⟨b, off, none⟩) k c) (hT : T.length = k) (hN : n + k = N2) (hat : StasAt W b off T) (hl : n + k ≤ 1000) (h0 : 0 < n + k)
    (hk : ∀ g cap W1, RW w base bs (rwS (.slice (some ⟨g, 0, none⟩) N2 cap) N2 (L ++ T) :: rest) W1 → K (a.put o.dst (.slice (some ⟨g, 0, none⟩) N2 cap)) W1) : o.wp Tryz.prog a W K Q := by
  subst hN
  obtain ⟨i0, hi0, hz0, hz1, hz2⟩ := info_parts Tryz.infoSta
  have hm : maxLen = 9223372036854775807 := rfl
  obtain ⟨v', w', hr, h2, h3, _, h5⟩ := run_append_own_at (P := Tryz.prog) W base 22 o.type 57 i0 _ 3 24 Tryz.underlying22 hi0 hz0 hz1 hz2 rfl (by omega) v n (stasL L) (h.own _ (List.mem_cons_self ..)) ⟨b, off, none⟩ k c (stasL T) (by rw [stasL_len, hT]) (news_stas hat) (fun u hu => stasL_one u hu) (by omega) (by omega) h.hi
  obtain ⟨g, cap, rfl, _, hlt⟩ := h2.form h0
  unfold Oper.wp execOp
  simp only [ho, resolve, invoke, builtin, Sem.run_bind, Sem.run_pure, Result.andThen_ok, List.map_toArray, List.map_cons, List.map_nil, hs, hx, hr]
  refine hk g cap w' (h.app h3 ?_ fun j hj => ?_)
  · show w'.ownsRow base 57 3 (.slice (some ⟨g, 0, none⟩) (n + k) cap) (n + k) (stasL (L ++ T))
    rw [stasL_app]; exact h2
  · rcases h5 with h5 | h5
    · left; rw [← h5]; exact hj
    · right; exact Option.some.inj (hj.symm.trans h5)
/-- What the cells of a row of stations are. -/
def RowT (L : List Sta) (cur : Array Value) : Prop := ∀ (i : Nat) (x : Sta), L[i]? = some x → cur[i * 3]? = some (Value.int .i64 x.pt) ∧ cur[i * 3 + 1]? = some (Value.int .i64 x.lo) ∧ cur[i * 3 + 2]? = some (Value.int .i64 x.hi)
theorem RW.row_sta {w W : World} {base n ec : Nat} {bs : List (Nat × Obj)} {rest : List Rw} {E : Option Addr} {L : List Sta} (h : RW w base bs (rwS (.slice E n ec) n L :: rest) W) (h0 : 0 < n) :
    ∃ g cur, E = some ⟨g, 0, none⟩ ∧ RowT L cur ∧ base ≤ g ∧ n ≤ ec ∧ ec ≤ maxLen ∧ RW w base ((g, .cells cur 57) :: bs) rest W := by
  have hO : W.ownsRow base 57 3 (.slice E n ec) n (stasL L) := h.own _ (List.mem_cons_self ..)
  rcases hO.2 with ⟨_, h1⟩ | ⟨g, cap, cur, hv, hb, hg, h1, h2, h3, h4⟩
  · omega
  obtain ⟨rfl, -, rfl⟩ : E = some ⟨g, 0, none⟩ ∧ n = n ∧ ec = cap := by simpa using hv
  refine ⟨g, cur, rfl, fun i x hi => ?_, hb, h1, h2, ⟨h.frm.more hg, h.tailR.own, fun s hs k hk p hp => ?_, h.tailR.dis, h.lo, h.hi⟩⟩
  · have hin : ∀ (j : Nat) (u : Value), (stasL L)[j]? = some u → cur[j]? = some u := fun j u hj => by
      have hle : (cur.toList.take (n * 3))[j]? = some u := by rw [h4]; exact hj
      rw [List.getElem?_take] at hle
      split at hle
      · simpa using hle
      · cases hle
    obtain ⟨a, b, d⟩ := stasL_at L i x hi
    exact ⟨hin _ _ a, hin _ _ b, hin _ _ d⟩
  · rcases List.mem_cons.1 hp with rfl | hp
    · intro e
      exact (List.pairwise_cons.1 h.dis).1 s hs g rfl (by rw [hk]; exact congrArg some e.symm)
    · exact h.tailR.sep s hs k hk p hp
theorem row_stas {W : World} {g cap n : Nat} {L : List Sta} {cur : Array Value} (h : W.heap[g]? = some (.cells cur 57)) (hr : RowT L cur) (hn : L.length = n) (h1 : n ≤ cap) (h2 : cap ≤ maxLen) : Stas W (.slice (some ⟨g, 0, none⟩) n cap) L := by
  subst hn
  refine ⟨_, cap, rfl, h1, h2, .inr ⟨g, 0, rfl, (Array.getElem?_eq_some_iff.1 h).1, fun i x hi => ?_⟩⟩
  simp only [(boxCells h).1, Nat.zero_add]
  exact hr i x hi
theorem RowT.set {L : List Sta} {cur : Array Value} (h : RowT L cur) {i : Nat} (hi : i < L.length) (y : Sta) : RowT (L.set i y) (((cur.setIfInBounds (i * 3) (.int .i64 y.pt)).setIfInBounds (i * 3 + 1) (.int .i64 y.lo)).setIfInBounds (i * 3 + 2) (.int .i64 y.hi)) := fun j x hj => by
  obtain ⟨z, hz⟩ : ∃ z, L[i]? = some z := ⟨_, List.getElem?_eq_getElem hi⟩
  obtain ⟨a, b, d⟩ := h i z hz
  have la := (Array.getElem?_eq_some_iff.1 a).1
  have lb := (Array.getElem?_eq_some_iff.1 b).1
  have ld := (Array.getElem?_eq_some_iff.1 d).1
  by_cases hji : i = j
  · subst hji
    rw [List.getElem?_set_self hi] at hj
    obtain rfl : y = x := by simpa using hj
    refine ⟨?_, ?_, ?_⟩
    · rw [Array.getElem?_setIfInBounds_ne (by omega), Array.getElem?_setIfInBounds_ne (by omega)]; simp [la]
    · rw [Array.getElem?_setIfInBounds_ne (by omega)]; simp [lb]
    · simp [ld]
  · rw [List.getElem?_set_ne hji] at hj
    obtain ⟨a', b', d'⟩ := h j x hj
    have ne : ∀ p q : Nat, p < 3 → q < 3 → i * 3 + p ≠ j * 3 + q := fun p q hp hq => by omega
    refine ⟨?_, ?_, ?_⟩
    · rw [Array.getElem?_setIfInBounds_ne (by omega), Array.getElem?_setIfInBounds_ne (by omega), Array.getElem?_setIfInBounds_ne (by omega)]; exact a'
    · rw [Array.getElem?_setIfInBounds_ne (by omega), Array.getElem?_setIfInBounds_ne (by omega), Array.getElem?_setIfInBounds_ne (by omega)]; exact b'
    · rw [Array.getElem?_setIfInBounds_ne (by omega), Array.getElem?_setIfInBounds_ne (by omega), Array.getElem?_setIfInBounds_ne (by omega)]; exact d'
theorem stasAt_drop {W : World} {b off c n : Nat} {cs : List Sta} (h : Stas W (.slice (some ⟨b, off, none⟩) cs.length c) cs) (hn : n < cs.length) : StasAt W b (off + n * 3) (cs.drop n) := fun i x hx => by
  rw [List.getElem?_drop] at hx
  obtain ⟨c0, c1, c2⟩ := sta_at h (Below.refl _ _) hx
  have e : off + n * 3 + i * 3 = off + (n + i) * 3 := by omega
  rw [e]; exact ⟨c0, c1, c2⟩
theorem stasAt_take {W : World} {b off c n : Nat} {cs : List Sta} (h : Stas W (.slice (some ⟨b, off, none⟩) cs.length c) cs) : StasAt W b off (cs.take n) := fun i x hx => by
  rw [List.getElem?_take] at hx
  split at hx
  · exact sta_at h (Below.refl _ _) hx
  · cases hx
theorem stasAt_all {W : World} {b off c : Nat} {cs : List Sta} (h : Stas W (.slice (some ⟨b, off, none⟩) cs.length c) cs) : StasAt W b off cs := fun i x hx => sta_at h (Below.refl _ _) hx
theorem stasAt_one {W : World} {N : Nat} {x : Sta} (h : W.heap[N]? = some (.cells #[.int .i64 x.pt, .int .i64 x.lo, .int .i64 x.hi] 57)) : StasAt W N 0 [x] := fun i y hy => by
  have hc := (boxCells h).1
  match i, hy with
  | 0, hy => obtain rfl : x = y := by simpa using hy
             exact ⟨hc 0, hc 1, hc 2⟩
theorem sane_add {m : Mp} {cs : List Sta} {s : Sta} (h : Sane m (cs ++ [s])) : Sane m cs := ⟨h.ok, by have := h.len; simp at this; omega, fun x hx => h.all x (List.mem_append_left _ hx)⟩
/- Stations in another order. -/
theorem mem_rot (l : List Sta) (n : Nat) (x : Sta) : x ∈ l.drop n ++ l.take n ↔ x ∈ l := by
  rw [List.mem_append]
  constructor
  · rintro (h | h)
    · exact List.mem_of_mem_drop h
    · exact List.mem_of_mem_take h
  · intro h
    rw [← List.take_append_drop n l, List.mem_append] at h
    exact h.symm
theorem mem_swap {l : List Sta} {i j : Nat} {a b : Sta} (ha : l[i]? = some a) (hb : l[j]? = some b) (x : Sta) : x ∈ (l.set i b).set j a ↔ x ∈ l := by
  have li := (List.getElem?_eq_some_iff.1 ha).1
  have lj := (List.getElem?_eq_some_iff.1 hb).1
  have key : ∀ k, ((l.set i b).set j a)[k]? = l[if k = j then i else if k = i then j else k]? := fun k => by
    by_cases h1 : k = j
    · subst h1; rw [if_pos rfl, List.getElem?_set_self (by rw [List.length_set]; exact lj), ha]
    · rw [if_neg h1, List.getElem?_set_ne (Ne.symm h1)]
      by_cases h2 : k = i
      · subst h2; rw [if_pos rfl, List.getElem?_set_self li, hb]
      · rw [if_neg h2, List.getElem?_set_ne (Ne.symm h2)]
  rw [List.mem_iff_getElem?, List.mem_iff_getElem?]
  constructor
  · rintro ⟨k, hk⟩; rw [key] at hk; exact ⟨_, hk⟩
  · rintro ⟨k, hk⟩
    refine ⟨if k = j then i else if k = i then j else k, ?_⟩
    rw [key]
    by_cases h1 : k = j
    · subst h1
      rw [if_pos rfl]
      by_cases h3 : i = k
      · subst h3; rw [if_pos rfl]; exact hk
      · rw [if_neg h3, if_pos rfl]; exact hk
    · rw [if_neg h1]
      by_cases h2 : k = i
      · subst h2; rw [if_pos rfl, if_pos rfl]; exact hk
      · rw [if_neg h2, if_neg h1, if_neg h2]; exact hk
theorem low_mem {wd sl p : Int} {cs ds : List Sta} (h : ∀ x, x ∈ ds → x ∈ cs) : lowestF wd sl p ds ≤ lowestF wd sl p cs := low_le low_ge0 fun x hx => low_ge (h x hx)
theorem high_mem {wd sl p : Int} {cs ds : List Sta} (h : ∀ x, x ∈ ds → x ∈ cs) : highestF wd sl p cs ≤ highestF wd sl p ds := high_ge high_le1 fun x hx => high_le (h x hx)
theorem agreed_mk {m : Mp} {cs : List Sta} (h : ∀ x ∈ cs, ∀ y ∈ cs, contB m x y = false) : Agreed m cs := fun i j _ ⟨a, b, ha, hb, hc⟩ => by
  rw [h a (List.mem_of_getElem? ha) b (List.mem_of_getElem? hb)] at hc; cases hc
theorem Agreed.mem {m : Mp} {cs ds : List Sta} (h : Agreed m cs) (hs : Sane m cs) (hm : ∀ x, x ∈ ds → x ∈ cs) : Agreed m ds := agreed_mk fun x hx y hy => h.all hs (hm x hx) (hm y hy)
theorem first_or {m : Mp} {cs : List Sta} (h : ¬ Agreed m cs) : ∃ i j, First m cs i j := (agreed_or m cs).resolve_left h
theorem Sane.mem {m : Mp} {cs ds : List Sta} (h : Sane m cs) (hl : ds.length ≤ 12) (hm : ∀ x, x ∈ ds → x ∈ cs) : Sane m ds := ⟨h.ok, hl, fun x hx => h.all x (hm x hx)⟩
theorem spF_mem {m : Mp} {cs ds : List Sta} (h : ∀ x, x ∈ ds ↔ x ∈ cs) : spF m ds = spF m cs := by
  funext p
  unfold spF
  rw [Int.le_antisymm (low_mem fun x hx => (h x).1 hx) (low_mem fun x hx => (h x).2 hx), Int.le_antisymm (high_mem fun x hx => (h x).2 hx) (high_mem fun x hx => (h x).1 hx)]
theorem mdF_mem {m : Mp} {cs ds : List Sta} (h : ∀ x, x ∈ ds ↔ x ∈ cs) : mdF m ds = mdF m cs := by
  funext p
  unfold mdF
  rw [Int.le_antisymm (low_mem fun x hx => (h x).1 hx) (low_mem fun x hx => (h x).2 hx), Int.le_antisymm (high_mem fun x hx => (h x).2 hx) (high_mem fun x hx => (h x).1 hx)]
end Go.Proofs.YtaolfdgkflfekaaGreatDoor
