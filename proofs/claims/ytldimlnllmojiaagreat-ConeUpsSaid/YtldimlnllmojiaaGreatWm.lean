/- Part of a claim on cone. -/
import Derived.Test.YtldimlnllmojiaaGreatVw
import Derived.Test.YtldimlnllmojiaaGreatGA1
set_option linter.unusedVariables false
set_option linter.unusedSimpArgs false
namespace Go.Proofs.YtldimlnllmojiaaGreat
open Go.RowKit
open Go.Shelf
open Go.Maps
theorem app_int {w : World} {o : Oper} {a : Act} {Q : Exit → Act → World → Prop} {ops : Array Oper} {rest : List Oper} (hgd : o.guard = none) (s x : Operand) (ho : o.op = .call { callee := .builtin .append, args := #[s, x], argTypes := #[36, 36] })
    {base N n : Nat} {v : Value} {zs : List Int} {y : Int} (hn : zs.length = n) (hs : a.eval s = v) (hown : w.ownsRow base 3 1 v n (vI zs)) (hx : a.eval x = .slice (some ⟨N, 0, none⟩) 1 1) (hN : w.heap[N]? = some (.cells #[.int .i64 y] 3)) (hl : n ≤ 1000) (hbase : base ≤ w.heap.size)
    (h : ∀ g cap w', w'.ownsRow base 3 1 (.slice (some ⟨g, 0, none⟩) (n + 1) cap) (n + 1) (vI (zs ++ [y])) → w.grownBy w' v.ownBlock → (v.ownBlock = some g ∨ g = w.heap.size) → g < w'.heap.size → wpList Tryz.prog ops Q rest (a.put o.dst (.slice (some ⟨g, 0, none⟩) (n + 1) cap)) w') : wpList Tryz.prog ops Q (o :: rest) a w :=
  wpList_plain hgd fun _ hK => wp_int s x ho hn hs hown hx hN hl hbase fun g cap w' h2 h3 h4 h5 => hK _ _ (h g cap w' h2 h3 h4 h5)
theorem app_two {w : World} {o : Oper} {a : Act} {Q : Exit → Act → World → Prop} {ops : Array Oper} {rest : List Oper} {st et : TypeId} (hu : Tryz.prog.underlying st = some (.slice et)) (hinf : (Tryz.prog.info? et).map (fun i => (i.zero, i.size, i.bytes)) = some (some (.agg #[.int .i64 0, .int .i64 0]), 2, 16)) (hgd : o.guard = none) (s x : Operand) (ho : o.op = .call { callee := .builtin .append, args := #[s, x], argTypes := #[st, st] })
    {base N n : Nat} {v : Value} {zs : List (Int × Int)} {y : Int × Int} (hn : zs.length = n) (hs : a.eval s = v) (hown : w.ownsRow base et 2 v n (spsC zs)) (hx : a.eval x = .slice (some ⟨N, 0, none⟩) 1 1) (hN : w.heap[N]? = some (.cells #[.int .i64 y.1, .int .i64 y.2] et)) (hl : n ≤ 100000) (hbase : base ≤ w.heap.size)
    (h : ∀ g cap w', w'.ownsRow base et 2 (.slice (some ⟨g, 0, none⟩) (n + 1) cap) (n + 1) (spsC (zs ++ [y])) → w.grownBy w' v.ownBlock → (v.ownBlock = some g ∨ g = w.heap.size) → g < w'.heap.size → wpList Tryz.prog ops Q rest (a.put o.dst (.slice (some ⟨g, 0, none⟩) (n + 1) cap)) w') : wpList Tryz.prog ops Q (o :: rest) a w :=
  wpList_plain hgd fun _ hK => wp_two hu hinf s x ho hn hs hown hx hN hl hbase fun g cap w' h2 h3 h4 h5 => hK _ _ (h g cap w' h2 h3 h4 h5)
theorem own_intsN {w : World} {base n : Nat} {v : Value} {zs : List Int} (h : w.ownsRow base 3 1 v n (vI zs)) (hn : zs.length = n) : Ints w v zs := by
  subst hn
  have hlt := h.lt
  have hh := h
  rcases h.2 with ⟨h0, hz⟩ | ⟨g, cap, cur, hv, hb0, hg, h1, h2, h3, h4⟩
  · subst h0
    have : zs = [] := List.length_eq_zero_iff.1 hz
    subst this
    exact ⟨none, 0, rfl, Nat.le_refl _, by unfold maxLen; omega, .inl rfl⟩
  · subst hv
    have hat := fun j hj => World.ownsRow.cellAt hh j hj
    refine ⟨_, cap, rfl, h1, h2, .inr ⟨g, 0, rfl, (hlt g rfl).2, fun i z hi => ?_⟩⟩
    have hil := (List.getElem?_eq_some_iff.1 hi).1
    simp only [Nat.zero_add]
    exact (hat _ (by omega)).trans (vI_at hi)
def delsL (d : Nat → Int) (n : Nat) : List Int := (List.range n).map d
theorem delsL_len (d : Nat → Int) (n : Nat) : (delsL d n).length = n := by simp [delsL]
theorem delsL_next (d : Nat → Int) (n : Nat) : delsL d (n + 1) = delsL d n ++ [d n] := by simp [delsL, List.range_succ]
theorem ev_dels {d : Nat → Int} {n i : Nat} (h : i < n) : ev (delsL d n) i = d i := by
  unfold ev delsL
  rw [List.getD_eq_getElem?_getD, List.getElem?_map, List.getElem?_range h]
  rfl
def endD (rs : List Rep) (g : Bool) : Nat → Int := if g then hiD rs else loD rs
set_option maxHeartbeats 4000000 in
set_option maxRecDepth 100000 in
theorem rEnds_any (m : Wn) (A1 A2 A3 : Option Addr) (rs : List Rep) (ls : List Lnk) (c1 c2 p3 c3 : Nat) (gr : Bool) (w : World) (h1 : Reps w (.slice A1 rs.length c1) rs) (hlen : rs.length ≤ 1000) :
    Calls Tryz.prog 28 #[wtV m (.slice A1 rs.length c1) (.slice A2 ls.length c2) (.slice A3 p3 c3), .bool gr] w fun e w' => ∃ A c, e = .returned (.slice A (delsL (endD rs gr) rs.length).length c) ∧ Ints w' (.slice A (delsL (endD rs gr) rs.length).length c) (delsL (endD rs gr) rs.length) ∧ Below w.heap.size w w' := by
  have H1 := Lib.hid h1
  clear h1
  have HR := Lib.hid ((Frm.nil w).add (.cells #[.int .i64 m.n, (.slice A1 rs.length c1), (.slice A2 ls.length c2), (.slice A3 p3 c3), .int .i64 m.fall, .int .i64 m.win, .int .i64 m.hold, .int .i64 m.dawn, .int .i64 m.dusk] 26) rfl)
  have x0 := HR.out.cells mZ
  go_enter Tryz.func28, Tryz.ntmps28
  go_wp2_with fail
  go_loopw [5, 6, 7] (fun s i _ wr => ∃ n : Nat, n ≤ rs.length ∧ i = .int .i64 n ∧ Frm w [(w.heap.size, (.cells #[.int .i64 m.n, (.slice A1 rs.length c1), (.slice A2 ls.length c2), (.slice A3 p3 c3), .int .i64 m.fall, .int .i64 m.win, .int .i64 m.hold, .int .i64 m.dawn, .int .i64 m.dusk] 26))] wr ∧ wr.ownsRow (w.heap.size + 1) 3 1 s n (vI (delsL (endD rs gr) n))) (fun _ i _ _ => rs.length - (intOf i).toNat)
  case atStart => exact ⟨0, Nat.zero_le _, rfl, (by (repeat (with_reducible first | exact HR.out | apply Frm.drew | apply Frm.alloc | apply Frm.drewN))), World.ownsRow_nil ..⟩
  case round =>
    obtain ⟨n, hn, rfl, hF, hO⟩ := hrel
    clear HR x0
    have HR := Lib.hid hF
    have HO := Lib.hid hO
    have hol := hO.lt
    clear hF hO
    have x0 := HR.out.cells mZ
    have hsz := HR.out.lt mZ
    by_cases hnl : n < rs.length
    · obtain ⟨x, hx⟩ : ∃ x, rs[n]? = some x := ⟨_, List.getElem?_eq_getElem hnl⟩
      obtain ⟨b, off, hA, hcap, hmx, c00, c10, c20, c30, c40, c50, c60⟩ := rep_cells (Rws.below H1.out HR.out.b (Nat.le_refl _)) hx
      unfold maxLen at hmx
      subst hA
      have HX := Lib.hid (repAt_some hx)
      clear hx c00 c10 c20 c50 c60
      cases gr
      · have HE : Hid (delsL (endD rs false) (n + 1) = delsL (endD rs false) n ++ [x.dlo]) := Lib.hid (by rw [delsL_next]; show _ ++ [(repAt rs n).dlo] = _; rw [HX.out])
        go_wp2_with (at_builtin; go_must (refine app_int (base := w.heap.size + 1) (N := wr.heap.size) (n := n) (zs := delsL (endD rs false) n) (y := x.dlo) (by rfl) _ _ (by rfl) (delsL_len _ _) ?_ (World.ownsRow.alloc HO.out _) ?_ (heap_new _ _ rfl) (by omega) ?_ ?_); rfl; rfl; (simp <;> omega); intro g cap wb hO3 hg3 hat hlt; have HRq := Lib.hid (Frm.grownR (w := w) (HR.out.alloc (.cells #[.int .i64 x.dlo] 3)) hg3 (fun k hk => by have := (hol k hk).1; omega) (fun p hp e => by have h9 := (hol _ e.symm).1; simp only [List.mem_cons, List.not_mem_nil, or_false] at hp; subst hp; simp only at h9; omega)); have HOq := Lib.hid hO3; clear HR x0 HO hO3 c30 c40; have HR := HRq; have HO := HOq; clear HRq HOq hg3; have x0 := HR.out.cells mZ)
        go_roundw
        case rel => exact ⟨n + 1, by omega, by go_num, HR.out, by rw [HE.out]; exact HO.out⟩
        case measure => simp [intOf]; omega
      · have HE : Hid (delsL (endD rs true) (n + 1) = delsL (endD rs true) n ++ [x.dhi]) := Lib.hid (by rw [delsL_next]; show _ ++ [(repAt rs n).dhi] = _; rw [HX.out])
        go_wp2_with (at_builtin; go_must (refine app_int (base := w.heap.size + 1) (N := wr.heap.size) (n := n) (zs := delsL (endD rs true) n) (y := x.dhi) (by rfl) _ _ (by rfl) (delsL_len _ _) ?_ (World.ownsRow.alloc HO.out _) ?_ (heap_new _ _ rfl) (by omega) ?_ ?_); rfl; rfl; (simp <;> omega); intro g cap wb hO3 hg3 hat hlt; have HRq := Lib.hid (Frm.grownR (w := w) (HR.out.alloc (.cells #[.int .i64 x.dhi] 3)) hg3 (fun k hk => by have := (hol k hk).1; omega) (fun p hp e => by have h9 := (hol _ e.symm).1; simp only [List.mem_cons, List.not_mem_nil, or_false] at hp; subst hp; simp only at h9; omega)); have HOq := Lib.hid hO3; clear HR x0 HO hO3 c30 c40; have HR := HRq; have HO := HOq; clear HRq HOq hg3; have x0 := HR.out.cells mZ)
        go_roundw
        case rel => exact ⟨n + 1, by omega, by go_num, HR.out, by rw [HE.out]; exact HO.out⟩
        case measure => simp [intOf]; omega
    · obtain rfl : n = rs.length := by omega
      have HI := Lib.hid (own_intsN HO.out (delsL_len _ _))
      obtain ⟨A, c, hv, -⟩ := HI.out
      subst hv
      go_wp2_with fail
      go_ret
      exact ⟨A, c, rfl, HI.out, Frm.b (w := w) (by (repeat (with_reducible first | exact HR.out | apply Frm.drew | apply Frm.alloc | apply Frm.drewN)))⟩
end Go.Proofs.YtldimlnllmojiaaGreat
