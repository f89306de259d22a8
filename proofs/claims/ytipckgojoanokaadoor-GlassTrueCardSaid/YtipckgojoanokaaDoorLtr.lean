/- The law GlassTrue, walked. -/
import Derived.Test.YtipckgojoanokaaDoorApp
import Derived.Test.YtipckgojoanokaaDoorRtr
set_option linter.unusedVariables false
set_option linter.unusedSimpArgs false
namespace Go.Proofs.YtipckgojoanokaaDoor
open Go.RowKit Go.Maps

/-- A slice that reads as a list of numbers. -/
def Ints (w : World) (v : Value) (zs : List Int) : Prop :=
  ∃ A cap, v = .slice A zs.length cap ∧ zs.length ≤ cap ∧ cap ≤ maxLen ∧ (zs = [] ∨ ∃ b off, A = some ⟨b, off, none⟩ ∧ b < w.heap.size ∧ ∀ (i : Nat) (z : Int), zs[i]? = some z → w.cell? ⟨b, off + i, none⟩ = some (.int .i64 z))
theorem int_cell {w W : World} {A : Option Addr} {cap i : Nat} {zs : List Int} {z : Int} (h : Ints w (.slice A zs.length cap) zs) (hb : Below w.heap.size w W) (hi : zs[i]? = some z) : ∃ b off, A = some ⟨b, off, none⟩ ∧ zs.length ≤ cap ∧ cap ≤ maxLen ∧ W.cell? ⟨b, off + i, none⟩ = some (.int .i64 z) := by
  obtain ⟨A', cap', hv, hl, hm, h⟩ := h
  obtain ⟨rfl, -, rfl⟩ : A = A' ∧ zs.length = zs.length ∧ cap = cap' := by simpa using hv
  rcases h with rfl | ⟨b, off, hA, hlt, hc⟩
  · simp at hi
  · exact ⟨b, off, hA, hl, hm, (hb.cell (p := ⟨b, _, none⟩) hlt).trans (hc i z hi)⟩
theorem int_at {w W : World} {b off cap i : Nat} {zs : List Int} {z : Int} (h : Ints w (.slice (some ⟨b, off, none⟩) zs.length cap) zs) (hb : Below w.heap.size w W) (hi : zs[i]? = some z) : W.cell? ⟨b, off + i, none⟩ = some (.int .i64 z) := by
  obtain ⟨b', off', hA, _, _, hc⟩ := int_cell h hb hi
  obtain ⟨rfl, rfl⟩ : b = b' ∧ off = off' := by simpa using hA
  exact hc
/-- The index of a day. -/
def pathF (f : Int) (zs : List Int) (d : Nat) : Int := f + (zs.take d).sum
theorem path_zero (f : Int) (zs : List Int) : pathF f zs 0 = f := by simp [pathF]
theorem path_step {f z : Int} {zs : List Int} {d : Nat} (h : zs[d]? = some z) : pathF f zs (d + 1) = pathF f zs d + z := by
  simp [pathF, List.take_add_one, h, List.sum_append]; omega
theorem path_stay {f : Int} {zs : List Int} {d : Nat} (h : zs.length ≤ d) : pathF f zs (d + 1) = pathF f zs d := by
  simp [pathF, List.take_of_length_le h, List.take_of_length_le (Nat.le_succ_of_le h)]
theorem path_lip {f dr : Int} {zs : List Int} (hd : 0 ≤ dr) (h : ∀ (i : Nat) (z : Int), zs[i]? = some z → -dr ≤ z ∧ z ≤ dr) (a : Nat) : ∀ k : Nat, pathF f zs (a + k) - pathF f zs a ≤ dr * k ∧ pathF f zs a - pathF f zs (a + k) ≤ dr * k
  | 0 => by simp
  | k + 1 => by
    obtain ⟨h1, h2⟩ := path_lip (f := f) hd h a k
    have e : dr * ((k + 1 : Nat) : Int) = dr * k + dr := by rw [Int.natCast_succ, Int.mul_add, Int.mul_one]
    rw [e, show a + (k + 1) = (a + k) + 1 by omega]
    rcases Nat.lt_or_ge (a + k) zs.length with hl | hl
    · have hz : zs[a + k]? = some zs[a + k] := List.getElem?_eq_getElem hl
      rw [path_step hz]
      have := h _ _ hz
      omega
    · rw [path_stay hl]
      omega
theorem path_far {f dr : Int} {zs : List Int} (hd : 0 ≤ dr) (h : ∀ (i : Nat) (z : Int), zs[i]? = some z → -dr ≤ z ∧ z ≤ dr) (a b : Nat) : pathF f zs a - pathF f zs b ≤ dr * farI a b := by
  rcases Nat.le_total a b with hab | hab
  · obtain ⟨k, rfl⟩ := Nat.exists_eq_add_of_le hab
    have := (path_lip (f := f) hd h a k).2
    rw [show farI (a : Int) ((a + k : Nat) : Int) = k by unfold farI; omega]
    exact this
  · obtain ⟨k, rfl⟩ := Nat.exists_eq_add_of_le hab
    have := (path_lip (f := f) hd h b k).1
    rw [show farI ((b + k : Nat) : Int) (b : Int) = k by unfold farI; omega]
    exact this
/-- A path within all comparisons: they agree, and it lies within the bounds of each day. -/
theorem path_true {s : Stn} {cs : List Chk} {f : Int} {zs : List Int} (hs : Sane s cs) (h : ∀ (i : Nat) (z : Int), zs[i]? = some z → -s.dr ≤ z ∧ z ≤ s.dr) (hc : ∀ c ∈ cs, c.lo ≤ pathF f zs c.day.toNat ∧ pathF f zs c.day.toNat ≤ c.hi) :
    Agreed s cs ∧ ∀ d : Nat, -2000 ≤ pathF f zs d → pathF f zs d ≤ 2000 → lowF s d cs ≤ pathF f zs d ∧ pathF f zs d ≤ highF s d cs := by
  have hday : ∀ c ∈ cs, ((c.day.toNat : Nat) : Int) = c.day := fun c h1 => Int.toNat_of_nonneg (hs.all c h1).1
  refine ⟨agreed_mk fun a ha b hb => ?_, fun d h1 h2 => ⟨lowF_le h1 fun c hcs => ?_, highF_ge h2 fun c hcs => ?_⟩⟩
  · have p := path_far (f := f) hs.d0 h a.day.toNat b.day.toNat
    rw [hday a ha, hday b hb] at p
    have := hc a ha; have := hc b hb
    omega
  · have p := path_far (f := f) hs.d0 h c.day.toNat d
    rw [hday c hcs, farI_comm] at p
    have := hc c hcs
    omega
  · have p := path_far (f := f) hs.d0 h d c.day.toNat
    rw [hday c hcs] at p
    have := hc c hcs
    omega
theorem take_all {P : Chk → Prop} {cs : List Chk} {m : Nat} {x : Chk} (hx : cs[m]? = some x) (h : ∀ z ∈ cs.take m, P z) (hp : P x) : ∀ z ∈ cs.take (m + 1), P z := fun z hz => by
  rw [List.take_add_one, hx] at hz
  rcases List.mem_append.1 hz with h1 | h1
  · exact h z h1
  · obtain rfl : z = x := by simpa using h1
    exact hp
theorem Frm.cons {w W : World} {bs : List (Nat × Obj)} {k : Nat} {o : Obj} (h : Frm w bs W) (hz : W.heap[k]? = some o) : Frm w ((k, o) :: bs) W :=
  ⟨h.b, fun p hp => by
    rcases List.mem_cons.1 hp with rfl | hp
    · exact hz
    · exact h.h p hp⟩
def rowI (f : Int) (zs : List Int) (n : Nat) : List Value := (List.range n).map fun i => .int .i64 (pathF f zs i)
theorem rowI_succ (f : Int) (zs : List Int) (n : Nat) : rowI f zs (n + 1) = rowI f zs n ++ [.int .i64 (pathF f zs n)] := by simp [rowI, List.range_succ]
theorem rowI_len (f : Int) (zs : List Int) (n : Nat) : (rowI f zs n).length = n := by simp [rowI]
theorem rowI_at {f : Int} {zs : List Int} {n i : Nat} (h : i < n) : (rowI f zs n)[i]? = some (.int .i64 (pathF f zs i)) := by simp [rowI, h]
theorem Tryd.infoInt : (Tryd.prog.info? 3).map (fun i => (i.zero, i.size, i.bytes)) = some (some (.int .i64 0), 1, 8) := by kernel_rfl

section
variable {w : World} {ops : Array Oper} {rest : List Oper} {o : Oper} {a : Act} {Q : Exit → Act → World → Prop}
/-- append(all, n). -/
theorem app_int (hgd : o.guard = none) (s x : Operand) (ho : o.op = .call { callee := .builtin .append, args := #[s, x], argTypes := #[37, 37] })
    {base N n : Nat} {v : Value} {f : Int} {zs : List Int} {y : Int} (hs : a.eval s = v) (hown : w.ownsRow base 3 1 v n (rowI f zs n)) (hx : a.eval x = .slice (some ⟨N, 0, none⟩) 1 1) (hN : w.heap[N]? = some (.cells #[.int .i64 y] 3)) (hy : pathF f zs n = y) (hn : n ≤ 1000) (hbase : base ≤ w.heap.size)
    (h : ∀ g cap w', w'.ownsRow base 3 1 (.slice (some ⟨g, 0, none⟩) (n + 1) cap) (n + 1) (rowI f zs (n + 1)) → w.grownBy w' v.ownBlock → wpList Tryd.prog ops Q rest (a.put o.dst (.slice (some ⟨g, 0, none⟩) (n + 1) cap)) w') : wpList Tryd.prog ops Q (o :: rest) a w := by
  obtain ⟨i0, hi0, hz0, hz1, hz2⟩ := info_parts Tryd.infoInt
  obtain ⟨hc, _⟩ := boxCells hN
  refine wpList_append_lies w hgd s x _ ho base 3 i0 _ 1 8 Tryd.underlying37 hi0 hz0 hz1 hz2 rfl (by omega) v n (rowI f zs n) hs hown ⟨N, 0, none⟩ 1 1 [.int .i64 y] hx rfl (fun j u hj => ?_) (fun u hu => by simp at hu; subst hu; rfl) (by omega) (by unfold maxLen; omega) (by omega) hbase _ rfl ?_
  · rw [Go.WideShapes.add_plain, Nat.zero_add, hc j]
    simpa using hj
  · intro g cap w1 hown1 hgrow _ _
    rw [← hy, ← rowI_succ] at hown1
    exact h g cap w1 hown1 hgrow
end

set_option maxHeartbeats 40000000 in
set_option maxRecDepth 100000 in
theorem lawGlassTrue {s : Stn} {v : Value} {cs : List Chk} {fi day : Int} {u : Value} {zs : List Int} {w : World} (hc : Chks w v cs) (hz : Ints w u zs) (hh : Holds w) (ht : Tab w) :
    Calls Tryd.prog 4 #[stV s v, .int .i64 fi, u, .int .i64 day] w fun e w' => e = .returned (.bool true) ∧ Below w.heap.size w w' := by
  obtain ⟨A, c, rfl⟩ := hc.shape2
  obtain ⟨Z, zc, rfl⟩ : ∃ Z zc, u = .slice Z zs.length zc := hz.elim fun Z h => h.elim fun zc h => ⟨Z, zc, h.1⟩
  have HZ0 := Lib.hid hz
  clear hz
  have HR : Hid (Frm w [(w.heap.size, (stBox s (.slice A cs.length c)))] (w.alloc (stBox s (.slice A cs.length c)))) := Lib.hid ((Frm.nil w).add _ (by simp))
  have HC := Lib.hid (hc.below HR.out.b)
  have HH := Lib.hid hh
  have HT := Lib.hid ht
  have HC0 := Lib.hid hc
  clear hc hh ht
  have x0 := HR.out.cells (List.mem_cons_self ..)
  go_enter Tryd.func4, Tryd.ntmps4
  go_wp2_with fail
  refine (short_any (by first | exact HC.out | exact HC.out.drew | exact HC.out.below (below_al (Below.refl _ _) _) | exact HC.out.drew.below (below_al (Below.refl _ _) _) | exact (HC.out.below (below_al (Below.refl _ _) _)).drew)).mono ?_
  rintro e w1 ⟨rfl, hb⟩
  have HRq := Lib.hid (Frm.below (w := w) (bs := [(w.heap.size, (stBox s (.slice A cs.length c)))]) (by (repeat (with_reducible first | exact HR.out | apply Frm.drew | apply Frm.alloc | apply Frm.drewN))) hb)
  have HCq := Lib.hid (Chks.below (cs := cs) (by first | exact HC.out | exact HC.out.drew | exact HC.out.below (below_al (Below.refl _ _) _) | exact HC.out.drew.below (below_al (Below.refl _ _) _) | exact (HC.out.below (below_al (Below.refl _ _) _)).drew) hb)
  clear HR HC hb x0
  have HR := HRq
  have HC := HCq
  clear HRq HCq
  have x0 := HR.out.cells (List.mem_cons_self ..)
  by_cases h16 : cs.length ≤ 16
  rotate_left
  · go_wp2_with fail
    refine (known_ex _ (HH.out.below (Frm.b (w := w) (bs := [(w.heap.size, (stBox s (.slice A cs.length c)))]) (by (repeat (with_reducible first | exact HR.out | apply Frm.drew | apply Frm.alloc | apply Frm.drewN))))) (HT.out.below (Frm.b (w := w) (bs := [(w.heap.size, (stBox s (.slice A cs.length c)))]) (by (repeat (with_reducible first | exact HR.out | apply Frm.drew | apply Frm.alloc | apply Frm.drewN)))))).mono ?_
    rintro e wz ⟨rfl, hbz⟩
    have HZ := Lib.hid (Frm.below (w := w) (bs := [(w.heap.size, (stBox s (.slice A cs.length c)))]) (by (repeat (with_reducible first | exact HR.out | apply Frm.drew | apply Frm.alloc | apply Frm.drewN))) hbz).b
    clear hbz x0
    go_wp2_with fail
    go_ret
    exact ⟨rfl, HZ.out⟩
  cases hs : soundB s cs
  · have HS := Lib.hid hs
    clear hs
    go_wp2_with fail
    refine (rStation_is (by first | exact HC.out | exact HC.out.drew | exact HC.out.below (below_al (Below.refl _ _) _) | exact HC.out.drew.below (below_al (Below.refl _ _) _) | exact (HC.out.below (below_al (Below.refl _ _) _)).drew) HS.out).mono ?_
    rintro e w2 ⟨rfl, hb⟩
    have HRq := Lib.hid (Frm.below (w := w) (bs := [(w.heap.size, (stBox s (.slice A cs.length c)))]) (by (repeat (with_reducible first | exact HR.out | apply Frm.drew | apply Frm.alloc | apply Frm.drewN))) hb)
    have HCq := Lib.hid (Chks.below (cs := cs) (by first | exact HC.out | exact HC.out.drew | exact HC.out.below (below_al (Below.refl _ _) _) | exact HC.out.drew.below (below_al (Below.refl _ _) _) | exact (HC.out.below (below_al (Below.refl _ _) _)).drew) hb)
    clear HR HC hb x0
    have HR := HRq
    have HC := HCq
    clear HRq HCq
    have x0 := HR.out.cells (List.mem_cons_self ..)
    go_wp2_with fail
    refine (known_ex _ (HH.out.below (Frm.b (w := w) (bs := [(w.heap.size, (stBox s (.slice A cs.length c)))]) (by (repeat (with_reducible first | exact HR.out | apply Frm.drew | apply Frm.alloc | apply Frm.drewN))))) (HT.out.below (Frm.b (w := w) (bs := [(w.heap.size, (stBox s (.slice A cs.length c)))]) (by (repeat (with_reducible first | exact HR.out | apply Frm.drew | apply Frm.alloc | apply Frm.drewN)))))).mono ?_
    rintro e wz ⟨rfl, hbz⟩
    have HZ := Lib.hid (Frm.below (w := w) (bs := [(w.heap.size, (stBox s (.slice A cs.length c)))]) (by (repeat (with_reducible first | exact HR.out | apply Frm.drew | apply Frm.alloc | apply Frm.drewN))) hbz).b
    clear hbz x0
    go_wp2_with fail
    go_ret
    exact ⟨rfl, HZ.out⟩
  have HS := Lib.hid hs
  have hg := good_of_soundB hs
  have h12 := hg.sane.len
  clear hs
  go_wp2_with fail
  refine (rStation_is (by first | exact HC.out | exact HC.out.drew | exact HC.out.below (below_al (Below.refl _ _) _) | exact HC.out.drew.below (below_al (Below.refl _ _) _) | exact (HC.out.below (below_al (Below.refl _ _) _)).drew) HS.out).mono ?_
  rintro e w2 ⟨rfl, hb⟩
  have HRq := Lib.hid (Frm.below (w := w) (bs := [(w.heap.size, (stBox s (.slice A cs.length c)))]) (by (repeat (with_reducible first | exact HR.out | apply Frm.drew | apply Frm.alloc | apply Frm.drewN))) hb)
  have HCq := Lib.hid (Chks.below (cs := cs) (by first | exact HC.out | exact HC.out.drew | exact HC.out.below (below_al (Below.refl _ _) _) | exact HC.out.drew.below (below_al (Below.refl _ _) _) | exact (HC.out.below (below_al (Below.refl _ _) _)).drew) hb)
  clear HR HC hb x0
  have HR := HRq
  have HC := HCq
  clear HRq HCq
  have x0 := HR.out.cells (List.mem_cons_self ..)
  by_cases n0 : 400 < zs.length
  · go_wp2_with fail
    refine (known_ex _ (HH.out.below (Frm.b (w := w) (bs := [(w.heap.size, (stBox s (.slice A cs.length c)))]) (by (repeat (with_reducible first | exact HR.out | apply Frm.drew | apply Frm.alloc | apply Frm.drewN))))) (HT.out.below (Frm.b (w := w) (bs := [(w.heap.size, (stBox s (.slice A cs.length c)))]) (by (repeat (with_reducible first | exact HR.out | apply Frm.drew | apply Frm.alloc | apply Frm.drewN)))))).mono ?_
    rintro e wz ⟨rfl, hbz⟩
    have HZ := Lib.hid (Frm.below (w := w) (bs := [(w.heap.size, (stBox s (.slice A cs.length c)))]) (by (repeat (with_reducible first | exact HR.out | apply Frm.drew | apply Frm.alloc | apply Frm.drewN))) hbz).b
    clear hbz x0
    go_wp2_with fail
    go_ret
    exact ⟨rfl, HZ.out⟩
  by_cases n1 : fi < -2000
  · go_wp2_with fail
    refine (known_ex _ (HH.out.below (Frm.b (w := w) (bs := [(w.heap.size, (stBox s (.slice A cs.length c)))]) (by (repeat (with_reducible first | exact HR.out | apply Frm.drew | apply Frm.alloc | apply Frm.drewN))))) (HT.out.below (Frm.b (w := w) (bs := [(w.heap.size, (stBox s (.slice A cs.length c)))]) (by (repeat (with_reducible first | exact HR.out | apply Frm.drew | apply Frm.alloc | apply Frm.drewN)))))).mono ?_
    rintro e wz ⟨rfl, hbz⟩
    have HZ := Lib.hid (Frm.below (w := w) (bs := [(w.heap.size, (stBox s (.slice A cs.length c)))]) (by (repeat (with_reducible first | exact HR.out | apply Frm.drew | apply Frm.alloc | apply Frm.drewN))) hbz).b
    clear hbz x0
    go_wp2_with fail
    go_ret
    exact ⟨rfl, HZ.out⟩
  by_cases n2 : 2000 < fi
  · go_wp2_with fail
    refine (known_ex _ (HH.out.below (Frm.b (w := w) (bs := [(w.heap.size, (stBox s (.slice A cs.length c)))]) (by (repeat (with_reducible first | exact HR.out | apply Frm.drew | apply Frm.alloc | apply Frm.drewN))))) (HT.out.below (Frm.b (w := w) (bs := [(w.heap.size, (stBox s (.slice A cs.length c)))]) (by (repeat (with_reducible first | exact HR.out | apply Frm.drew | apply Frm.alloc | apply Frm.drewN)))))).mono ?_
    rintro e wz ⟨rfl, hbz⟩
    have HZ := Lib.hid (Frm.below (w := w) (bs := [(w.heap.size, (stBox s (.slice A cs.length c)))]) (by (repeat (with_reducible first | exact HR.out | apply Frm.drew | apply Frm.alloc | apply Frm.drewN))) hbz).b
    clear hbz x0
    go_wp2_with fail
    go_ret
    exact ⟨rfl, HZ.out⟩
  cases hd : betw day 0 400
  · have HD := Lib.hid hd
    clear hd
    go_wp2_with fail
    refine (rDay_is HD.out _).mono ?_
    rintro e w' ⟨rfl, rfl⟩
    go_wp2_with fail
    refine (known_ex _ (HH.out.below (Frm.b (w := w) (bs := [(w.heap.size, (stBox s (.slice A cs.length c)))]) (by (repeat (with_reducible first | exact HR.out | apply Frm.drew | apply Frm.alloc | apply Frm.drewN))))) (HT.out.below (Frm.b (w := w) (bs := [(w.heap.size, (stBox s (.slice A cs.length c)))]) (by (repeat (with_reducible first | exact HR.out | apply Frm.drew | apply Frm.alloc | apply Frm.drewN)))))).mono ?_
    rintro e wz ⟨rfl, hbz⟩
    have HZ := Lib.hid (Frm.below (w := w) (bs := [(w.heap.size, (stBox s (.slice A cs.length c)))]) (by (repeat (with_reducible first | exact HR.out | apply Frm.drew | apply Frm.alloc | apply Frm.drewN))) hbz).b
    clear hbz x0
    go_wp2_with fail
    go_ret
    exact ⟨rfl, HZ.out⟩
  have HD := Lib.hid hd
  have hdb := betw_iff.1 hd
  clear hd
  obtain ⟨dn, rfl⟩ : ∃ n : Nat, day = n := ⟨day.toNat, by omega⟩
  go_wp2_with fail
  refine (rDay_is HD.out _).mono ?_
  rintro e w' ⟨rfl, rfl⟩
  have HRL := HR
  have d0 := hg.sane.d0
  have d1 := hg.sane.d1
  go_wp2_with fail
  go_loopw [9, 10, 11] (fun v q d wr => ∃ j : Nat, j ≤ 401 ∧ d = .int .i64 j ∧ q = .int .i64 (pathF fi zs j) ∧ (∀ i : Nat, i ≤ j → -2000 ≤ pathF fi zs i ∧ pathF fi zs i ≤ 2000) ∧ (∀ (i : Nat) (z : Int), i < j → zs[i]? = some z → -s.dr ≤ z ∧ z ≤ s.dr) ∧ wr.ownsRow w2.heap.size 3 1 v j (rowI fi zs j) ∧ w2.heap.size ≤ wr.heap.size ∧ Frm w [(w.heap.size, (stBox s (.slice A cs.length c)))] wr) (fun _ _ d _ => 401 - (intOf d).toNat)
  case atStart =>
    refine ⟨0, by omega, rfl, by rw [path_zero], fun i hi => ?_, fun i z hi => absurd hi (by omega), World.ownsRow_nil .., Nat.le_refl _, by (repeat (with_reducible first | exact HR.out | apply Frm.drew | apply Frm.alloc | apply Frm.drewN))⟩
    obtain rfl : i = 0 := by omega
    rw [path_zero]
    omega
  case round =>
    obtain ⟨j, hj, rfl, rfl, hbd, hst, hO, hsz, hF⟩ := hrel
    have HBD := Lib.hid hbd
    have HST := Lib.hid hst
    have HO := Lib.hid hO
    have hq := hbd j (Nat.le_refl _)
    obtain ⟨q0, q1⟩ := hq
    obtain ⟨q, hqq⟩ : ∃ q, pathF fi zs j = q := ⟨_, rfl⟩
    have HQ := Lib.hid hqq
    rw [hqq] at q0 q1
    rw [hqq]
    clear HR HC x0 hbd hst hO hqq
    have HR := Lib.hid hF
    clear hF
    have x0 := HR.out.cells (List.mem_cons_self ..)
    by_cases hj4 : j ≤ 400
    · have hM : ∀ k', u9.ownBlock = some k' → w.heap.size ≤ k' := fun k' hk => Nat.le_trans HRL.out.size (HO.out.lt k' hk).1
      have hne : ∀ p ∈ ([(w.heap.size, (stBox s (.slice A cs.length c)))] : List (Nat × Obj)), some p.1 ≠ u9.ownBlock := fun p hp e => Nat.lt_irrefl _ (Nat.lt_of_lt_of_le (Array.getElem?_eq_some_iff.1 (HRL.out.h p hp)).1 (HO.out.lt _ e.symm).1)
      have hsz1 : w2.heap.size ≤ (wr.alloc (.cells #[.int .i64 q] 3)).heap.size := by simp; omega
      have HOa := Lib.hid (World.ownsRow.alloc HO.out (.cells #[.int .i64 q] 3))
      by_cases hl : j < zs.length
      rotate_left
      · go_wp2_with (at_builtin; go_must (refine app_int (base := w2.heap.size) (N := wr.heap.size) (n := j) (v := u9) (f := fi) (zs := zs) (y := q) (by rfl) _ _ (by rfl) ?_ HOa.out ?_ (heap_new _ _ rfl) HQ.out (by omega) hsz1 ?_); rfl; rfl; intro g cap wa hO2 hg2; have HRq := Lib.hid (Frm.grownR (w := w) (bs := [(w.heap.size, (stBox s (.slice A cs.length c)))]) (by (repeat (with_reducible first | exact HR.out | apply Frm.drew | apply Frm.alloc | apply Frm.drewN))) hg2 hM hne); have HO2 := Lib.hid hO2; have hsz2 := Nat.le_trans hsz1 hg2.size; clear HR x0 hg2 hO2 hM hne; have HR := HRq; clear HRq; have x0 := HR.out.cells (List.mem_cons_self ..))
        go_roundw
        case rel => exact ⟨j + 1, by omega, by go_num, by rw [path_stay (by omega), HQ.out], fun i hi => (by
            rcases Nat.lt_or_ge j i with h | h
            · obtain rfl : i = j + 1 := by omega
              rw [path_stay (by omega), HQ.out]
              omega
            · exact HBD.out i h), fun i z' hi hz' => (by
            rcases Nat.lt_or_ge i j with h | h
            · exact HST.out i z' h hz'
            · obtain rfl : i = j := by omega
              exact absurd (List.getElem?_eq_some_iff.1 hz').1 hl), HO2.out, hsz2, by (repeat (with_reducible first | exact HR.out | apply Frm.drew | apply Frm.alloc | apply Frm.drewN))⟩
        case measure => simp [intOf]; omega
      obtain ⟨z, hz⟩ : ∃ z, zs[j]? = some z := ⟨_, List.getElem?_eq_getElem hl⟩
      have HZ := Lib.hid hz
      obtain ⟨b, off, hZ, hzl, hzm, -⟩ := int_cell HZ0.out (Below.refl _ _) hz
      subst hZ
      unfold maxLen at hzm
      clear hz
      by_cases e0 : z < -s.dr
      · have g0 := decide_eq_true e0
        go_upto_region 10 with (at_builtin; go_must (refine app_int (base := w2.heap.size) (N := wr.heap.size) (n := j) (v := u9) (f := fi) (zs := zs) (y := q) (by rfl) _ _ (by rfl) ?_ HOa.out ?_ (heap_new _ _ rfl) HQ.out (by omega) hsz1 ?_); rfl; rfl; intro g cap wa hO2 hg2; have HRq := Lib.hid (Frm.grownR (w := w) (bs := [(w.heap.size, (stBox s (.slice A cs.length c)))]) (by (repeat (with_reducible first | exact HR.out | apply Frm.drew | apply Frm.alloc | apply Frm.drewN))) hg2 hM hne); have HO2 := Lib.hid hO2; have hsz2 := Nat.le_trans hsz1 hg2.size; clear HR x0 hg2 hO2 hM hne; have HR := HRq; clear HRq; have x0 := HR.out.cells (List.mem_cons_self ..); have hcell := int_at HZ0.out HR.out.b HZ.out)
        go_quiet (fail)
        go_wp2_with fail
        refine (known_ex _ (HH.out.below (Frm.b (w := w) (bs := [(w.heap.size, (stBox s (.slice A cs.length c)))]) (by (repeat (with_reducible first | exact HR.out | apply Frm.drew | apply Frm.alloc | apply Frm.drewN))))) (HT.out.below (Frm.b (w := w) (bs := [(w.heap.size, (stBox s (.slice A cs.length c)))]) (by (repeat (with_reducible first | exact HR.out | apply Frm.drew | apply Frm.alloc | apply Frm.drewN)))))).mono ?_
        rintro e wz ⟨rfl, hbz⟩
        have HZ := Lib.hid (Frm.below (w := w) (bs := [(w.heap.size, (stBox s (.slice A cs.length c)))]) (by (repeat (with_reducible first | exact HR.out | apply Frm.drew | apply Frm.alloc | apply Frm.drewN))) hbz).b
        clear hbz x0
        go_wp2_with fail
        go_ret
        exact ⟨rfl, HZ.out⟩
      have g0 := decide_eq_false e0
      by_cases e1 : s.dr < z
      · have g1 := decide_eq_true e1
        go_upto_region 10 with (at_builtin; go_must (refine app_int (base := w2.heap.size) (N := wr.heap.size) (n := j) (v := u9) (f := fi) (zs := zs) (y := q) (by rfl) _ _ (by rfl) ?_ HOa.out ?_ (heap_new _ _ rfl) HQ.out (by omega) hsz1 ?_); rfl; rfl; intro g cap wa hO2 hg2; have HRq := Lib.hid (Frm.grownR (w := w) (bs := [(w.heap.size, (stBox s (.slice A cs.length c)))]) (by (repeat (with_reducible first | exact HR.out | apply Frm.drew | apply Frm.alloc | apply Frm.drewN))) hg2 hM hne); have HO2 := Lib.hid hO2; have hsz2 := Nat.le_trans hsz1 hg2.size; clear HR x0 hg2 hO2 hM hne; have HR := HRq; clear HRq; have x0 := HR.out.cells (List.mem_cons_self ..); have hcell := int_at HZ0.out HR.out.b HZ.out)
        go_quiet (fail)
        go_wp2_with fail
        refine (known_ex _ (HH.out.below (Frm.b (w := w) (bs := [(w.heap.size, (stBox s (.slice A cs.length c)))]) (by (repeat (with_reducible first | exact HR.out | apply Frm.drew | apply Frm.alloc | apply Frm.drewN))))) (HT.out.below (Frm.b (w := w) (bs := [(w.heap.size, (stBox s (.slice A cs.length c)))]) (by (repeat (with_reducible first | exact HR.out | apply Frm.drew | apply Frm.alloc | apply Frm.drewN)))))).mono ?_
        rintro e wz ⟨rfl, hbz⟩
        have HZ := Lib.hid (Frm.below (w := w) (bs := [(w.heap.size, (stBox s (.slice A cs.length c)))]) (by (repeat (with_reducible first | exact HR.out | apply Frm.drew | apply Frm.alloc | apply Frm.drewN))) hbz).b
        clear hbz x0
        go_wp2_with fail
        go_ret
        exact ⟨rfl, HZ.out⟩
      have g1 := decide_eq_false e1
      by_cases e2 : q + z < -2000
      · have g2 := decide_eq_true e2
        go_upto_region 10 with (at_builtin; go_must (refine app_int (base := w2.heap.size) (N := wr.heap.size) (n := j) (v := u9) (f := fi) (zs := zs) (y := q) (by rfl) _ _ (by rfl) ?_ HOa.out ?_ (heap_new _ _ rfl) HQ.out (by omega) hsz1 ?_); rfl; rfl; intro g cap wa hO2 hg2; have HRq := Lib.hid (Frm.grownR (w := w) (bs := [(w.heap.size, (stBox s (.slice A cs.length c)))]) (by (repeat (with_reducible first | exact HR.out | apply Frm.drew | apply Frm.alloc | apply Frm.drewN))) hg2 hM hne); have HO2 := Lib.hid hO2; have hsz2 := Nat.le_trans hsz1 hg2.size; clear HR x0 hg2 hO2 hM hne; have HR := HRq; clear HRq; have x0 := HR.out.cells (List.mem_cons_self ..); have hcell := int_at HZ0.out HR.out.b HZ.out)
        go_quiet (fail)
        go_wp2_with fail
        refine (known_ex _ (HH.out.below (Frm.b (w := w) (bs := [(w.heap.size, (stBox s (.slice A cs.length c)))]) (by (repeat (with_reducible first | exact HR.out | apply Frm.drew | apply Frm.alloc | apply Frm.drewN))))) (HT.out.below (Frm.b (w := w) (bs := [(w.heap.size, (stBox s (.slice A cs.length c)))]) (by (repeat (with_reducible first | exact HR.out | apply Frm.drew | apply Frm.alloc | apply Frm.drewN)))))).mono ?_
        rintro e wz ⟨rfl, hbz⟩
        have HZ := Lib.hid (Frm.below (w := w) (bs := [(w.heap.size, (stBox s (.slice A cs.length c)))]) (by (repeat (with_reducible first | exact HR.out | apply Frm.drew | apply Frm.alloc | apply Frm.drewN))) hbz).b
        clear hbz x0
        go_wp2_with fail
        go_ret
        exact ⟨rfl, HZ.out⟩
      have g2 := decide_eq_false e2
      by_cases e3 : 2000 < q + z
      · have g3 := decide_eq_true e3
        go_upto_region 10 with (at_builtin; go_must (refine app_int (base := w2.heap.size) (N := wr.heap.size) (n := j) (v := u9) (f := fi) (zs := zs) (y := q) (by rfl) _ _ (by rfl) ?_ HOa.out ?_ (heap_new _ _ rfl) HQ.out (by omega) hsz1 ?_); rfl; rfl; intro g cap wa hO2 hg2; have HRq := Lib.hid (Frm.grownR (w := w) (bs := [(w.heap.size, (stBox s (.slice A cs.length c)))]) (by (repeat (with_reducible first | exact HR.out | apply Frm.drew | apply Frm.alloc | apply Frm.drewN))) hg2 hM hne); have HO2 := Lib.hid hO2; have hsz2 := Nat.le_trans hsz1 hg2.size; clear HR x0 hg2 hO2 hM hne; have HR := HRq; clear HRq; have x0 := HR.out.cells (List.mem_cons_self ..); have hcell := int_at HZ0.out HR.out.b HZ.out)
        go_quiet (fail)
        go_wp2_with fail
        refine (known_ex _ (HH.out.below (Frm.b (w := w) (bs := [(w.heap.size, (stBox s (.slice A cs.length c)))]) (by (repeat (with_reducible first | exact HR.out | apply Frm.drew | apply Frm.alloc | apply Frm.drewN))))) (HT.out.below (Frm.b (w := w) (bs := [(w.heap.size, (stBox s (.slice A cs.length c)))]) (by (repeat (with_reducible first | exact HR.out | apply Frm.drew | apply Frm.alloc | apply Frm.drewN)))))).mono ?_
        rintro e wz ⟨rfl, hbz⟩
        have HZ := Lib.hid (Frm.below (w := w) (bs := [(w.heap.size, (stBox s (.slice A cs.length c)))]) (by (repeat (with_reducible first | exact HR.out | apply Frm.drew | apply Frm.alloc | apply Frm.drewN))) hbz).b
        clear hbz x0
        go_wp2_with fail
        go_ret
        exact ⟨rfl, HZ.out⟩
      have g3 := decide_eq_false e3
      go_upto_region 10 with (at_builtin; go_must (refine app_int (base := w2.heap.size) (N := wr.heap.size) (n := j) (v := u9) (f := fi) (zs := zs) (y := q) (by rfl) _ _ (by rfl) ?_ HOa.out ?_ (heap_new _ _ rfl) HQ.out (by omega) hsz1 ?_); rfl; rfl; intro g cap wa hO2 hg2; have HRq := Lib.hid (Frm.grownR (w := w) (bs := [(w.heap.size, (stBox s (.slice A cs.length c)))]) (by (repeat (with_reducible first | exact HR.out | apply Frm.drew | apply Frm.alloc | apply Frm.drewN))) hg2 hM hne); have HO2 := Lib.hid hO2; have hsz2 := Nat.le_trans hsz1 hg2.size; clear HR x0 hg2 hO2 hM hne; have HR := HRq; clear HRq; have x0 := HR.out.cells (List.mem_cons_self ..); have hcell := int_at HZ0.out HR.out.b HZ.out)
      go_quiet (fail)
      go_wp2_with fail
      go_roundw
      case rel => exact ⟨j + 1, by omega, by go_num, by rw [path_step HZ.out, HQ.out], fun i hi => (by
          rcases Nat.lt_or_ge j i with h | h
          · obtain rfl : i = j + 1 := by omega
            rw [path_step HZ.out, HQ.out]
            omega
          · exact HBD.out i h), fun i z' hi hz' => (by
          rcases Nat.lt_or_ge i j with h | h
          · exact HST.out i z' h hz'
          · obtain rfl : i = j := by omega
            rw [HZ.out] at hz'
            cases hz'
            omega), HO2.out, hsz2, by (repeat (with_reducible first | exact HR.out | apply Frm.drew | apply Frm.alloc | apply Frm.drewN))⟩
      case measure => simp [intOf]; omega
    · obtain rfl : j = 401 := by omega
      have hO1 := HO.out
      obtain ⟨g, cap, hv, hgb, hgl⟩ := World.ownsRow.form hO1 (by omega)
      subst hv
      have HO1 := Lib.hid hO1
      clear hO1 HO hgl
      go_wp2_with fail
      go_loopw [12] (fun i wr => ∃ m : Nat, m ≤ cs.length ∧ i = .int .i64 m ∧ (∀ x ∈ cs.take m, x.lo ≤ pathF fi zs x.day.toNat ∧ pathF fi zs x.day.toNat ≤ x.hi) ∧ wr.ownsRow w2.heap.size 3 1 (.slice (some ⟨g, 0, none⟩) 401 cap) 401 (rowI fi zs 401) ∧ Frm w [(w.heap.size, (stBox s (.slice A cs.length c)))] wr) (fun i _ => cs.length - (intOf i).toNat)
      case atStart => exact ⟨0, Nat.zero_le _, rfl, fun x hx => absurd hx (by simp), HO1.out, by (repeat (with_reducible first | exact HR.out | apply Frm.drew | apply Frm.alloc | apply Frm.drewN))⟩
      case round =>
        obtain ⟨m, hm, rfl, hcs, hO2, hF⟩ := hrel
        clear HR HO1 x0
        have HCS := Lib.hid hcs
        have HO := Lib.hid hO2
        have HR := Lib.hid hF
        clear hcs hO2 hF
        have HC := Lib.hid (HC0.out.below HR.out.b)
        have x0 := HR.out.cells (List.mem_cons_self ..)
        by_cases hml : m < cs.length
        · obtain ⟨x, hx⟩ : ∃ x, cs[m]? = some x := ⟨_, List.getElem?_eq_getElem hml⟩
          have HX := Lib.hid hx
          obtain ⟨b, off, hA, hcap, hmx, c0, c1, c2⟩ := chk_cells HC.out hx
          unfold maxLen at hmx
          subst hA
          obtain ⟨r0, r1, r2, r3, r4⟩ := hg.sane.all x (List.mem_of_getElem? hx)
          clear hx
          obtain ⟨xd, xl, xh⟩ := x
          obtain ⟨dx, rfl⟩ : ∃ n : Nat, xd = n := ⟨xd.toNat, by simp only at r0; omega⟩
          simp only at r0 r1 r2 r3 r4 c0 c1 c2
          go_upto_region 19 with fail
          have HRq := Lib.hid (HR.out.add (ckBox ⟨dx, xl, xh⟩) rfl)
          have hrow := (World.ownsRow.cellAt (World.ownsRow.alloc HO.out (ckBox ⟨dx, xl, xh⟩)) dx (by omega)).trans (rowI_at (f := fi) (zs := zs) (n := 401) (i := dx) (by omega))
          obtain ⟨y, hy⟩ : ∃ y, pathF fi zs dx = y := ⟨_, rfl⟩
          rw [hy] at hrow
          have HY := Lib.hid hy
          clear HR HC x0 c0 c1 c2 hy
          have HR := HRq
          clear HRq
          have x0 := HR.out.cells (List.mem_cons_self ..)
          have x1 := HR.out.cells (List.mem_cons_of_mem _ (List.mem_cons_self ..))
          by_cases e0 : y < xl
          · have g0 := decide_eq_true e0
            go_quiet (fail)
            go_wp2_with fail
            refine (known_ex _ (HH.out.below (Frm.b (w := w) (bs := [(wr.heap.size, (ckBox ⟨dx, xl, xh⟩)), (w.heap.size, (stBox s (.slice (some ⟨b, off, none⟩) cs.length c)))]) (by (repeat (with_reducible first | exact HR.out | apply Frm.drew | apply Frm.alloc | apply Frm.drewN))))) (HT.out.below (Frm.b (w := w) (bs := [(wr.heap.size, (ckBox ⟨dx, xl, xh⟩)), (w.heap.size, (stBox s (.slice (some ⟨b, off, none⟩) cs.length c)))]) (by (repeat (with_reducible first | exact HR.out | apply Frm.drew | apply Frm.alloc | apply Frm.drewN)))))).mono ?_
            rintro e wz ⟨rfl, hbz⟩
            have HZ := Lib.hid (Frm.below (w := w) (bs := [(wr.heap.size, (ckBox ⟨dx, xl, xh⟩)), (w.heap.size, (stBox s (.slice (some ⟨b, off, none⟩) cs.length c)))]) (by (repeat (with_reducible first | exact HR.out | apply Frm.drew | apply Frm.alloc | apply Frm.drewN))) hbz).b
            clear hbz x0 x1
            go_wp2_with fail
            go_ret
            exact ⟨rfl, HZ.out⟩
          have g0 := decide_eq_false e0
          by_cases e1 : xh < y
          · have g1 := decide_eq_true e1
            go_quiet (fail)
            go_wp2_with fail
            refine (known_ex _ (HH.out.below (Frm.b (w := w) (bs := [(wr.heap.size, (ckBox ⟨dx, xl, xh⟩)), (w.heap.size, (stBox s (.slice (some ⟨b, off, none⟩) cs.length c)))]) (by (repeat (with_reducible first | exact HR.out | apply Frm.drew | apply Frm.alloc | apply Frm.drewN))))) (HT.out.below (Frm.b (w := w) (bs := [(wr.heap.size, (ckBox ⟨dx, xl, xh⟩)), (w.heap.size, (stBox s (.slice (some ⟨b, off, none⟩) cs.length c)))]) (by (repeat (with_reducible first | exact HR.out | apply Frm.drew | apply Frm.alloc | apply Frm.drewN)))))).mono ?_
            rintro e wz ⟨rfl, hbz⟩
            have HZ := Lib.hid (Frm.below (w := w) (bs := [(wr.heap.size, (ckBox ⟨dx, xl, xh⟩)), (w.heap.size, (stBox s (.slice (some ⟨b, off, none⟩) cs.length c)))]) (by (repeat (with_reducible first | exact HR.out | apply Frm.drew | apply Frm.alloc | apply Frm.drewN))) hbz).b
            clear hbz x0 x1
            go_wp2_with fail
            go_ret
            exact ⟨rfl, HZ.out⟩
          have g1 := decide_eq_false e1
          go_quiet (fail)
          go_wp2_with fail
          go_roundw
          case rel => exact ⟨m + 1, by omega, by go_num, take_all (P := fun x => x.lo ≤ pathF fi zs x.day.toNat ∧ pathF fi zs x.day.toNat ≤ x.hi) HX.out HCS.out (by simp only [Int.toNat_natCast]; rw [HY.out]; omega), World.ownsRow.alloc HO.out _, Frm.less (bs := [(wr.heap.size, (ckBox ⟨dx, xl, xh⟩)), (w.heap.size, (stBox s (.slice (some ⟨b, off, none⟩) cs.length c)))]) (by (repeat (with_reducible first | exact HR.out | apply Frm.drew | apply Frm.alloc | apply Frm.drewN))) (fun p hp => List.mem_cons_of_mem _ hp)⟩
          case measure => simp [intOf]; omega
        · obtain rfl : m = cs.length := by omega
          have hall := HCS.out
          rw [List.take_length] at hall
          have hst : ∀ (i : Nat) (z : Int), zs[i]? = some z → -s.dr ≤ z ∧ z ≤ s.dr := fun i z hz => HST.out i z (by have := (List.getElem?_eq_some_iff.1 hz).1; omega) hz
          obtain ⟨ha, hin⟩ := path_true (f := fi) hg.sane hst hall
          have HA := Lib.hid ha
          obtain ⟨t0, t1⟩ := HBD.out dn (by omega)
          obtain ⟨t2, t3⟩ := hin dn t0 t1
          obtain ⟨cur, hcur⟩ : ∃ cur, wr.heap[g]? = some (.cells cur 3) := by
            rcases HO.out.2 with ⟨h0, _⟩ | ⟨g', cap', cur, hv, hb0, hgg, _⟩
            · cases h0
            · cases hv
              exact ⟨cur, hgg⟩
          have hcell := (World.ownsRow.cellAt HO.out dn (by omega)).trans (rowI_at (f := fi) (zs := zs) (n := 401) (i := dn) (by omega))
          rw [(boxCells hcur).1 dn] at hcell
          obtain ⟨y, hy⟩ : ∃ y, pathF fi zs dn = y := ⟨_, rfl⟩
          rw [hy] at hcell t0 t1 t2 t3
          have HI : Hid (∀ W, Chks W (.slice A cs.length c) cs → Calls Tryd.prog 18 #[stV s (.slice A cs.length c), .int .i64 dn] W fun x w' => x = .returned (.tuple #[spV (lowF s dn cs) (highF s dn cs), .int .i64 0]) ∧ Below W.heap.size W w') := Lib.hid (fun W h => index_ok h HS.out HD.out HA.out)
          generalize lowF s dn cs = lo0 at *
          generalize highF s dn cs = hi0 at *
          have HCU := Lib.hid hcell
          have HRq := Lib.hid (Frm.cons HR.out hcur)
          clear HR x0 hall hst ha hin hcur hcell hy HCS HO
          have HR := HRq
          clear HRq
          have x0 := HR.out.cells (List.mem_cons_self ..)
          have x1 := HR.out.cells (List.mem_cons_of_mem _ (List.mem_cons_self ..))
          go_wp2_with fail
          refine (HI.out _ (by first | exact HC.out | exact HC.out.drew | exact HC.out.below (below_al (Below.refl _ _) _) | exact HC.out.drew.below (below_al (Below.refl _ _) _) | exact (HC.out.below (below_al (Below.refl _ _) _)).drew)).mono ?_
          rintro e w3 ⟨rfl, hb⟩
          have HRq := Lib.hid ((Frm.below (w := w) (bs := [(g, (.cells cur 3)), (w.heap.size, (stBox s (.slice A cs.length c)))]) (by (repeat (with_reducible first | exact HR.out | apply Frm.drew | apply Frm.alloc | apply Frm.drewN))) hb).add (spBox lo0 hi0) rfl)
          have HCq := Lib.hid (Chks.below (cs := cs) (by first | exact HC.out | exact HC.out.drew | exact HC.out.below (below_al (Below.refl _ _) _) | exact HC.out.drew.below (below_al (Below.refl _ _) _) | exact (HC.out.below (below_al (Below.refl _ _) _)).drew) hb |>.below (below_al (Below.refl _ _) (spBox lo0 hi0)))
          clear HR HC hb x0 x1
          have HR := HRq
          have HC := HCq
          clear HRq HCq
          have x0 := HR.out.cells (List.mem_cons_self ..)
          have x1 := HR.out.cells (List.mem_cons_of_mem _ (List.mem_cons_self ..))
          have x2 := HR.out.cells (List.mem_cons_of_mem _ (List.mem_cons_of_mem _ (List.mem_cons_self ..)))
          go_wp2_with fail
          refine (glassClash_none (by first | exact HC.out | exact HC.out.drew | exact HC.out.below (below_al (Below.refl _ _) _) | exact HC.out.drew.below (below_al (Below.refl _ _) _) | exact (HC.out.below (below_al (Below.refl _ _) _)).drew) HS.out HA.out).mono ?_
          rintro e w4 ⟨rfl, hb⟩
          have HRq := Lib.hid (Frm.below (w := w) (bs := [(w3.heap.size, (spBox lo0 hi0)), (g, (.cells cur 3)), (w.heap.size, (stBox s (.slice A cs.length c)))]) (by (repeat (with_reducible first | exact HR.out | apply Frm.drew | apply Frm.alloc | apply Frm.drewN))) hb)
          have HCq := Lib.hid (Chks.below (cs := cs) (by first | exact HC.out | exact HC.out.drew | exact HC.out.below (below_al (Below.refl _ _) _) | exact HC.out.drew.below (below_al (Below.refl _ _) _) | exact (HC.out.below (below_al (Below.refl _ _) _)).drew) hb)
          clear HR HC hb x0 x1 x2
          have HR := HRq
          have HC := HCq
          clear HRq HCq
          have x0 := HR.out.cells (List.mem_cons_self ..)
          have x1 := HR.out.cells (List.mem_cons_of_mem _ (List.mem_cons_self ..))
          have x2 := HR.out.cells (List.mem_cons_of_mem _ (List.mem_cons_of_mem _ (List.mem_cons_self ..)))
          have i1 : (0 : Int) ≤ dn := by omega
          have i2 : (dn : Int) < 401 := by omega
          have i3 : dn < 401 := by omega
          go_upto_region 23 with fail
          go_region_held3 (fun w' => (∀ o, w'.cell? ⟨w3.heap.size, o, none⟩ = #[Value.int .i64 lo0, .int .i64 hi0][o]?) ∧ w'.cell? ⟨g, dn, none⟩ = some (.int .i64 y)) ((exact (fun hF : Frm w [(w3.heap.size, (spBox lo0 hi0)), (g, (.cells cur 3)), (w.heap.size, (stBox s (.slice A cs.length c)))] _ => ⟨hF.cells (List.mem_cons_self ..), (hF.cells (List.mem_cons_of_mem _ (List.mem_cons_self ..)) dn).trans HCU.out⟩) (by (repeat (with_reducible first | exact HR.out | apply Frm.drew | apply Frm.alloc | apply Frm.drewN))))) ((go_at_call 16; refine (known_ex _ (HH.out.below (Frm.b (w := w) (bs := [(w3.heap.size, (spBox lo0 hi0)), (g, (.cells cur 3)), (w.heap.size, (stBox s (.slice A cs.length c)))]) (by (repeat (with_reducible first | exact HR.out | apply Frm.drew | apply Frm.alloc | apply Frm.drewN))))) (HT.out.below (Frm.b (w := w) (bs := [(w3.heap.size, (spBox lo0 hi0)), (g, (.cells cur 3)), (w.heap.size, (stBox s (.slice A cs.length c)))]) (by (repeat (with_reducible first | exact HR.out | apply Frm.drew | apply Frm.alloc | apply Frm.drewN)))))).mono ?_; rintro e wa ⟨rfl, hba⟩; have HCq := Lib.hid (Chks.below (cs := cs) (by first | exact HC.out | exact HC.out.drew | exact HC.out.below (below_al (Below.refl _ _) _) | exact HC.out.drew.below (below_al (Below.refl _ _) _) | exact (HC.out.below (below_al (Below.refl _ _) _)).drew) hba); have HRq := Lib.hid (Frm.below (w := w) (bs := [(w3.heap.size, (spBox lo0 hi0)), (g, (.cells cur 3)), (w.heap.size, (stBox s (.slice A cs.length c)))]) (by (repeat (with_reducible first | exact HR.out | apply Frm.drew | apply Frm.alloc | apply Frm.drewN))) hba); clear HR HC; have HR := HRq; have HC := HCq; clear HRq HCq hba))
          clear x0 x1 x2
          all_goals
            go_wp2_with fail
            go_ret
            exact ⟨rfl, HR.out.b⟩
end Go.Proofs.YtipckgojoanokaaDoor
