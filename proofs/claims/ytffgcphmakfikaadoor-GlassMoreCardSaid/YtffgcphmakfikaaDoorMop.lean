/- A comparison more, a lesser drift, closer spans: the mathematics, and what stands behind a statement. -/
import Derived.Test.YtffgcphmakfikaaDoorIdm
import Derived.Test.YtffgcphmakfikaaDoorRag
import Derived.Test.YtffgcphmakfikaaDoorKn
import Derived.Test.YtffgcphmakfikaaDoorExa
import Derived.Test.YtffgcphmakfikaaDoorApp
import Derived.Test.YtffgcphmakfikaaDoorRtr
import Derived.Test.YtffgcphmakfikaaDoorKno
set_option linter.unusedVariables false
set_option linter.unusedSimpArgs false
namespace Go.Proofs.YtffgcphmakfikaaDoor
section PartOfSnc
open Go.RowKit Go.Maps
theorem lowF_snoc (s : Stn) (d : Int) (cs : List Chk) (c : Chk) : lowF s d (cs ++ [c]) = max (lowF s d cs) (c.lo - s.dr * farI d c.day) := by simp [lowF, List.foldl_append]
theorem highF_snoc (s : Stn) (d : Int) (cs : List Chk) (c : Chk) : highF s d (cs ++ [c]) = min (highF s d cs) (c.hi + s.dr * farI d c.day) := by simp [highF, List.foldl_append]
theorem snoc_sound {s : Stn} {cs : List Chk} {c : Chk} (hs : soundB s cs = true) (hl : cs.length < 12) (hc : chkB c = true) : soundB s (cs ++ [c]) = true := by
  simp only [soundB, Bool.and_eq_true, List.all_eq_true] at hs ⊢
  obtain ⟨⟨⟨⟨⟨⟨⟨_, ha⟩, hb⟩, hc'⟩, hd⟩, he⟩, hf⟩, hg⟩ := hs
  refine ⟨⟨⟨⟨⟨⟨⟨by simp; omega, fun z hz => ?_⟩, hb⟩, hc'⟩, hd⟩, he⟩, hf⟩, hg⟩
  rcases List.mem_append.1 hz with hz | hz
  · exact ha z hz
  · obtain rfl : z = c := by simpa using hz
    exact hc
/-- A comparison between the bounds of its day contradicts none. -/
theorem snoc_agreed {s : Stn} {cs : List Chk} {c : Chk} (hs : Sane s cs) (ha : Agreed s cs) (h1 : lowF s c.day cs ≤ c.lo) (h2 : c.lo ≤ c.hi) (h3 : c.hi ≤ highF s c.day cs) : Agreed s (cs ++ [c]) := by
  refine agreed_mk fun a ha' b hb' => ?_
  have hd := hs.d0
  rcases List.mem_append.1 ha' with hx | hx
  · rcases List.mem_append.1 hb' with hy | hy
    · exact agreed_pair hs ha hx hy
    · obtain rfl : b = c := by simpa using hy
      have q := (lowF_ge s b.day cs).2 a hx
      rw [farI_comm] at q
      omega
  · obtain rfl : a = c := by simpa using hx
    rcases List.mem_append.1 hb' with hy | hy
    · have q := (highF_le s a.day cs).2 b hy
      omega
    · obtain rfl : b = a := by simpa using hy
      rw [farI_self]
      simp only [Int.mul_zero]
      omega

end PartOfSnc

section PartOfHld
open Go.RowKit

theorem ediv_mono {a b c : Int} (hc : 0 < c) (h : a ≤ b) : a / c ≤ b / c := Int.ediv_le_ediv hc h
theorem ediv_add {a d c : Int} (hc : 0 < c) : (a + d * c) / c = a / c + d := Int.add_mul_ediv_right a d (by omega)
theorem cool_le {x x' a a' : Int} (hx : 0 ≤ x) (hxx : x ≤ x') (ha : a' ≤ a) (h1 : a' ≤ 500) : x - x * a * 163 / 10000000 ≤ x' - x' * a' * 163 / 10000000 := by
  have s1 : x * a' ≤ x * a := Int.mul_le_mul_of_nonneg_left ha hx
  have s2 : x * a' * 163 / 10000000 ≤ x * a * 163 / 10000000 := ediv_mono (by omega) (by omega)
  have s3 : (x' - x) * a' ≤ (x' - x) * 500 := Int.mul_le_mul_of_nonneg_left h1 (by omega)
  have s4 : x' * a' = x * a' + (x' - x) * a' := by rw [← Int.add_mul]; congr 1; omega
  have s5 : x' * a' * 163 / 10000000 ≤ (x * a' * 163 + (x' - x) * 10000000) / 10000000 := ediv_mono (by omega) (by rw [s4]; omega)
  rw [ediv_add (by omega)] at s5
  omega
theorem weigh_le {y y' g g' : Int} (hy : 0 ≤ y) (hyy : y ≤ y') (hg : g ≤ g') (h1 : -3000 ≤ g') : y + y * g / 1000000 ≤ y' + y' * g' / 1000000 := by
  have s1 : y * g ≤ y * g' := Int.mul_le_mul_of_nonneg_left hg hy
  have s2 : y * g / 1000000 ≤ y * g' / 1000000 := ediv_mono (by omega) s1
  have s3 : (y' - y) * (-3000) ≤ (y' - y) * g' := Int.mul_le_mul_of_nonneg_left h1 (by omega)
  have s4 : y' * g' = y * g' + (y' - y) * g' := by rw [← Int.add_mul]; congr 1; omega
  have s5 : (y * g' + (y - y') * 1000000) / 1000000 ≤ y' * g' / 1000000 := ediv_mono (by omega) (by rw [s4]; omega)
  rw [ediv_add (by omega)] at s5
  omega
theorem ediv_anti {n c c' : Int} (hn : 0 ≤ n) (hc : 0 < c) (h : c ≤ c') : n / c' ≤ n / c := by
  have hq : 0 ≤ n / c' := Int.ediv_nonneg hn (by omega)
  have h1 : n / c' * c' ≤ n := Int.ediv_mul_le n (by omega)
  have h2 : n / c' * c ≤ n / c' * c' := Int.mul_le_mul_of_nonneg_left h hq
  exact Int.le_ediv_of_mul_le hc (by omega)
theorem lower_le {z z' h h' d d' : Int} (hz : 0 ≤ z) (hzz : z ≤ z') (h0 : 0 ≤ h) (hh : h ≤ h') (hd : d' ≤ d) (hd0 : -300 ≤ d') : z + z * h * 10 / (79900 + 29 * d) ≤ z' + z' * h' * 10 / (79900 + 29 * d') := by
  have s1 : z * h ≤ z' * h' := Int.mul_le_mul hzz hh h0 (by omega)
  have s0 : 0 ≤ z * h := Int.mul_nonneg hz h0
  have s2 : z * h * 10 / (79900 + 29 * d) ≤ z * h * 10 / (79900 + 29 * d') := ediv_anti (by omega) (by omega) (by omega)
  have s3 : z * h * 10 / (79900 + 29 * d') ≤ z' * h' * 10 / (79900 + 29 * d') := ediv_mono (by omega) (by omega)
  omega
theorem air_step : ∀ i : Nat, i < 800 → airF ((i : Int) - 300) ≤ airF ((i : Int) + 1 - 300) := by decide +kernel
theorem air_mono {a b : Int} (ha : -300 ≤ a) (hab : a ≤ b) (hb : b ≤ 500) : airF a ≤ airF b := by
  obtain ⟨n, rfl⟩ : ∃ n : Nat, b = a + n := ⟨(b - a).toNat, by omega⟩
  induction n with
  | zero => simp
  | succ n ih =>
    have h1 := ih (by omega) (by omega)
    have h2 := air_step (a + n + 300).toNat (by omega)
    rw [show (((a + n + 300).toNat : Nat) : Int) = a + n + 300 by omega, show a + (n : Int) + 300 - 300 = a + n by omega, show a + (n : Int) + 300 + 1 - 300 = a + ((n + 1 : Nat) : Int) by omega] at h2
    omega

/-- The vapour falls as the pressure and the dry bulb rise, and rises with the wet bulb. -/
def vapI (z d w : Int) : Int := airF (min w d) - z * (d - min w d) * 8 / 100000
def humI (z d w : Int) : Int := 100 * max (vapI z d w) 0 / airF d
theorem vap_air {z d w : Int} (hz : 0 ≤ z) (hd0 : -300 ≤ d) (hd1 : d ≤ 500) (hw : -300 ≤ w) : vapI z d w ≤ airF d := by
  have h1 : airF (min w d) ≤ airF d := air_mono (by omega) (by omega) hd1
  have h2 : 0 ≤ z * (d - min w d) := Int.mul_nonneg hz (by omega)
  have h3 : 0 ≤ z * (d - min w d) * 8 / 100000 := Int.ediv_nonneg (by omega) (by omega)
  unfold vapI
  omega
theorem hum_bd {z d w : Int} (hz : 0 ≤ z) (hd0 : -300 ≤ d) (hd1 : d ≤ 500) (hw : -300 ≤ w) : 0 ≤ humI z d w ∧ humI z d w ≤ 100 := by
  have h1 := vap_air hz hd0 hd1 hw
  obtain ⟨a0, a1⟩ := airF_bd hd0 hd1
  unfold humI
  constructor
  · exact Int.ediv_nonneg (by omega) (by omega)
  · have : 100 * max (vapI z d w) 0 / airF d ≤ (100 * airF d) / airF d := ediv_mono (by omega) (by omega)
    rwa [Int.mul_ediv_cancel _ (by omega)] at this
theorem hum_le {z z' d d' w w' : Int} (hz : 0 ≤ z') (hzz : z' ≤ z) (hd0 : -300 ≤ d') (hdd : d' ≤ d) (hd1 : d ≤ 500) (hw0 : -300 ≤ w) (hww : w ≤ w') : humI z d w ≤ humI z' d' w' := by
  have hb := hum_bd (z := z) (d := d) (w := w) (by omega) (by omega) hd1 hw0
  obtain ⟨a0, a1⟩ := airF_bd hd0 (show d' ≤ 500 by omega)
  rcases Int.lt_or_le w' d' with hlt | hle
  · have m1 : min w d = w := by omega
    have m2 : min w' d' = w' := by omega
    have h1 : airF w ≤ airF w' := air_mono hw0 hww (by omega)
    have h2 : z' * (d' - w') ≤ z * (d - w) := Int.mul_le_mul hzz (by omega) (by omega) (by omega)
    have h3 : z' * (d' - w') * 8 / 100000 ≤ z * (d - w) * 8 / 100000 := ediv_mono (by omega) (by omega)
    have h4 : vapI z d w ≤ vapI z' d' w' := by unfold vapI; rw [m1, m2]; omega
    have h5 : airF d' ≤ airF d := air_mono hd0 hdd hd1
    have h6 : 100 * max (vapI z d w) 0 / airF d ≤ 100 * max (vapI z d w) 0 / airF d' := ediv_anti (by omega) (by omega) h5
    have h7 : 100 * max (vapI z d w) 0 / airF d' ≤ 100 * max (vapI z' d' w') 0 / airF d' := ediv_mono (by omega) (by omega)
    unfold humI
    omega
  · have m2 : min w' d' = d' := by omega
    have h1 : vapI z' d' w' = airF d' := by unfold vapI; rw [m2]; simp
    have h2 : humI z' d' w' = 100 := by
      unfold humI
      rw [h1, show max (airF d') 0 = airF d' by omega, Int.mul_ediv_cancel _ (by omega)]
    omega
theorem humidF_eq (h : Int) (t : Tru) : humidF h t = humI h t.dT t.wT := rfl

/-- The pressure here is no more where the mercury is corrected by more. -/
theorem here_le {m : Int} {t t' : Tru} (ht : t.Sane) (ht' : t'.Sane) (h0 : 40000 ≤ m) (h1 : m ≤ 90000) (hi : t'.ix ≤ t.ix) (he : t'.er ≤ t.er) (hg : t.gr ≤ t'.gr) (ha : t'.aT ≤ t.aT) : hereF m t ≤ hereF m t' := by
  obtain ⟨⟨x0, _⟩, ⟨y0, _⟩, _⟩ := here_bd ht h0 h1
  have hx : exactF m t ≤ exactF m t' := by unfold exactF; omega
  have hy : cooledF (exactF m t) t ≤ cooledF (exactF m t') t' := cool_le (by omega) hx ha ht'.a1
  exact weigh_le (by omega) hy hg ht'.g0
theorem sea_ge {z : Int} {t : Tru} (ht : t.Sane) (hz : 0 ≤ z) : z ≤ loweredF z t := by
  have h1 := ht.h0; have h2 := ht.d0
  have h3 : 0 ≤ z * t.he := Int.mul_nonneg hz h1
  have h4 : 0 ≤ z * t.he * 10 / (79900 + 29 * t.dT) := Int.ediv_nonneg (by omega) (by omega)
  unfold loweredF
  omega
theorem sea_le {z z' : Int} {t t' : Tru} (ht : t.Sane) (ht' : t'.Sane) (hz : 0 ≤ z) (hzz : z ≤ z') (hh : t.he ≤ t'.he) (hd : t'.dT ≤ t.dT) : loweredF z t ≤ loweredF z' t' := lower_le hz hzz ht.h0 hh hd ht'.d0
theorem humid_le {z z' : Int} {t t' : Tru} (ht : t.Sane) (ht' : t'.Sane) (hz : 0 ≤ z') (hzz : z' ≤ z) (hd : t'.dT ≤ t.dT) (hw : t.wT ≤ t'.wT) : humidF z t ≤ humidF z' t' := by
  rw [humidF_eq, humidF_eq]
  exact hum_le hz hzz ht'.d0 hd ht.d1 ht.w0 hw
theorem humid_bd {z : Int} {t : Tru} (ht : t.Sane) (hz : 0 ≤ z) : 0 ≤ humidF z t ∧ humidF z t ≤ 100 := by
  rw [humidF_eq]; exact hum_bd hz ht.d0 ht.d1 ht.w0

end PartOfHld

section PartOfMon
open Go.RowKit
/-- One truth corrects the mercury by more than another one. -/
structure More (t t' : Tru) : Prop where
  ix : t'.ix ≤ t.ix
  er : t'.er ≤ t.er
  gr : t.gr ≤ t'.gr
  aT : t'.aT ≤ t.aT
/-- What is known of the second is inside what is known of the first. -/
structure Inn (s s' : Stn) (cs cs' : List Chk) (r r' : Rdg) : Prop where
  me : r'.me = r.me
  li : lowF s r.day cs ≤ lowF s' r'.day cs'
  ui : highF s' r'.day cs' ≤ highF s r.day cs
  rd : s'.rd = s.rd
  gl : s.gl ≤ s'.gl
  gh : s'.gh ≤ s.gh
  hl : s.hl ≤ s'.hl
  hh : s'.hh ≤ s.hh
  al : r.al ≤ r'.al
  ah : r'.ah ≤ r.ah
  dl : r.dl ≤ r'.dl
  dh : r'.dh ≤ r.dh
  wl : r.wl ≤ r'.wl
  wh : r'.wh ≤ r.wh
theorem here_lo {m : Int} {s s' : Stn} {cs cs' : List Chk} {r r' : Rdg} (hs : Good s cs) (hr : r.Good) (hs' : Good s' cs') (hr' : r'.Good) (h : Inn s s' cs cs' r r') (d u d' u' : Int) (h0 : 40000 ≤ m) (h1 : m ≤ 90000) :
    hereF m (extF s cs r 0 d u) ≤ hereF m (extF s' cs' r' 0 d' u') := by
  refine here_le (extF_sane hs hr _ _ _) (extF_sane hs' hr' _ _ _) h0 h1 ?_ ?_ ?_ ?_
  · simpa [extF, ofF] using h.ui
  · have := h.rd; simp [extF, ofF]; omega
  · simpa [extF, ofF] using h.gl
  · simpa [extF, ofF] using h.ah
theorem here_hi {m : Int} {s s' : Stn} {cs cs' : List Chk} {r r' : Rdg} (hs : Good s cs) (hr : r.Good) (hs' : Good s' cs') (hr' : r'.Good) (h : Inn s s' cs cs' r r') (d u d' u' : Int) (h0 : 40000 ≤ m) (h1 : m ≤ 90000) :
    hereF m (extF s' cs' r' 1 d' u') ≤ hereF m (extF s cs r 1 d u) := by
  refine here_le (extF_sane hs' hr' _ _ _) (extF_sane hs hr _ _ _) h0 h1 ?_ ?_ ?_ ?_
  · simpa [extF, ofF] using h.li
  · have := h.rd; simp [extF, ofF]; omega
  · simpa [extF, ofF] using h.gh
  · simpa [extF, ofF] using h.al
/-- The six ends of what is known. -/
structure Ends6 where
  a : Int
  b : Int
  c : Int
  d : Int
  e : Int
  f : Int
def knE (s : Stn) (cs : List Chk) (r : Rdg) : Ends6 :=
  ⟨hereF r.me (extF s cs r 0 1 0), hereF r.me (extF s cs r 1 0 1), loweredF (hereF r.me (extF s cs r 0 1 0)) (extF s cs r 0 1 0), loweredF (hereF r.me (extF s cs r 1 0 1)) (extF s cs r 1 0 1), humidF (hereF r.me (extF s cs r 1 1 0)) (extF s cs r 1 1 0), humidF (hereF r.me (extF s cs r 0 0 1)) (extF s cs r 0 0 1)⟩
def Ends6.In (x y : Ends6) : Prop := y.a ≤ x.a ∧ x.b ≤ y.b ∧ y.c ≤ x.c ∧ x.d ≤ y.d ∧ y.e ≤ x.e ∧ x.f ≤ y.f
theorem inn_ends {s s' : Stn} {cs cs' : List Chk} {r r' : Rdg} (hs : Good s cs) (hr : r.Good) (hs' : Good s' cs') (hr' : r'.Good) (h : Inn s s' cs cs' r r') :
    (knE s' cs' r').In (knE s cs r) := by
  have m0 := hr.b0
  have m1 := hr.b1
  have nn : ∀ (p d u : Int), 0 ≤ hereF r.me (extF s cs r p d u) := fun p d u => by
    have q := (here_bd (extF_sane hs hr p d u) m0 m1).2.2.1
    omega
  have nn' : ∀ (p d u : Int), 0 ≤ hereF r.me (extF s' cs' r' p d u) := fun p d u => by
    have q := (here_bd (extF_sane hs' hr' p d u) m0 m1).2.2.1
    omega
  have em := h.me
  simp only [Ends6.In, knE, em]
  refine ⟨here_lo hs hr hs' hr' h _ _ _ _ m0 m1, here_hi hs hr hs' hr' h _ _ _ _ m0 m1, ?_, ?_, ?_, ?_⟩
  · refine sea_le (extF_sane hs hr _ _ _) (extF_sane hs' hr' _ _ _) (nn _ _ _) (here_lo hs hr hs' hr' h _ _ _ _ m0 m1) ?_ ?_
    · simpa [extF, ofF] using h.hl
    · simpa [extF, ofF] using h.dh
  · refine sea_le (extF_sane hs' hr' _ _ _) (extF_sane hs hr _ _ _) (nn' _ _ _) (here_hi hs hr hs' hr' h _ _ _ _ m0 m1) ?_ ?_
    · simpa [extF, ofF] using h.hh
    · simpa [extF, ofF] using h.dl
  · refine humid_le (extF_sane hs hr _ _ _) (extF_sane hs' hr' _ _ _) (nn' _ _ _) (here_hi hs hr hs' hr' h _ _ _ _ m0 m1) ?_ ?_
    · simpa [extF, ofF] using h.dh
    · simpa [extF, ofF] using h.wl
  · refine humid_le (extF_sane hs' hr' _ _ _) (extF_sane hs hr _ _ _) (nn _ _ _) (here_lo hs hr hs' hr' h _ _ _ _ m0 m1) ?_ ?_
    · simpa [extF, ofF] using h.dl
    · simpa [extF, ofF] using h.wh
/-- A part of a span. -/
def ptI (l h p : Int) : Int := l + ((h - l) * p).tdiv 100
theorem pt_bd {l h p q : Int} (hl : l ≤ h) (h0 : 0 ≤ p) (hpq : p ≤ q) (h1 : q ≤ 100) : l ≤ ptI l h p ∧ ptI l h p ≤ ptI l h q ∧ ptI l h q ≤ h := by
  have a0 : 0 ≤ (h - l) * p := Int.mul_nonneg (by omega) h0
  have a1 : (h - l) * p ≤ (h - l) * q := Int.mul_le_mul_of_nonneg_left hpq (by omega)
  have a2 : (h - l) * q ≤ (h - l) * 100 := Int.mul_le_mul_of_nonneg_left h1 (by omega)
  unfold ptI
  rw [Int.tdiv_eq_ediv_of_nonneg a0, Int.tdiv_eq_ediv_of_nonneg (by omega)]
  omega
/-- A comparison more. -/
theorem inn_snoc {s : Stn} {cs : List Chk} {c : Chk} {r : Rdg} : Inn s s cs (cs ++ [c]) r r :=
  ⟨rfl, by rw [lowF_snoc]; omega, by rw [highF_snoc]; omega, rfl, Int.le_refl _, Int.le_refl _, Int.le_refl _, Int.le_refl _, Int.le_refl _, Int.le_refl _, Int.le_refl _, Int.le_refl _, Int.le_refl _, Int.le_refl _⟩
/-- A lesser drift. -/
theorem low_less {s : Stn} {cs : List Chk} {e d : Int} (h : e ≤ s.dr) : lowF s d cs ≤ lowF { s with dr := e } d cs :=
  lowF_le (lowF_ge _ _ _).1 fun c hc => by
    have q := (lowF_ge { s with dr := e } d cs).2 c hc
    have m : e * farI d c.day ≤ s.dr * farI d c.day := Int.mul_le_mul_of_nonneg_right h (farI_nonneg _ _)
    simp only at q
    omega
theorem high_less {s : Stn} {cs : List Chk} {e d : Int} (h : e ≤ s.dr) : highF { s with dr := e } d cs ≤ highF s d cs :=
  highF_ge (highF_le _ _ _).1 fun c hc => by
    have q := (highF_le { s with dr := e } d cs).2 c hc
    have m : e * farI d c.day ≤ s.dr * farI d c.day := Int.mul_le_mul_of_nonneg_right h (farI_nonneg _ _)
    simp only at q
    omega
theorem inn_less {s : Stn} {cs : List Chk} {r : Rdg} {e : Int} (h : e ≤ s.dr) : Inn s { s with dr := e } cs cs r r :=
  ⟨rfl, low_less h, high_less h, rfl, Int.le_refl _, Int.le_refl _, Int.le_refl _, Int.le_refl _, Int.le_refl _, Int.le_refl _, Int.le_refl _, Int.le_refl _, Int.le_refl _, Int.le_refl _⟩
theorem less_sound {s : Stn} {cs : List Chk} {e : Int} (hs : soundB s cs = true) (h0 : 0 ≤ e) (h1 : e ≤ s.dr) : soundB { s with dr := e } cs = true := by
  have hd := (good_of_soundB hs).dr1
  simp only [soundB, Bool.and_eq_true, betw_iff] at hs ⊢
  obtain ⟨⟨⟨⟨⟨⟨⟨q1, q2⟩, q3⟩, q4⟩, q5⟩, q6⟩, q7⟩, q8⟩ := hs
  exact ⟨⟨⟨⟨⟨⟨⟨q1, q2⟩, q3⟩, q4⟩, ⟨h0, by omega⟩⟩, q6⟩, q7⟩, q8⟩

end PartOfMon

section PartOfPrt
open Go.RowKit Go.Maps
set_option maxHeartbeats 1000000 in
theorem lpart_any {l u p q : Int} (h0 : -3000 ≤ l) (h1 : l ≤ u) (h2 : u ≤ 3000) (p0 : 0 ≤ p) (pq : p ≤ q) (q1 : q ≤ 100) (w : World) :
    Calls Tryd.prog 7 #[.agg #[.int .i64 l, .int .i64 u], .int .i64 p, .int .i64 q] w fun e w' => e = .returned (spV (ptI l u p) (ptI l u q)) ∧ Below w.heap.size w w' := by
  obtain ⟨b0, b1, b2⟩ := pt_bd h1 p0 pq q1
  have m0 : 0 ≤ (u - l) * p := Int.mul_nonneg (by omega) p0
  have m1 : (u - l) * p ≤ (u - l) * q := Int.mul_le_mul_of_nonneg_left pq (by omega)
  have m2 : (u - l) * q ≤ (u - l) * 100 := Int.mul_le_mul_of_nonneg_left q1 (by omega)
  have n0 : ((u - l) * p).tdiv 100 = (u - l) * p / 100 := Int.tdiv_eq_ediv_of_nonneg m0
  have n1 : ((u - l) * q).tdiv 100 = (u - l) * q / 100 := Int.tdiv_eq_ediv_of_nonneg (by omega)
  unfold ptI at *
  have e0 : IntKind.i64.wrap (u - l) = u - l := IntWalk.i64_in _ (by omega)
  have e1 : IntKind.i64.wrap ((u - l) * p) = (u - l) * p := IntWalk.i64_in _ (by omega)
  have e2 : IntKind.i64.wrap ((u - l) * q) = (u - l) * q := IntWalk.i64_in _ (by omega)
  have e3 : IntKind.i64.wrap (((u - l) * p).tdiv 100) = ((u - l) * p).tdiv 100 := IntWalk.i64_in _ (by omega)
  have e4 : IntKind.i64.wrap (((u - l) * q).tdiv 100) = ((u - l) * q).tdiv 100 := IntWalk.i64_in _ (by omega)
  have e5 : IntKind.i64.wrap (l + ((u - l) * p).tdiv 100) = l + ((u - l) * p).tdiv 100 := IntWalk.i64_in _ (by omega)
  have e6 : IntKind.i64.wrap (l + ((u - l) * q).tdiv 100) = l + ((u - l) * q).tdiv 100 := IntWalk.i64_in _ (by omega)
  clear n0 n1 m0 m1 m2 b0 b1 b2
  go_enter Tryd.func7, Tryd.ntmps7
  go_wp2_with fail
  refine (lspan_any _ _ _).mono ?_
  rintro e w1 ⟨rfl, hb1⟩
  have HB := Lib.hid (below_step (below_al (below_al (Below.refl w.heap.size w) _) _) hb1)
  have HZ := Lib.hid (blk_below (heap_new (w.alloc (.cells #[.int .i64 l, .int .i64 u] 23)) (.cells #[.int .i64 0, .int .i64 0] 23) (k := w.heap.size + 1) (by simp)) hb1)
  have zc := (boxCells HZ.out).1
  have zf := (boxCells HZ.out).2
  have zn := lt_of_blk HZ.out
  clear hb1
  go_wp2_with fail
  have y1 := (boxCells (heap_setCell_same (o := 1) (heap_setCell_same (o := 0) HZ.out (.int .i64 (l + ((u - l) * p).tdiv 100))) (.int .i64 (l + ((u - l) * q).tdiv 100)))).1
  refine bodyPost_ret (v := spV (l + ((u - l) * p).tdiv 100) (l + ((u - l) * q).tdiv 100)) (by simp [results, Tryd.results7, go_sem, y1]) rfl ⟨rfl, ?_⟩
  exact below_set (below_set HB.out (by simp) _) (by simp) _
set_option maxHeartbeats 800000 in
theorem inner_yes {a b x y : Int} (h1 : x ≤ a) (h2 : b ≤ y) (w : World) :
    Calls Tryd.prog 11 #[.agg #[.int .i64 a, .int .i64 b], .agg #[.int .i64 x, .int .i64 y]] w fun e w' => e = .returned (.bool true) ∧ Below w.heap.size w w' := by
  go_enter Tryd.func11, Tryd.ntmps11
  go_wp2
  go_ret
  exact ⟨rfl, below_al (below_al (Below.refl _ _) _) _⟩

end PartOfPrt

section PartOfStp
open Go.RowKit Go.Maps
section
variable {w : World} {o : Oper} {a : Act} {K : Act → World → Prop} {Q : Exit → Act → World → Prop}
theorem wp_all (s x : Operand) (ho : o.op = .call { callee := .builtin .append, args := #[s, x], argTypes := #[24, 24] })
    {A : Option Addr} {cs : List Chk} {c : Nat} (hs : a.eval s = .slice none 0 0) (hx : a.eval x = .slice A cs.length c) (hC : Chks w (.slice A cs.length c) cs) (h12 : cs.length ≤ 12)
    (h : ∀ v w', OwnC w' w.heap.size v cs → w.grownBy w' none → K (a.put o.dst v) w') : o.wp Tryd.prog a w K Q := by
  by_cases hne : cs = []
  · subst hne
    have hr := run_append_empty A c o.type w
    unfold Oper.wp execOp
    simp only [ho, resolve, invoke, builtin, Sem.run_bind, Sem.run_pure, Result.andThen_ok, List.map_toArray, List.map_cons, List.map_nil, hs, hx]
    simp only [List.length_nil] at hr ⊢
    rw [hr]
    exact h _ _ (World.ownsRow_nil ..) (World.grownBy.refl _ _)
  · have hlen : 0 < cs.length := List.length_pos_iff.2 hne
    obtain ⟨i0, hi0, hz0, hz1, hz2⟩ := info_parts Tryd.infoChk
    obtain ⟨x0, hx0⟩ : ∃ x0, cs[0]? = some x0 := ⟨_, List.getElem?_eq_getElem hlen⟩
    obtain ⟨b, off, hA, hcap, hm, -⟩ := chk_cells hC hx0
    subst hA
    refine wp_append_lies w s x _ ho w.heap.size 31 i0 _ 3 24 Tryd.underlying24 hi0 hz0 hz1 hz2 rfl (by omega) (.slice none 0 0) 0 [] hs (World.ownsRow_nil ..) ⟨b, off, none⟩ cs.length c (cksL cs) hx (cksL_len cs) (news_checks hC hne) cksL_one hlen (by unfold maxLen; omega) (by omega) (Nat.le_refl _) _ rfl ?_
    intro g cap w1 hown hgrow hat hlt
    refine h _ w1 ?_ hgrow
    simpa only [Nat.zero_add, List.nil_append] using hown
theorem wp_one (s x : Operand) (ho : o.op = .call { callee := .builtin .append, args := #[s, x], argTypes := #[24, 24] })
    {base N : Nat} {v : Value} {cs : List Chk} {c : Chk} (hs : a.eval s = v) (hown : OwnC w base v cs) (hx : a.eval x = .slice (some ⟨N, 0, none⟩) 1 1) (hN : w.heap[N]? = some (ckBox c)) (h12 : cs.length ≤ 12) (hbase : base ≤ w.heap.size)
    (h : ∀ g cap w', w'.ownsRow base 31 3 (.slice (some ⟨g, 0, none⟩) (cs.length + 1) cap) (cs.length + 1) (cksL (cs ++ [c])) → w.grownBy w' v.ownBlock → (v.ownBlock = some g ∨ g = w.heap.size) → g < w'.heap.size → K (a.put o.dst (.slice (some ⟨g, 0, none⟩) (cs.length + 1) cap)) w') : o.wp Tryd.prog a w K Q := by
  obtain ⟨i0, hi0, hz0, hz1, hz2⟩ := info_parts Tryd.infoChk
  obtain ⟨hc, _⟩ := boxCells hN
  refine wp_append_lies w s x _ ho base 31 i0 _ 3 24 Tryd.underlying24 hi0 hz0 hz1 hz2 rfl (by omega) v cs.length (cksL cs) hs hown ⟨N, 0, none⟩ 1 1 (ckL c) hx rfl (fun j u hj => ?_) (fun u hu => cksL_one (cs := [c]) u (by simpa [cksL] using hu)) (by omega) (by unfold maxLen; omega) (by omega) hbase _ rfl ?_
  · rw [Go.WideShapes.add_plain, Nat.zero_add, hc j]
    simpa [ckL] using hj
  · intro g cap w1 hown1 hgrow hat hlt
    rw [← cksL_add] at hown1
    exact h g cap w1 hown1 hgrow hat hlt
variable {ops : Array Oper} {E : Prop}
theorem step_of (hgd : o.guard = none) (h : Oper.wp Tryd.prog o a w K Q) : if Region.wanted o (yielded ops a.tmps) = true then Oper.wp Tryd.prog o a w K Q else E := by
  have hw : Region.wanted o (yielded ops a.tmps) = true := by simp [Region.wanted, hgd]
  rw [if_pos hw]
  exact h
end
theorem Frm.lts {w W : World} {bs : List (Nat × Obj)} (h : Frm w bs W) : ∀ p ∈ bs, p.1 < W.heap.size := fun p hp => (Array.getElem?_eq_some_iff.1 (h.h p hp)).1
theorem Frm.more {w W : World} {bs : List (Nat × Obj)} {k : Nat} {o : Obj} (h : Frm w bs W) (hz : W.heap[k]? = some o) : Frm w ((k, o) :: bs) W :=
  ⟨h.b, fun p hp => by
    rcases List.mem_cons.1 hp with rfl | hp
    · exact hz
    · exact h.h p hp⟩
theorem blk_of {W W1 : World} {k : Nat} {o : Obj} (hb : Below W.heap.size W W1) (h : W.heap[k]? = some o) : W1.heap[k]? = some o := blk_below h hb
theorem blk_drew {W W1 : World} {k : Nat} {o : Obj} (hk : k = W.heap.size) (hb : Below ((W.alloc o).drew).heap.size (W.alloc o).drew W1) : W1.heap[k]? = some o := blk_of hb (heap_new W o hk)
theorem after_all {w Wb wa : World} {bs : List (Nat × Obj)} {v : Value} {cs : List Chk} (hF : Frm w bs Wb) (hO : OwnC wa Wb.heap.size v cs) (hg : Wb.grownBy wa none) :
    Frm w bs wa ∧ ∃ base, OwnC wa base v cs ∧ base ≤ wa.heap.size ∧ w.heap.size ≤ base ∧ ∀ p ∈ bs, p.1 < base :=
  ⟨Frm.grownR hF hg (by simp) (by simp), _, hO, hg.size, hF.b.size, hF.lts⟩
/-- Comparisons in a block that is known whole. -/
def RowC (cs : List Chk) (cur : Array Value) : Prop := ∀ i c, cs[i]? = some c → cur[i * 3]? = some (.int .i64 c.day) ∧ cur[i * 3 + 1]? = some (.int .i64 c.lo) ∧ cur[i * 3 + 2]? = some (.int .i64 c.hi)
theorem row_own {w : World} {base g cap n : Nat} {cs : List Chk} (h : w.ownsRow base 31 3 (.slice (some ⟨g, 0, none⟩) n cap) n (cksL cs)) (hn : cs.length = n) (h0 : 0 < n) : ∃ cur, w.heap[g]? = some (.cells cur 31) ∧ RowC cs cur ∧ base ≤ g ∧ n ≤ cap ∧ cap ≤ maxLen := by
  subst hn
  rcases h.2 with ⟨_, hz⟩ | ⟨g', cap', cur, hv, hb0, hg, h1, h2, h3, h4⟩
  · omega
  · cases hv
    refine ⟨cur, hg, fun i c hi => ?_, hb0, h1, h2⟩
    have hil := (List.getElem?_eq_some_iff.1 hi).1
    obtain ⟨a, b, d⟩ := cksL_at cs i c hi
    have key : ∀ j, j < cs.length * 3 → cur[j]? = (cksL cs)[j]? := fun j hj => by
      rw [← h4, List.getElem?_take]
      simp [hj]
    exact ⟨(key _ (by omega)).trans a, (key _ (by omega)).trans b, (key _ (by omega)).trans d⟩
theorem after_one {w Wb wd : World} {bs : List (Nat × Obj)} {v : Value} {cs : List Chk} {c : Chk} {base g cap : Nat} (hF : Frm w bs Wb) (hbw : w.heap.size ≤ base) (hbl : ∀ p ∈ bs, p.1 < base) (hv : ∀ k, v.ownBlock = some k → base ≤ k) (hbb : base ≤ Wb.heap.size)
    (hO : wd.ownsRow base 31 3 (.slice (some ⟨g, 0, none⟩) (cs.length + 1) cap) (cs.length + 1) (cksL (cs ++ [c]))) (hg : Wb.grownBy wd v.ownBlock) (hat : v.ownBlock = some g ∨ g = Wb.heap.size) :
    ∃ cur, Frm w ((g, .cells cur 31) :: bs) wd ∧ RowC (cs ++ [c]) cur ∧ cs.length + 1 ≤ cap ∧ cap ≤ maxLen ∧ ∀ p ∈ bs, p.1 < g := by
  obtain ⟨cur, hcur, hrow, hge, h1, h2⟩ := row_own hO (by simp) (by omega)
  have hF' : Frm w bs wd := Frm.grownR hF hg (fun k hk => Nat.le_trans hbw (hv k hk)) fun p hp e => by
    have q1 := hbl p hp
    have q2 := hv _ e.symm
    omega
  exact ⟨cur, hF'.more hcur, hrow, h1, h2, fun p hp => Nat.lt_of_lt_of_le (hbl p hp) hge⟩
theorem chks_row {w W : World} {bs : List (Nat × Obj)} {g cap : Nat} {cs : List Chk} {cur : Array Value} (F : Frm w bs W) (hp : (g, Obj.cells cur 31) ∈ bs) (hr : RowC cs cur) {n : Nat} (hn : cs.length = n) (h1 : n ≤ cap) (h2 : cap ≤ maxLen) : Chks W (.slice (some ⟨g, 0, none⟩) n cap) cs := by
  subst hn
  refine ⟨_, cap, rfl, h1, h2, .inr ⟨g, 0, rfl, F.lt hp, fun i c hi => ?_⟩⟩
  obtain ⟨a, b, d⟩ := hr i c hi
  have hc := F.cells hp
  simp only [Nat.zero_add]
  exact ⟨(hc _).trans a, (hc _).trans b, (hc _).trans d⟩

end PartOfStp

section PartOfMo0
open Go.RowKit Go.Maps

@[reducible] def knW (e : Ends6) : Value := .agg #[.int .i64 e.a, .int .i64 e.b, .int .i64 e.c, .int .i64 e.d, .int .i64 e.e, .int .i64 e.f]
theorem know_w (s : Stn) (cs : List Chk) (r : Rdg) : knV s cs r = knW (knE s cs r) := rfl
theorem part_sound {s : Stn} {cs : List Chk} {p q : Int} (hs : soundB s cs = true) (p0 : 0 ≤ p) (pq : p ≤ q) (q1 : q ≤ 100) : soundB { s with hl := ptI s.hl s.hh p, hh := ptI s.hl s.hh q, gl := ptI s.gl s.gh p, gh := ptI s.gl s.gh q } cs = true := by
  have hg := good_of_soundB hs
  have a := pt_bd hg.h1 p0 pq q1
  have b := pt_bd hg.g1 p0 pq q1
  have h0 := hg.h0; have h2 := hg.h2; have g0 := hg.g0; have g2 := hg.g2
  simp only [soundB, Bool.and_eq_true, withinB, decide_eq_true_eq] at hs ⊢
  obtain ⟨⟨⟨⟨⟨⟨⟨x1, x2⟩, x3⟩, x4⟩, x5⟩, x6⟩, x7⟩, x8⟩ := hs
  exact ⟨⟨⟨⟨⟨⟨⟨x1, x2⟩, by omega⟩, by omega⟩, x5⟩, x6⟩, x7⟩, x8⟩
theorem part_read {r : Rdg} {p q : Int} (hr : readB r = true) (p0 : 0 ≤ p) (pq : p ≤ q) (q1 : q ≤ 100) : readB { r with al := ptI r.al r.ah p, ah := ptI r.al r.ah q, dl := ptI r.dl r.dh p, dh := ptI r.dl r.dh q, wl := ptI r.wl r.wh p, wh := ptI r.wl r.wh q } = true := by
  have hg := good_of_readB hr
  have a := pt_bd hg.a1 p0 pq q1
  have b := pt_bd hg.t1 p0 pq q1
  have d := pt_bd hg.w1 p0 pq q1
  have a0 := hg.a0; have a2 := hg.a2; have t0 := hg.t0; have t2 := hg.t2; have w0 := hg.w0; have w2 := hg.w2
  simp only [readB, restB, Bool.and_eq_true, betw_iff, withinB, decide_eq_true_eq] at hr ⊢
  obtain ⟨⟨⟨x1, x2⟩, x3⟩, x4⟩ := hr
  exact ⟨⟨⟨by omega, by omega⟩, by omega⟩, x4⟩
theorem inn_part {s : Stn} {cs : List Chk} {r : Rdg} {p q : Int} (hg : Good s cs) (hr : r.Good) (p0 : 0 ≤ p) (pq : p ≤ q) (q1 : q ≤ 100) :
    Inn s { s with hl := ptI s.hl s.hh p, hh := ptI s.hl s.hh q, gl := ptI s.gl s.gh p, gh := ptI s.gl s.gh q } cs cs r { r with al := ptI r.al r.ah p, ah := ptI r.al r.ah q, dl := ptI r.dl r.dh p, dh := ptI r.dl r.dh q, wl := ptI r.wl r.wh p, wh := ptI r.wl r.wh q } := by
  have h1 := pt_bd hg.h1 p0 pq q1
  have h2 := pt_bd hg.g1 p0 pq q1
  have h3 := pt_bd hr.a1 p0 pq q1
  have h4 := pt_bd hr.t1 p0 pq q1
  have h5 := pt_bd hr.w1 p0 pq q1
  exact ⟨rfl, Int.le_refl _, Int.le_refl _, rfl, h2.1, h2.2.2, h1.1, h1.2.2, h3.1, h3.2.2, h4.1, h4.2.2, h5.1, h5.2.2⟩

/-- The code behind the first n statements. -/
def tailC : Nat → Code → Code
  | 0, c => c
  | n + 1, .seq _ b => tailC n b
  | _ + 1, c => c
def headC : Code → Code
  | .seq a _ => a
  | c => c
def restC (fn : Func) (n : Nat) : Code := match fn.body with
  | some c => tailC n c
  | none => .skip

end PartOfMo0
end Go.Proofs.YtffgcphmakfikaaDoor
