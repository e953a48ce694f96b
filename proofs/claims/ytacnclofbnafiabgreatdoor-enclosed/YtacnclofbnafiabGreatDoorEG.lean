import Derived.Test.YtacnclofbnafiabGreatDoorBZ
import Derived.Test.YtacnclofbnafiabGreatDoorYA
import Derived.Test.YtacnclofbnafiabGreatDoorXB
import Derived.Test.YtacnclofbnafiabGreatDoorEB
import Derived.Test.YtacnclofbnafiabGreatDoorPE
import Derived.Test.YtacnclofbnafiabGreatDoorAA
import Derived.StillTailTactics
import Derived.Deep.DeepCutAuto
import Derived.Deep.CutBlock
import Derived.Test.YtacnclofbnafiabGreatDoorX4
import Derived.Test.YtacnclofbnafiabGreatDoorAD
namespace Go.Proofs.YtacnclofbnafiabGreatDoor
open Go.RowKit Fl

theorem Ops.dn_le (F : Ops) {x o P : Int} (fx : Fin x) (fo : Fin o) (fP : Fin P) (h : Vk x + Vk o ≤ Vk P) : F.aD x o ≤ P := by
  have d := ((F.add fx.pl fo.pl).num fx.1 fx.2 fo.1 fo.2).dn
  by_cases c : F.aD x o = -(INF : Int)
  · have := fP.1; omega
  · have := (d.ok _ (by have := d.lo; omega) d.hi).2 (Int.le_refl _)
    unfold Ep at this
    exact Vk_le.1 (by omega)
theorem Ops.le_up (F : Ops) {x o P : Int} (fx : Fin x) (fo : Fin o) (fP : Fin P) (h : Vk P ≤ Vk x + Vk o) : P ≤ F.aU x o := by
  have d := ((F.add fx.pl fo.pl).num fx.1 fx.2 fo.1 fo.2).up
  by_cases c : F.aU x o = INF
  · have := fP.2; omega
  · have := (d.ok _ d.lo (by have := d.hi; omega)).2 (Int.le_refl _)
    unfold Ep at this
    exact Vk_le.1 (by omega)
theorem abs_le_H {a b H : Int} (hH : 0 ≤ H) (h : a * a + b * b ≤ H * H) : (a.natAbs : Int) ≤ H ∧ (b.natAbs : Int) ≤ H := by
  have f : ∀ z : Int, z * z ≤ H * H → (z.natAbs : Int) ≤ H := fun z hz => by
    apply Classical.byContradiction
    intro c
    have c1 : H + 1 ≤ (z.natAbs : Int) := by omega
    have s : (z.natAbs : Int) * (z.natAbs : Int) = z * z := Int.natAbs_mul_self
    have m := Int.mul_le_mul c1 c1 (by omega) (by omega : (0 : Int) ≤ (z.natAbs : Int))
    have e : (H + 1) * (H + 1) = H * H + 2 * H + 1 := by grind
    omega
  have := mul_self_nn a
  have := mul_self_nn b
  exact ⟨f a (by omega), f b (by omega)⟩
/-- The place of a whole number. -/
def At (p k : Int) : Prop := Num (B k) p k
theorem Num.at {x : Nat} {p k : Int} (h : Num x p k) : At p k := ⟨Key.at h.key.pl, h.lo, h.hi, h.val⟩
theorem At.fin {p k : Int} (h : At p k) : Fin k := ⟨h.lo, h.hi⟩
theorem At.neg {p k : Int} (h : At p k) : At (-p) (-k) := Num.at (Num.neg h)
theorem at_has (p : Int) (h : p.natAbs ≤ 9007199254740992) : ∃ k, At p k := by
  obtain ⟨_, k, _, h⟩ := num_f p h
  exact ⟨k, h.at⟩
/-- A whole number in an interval. -/
structure I1 (k l p c : Int) : Prop where
  at_ : At p c
  lo : k ≤ c
  hi : c ≤ l
theorem I1.neg {k l p c : Int} (h : I1 k l p c) : I1 (-l) (-k) (-p) (-c) := ⟨h.at_.neg, by have := h.hi; omega, by have := h.lo; omega⟩
theorem I1.add (F : Ops) {X1 X2 Y1 Y2 : Nat} {k l k' l' p q c d e : Int} (i : Iv X1 X2 k l) (j : Iv Y1 Y2 k' l') (hp : I1 k l p c) (hq : I1 k' l' q d) (he : At (p + q) e) : I1 (F.aD k k') (F.aU l l') (p + q) e := by
  have t := F.add_exact hp.at_ hq.at_ he
  have g1 := (F.add_mono i.x.pl j.x.pl hp.at_.key.pl hq.at_.key.pl hp.lo hq.lo).1
  have g2 := (F.add_mono hp.at_.key.pl hq.at_.key.pl i.y.pl j.y.pl hp.hi hq.hi).2
  exact ⟨he, by omega, by omega⟩
theorem I1.mul (F : Ops) {X1 X2 Y1 Y2 : Nat} {k l k' l' p q c d e : Int} (i : Iv X1 X2 k l) (j : Iv Y1 Y2 k' l') (hp : I1 k l p c) (hq : I1 k' l' q d) (he : At (p * q) e) : I1 (F.pLo k l k' l') (F.pHi k l k' l') (p * q) e := by
  have t := F.mul_exact hp.at_ hq.at_ he
  have g := F.p_has i.x.pl i.y.pl j.x.pl j.y.pl hp.at_.key.pl hq.at_.key.pl hp.lo hp.hi hq.lo hq.hi
  exact ⟨he, by omega, by omega⟩
/-- A box has a complex whole number. -/
def InB (x : Bx) (p q : Int) : Prop := ∃ k l m n c d, Iv x.a x.b k l ∧ Iv x.c x.d m n ∧ I1 k l p c ∧ I1 m n q d
/-- A disc has it. -/
def InDc (x : Dc) (p q : Int) : Prop := Key x.r INF ∨ ∃ X Y T, DFin x.a x.b x.r X Y T ∧ (p * (U : Int) - Vk X) * (p * (U : Int) - Vk X) + (q * (U : Int) - Vk Y) * (q * (U : Int) - Vk Y) ≤ Vk T * Vk T
def St.In : St → Int → Int → Prop
  | .box x => InB x
  | .disc x => InDc x
/-- Small enough. -/
def Sm (p : Int) : Prop := -67108864 ≤ p ∧ p ≤ 67108864
theorem Sm.mul {p q : Int} (hp : Sm p) (hq : Sm q) : (p * q).natAbs ≤ 4503599627370496 := by
  unfold Sm at *
  rw [Int.natAbs_mul]
  exact Nat.le_trans (Nat.mul_le_mul (show p.natAbs ≤ 67108864 by omega) (show q.natAbs ≤ 67108864 by omega)) (by decide)
theorem badd_in (F : Ops) (P : Plane) (w : World) {x y : Bx} {p q p2 q2 : Int} (hx : x.ok) (hy : y.ok) (s1 : Sm p) (s2 : Sm q) (s3 : Sm p2) (s4 : Sm q2) (h : InB x p q) (g : InB y p2 q2) : InB (P.badd x y) (p + p2) (q + q2) := by
  unfold Sm at s1 s2 s3 s4
  obtain ⟨k, l, m, n, c, d, a, b, i, j⟩ := h
  obtain ⟨k', l', m', n', c', d', a', b', i', j'⟩ := g
  obtain ⟨e, he⟩ := at_has (p + p2) (by omega)
  obtain ⟨f, hf⟩ := at_has (q + q2) (by omega)
  rw [P.is_badd w hx hy (z := ⟨_, _, _, _⟩) (pboxAdd_ok F a b a' b')]
  exact ⟨_, _, _, _, e, f, padd_iv F a a', padd_iv F b b', I1.add F a a' i i' he, I1.add F b b' j j' hf⟩
theorem bsub_in (F : Ops) (P : Plane) (w : World) {x y : Bx} {p q p2 q2 : Int} (hx : x.ok) (hy : y.ok) (s1 : Sm p) (s2 : Sm q) (s3 : Sm p2) (s4 : Sm q2) (h : InB x p q) (g : InB y p2 q2) : InB (P.bsub x y) (p - p2) (q - q2) := by
  unfold Sm at s1 s2 s3 s4
  rw [Int.sub_eq_add_neg, Int.sub_eq_add_neg]
  obtain ⟨k, l, m, n, c, d, a, b, i, j⟩ := h
  obtain ⟨k', l', m', n', c', d', a', b', i', j'⟩ := g
  obtain ⟨e, he⟩ := at_has (p + -p2) (by omega)
  obtain ⟨f, hf⟩ := at_has (q + -q2) (by omega)
  rw [P.is_bsub w hx hy (z := ⟨_, _, _, _⟩) (pboxSub_ok F a b a' b')]
  exact ⟨_, _, _, _, e, f, padd_iv F a a'.neg, padd_iv F b b'.neg, I1.add F a a'.neg i i'.neg he, I1.add F b b'.neg j j'.neg hf⟩
theorem bmul_in (F : Ops) (P : Plane) (w : World) {x y : Bx} {p q p2 q2 : Int} (hx : x.ok) (hy : y.ok) (s1 : Sm p) (s2 : Sm q) (s3 : Sm p2) (s4 : Sm q2) (h : InB x p q) (g : InB y p2 q2) : InB (P.bmul x y) (p * p2 - q * q2) (p * q2 + q * p2) := by
  have n1 := s1.mul s3
  have n2 := s2.mul s4
  have n3 := s1.mul s4
  have n4 := s2.mul s3
  rw [Int.sub_eq_add_neg]
  obtain ⟨k, l, m, n, c, d, a, b, i, j⟩ := h
  obtain ⟨k', l', m', n', c', d', a', b', i', j'⟩ := g
  obtain ⟨e1, h1⟩ := at_has (p * p2) (by omega)
  obtain ⟨e2, h2⟩ := at_has (q * q2) (by omega)
  obtain ⟨e3, h3⟩ := at_has (p * q2) (by omega)
  obtain ⟨e4, h4⟩ := at_has (q * p2) (by omega)
  obtain ⟨e, he⟩ := at_has (p * p2 + -(q * q2)) (by omega)
  obtain ⟨f, hf⟩ := at_has (p * q2 + q * p2) (by omega)
  rw [P.is_bmul w hx hy (z := ⟨_, _, _, _⟩) (pboxMul_ok F a b a' b')]
  exact ⟨_, _, _, _, e, f, padd_iv F (pmul_iv F a a') (pmul_iv F b b').neg, padd_iv F (pmul_iv F a b') (pmul_iv F b a'), I1.add F (pmul_iv F a a') (pmul_iv F b b').neg (I1.mul F a a' i i' h1) (I1.mul F b b' j j' h2).neg he, I1.add F (pmul_iv F a b') (pmul_iv F b a') (I1.mul F a b' i j' h3) (I1.mul F b a' j i' h4) hf⟩
theorem bconj_in (P : Plane) (w : World) {x : Bx} {p q : Int} (hx : x.ok) (h : InB x p q) : InB (P.bconj x) p (-q) := by
  obtain ⟨k, l, m, n, c, d, a, b, i, j⟩ := h
  rw [P.is_bconj w hx (z := ⟨_, _, _, _⟩) (boxConj_ok a b)]
  exact ⟨_, _, _, _, c, -d, ⟨Key.at a.x.pl, Key.at a.y.pl, a.le, a.lo, a.hi⟩, b.neg, i, j.neg⟩
theorem toB_in (F : Ops) (P : Plane) (w : World) {x : Dc} {p q : Int} (hx : x.ok) (s1 : Sm p) (s2 : Sm q) (h : InDc x p q) : InB (P.toB x) p q := by
  unfold Sm at s1 s2
  obtain ⟨c, hc⟩ := at_has p (by omega)
  obtain ⟨d, hd⟩ := at_has q (by omega)
  have c1 := hc.lo
  have c2 := hc.hi
  have d1 := hd.lo
  have d2 := hd.hi
  have hI := INF_pos
  rcases h with h | ⟨X, Y, T, D, h⟩
  · rw [P.is_toB w hx (z := ⟨_, _, _, _⟩) (ptoBox_all h)]
    have i : Iv (B (-INF)) (B INF) (-INF) INF := ⟨Key.at pl_ninf, Key.at pl_inf, by omega, by omega, by omega⟩
    exact ⟨_, _, _, _, c, d, i, i, ⟨hc, by omega, by omega⟩, ⟨hd, by omega, by omega⟩⟩
  · rw [P.is_toB w hx (z := ⟨_, _, _, _⟩) (ptoBox_fin F D)]
    have ft := Fin.of D.r0 D.r1
    have r0 := D.r0
    have r1 := D.r1
    have i1 : Iv x.a x.a X X := ⟨D.ka, D.ka, Int.le_refl _, D.fa.2, D.fa.1⟩
    have i2 : Iv x.b x.b Y Y := ⟨D.kb, D.kb, Int.le_refl _, D.fb.2, D.fb.1⟩
    have j : Iv (B (-T)) (B T) (-T) T := ⟨Key.at ft.neg.pl, Key.at ft.pl, by omega, by omega, by omega⟩
    have v1 := hc.val
    have v2 := hd.val
    rw [← v1, ← v2] at h
    obtain ⟨a1, a2⟩ := abs_le_H (Vk_nn D.r0) h
    exact ⟨_, _, _, _, c, d, padd_iv F i1 j, padd_iv F i2 j, ⟨hc, F.dn_le D.fa ft.neg hc.fin (by rw [Vk_neg]; omega), F.le_up D.fa ft hc.fin (by omega)⟩, ⟨hd, F.dn_le D.fb ft.neg hd.fin (by rw [Vk_neg]; omega), F.le_up D.fb ft hd.fin (by omega)⟩⟩
theorem toD_in (F : Ops) (P : Plane) (w : World) {x : Bx} {p q : Int} (hx : x.ok) (h : InB x p q) : InDc (P.toD x) p q := by
  obtain ⟨k, l, m, n, c, d, a, b, i, j⟩ := h
  obtain ⟨e, f, g, hw, q⟩ := ptoDisc_some F a b
  rw [P.is_toD w hx (z := ⟨e, f, g⟩) hw]
  rcases q with ⟨q, _⟩ | ⟨u, v, t, A, lt, rfl, rfl, rfl⟩
  · obtain ⟨_, _, rfl⟩ := q
    exact .inl (Key.at pl_inf)
  · obtain ⟨c1, _, vc, _, s, r0⟩ := A.rad pl_zero (Int.le_refl _) lt
    have v1 := Vk_le.2 i.lo
    have v2 := Vk_le.2 i.hi
    have v3 := Vk_le.2 j.lo
    have v4 := Vk_le.2 j.hi
    rw [i.at_.val] at v1 v2
    rw [j.at_.val] at v3 v4
    have so := A.sound c1 (C := 1) (E1 := p * (U : Int)) (E2 := q * (U : Int)) (by omega) (by omega) (by omega) (by omega) (by omega)
    simp only [Int.one_mul] at so
    rw [Vk_zero] at s
    exact .inr ⟨u, v, _, dfin_B A.fu A.fv r0 lt, Int.le_trans so (sq_mono vc (by omega))⟩
theorem dadd_in (F : Ops) (P : Plane) (w : World) {x y : Dc} {p q p2 q2 : Int} (hx : x.ok) (hy : y.ok) (h : InDc x p q) (g : InDc y p2 q2) : InDc (P.dadd x y) (p + p2) (q + q2) := by
  have al : ∀ {e f i : Nat}, AllD e f i → ∀ {p q : Int}, InDc ⟨e, f, i⟩ p q := fun h => by
    obtain ⟨_, _, rfl⟩ := h
    exact .inl (Key.at pl_inf)
  rcases h with h | ⟨X, Y, T, D, h⟩
  · rcases g with g | ⟨X2, Y2, T2, D2, g⟩
    · obtain ⟨e, f, i, q, c⟩ := pdiscAdd_all1 (a := x.a) (b := x.b) (a2 := y.a) (b2 := y.b) h (.inr g)
      rw [P.is_dadd w hx hy (z := ⟨e, f, i⟩) c]
      exact al q
    · obtain ⟨e, f, i, q, c⟩ := pdiscAdd_all1 (a := x.a) (b := x.b) h (.inl ⟨X2, Y2, T2, D2⟩)
      rw [P.is_dadd w hx hy (z := ⟨e, f, i⟩) c]
      exact al q
  · rcases g with g | ⟨X2, Y2, T2, D2, g⟩
    · obtain ⟨e, f, i, q, c⟩ := pdiscAdd_all2 (a2 := y.a) (b2 := y.b) D g
      rw [P.is_dadd w hx hy (z := ⟨e, f, i⟩) c]
      exact al q
    · obtain ⟨e, f, i, c, q⟩ := pdiscAdd_fin F D D2
      rw [P.is_dadd w hx hy (z := ⟨e, f, i⟩) c]
      rcases q with ⟨q, _⟩ | ⟨u, v, t, A, lt, rfl, rfl, rfl⟩
      · exact al q
      · have so := add_sound D.fa D.fb D2.fa D2.fb D.r0 D.r1 D2.r0 D2.r1 A lt h g
        have r0 := (A.rad (F.add_pl D.kr.pl D2.kr.pl).2 (F.aU_nn D.kr.pl D2.kr.pl D.r0 D2.r0) lt).2.2.2.2.2
        rw [← Int.add_mul, ← Int.add_mul] at so
        exact .inr ⟨u, v, _, dfin_B A.fu A.fv r0 lt, so⟩
theorem dsub_in (F : Ops) (P : Plane) (w : World) {x y : Dc} {p q p2 q2 : Int} (hx : x.ok) (hy : y.ok) (h : InDc x p q) (g : InDc y p2 q2) : InDc (P.dsub x y) (p - p2) (q - q2) := by
  have al : ∀ {e f i : Nat}, AllD e f i → ∀ {p q : Int}, InDc ⟨e, f, i⟩ p q := fun h => by
    obtain ⟨_, _, rfl⟩ := h
    exact .inl (Key.at pl_inf)
  rcases h with h | ⟨X, Y, T, D, h⟩
  · rcases g with g | ⟨X2, Y2, T2, D2, g⟩
    · obtain ⟨e, f, i, q, c⟩ := pdiscSub_all1 (a := x.a) (b := x.b) (a2 := y.a) (b2 := y.b) h (.inr g)
      rw [P.is_dsub w hx hy (z := ⟨e, f, i⟩) c]
      exact al q
    · obtain ⟨e, f, i, q, c⟩ := pdiscSub_all1 (a := x.a) (b := x.b) h (.inl ⟨X2, Y2, T2, D2⟩)
      rw [P.is_dsub w hx hy (z := ⟨e, f, i⟩) c]
      exact al q
  · rcases g with g | ⟨X2, Y2, T2, D2, g⟩
    · obtain ⟨e, f, i, q, c⟩ := pdiscSub_all2 (a2 := y.a) (b2 := y.b) D g
      rw [P.is_dsub w hx hy (z := ⟨e, f, i⟩) c]
      exact al q
    · obtain ⟨e, f, i, c, q⟩ := pdiscSub_fin F D D2
      rw [P.is_dsub w hx hy (z := ⟨e, f, i⟩) c]
      rcases q with ⟨q, _⟩ | ⟨u, v, t, A, lt, rfl, rfl, rfl⟩
      · exact al q
      · have so := sub_sound D.fa D.fb D2.fa D2.fb D.r0 D.r1 D2.r0 D2.r1 A lt h g
        have r0 := (A.rad (F.add_pl D.kr.pl D2.kr.pl).2 (F.aU_nn D.kr.pl D2.kr.pl D.r0 D2.r0) lt).2.2.2.2.2
        rw [← Int.sub_mul, ← Int.sub_mul] at so
        exact .inr ⟨u, v, _, dfin_B A.fu A.fv r0 lt, so⟩
theorem sq_cut {a b c u : Int} (hu : 0 < u) (h : u * a * (u * a) + u * b * (u * b) ≤ u * c * (u * c)) : a * a + b * b ≤ c * c := by
  have e : u * u * (a * a + b * b) ≤ u * u * (c * c) := by grind
  exact Int.le_of_mul_le_mul_left e (Int.mul_pos hu hu)
theorem dmul_in (F : Ops) (P : Plane) (w : World) {x y : Dc} {p q p2 q2 : Int} (hx : x.ok) (hy : y.ok) (h : InDc x p q) (g : InDc y p2 q2) : InDc (P.dmul x y) (p * p2 - q * q2) (p * q2 + q * p2) := by
  have al : ∀ {e f i : Nat}, AllD e f i → ∀ {p q : Int}, InDc ⟨e, f, i⟩ p q := fun h => by
    obtain ⟨_, _, rfl⟩ := h
    exact .inl (Key.at pl_inf)
  rcases h with h | ⟨X, Y, T, D, h⟩
  · rcases g with g | ⟨X2, Y2, T2, D2, g⟩
    · obtain ⟨e, f, i, q, c⟩ := pdiscMul_all1 (a := x.a) (b := x.b) (a2 := y.a) (b2 := y.b) h (.inr g)
      rw [P.is_dmul w hx hy (z := ⟨e, f, i⟩) c]
      exact al q
    · obtain ⟨e, f, i, q, c⟩ := pdiscMul_all1 (a := x.a) (b := x.b) h (.inl ⟨X2, Y2, T2, D2⟩)
      rw [P.is_dmul w hx hy (z := ⟨e, f, i⟩) c]
      exact al q
  · rcases g with g | ⟨X2, Y2, T2, D2, g⟩
    · obtain ⟨e, f, i, q, c⟩ := pdiscMul_all2 (a2 := y.a) (b2 := y.b) D g
      rw [P.is_dmul w hx hy (z := ⟨e, f, i⟩) c]
      exact al q
    · obtain ⟨e, f, i, c, q⟩ := pdiscMul_fin F D D2
      rw [P.is_dmul w hx hy (z := ⟨e, f, i⟩) c]
      rcases q with ⟨q, _⟩ | ⟨q1, q2', l1, l2, u, v, t, A, lt, rfl, rfl, rfl⟩
      · exact al q
      · have so := mul_sound D.fa D.fb D2.fa D2.fb D.r0 D.r1 D2.r0 D2.r1 l1 l2 A lt h g
        have m1 := (F.mul_pl (l1.ge D.ka.pl D.kb.pl).1 D2.kr.pl).2
        have m2 := (F.mul_pl (l2.ge D2.ka.pl D2.kb.pl).1 D.kr.pl).2
        have m3 := (F.mul_pl D.kr.pl D2.kr.pl).2
        have z1 := (F.mul_pos (l1.ge D.ka.pl D.kb.pl).1 D2.kr.pl (l1.ge D.ka.pl D.kb.pl).2.1 D2.r0).2
        have z2 := (F.mul_pos (l2.ge D2.ka.pl D2.kb.pl).1 D.kr.pl (l2.ge D2.ka.pl D2.kb.pl).2.1 D.r0).2
        have z3 := (F.mul_pos D.kr.pl D2.kr.pl D.r0 D2.r0).2
        have a1 := (F.add_pl m1 m2).2
        have z4 := F.aU_nn m1 m2 z1 z2
        have r0 := (A.rad (F.add_pl a1 m3).2 (F.aU_nn a1 m3 z4 z3) lt).2.2.2.2.2
        refine .inr ⟨u, v, _, dfin_B A.fu A.fv r0 lt, sq_cut U_posI ?_⟩
        have e1 : (U : Int) * ((p * p2 - q * q2) * (U : Int) - Vk u) = p * (U : Int) * (p2 * (U : Int)) - q * (U : Int) * (q2 * (U : Int)) - (U : Int) * Vk u := by grind
        have e2 : (U : Int) * ((p * q2 + q * p2) * (U : Int) - Vk v) = p * (U : Int) * (q2 * (U : Int)) + q * (U : Int) * (p2 * (U : Int)) - (U : Int) * Vk v := by grind
        rw [e1, e2]
        exact so
theorem dconj_in (P : Plane) (w : World) {x : Dc} {p q : Int} (hx : x.ok) (h : InDc x p q) : InDc (P.dconj x) p (-q) := by
  rcases h with h | ⟨X, Y, T, D, h⟩
  · rw [P.is_dconj w hx (z := ⟨0, 0, B INF⟩) (discConj_a_w _ _ _ _ _ _ (hasNone_all h) (hasAll_yes h) pallDisc)]
    exact .inl (Key.at pl_inf)
  · rw [P.is_dconj w hx (z := ⟨_, _, _⟩) (discConj_fin D)]
    refine .inr ⟨X, -Y, T, dfin_B D.fa D.fb.neg D.r0 D.r1, ?_⟩
    rw [Vk_neg]
    have e : (-q * (U : Int) - -Vk Y) * (-q * (U : Int) - -Vk Y) = (q * (U : Int) - Vk Y) * (q * (U : Int) - Vk Y) := by grind
    rw [e]
    exact h
theorem asB_in (F : Ops) (P : Plane) (w : World) {s : St} {p q : Int} (hs : s.ok) (s1 : Sm p) (s2 : Sm q) (h : s.In p q) : InB (P.asB s) p q := by
  cases s with
  | box x => exact h
  | disc x => exact toB_in F P w hs s1 s2 h
theorem asD_in (F : Ops) (P : Plane) (w : World) {s : St} {p q : Int} (hs : s.ok) (h : s.In p q) : InDc (P.asD s) p q := by
  cases s with
  | box x => exact toD_in F P w hs h
  | disc x => exact h
/-- What an operation makes of two numbers, of one. -/
theorem op2_in (F : Ops) (P : Plane) (w : World) {c kd : Int} {x y : St} {p q p2 q2 : Int} (hx : x.ok) (hy : y.ok) (s1 : Sm p) (s2 : Sm q) (s3 : Sm p2) (s4 : Sm q2) (h : x.In p q) (g : y.In p2 q2) :
    (P.op2 c kd x y).In (if c = 43 then p + p2 else if c = 45 then p - p2 else p * p2 - q * q2) (if c = 43 then q + q2 else if c = 45 then q - q2 else p * q2 + q * p2) := by
  have bx := (P.asB_ok x hx).1
  have bY := (P.asB_ok y hy).1
  have dx := (P.asD_ok x hx).1
  have dy := (P.asD_ok y hy).1
  have b1 := asB_in F P w hx s1 s2 h
  have b2 := asB_in F P w hy s3 s4 g
  have d1 := asD_in F P w hx h
  have d2 := asD_in F P w hy g
  unfold Plane.op2
  by_cases k : kd = 0
  · rw [if_pos k]
    show InB _ _ _
    by_cases c1 : c = 43
    · simp only [if_pos c1]; exact badd_in F P w bx bY s1 s2 s3 s4 b1 b2
    · simp only [if_neg c1]
      by_cases c2 : c = 45
      · simp only [if_pos c2]; exact bsub_in F P w bx bY s1 s2 s3 s4 b1 b2
      · simp only [if_neg c2]; exact bmul_in F P w bx bY s1 s2 s3 s4 b1 b2
  · rw [if_neg k]
    show InDc _ _ _
    by_cases c1 : c = 43
    · simp only [if_pos c1]; exact dadd_in F P w dx dy d1 d2
    · simp only [if_neg c1]
      by_cases c2 : c = 45
      · simp only [if_pos c2]; exact dsub_in F P w dx dy d1 d2
      · simp only [if_neg c2]; exact dmul_in F P w dx dy d1 d2
theorem op1_in (F : Ops) (P : Plane) (w : World) {c kd : Int} {x : St} {p q : Int} (hx : x.ok) (s1 : Sm p) (s2 : Sm q) (h : x.In p q) :
    (P.op1 c kd x).In (if c = 126 then p else p * p - q * q) (if c = 126 then -q else 2 * p * q) := by
  have bx := (P.asB_ok x hx).1
  have dx := (P.asD_ok x hx).1
  have b1 := asB_in F P w hx s1 s2 h
  have d1 := asD_in F P w hx h
  have e : p * q + q * p = 2 * p * q := by grind
  unfold Plane.op1
  by_cases k : kd = 0
  · rw [if_pos k]
    show InB _ _ _
    by_cases c1 : c = 126
    · simp only [if_pos c1]; exact bconj_in P w bx b1
    · simp only [if_neg c1]; rw [← e]; exact bmul_in F P w bx bx s1 s2 s1 s2 b1 b1
  · rw [if_neg k]
    show InDc _ _ _
    by_cases c1 : c = 126
    · simp only [if_pos c1]; exact dconj_in P w dx d1
    · simp only [if_neg c1]; rw [← e]; exact dmul_in F P w dx dx d1 d1
end Go.Proofs.YtacnclofbnafiabGreatDoor

namespace Go.Proofs.YtacnclofbnafiabGreatDoor
open Go.RowKit Fl

instance (p : Int) : Decidable (Sm p) := by unfold Sm; infer_instance
/-- Which number a byte puts. -/
def putI (c : Int) : Int := if 48 ≤ c ∧ c < 52 then c - 48 else if 97 ≤ c ∧ c < 101 then c - 93 else -1
def opx (c : Int) (A B : List Int) : Int :=
  if c = 43 then A.getD (A.length - 2) 0 + A.getD (A.length - 1) 0
  else if c = 45 then A.getD (A.length - 2) 0 - A.getD (A.length - 1) 0
  else if c = 42 then A.getD (A.length - 2) 0 * A.getD (A.length - 1) 0 - B.getD (A.length - 2) 0 * B.getD (A.length - 1) 0
  else if c = 126 then A.getD (A.length - 1) 0
  else A.getD (A.length - 1) 0 * A.getD (A.length - 1) 0 - B.getD (A.length - 1) 0 * B.getD (A.length - 1) 0
def opy (c : Int) (A B : List Int) : Int :=
  if c = 43 then B.getD (A.length - 2) 0 + B.getD (A.length - 1) 0
  else if c = 45 then B.getD (A.length - 2) 0 - B.getD (A.length - 1) 0
  else if c = 42 then A.getD (A.length - 2) 0 * B.getD (A.length - 1) 0 + B.getD (A.length - 2) 0 * A.getD (A.length - 1) 0
  else if c = 126 then -B.getD (A.length - 1) 0
  else 2 * A.getD (A.length - 1) 0 * B.getD (A.length - 1) 0
/-- One byte of a program at numbers. -/
def pst (re im : List Int) (c : Int) (A B : List Int) : Option (List Int × List Int) :=
  if 0 ≤ putI c then some (A ++ [re.getD (putI c).toNat 0], B ++ [im.getD (putI c).toNat 0])
  else if idx c = -1 ∨ A.length < tk c then none
  else if Sm (opx c A B) ∧ Sm (opy c A B) then some (A.take (A.length - tk c) ++ [opx c A B], B.take (A.length - tk c) ++ [opy c A B])
  else none
/-- What a program comes to at numbers. -/
def pts (re im : List Int) : List Int → List Int → List Int → Option (Int × Int)
  | [], A, B => if A.length = 1 then some (A.getD 0 0, B.getD 0 0) else none
  | c :: cs, A, B => match pst re im c A B with
    | some r => pts re im cs r.1 r.2
    | none => none
/-- A set beside its number. -/
structure Good (t : St × Int × Int) : Prop where
  ok : t.1.ok
  sx : Sm t.2.1
  sy : Sm t.2.2
  has : t.1.In t.2.1 t.2.2
/-- The inputs beside their numbers. -/
structure Inputs (bs ds : List St) (re im : List Int) : Prop where
  b : ∀ j, j < 4 → ∃ x, bs[j]? = some x ∧ Good (x, re.getD j 0, im.getD j 0)
  d : ∀ j, j < 4 → ∃ x, ds[j]? = some x ∧ Good (x, re.getD (j + 4) 0, im.getD (j + 4) 0)
theorem splitL1 {α : Type} {l : List α} (h : 1 ≤ l.length) : ∃ st x, l = st ++ [x] := ⟨l.dropLast, l.getLast (by intro c; subst c; simp at h), (List.dropLast_concat_getLast _).symm⟩
theorem splitL2 {α : Type} {l : List α} (h : 2 ≤ l.length) : ∃ st x y, l = st ++ [x, y] := by
  obtain ⟨l1, y, rfl⟩ := splitL1 (show 1 ≤ l.length by omega)
  rw [List.length_append] at h
  obtain ⟨st, x, rfl⟩ := splitL1 (l := l1) (by simp at h; omega)
  exact ⟨st, x, y, by simp⟩
theorem good_app {l : List (St × Int × Int)} {z : St × Int × Int} (h : ∀ x ∈ l, Good x) (hz : Good z) : ∀ x ∈ l ++ [z], Good x := by
  intro x hx
  rcases List.mem_append.mp hx with c | c
  · exact h x c
  · rw [List.mem_singleton] at c; subst c; exact hz
theorem op_five_of {c : Int} (h : idx c ≠ -1) : c = 43 ∨ c = 45 ∨ c = 42 ∨ c = 126 ∨ c = 94 := by
  unfold idx at h
  repeat' split at h
  all_goals omega
theorem putI_nn {c : Int} (h : 0 ≤ putI c) : (48 ≤ c ∧ c < 52 ∧ putI c = c - 48) ∨ (97 ≤ c ∧ c < 101 ∧ putI c = c - 93) := by
  unfold putI at *
  repeat' split at h
  all_goals simp_all
theorem putI_neg {c : Int} (h : ¬ 0 ≤ putI c) : ¬ (48 ≤ c ∧ c < 52) ∧ ¬ (97 ≤ c ∧ c < 101) := by
  unfold putI at h
  repeat' split at h
  all_goals omega
theorem step_in (F : Ops) (P : Plane) (w : World) {bs ds : List St} {kdf : Nat → Int} {gd : Nat → Bool} (hg : ∀ n, gd n = true) {re im : List Int} (hi : Inputs bs ds re im) (T : List (St × Int × Int)) (hT : ∀ t ∈ T, Good t) (c i : Int) (qs : List (Int × Int)) {A' B' : List Int} (h : pst re im c (T.map (·.2.1)) (T.map (·.2.2)) = some (A', B')) :
    ∃ T' : List (St × Int × Int), (∀ t ∈ T', Good t) ∧ A' = T'.map (·.2.1) ∧ B' = T'.map (·.2.2) ∧ ∃ qs', stp P bs ds kdf gd c i (T.map (·.1)) qs = (0, T'.map (·.1), qs') := by
  unfold pst at h
  by_cases c0 : 0 ≤ putI c
  · rw [if_pos c0] at h
    injection h with h
    injection h with h1 h2
    rcases putI_nn c0 with ⟨g1, g2, e⟩ | ⟨g1, g2, e⟩
    · obtain ⟨x, hx, G⟩ := hi.b (c - 48).toNat (by omega)
      rw [e] at h1 h2
      refine ⟨T ++ [(x, _, _)], good_app hT G, by rw [← h1]; simp, by rw [← h2]; simp, qs, ?_⟩
      unfold stp
      rw [if_pos ⟨g1, g2⟩, hx]
      simp
    · obtain ⟨x, hx, G⟩ := hi.d (c - 97).toNat (by omega)
      rw [e, show (c - 93).toNat = (c - 97).toNat + 4 by omega] at h1 h2
      refine ⟨T ++ [(x, _, _)], good_app hT G, by rw [← h1]; simp, by rw [← h2]; simp, qs, ?_⟩
      unfold stp
      rw [if_neg (by omega), if_pos ⟨g1, g2⟩, hx]
      simp
  rw [if_neg c0] at h
  obtain ⟨p1, p2⟩ := putI_neg c0
  by_cases c1 : idx c = -1 ∨ (T.map (·.2.1)).length < tk c
  · rw [if_pos c1] at h; cases h
  rw [if_neg c1] at h
  by_cases c3 : ¬ (Sm (opx c (T.map (·.2.1)) (T.map (·.2.2))) ∧ Sm (opy c (T.map (·.2.1)) (T.map (·.2.2))))
  · rw [if_neg c3] at h; cases h
  have c2 := Classical.byContradiction c3
  rw [if_pos c2] at h
  injection h with h
  injection h with h1 h2
  have hid : idx c ≠ -1 := fun q => c1 (.inl q)
  have hlen : tk c ≤ T.length := by
    have : ¬ (T.map (·.2.1)).length < tk c := fun q => c1 (.inr q)
    rw [List.length_map] at this; omega
  have hst : stp P bs ds kdf gd c i (T.map (·.1)) qs = (0, after P c (kdf qs.length) (T.map (·.1)), qs ++ [(c, i)]) := by
    unfold stp
    rw [if_neg p1, if_neg p2, if_neg hid, if_neg (by rw [List.length_map]; omega), if_pos (hg _)]
  rw [hst]
  generalize kdf qs.length = kd
  have five := op_five_of hid
  by_cases t1 : c = 126 ∨ c = 94
  · have ht : tk c = 1 := by unfold tk; rw [if_pos t1]
    obtain ⟨T0, ⟨x, p, q⟩, rfl⟩ := splitL1 (l := T) (by omega)
    have G := hT (x, p, q) (by simp)
    have e1 : opx c ((T0 ++ [(x, p, q)]).map (·.2.1)) ((T0 ++ [(x, p, q)]).map (·.2.2)) = if c = 126 then p else p * p - q * q := by
      have n1 : c ≠ 43 := by omega
      have n2 : c ≠ 45 := by omega
      have n3 : c ≠ 42 := by omega
      unfold opx
      simp [n1, n2, n3]
    have e2 : opy c ((T0 ++ [(x, p, q)]).map (·.2.1)) ((T0 ++ [(x, p, q)]).map (·.2.2)) = if c = 126 then -q else 2 * p * q := by
      have n1 : c ≠ 43 := by omega
      have n2 : c ≠ 45 := by omega
      have n3 : c ≠ 42 := by omega
      unfold opy
      simp [n1, n2, n3]
    have N := op1_in F P w (c := c) (kd := kd) G.ok G.sx G.sy G.has
    rw [← e1, ← e2] at N
    refine ⟨T0 ++ [(P.op1 c kd x, opx c ((T0 ++ [(x, p, q)]).map (·.2.1)) ((T0 ++ [(x, p, q)]).map (·.2.2)), opy c ((T0 ++ [(x, p, q)]).map (·.2.1)) ((T0 ++ [(x, p, q)]).map (·.2.2)))], good_app (fun t ht => hT t (List.mem_append_left _ ht)) ⟨P.op1_ok c kd G.ok, c2.1, c2.2, N⟩, ?_, ?_, qs ++ [(c, i)], ?_⟩
    · rw [← h1, ht]; simp
    · rw [← h2, ht]; simp
    · unfold after
      rw [if_pos ht]
      simp [List.getD]
  · have ht : tk c = 2 := by unfold tk; rw [if_neg t1]
    obtain ⟨T0, ⟨x, p, q⟩, ⟨y, p2, q2⟩, rfl⟩ := splitL2 (l := T) (by omega)
    have G := hT (x, p, q) (by simp)
    have G2 := hT (y, p2, q2) (by simp)
    have e1 : opx c ((T0 ++ [(x, p, q), (y, p2, q2)]).map (·.2.1)) ((T0 ++ [(x, p, q), (y, p2, q2)]).map (·.2.2)) = if c = 43 then p + p2 else if c = 45 then p - p2 else p * p2 - q * q2 := by
      have n1 : c ≠ 126 := by omega
      have n2 : c = 43 ∨ c = 45 ∨ c = 42 := by omega
      unfold opx
      rcases n2 with rfl | rfl | rfl <;> simp
    have e2 : opy c ((T0 ++ [(x, p, q), (y, p2, q2)]).map (·.2.1)) ((T0 ++ [(x, p, q), (y, p2, q2)]).map (·.2.2)) = if c = 43 then q + q2 else if c = 45 then q - q2 else p * q2 + q * p2 := by
      have n2 : c = 43 ∨ c = 45 ∨ c = 42 := by omega
      unfold opy
      rcases n2 with rfl | rfl | rfl <;> simp
    have N := op2_in F P w (c := c) (kd := kd) G.ok G2.ok G.sx G.sy G2.sx G2.sy G.has G2.has
    rw [← e1, ← e2] at N
    refine ⟨T0 ++ [(P.op2 c kd x y, opx c ((T0 ++ [(x, p, q), (y, p2, q2)]).map (·.2.1)) ((T0 ++ [(x, p, q), (y, p2, q2)]).map (·.2.2)), opy c ((T0 ++ [(x, p, q), (y, p2, q2)]).map (·.2.1)) ((T0 ++ [(x, p, q), (y, p2, q2)]).map (·.2.2)))], good_app (fun t ht => hT t (List.mem_append_left _ ht)) ⟨P.op2_ok c kd G.ok G2.ok, c2.1, c2.2, N⟩, ?_, ?_, qs ++ [(c, i)], ?_⟩
    · rw [← h1, ht]; simp
    · rw [← h2, ht]; simp
    · unfold after
      rw [if_neg (by omega)]
      simp [List.getD]
theorem runs_pts (F : Ops) (P : Plane) (w : World) {bs ds : List St} {kdf : Nat → Int} {gd : Nat → Bool} (hg : ∀ n, gd n = true) {re im : List Int} (hi : Inputs bs ds re im) : ∀ (l : List Int) (i : Int) (qs : List (Int × Int)) (T : List (St × Int × Int)), (∀ t ∈ T, Good t) → ∀ {p q : Int}, pts re im l (T.map (·.2.1)) (T.map (·.2.2)) = some (p, q) →
    ∃ z, (runs P bs ds kdf gd l i (T.map (·.1)) qs).1 = 0 ∧ (runs P bs ds kdf gd l i (T.map (·.1)) qs).2.2.1 = [z] ∧ Good (z, p, q)
  | [], i, qs, T, hT, p, q, h => by
    unfold pts at h
    by_cases c : (T.map (·.2.1)).length = 1
    · rw [if_pos c] at h
      rw [List.length_map] at c
      obtain ⟨⟨z, p', q'⟩, rfl⟩ := List.length_eq_one_iff.mp c
      simp at h
      obtain ⟨rfl, rfl⟩ := h
      exact ⟨z, by rw [runs_nil]; simp, by rw [runs_nil]; simp, hT _ (by simp)⟩
    · rw [if_neg c] at h; cases h
  | c :: cs, i, qs, T, hT, p, q, h => by
    unfold pts at h
    cases hp : pst re im c (T.map (·.2.1)) (T.map (·.2.2)) with
    | none => rw [hp] at h; cases h
    | some r =>
      rw [hp] at h
      obtain ⟨A', B'⟩ := r
      obtain ⟨T', hT', rfl, rfl, qs', he⟩ := step_in F P w hg hi (kdf := kdf) T hT c i qs hp
      rw [runs_cons, he, if_pos rfl]
      exact runs_pts F P w hg hi cs (i + 1) qs' T' hT' h
end Go.Proofs.YtacnclofbnafiabGreatDoor

namespace Go.Proofs.YtacnclofbnafiabGreatDoor
open Go.RowKit Fl

theorem put_ch (c : Int) (h0 : 0 ≤ c) (h1 : c < 256) (w : World) : Calls Tryz.prog 49 #[.int .u8 c] w fun e w' => e = .returned (.int .i64 (putI c)) ∧ w' = w := by
  unfold putI
  by_cases c1 : 48 ≤ c
  · by_cases c2 : c < 52
    · have c3 : c ≤ 51 := by omega
      have e1 : IntKind.u8.wrap (c - 48) = c - 48 := by rw [IntKind.wrap_u8]; omega
      have e2 : IntKind.i64.wrap (c - 48) = c - 48 := by rw [IntKind.wrap_i64]; omega
      rw [if_pos ⟨c1, c2⟩]
      go_enter Tryz.func49, Tryz.ntmps49
      go_wp2
      go_ret
      exact ⟨rfl, rfl⟩
    · have c3 : ¬ c ≤ 51 := by omega
      rw [if_neg (by omega)]
      by_cases d1 : 97 ≤ c
      · by_cases d2 : c < 101
        · have d3 : c ≤ 100 := by omega
          have e1 : IntKind.u8.wrap (c - 97) = c - 97 := by rw [IntKind.wrap_u8]; omega
          have e2 : IntKind.i64.wrap (c - 97) = c - 97 := by rw [IntKind.wrap_i64]; omega
          have e3 : IntKind.i64.wrap (4 + (c - 97)) = c - 93 := by rw [IntKind.wrap_i64]; omega
          rw [if_pos ⟨d1, d2⟩]
          go_enter Tryz.func49, Tryz.ntmps49
          go_wp2
          go_ret
          exact ⟨rfl, rfl⟩
        · have d3 : ¬ c ≤ 100 := by omega
          rw [if_neg (by omega)]
          go_enter Tryz.func49, Tryz.ntmps49
          go_wp2
          go_ret
          exact ⟨rfl, rfl⟩
      · rw [if_neg (by omega)]
        go_enter Tryz.func49, Tryz.ntmps49
        go_wp2
        go_ret
        exact ⟨rfl, rfl⟩
  · have d1 : ¬ 97 ≤ c := by omega
    rw [if_neg (by omega), if_neg (by omega)]
    go_enter Tryz.func49, Tryz.ntmps49
    go_wp2
    go_ret
    exact ⟨rfl, rfl⟩
theorem own_takeI {w : World} {base : Nat} {e : TypeId} {g n cap : Nat} {l : List Int} (h : w.ownsRow base e 1 (.slice (some ⟨g, 0, none⟩) n cap) n (kvs l)) {r : Nat} (hr : r ≤ n) : w.ownsRow base e 1 (.slice (some ⟨g, 0, none⟩) r cap) r (kvs (l.take r)) := by
  have h1 := h.1
  rcases h.2 with ⟨h0, _⟩ | ⟨g', cap', cur, e1, e2, e3, e4, e5, e6, e7⟩
  · cases h0
  · cases e1
    have ek : kvs (l.take r) = (kvs l).take r := by simp [kvs]
    rw [ek]
    refine ⟨by rw [List.length_take]; omega, .inr ⟨g, cap, cur, rfl, e2, e3, by omega, e5, e6, ?_⟩⟩
    rw [← e7, List.take_take, Nat.min_eq_left (by omega), Nat.mul_one]
theorem row_int {w : World} {base : Nat} {u : Value} {l : List Value} {n : Nat} (h : w.ownsRow base 3 1 u n l) (hn : 0 < n) : ∃ g cap, u = .slice (some ⟨g, 0, none⟩) n cap ∧ n ≤ cap := by
  rcases h.2 with ⟨_, e⟩ | ⟨g, cap, cur, e, _, _, e4, _⟩
  · omega
  · exact ⟨g, cap, e, e4⟩
theorem kvs_at {l : List Int} {j : Nat} {x : Int} (h : l[j]? = some x) : (kvs l)[j]? = some (.int .i64 x) := by simp [kvs, h]
/-- Two stacks of numbers, each in a block of its own. -/
structure Two (base : Nat) (w : World) (u v : Value) (A B : List Int) : Prop where
  oa : w.ownsRow base 3 1 u A.length (kvs A)
  ob : w.ownsRow base 3 1 v B.length (kvs B)
  ne : ∀ k, u.ownBlock = some k → v.ownBlock ≠ some k
theorem Two.symm {base : Nat} {w : World} {u v : Value} {A B : List Int} (h : Two base w u v A B) : Two base w v u B A := ⟨h.ob, h.oa, fun k h1 h2 => h.ne k h2 h1⟩
theorem Two.below {base : Nat} {w w' : World} {u v : Value} {A B : List Int} (h : Two base w u v A B) (hb : Below w.heap.size w w') : Two base w' u v A B := ⟨keep_own h.oa hb, keep_own h.ob hb, h.ne⟩
theorem grown_own {w w' : World} {r : Option Nat} (g : w.grownBy w' r) {base : Nat} {e : TypeId} {size : Nat} {v : Value} {n : Nat} {xs : List Value} (o : w.ownsRow base e size v n xs) (hn : ∀ k, v.ownBlock = some k → r ≠ some k) : w'.ownsRow base e size v n xs := by
  refine ⟨o.1, ?_⟩
  have lt := o.lt
  rcases o.2 with h' | ⟨b, cap, cur, rfl, e2, e3, q⟩
  · exact .inl h'
  · exact .inr ⟨b, cap, cur, rfl, e2, by rw [g.block b (lt b rfl).2 (fun c => hn b rfl c.symm)]; exact e3, q⟩
theorem Two.push {base : Nat} {w w1 : World} {u u0 u' v : Value} {A A0 B : List Int} {x : Int} {o : Obj} (h : Two base w u v A B) (hu : u0.ownBlock = u.ownBlock) (o1 : w1.ownsRow base 3 1 u' (A0.length + 1) (kvs A0 ++ [.int .i64 x])) (g1 : (w.alloc o).grownBy w1 u0.ownBlock) (nw : ∀ k, u'.ownBlock = some k → u0.ownBlock = some k ∨ w.heap.size + 1 ≤ k) : Two base w1 u' v (A0 ++ [x]) B := by
  refine ⟨?_, grown_own g1 (h.ob.alloc o) (fun k hk c => h.ne k (by rw [← hu]; exact c) hk), fun k hk c => ?_⟩
  · rw [show kvs (A0 ++ [x]) = kvs A0 ++ [.int .i64 x] by simp [kvs], List.length_append]
    exact o1
  · rcases nw k hk with q | q
    · exact h.ne k (by rw [← hu]; exact q) c
    · have := (h.ob.lt k c).2
      omega
theorem push_below {w wr w1 : World} {u0 : Value} {n : Nat} {l : List Value} {o : Obj} (hB : Below w.heap.size w wr) (T : wr.ownsRow w.heap.size 3 1 u0 n l) (g1 : (wr.alloc o).grownBy w1 u0.ownBlock) : Below w.heap.size w w1 :=
  Below.grown (bl_alloc hB) g1 (by have := hB.size; simp; omega) fun j hj => (T.lt j hj).1
theorem LInt.own {w : World} {base : Nat} {v : Value} {l : List Int} (h : w.ownsRow base 3 1 v l.length (kvs l)) : LInt w v l := by
  obtain ⟨ao, c, hv, _, _, _⟩ := own_shape h
  refine ⟨⟨ao, c, hv⟩, fun j x e => ?_⟩
  obtain ⟨g, cap, e1, e2, _⟩ := own_row h (kvs_at e)
  exact ⟨g, 0, cap, e1, cell_lt e2, by rw [Nat.zero_add]; exact e2⟩
theorem sm_app {l : List Int} {z : Int} (h : ∀ x ∈ l, Sm x) (hz : Sm z) : ∀ x ∈ l ++ [z], Sm x := by
  intro x hx
  rcases List.mem_append.mp hx with c | c
  · exact h x c
  · rw [List.mem_singleton] at c; subst c; exact hz
/-- A list of eight. -/
structure LInt8 (w : World) (v : Value) (ks : List Int) : Prop where
  ce : ∀ j x, ks[j]? = some x → ∃ b off c, v = .slice (some ⟨b, off, none⟩) 8 c ∧ b < w.heap.size ∧ w.cell? ⟨b, off + j, none⟩ = some (.int .i64 x)
theorem LInt8.of {w : World} {v : Value} {ks : List Int} (h : LInt w v ks) (hl : ks.length = 8) : LInt8 w v ks :=
  ⟨fun j x e => by have := h.ce j x e; rw [hl] at this; exact this⟩
theorem pts_cons (re im : List Int) (c : Int) (cs A B : List Int) : pts re im (c :: cs) A B = match pst re im c A B with | some r => pts re im cs r.1 r.2 | none => none := by first | (rw [pts]; done) | (rw [pts]; rfl)
end Go.Proofs.YtacnclofbnafiabGreatDoor

namespace Go.Proofs.YtacnclofbnafiabGreatDoor
open Go.RowKit Fl

set_option maxHeartbeats 1000000 in
theorem inBox_yes_w (p q X1 X2 X3 X4 : Nat)
    (t0 : (Ieee.double.order X1 p == some .lt || Ieee.double.order X1 p == some .eq) = true)
    (t1 : (Ieee.double.order p X2 == some .lt || Ieee.double.order p X2 == some .eq) = true)
    (t2 : (Ieee.double.order X3 q == some .lt || Ieee.double.order X3 q == some .eq) = true)
    (t3 : (Ieee.double.order q X4 == some .lt || Ieee.double.order q X4 == some .eq) = true) (w : World) :
    Calls Tryz.prog 50 #[.float .f64 p, .float .f64 q, .agg #[.float .f64 X1, .float .f64 X2, .float .f64 X3, .float .f64 X4]] w fun e w' => e = .returned (.bool true) ∧ Below w.heap.size w w' := by
  go_enter Tryz.func50, Tryz.ntmps50
  go_wp2_with fail
  obtain ⟨w0, hw0⟩ : ∃ v, v = (w.alloc (.cells #[.float .f64 X1, .float .f64 X2, .float .f64 X3, .float .f64 X4] 39)) := ⟨_, rfl⟩
  rw [← hw0]
  have c00 : w0.cell? ⟨w.heap.size, 0, none⟩ = some (.float .f64 X1) := by simp [hw0, go_sem]
  have c01 : w0.cell? ⟨w.heap.size, 1, none⟩ = some (.float .f64 X2) := by simp [hw0, go_sem]
  have c02 : w0.cell? ⟨w.heap.size, 2, none⟩ = some (.float .f64 X3) := by simp [hw0, go_sem]
  have c03 : w0.cell? ⟨w.heap.size, 3, none⟩ = some (.float .f64 X4) := by simp [hw0, go_sem]
  have s0 : w.heap.size + 1 ≤ w0.heap.size := by simp [hw0]
  have hB0 : Below w.heap.size w w0 := by
    rw [hw0]
    repeat (with_reducible first | exact Below.refl _ _ | assumption | refine Below.drew ?_ | refine bl_drewN ?_ _ | refine Below.setCell ?_ (by first | omega | (simp; done) | (simp; omega)) _ | refine Below.alloc ?_ (by first | omega | (simp; done) | (simp; omega)) _ | refine bl_next ?_ (by assumption) | refine bl_trans ?_ (by assumption) (by first | omega | (simp; done) | (simp; omega)))
  clear hw0
  go_ret
  refine ⟨rfl, ?_⟩
  repeat (with_reducible first | exact Below.refl _ _ | assumption | refine Below.drew ?_ | refine bl_drewN ?_ _ | refine Below.setCell ?_ (by first | omega | (simp; done) | (simp; omega)) _ | refine Below.alloc ?_ (by first | omega | (simp; done) | (simp; omega)) _ | refine bl_next ?_ (by assumption) | refine bl_trans ?_ (by assumption) (by first | omega | (simp; done) | (simp; omega)))
theorem leb {x y : Nat} {k l : Int} (hx : Key x k) (hy : Key y l) : (Ieee.double.order x y == some .lt || Ieee.double.order x y == some .eq) = decide (k ≤ l) := by
  rw [hx.order hy]
  rcases Int.lt_trichotomy k l with h | h | h
  · rw [Int.compare_eq_lt.2 h]; simp; omega
  · rw [Int.compare_eq_eq.2 h]; simp; omega
  · rw [Int.compare_eq_gt.2 h]; simp; omega
/-- A box has the number: the reference says so too. -/
theorem inBox_good {x : Bx} {p q : Int} (h : InB x p q) {P Q : Nat} (hP : ∃ k, Num P p k) (hQ : ∃ k, Num Q q k) : ∀ w, Calls Tryz.prog 50 #[.float .f64 P, .float .f64 Q, .agg #[.float .f64 x.a, .float .f64 x.b, .float .f64 x.c, .float .f64 x.d]] w fun e w' => e = .returned (.bool true) ∧ Below w.heap.size w w' := by
  obtain ⟨k, l, m, n, c, d, a, b, i, j⟩ := h
  obtain ⟨kp, np⟩ := hP
  obtain ⟨kq, nq⟩ := hQ
  have e1 : kp = c := num_unique np i.at_
  have e2 : kq = d := num_unique nq j.at_
  subst e1; subst e2
  have t0 := leb a.x np.key
  have t1 := leb np.key a.y
  have t2 := leb b.x nq.key
  have t3 := leb nq.key b.y
  rw [decide_eq_true i.lo] at t0
  rw [decide_eq_true i.hi] at t1
  rw [decide_eq_true j.lo] at t2
  rw [decide_eq_true j.hi] at t3
  exact inBox_yes_w _ _ _ _ _ _ t0 t1 t2 t3
theorem inDisc_good {x : Dc} {p q : Int} (h : InDc x p q) {P Q : Nat} (hP : ∃ k, Num P p k) (hQ : ∃ k, Num Q q k) : ∀ w, Calls Tryz.prog 22 #[.float .f64 P, .float .f64 Q, .agg #[.complex .f64 x.a x.b, .float .f64 x.r]] w fun e w' => e = .returned (.bool true) ∧ Below w.heap.size w w' := by
  obtain ⟨kp, np⟩ := hP
  obtain ⟨kq, nq⟩ := hQ
  rcases h with h | ⟨X, Y, T, D, h⟩
  · exact rinDisc_all h
  · obtain ⟨b, hb, c⟩ := rinDisc_fin np.key ⟨np.lo, np.hi⟩ nq.key ⟨nq.lo, nq.hi⟩ D
    have : b = true := hb.2 (by unfold inD; rw [np.val, nq.val]; exact h)
    subst this
    exact c
set_option maxHeartbeats 1000000 in
theorem has_b_w (X1 X2 X3 X4 P Q : Nat) (p q : Int) (e1 : floatOfInt .f64 p = P) (e2 : floatOfInt .f64 q = Q) (h : ∀ w, Calls Tryz.prog 50 #[.float .f64 P, .float .f64 Q, .agg #[.float .f64 X1, .float .f64 X2, .float .f64 X3, .float .f64 X4]] w fun e w' => e = .returned (.bool true) ∧ Below w.heap.size w w') (w : World) :
    Calls Tryz.prog 24 #[.agg #[.int .i64 0, .float .f64 X1, .float .f64 X2, .float .f64 X3, .float .f64 X4, .complex .f64 0 0, .float .f64 0], .int .i64 p, .int .i64 q] w fun e w' => e = .returned (.bool true) ∧ Below w.heap.size w w' := by
  go_enter Tryz.func24, Tryz.ntmps24
  go_wp2_with fail
  go_at_call 50
  refine (h _).mono ?_
  rintro e w1 ⟨rfl, hb⟩
  go_wp2_with fail
  go_ret
  exact ⟨rfl, bl_next (bl_alloc (Below.refl _ _)) hb⟩
set_option maxHeartbeats 1000000 in
theorem has_d_w (a b r P Q : Nat) (p q : Int) (e1 : floatOfInt .f64 p = P) (e2 : floatOfInt .f64 q = Q) (h : ∀ w, Calls Tryz.prog 22 #[.float .f64 P, .float .f64 Q, .agg #[.complex .f64 a b, .float .f64 r]] w fun e w' => e = .returned (.bool true) ∧ Below w.heap.size w w') (w : World) :
    Calls Tryz.prog 24 #[.agg #[.int .i64 1, .float .f64 0, .float .f64 0, .float .f64 0, .float .f64 0, .complex .f64 a b, .float .f64 r], .int .i64 p, .int .i64 q] w fun e w' => e = .returned (.bool true) ∧ Below w.heap.size w w' := by
  go_enter Tryz.func24, Tryz.ntmps24
  go_wp2_with fail
  go_at_call 22
  refine (h _).mono ?_
  rintro e w1 ⟨rfl, hb⟩
  go_wp2_with fail
  go_ret
  exact ⟨rfl, bl_next (bl_alloc (Below.refl _ _)) hb⟩
theorem has_good {z : St} {p q : Int} (G : Good (z, p, q)) (w : World) : Calls Tryz.prog 24 #[z.val, .int .i64 p, .int .i64 q] w fun e w' => e = .returned (.bool true) ∧ Below w.heap.size w w' := by
  have s1 := G.sx
  have s2 := G.sy
  unfold Sm at s1 s2
  obtain ⟨P, k, e1, n1⟩ := num_f p (by simp at s1; omega)
  obtain ⟨Q, l, e2, n2⟩ := num_f q (by simp at s2; omega)
  cases z with
  | box x => exact has_b_w _ _ _ _ P Q p q e1 e2 (inBox_good G.has ⟨k, n1⟩ ⟨l, n2⟩) w
  | disc x => exact has_d_w _ _ _ P Q p q e1 e2 (inDisc_good G.has ⟨k, n1⟩ ⟨l, n2⟩) w
/-- The blocks are others. -/
def Apart (u v : Value) : Prop := ∀ k, u.ownBlock = some k → v.ownBlock ≠ some k
theorem Apart.symm {u v : Value} (h : Apart u v) : Apart v u := fun k h1 h2 => h k h2 h1
theorem Apart.new {u u' v : Value} (h : Apart u v) {n : Nat} (nw : ∀ k, u'.ownBlock = some k → u.ownBlock = some k ∨ n ≤ k) (lt : ∀ k, v.ownBlock = some k → k < n) : Apart u' v := fun k h1 h2 => by
  rcases nw k h1 with q | q
  · exact h k q h2
  · have := lt k h2; omega
/-- The law's four lists, each in a block of its own. -/
structure R4 (base : Nat) (w : World) (vb vd vx vy : Value) (bl : List Bx) (dl : List Dc) (X Y : List Int) : Prop where
  ob : w.ownsRow base 39 4 vb bl.length (bfl bl)
  od : w.ownsRow base 42 2 vd dl.length (dfl dl)
  ox : w.ownsRow base 3 1 vx X.length (kvs X)
  oy : w.ownsRow base 3 1 vy Y.length (kvs Y)
  bd : Apart vb vd
  bx : Apart vb vx
  by_ : Apart vb vy
  dx : Apart vd vx
  dy : Apart vd vy
  xy : Apart vx vy
theorem R4.below {base : Nat} {w w' : World} {vb vd vx vy : Value} {bl : List Bx} {dl : List Dc} {X Y : List Int} (h : R4 base w vb vd vx vy bl dl X Y) (hb : Below w.heap.size w w') : R4 base w' vb vd vx vy bl dl X Y :=
  ⟨keep_own h.ob hb, keep_own h.od hb, keep_own h.ox hb, keep_own h.oy hb, h.bd, h.bx, h.by_, h.dx, h.dy, h.xy⟩
theorem R4.pushX {base : Nat} {w w1 : World} {vb vd vx vy v' : Value} {bl : List Bx} {dl : List Dc} {X Y : List Int} {o : Obj} (h : R4 base w vb vd vx vy bl dl X Y) {x : Int} (o1 : w1.ownsRow base 3 1 v' (X.length + 1) (kvs X ++ [.int .i64 x])) (g : (w.alloc o).grownBy w1 vx.ownBlock) (nw : ∀ k, v'.ownBlock = some k → vx.ownBlock = some k ∨ w.heap.size + 1 ≤ k) : R4 base w1 vb vd v' vy bl dl (X ++ [x]) Y := by
  refine ⟨grown_own g (h.ob.alloc o) (fun k a c => h.bx k a c), grown_own g (h.od.alloc o) (fun k a c => h.dx k a c), ?_, grown_own g (h.oy.alloc o) (fun k a c => h.xy k c a), h.bd, (h.bx.symm.new nw (fun k q => Nat.lt_succ_of_lt (h.ob.lt k q).2)).symm, h.by_, (h.dx.symm.new nw (fun k q => Nat.lt_succ_of_lt (h.od.lt k q).2)).symm, h.dy, h.xy.new nw (fun k q => Nat.lt_succ_of_lt (h.oy.lt k q).2)⟩
  rw [show kvs (X ++ [x]) = kvs X ++ [.int .i64 x] by simp [kvs], List.length_append]
  exact o1
theorem R4.pushY {base : Nat} {w w1 : World} {vb vd vx vy v' : Value} {bl : List Bx} {dl : List Dc} {X Y : List Int} {o : Obj} (h : R4 base w vb vd vx vy bl dl X Y) {x : Int} (o1 : w1.ownsRow base 3 1 v' (Y.length + 1) (kvs Y ++ [.int .i64 x])) (g : (w.alloc o).grownBy w1 vy.ownBlock) (nw : ∀ k, v'.ownBlock = some k → vy.ownBlock = some k ∨ w.heap.size + 1 ≤ k) : R4 base w1 vb vd vx v' bl dl X (Y ++ [x]) := by
  refine ⟨grown_own g (h.ob.alloc o) (fun k a c => h.by_ k a c), grown_own g (h.od.alloc o) (fun k a c => h.dy k a c), grown_own g (h.ox.alloc o) (fun k a c => h.xy k a c), ?_, h.bd, h.bx, (h.by_.symm.new nw (fun k q => Nat.lt_succ_of_lt (h.ob.lt k q).2)).symm, h.dx, (h.dy.symm.new nw (fun k q => Nat.lt_succ_of_lt (h.od.lt k q).2)).symm, (h.xy.symm.new nw (fun k q => Nat.lt_succ_of_lt (h.ox.lt k q).2)).symm⟩
  rw [show kvs (Y ++ [x]) = kvs Y ++ [.int .i64 x] by simp [kvs], List.length_append]
  exact o1
theorem R4.pushB {base : Nat} {w w1 : World} {vb vd vx vy v' : Value} {bl : List Bx} {dl : List Dc} {X Y : List Int} {o : Obj} (h : R4 base w vb vd vx vy bl dl X Y) {z : Bx} (o1 : w1.ownsRow base 39 4 v' (bl.length + 1) (bfl bl ++ [.float .f64 z.a, .float .f64 z.b, .float .f64 z.c, .float .f64 z.d])) (g : (w.alloc o).grownBy w1 vb.ownBlock) (nw : ∀ k, v'.ownBlock = some k → vb.ownBlock = some k ∨ w.heap.size + 1 ≤ k) : R4 base w1 v' vd vx vy (bl ++ [z]) dl X Y := by
  refine ⟨?_, grown_own g (h.od.alloc o) (fun k a c => h.bd k c a), grown_own g (h.ox.alloc o) (fun k a c => h.bx k c a), grown_own g (h.oy.alloc o) (fun k a c => h.by_ k c a), h.bd.new nw (fun k q => Nat.lt_succ_of_lt (h.od.lt k q).2), h.bx.new nw (fun k q => Nat.lt_succ_of_lt (h.ox.lt k q).2), h.by_.new nw (fun k q => Nat.lt_succ_of_lt (h.oy.lt k q).2), h.dx, h.dy, h.xy⟩
  rw [show bfl (bl ++ [z]) = bfl bl ++ [.float .f64 z.a, .float .f64 z.b, .float .f64 z.c, .float .f64 z.d] by simp [bfl, Bx.cs], List.length_append]
  exact o1
theorem R4.pushD {base : Nat} {w w1 : World} {vb vd vx vy v' : Value} {bl : List Bx} {dl : List Dc} {X Y : List Int} {o : Obj} (h : R4 base w vb vd vx vy bl dl X Y) {z : Dc} (o1 : w1.ownsRow base 42 2 v' (dl.length + 1) (dfl dl ++ [.complex .f64 z.a z.b, .float .f64 z.r])) (g : (w.alloc o).grownBy w1 vd.ownBlock) (nw : ∀ k, v'.ownBlock = some k → vd.ownBlock = some k ∨ w.heap.size + 1 ≤ k) : R4 base w1 vb v' vx vy bl (dl ++ [z]) X Y := by
  refine ⟨grown_own g (h.ob.alloc o) (fun k a c => h.bd k a c), ?_, grown_own g (h.ox.alloc o) (fun k a c => h.dx k c a), grown_own g (h.oy.alloc o) (fun k a c => h.dy k c a), (h.bd.symm.new nw (fun k q => Nat.lt_succ_of_lt (h.ob.lt k q).2)).symm, h.bx, h.by_, h.dx.new nw (fun k q => Nat.lt_succ_of_lt (h.ox.lt k q).2), h.dy.new nw (fun k q => Nat.lt_succ_of_lt (h.oy.lt k q).2), h.xy⟩
  rw [show dfl (dl ++ [z]) = dfl dl ++ [.complex .f64 z.a z.b, .float .f64 z.r] by simp [dfl, Dc.cs], List.length_append]
  exact o1
theorem own_below {w wr w1 : World} {e : TypeId} {size n : Nat} {u0 : Value} {l : List Value} {o : Obj} (hB : Below w.heap.size w wr) (T : wr.ownsRow w.heap.size e size u0 n l) (g1 : (wr.alloc o).grownBy w1 u0.ownBlock) : Below w.heap.size w w1 :=
  Below.grown (bl_alloc hB) g1 (by have := hB.size; simp; omega) fun j hj => (T.lt j hj).1
/-- What the law has made of its first k numbers. -/
structure Made (k : Nat) (bl : List Bx) (dl : List Dc) (X Y : List Int) : Prop where
  lb : bl.length = min k 4
  ld : dl.length = k - 4
  lx : X.length = k
  ly : Y.length = k
  sx : ∀ x ∈ X, Sm x
  sy : ∀ x ∈ Y, Sm x
  gb : ∀ j x, bl[j]? = some x → Good (.box x, X.getD j 0, Y.getD j 0)
  gd : ∀ j x, dl[j]? = some x → Good (.disc x, X.getD (j + 4) 0, Y.getD (j + 4) 0)
theorem made_nil : Made 0 [] [] [] [] := ⟨rfl, rfl, rfl, rfl, by simp, by simp, by simp, by simp⟩
theorem getD_app {l : List Int} {x : Int} {j : Nat} (h : j < l.length) : (l ++ [x]).getD j 0 = l.getD j 0 := by simp [List.getD, List.getElem?_append_left h]
theorem getD_last {l : List Int} {x : Int} {j : Nat} (h : j = l.length) : (l ++ [x]).getD j 0 = x := by subst h; simp [List.getD]
theorem lt_of_at {α : Type} {l : List α} {j : Nat} {x : α} (h : l[j]? = some x) : j < l.length := by
  rcases Nat.lt_or_ge j l.length with c | c
  · exact c
  · rw [List.getElem?_eq_none c] at h; cases h
theorem Made.box {k : Nat} {bl : List Bx} {dl : List Dc} {X Y : List Int} (h : Made k bl dl X Y) (hk : k < 4) {z : Bx} {p q : Int} (G : Good (.box z, p, q)) : Made (k + 1) (bl ++ [z]) dl (X ++ [p]) (Y ++ [q]) := by
  have lb := h.lb
  have ld := h.ld
  have lx := h.lx
  have ly := h.ly
  refine ⟨by simp; omega, by omega, by simp; omega, by simp; omega, sm_app h.sx G.sx, sm_app h.sy G.sy, fun j x e => ?_, fun j x e => ?_⟩
  · have lt := lt_of_at e
    rw [List.length_append] at lt
    by_cases c : j < bl.length
    · rw [List.getElem?_append_left c] at e
      rw [getD_app (by omega), getD_app (by omega)]
      exact h.gb j x e
    · have ej : j = bl.length := by simp at lt; omega
      rw [getD_last (by omega), getD_last (by omega)]
      subst ej
      simp at e
      subst e
      exact G
  · have lt := lt_of_at e
    omega
theorem Made.disc {k : Nat} {bl : List Bx} {dl : List Dc} {X Y : List Int} (h : Made k bl dl X Y) (hk : 4 ≤ k) {z : Dc} {p q : Int} (G : Good (.disc z, p, q)) : Made (k + 1) bl (dl ++ [z]) (X ++ [p]) (Y ++ [q]) := by
  have lb := h.lb
  have ld := h.ld
  have lx := h.lx
  have ly := h.ly
  refine ⟨by omega, by simp; omega, by simp; omega, by simp; omega, sm_app h.sx G.sx, sm_app h.sy G.sy, fun j x e => ?_, fun j x e => ?_⟩
  · have lt := lt_of_at e
    rw [getD_app (by omega), getD_app (by omega)]
    exact h.gb j x e
  · have lt := lt_of_at e
    rw [List.length_append] at lt
    by_cases c : j < dl.length
    · rw [List.getElem?_append_left c] at e
      rw [getD_app (by omega), getD_app (by omega)]
      exact h.gd j x e
    · have ej : j = dl.length := by simp at lt; omega
      rw [getD_last (by omega), getD_last (by omega)]
      subst ej
      simp at e
      subst e
      exact G
theorem Made.inputs {bl : List Bx} {dl : List Dc} {X Y : List Int} (h : Made 8 bl dl X Y) : Inputs (bl.map St.box) (dl.map St.disc) X Y := by
  have lb := h.lb
  have ld := h.ld
  refine ⟨fun j hj => ?_, fun j hj => ?_⟩
  · have e : bl[j]? = some (bl[j]'(by omega)) := by simp
    exact ⟨.box _, by rw [List.getElem?_map, e]; rfl, h.gb j _ e⟩
  · have e : dl[j]? = some (dl[j]'(by omega)) := by simp
    exact ⟨.disc _, by rw [List.getElem?_map, e]; rfl, h.gd j _ e⟩
end Go.Proofs.YtacnclofbnafiabGreatDoor
