import Derived.Test.YtacnclofbnafiabGreatDoorQ3
import Derived.Test.YtacnclofbnafiabGreatDoorCA
import Derived.Test.YtacnclofbnafiabGreatDoorB3p
namespace Go.Proofs.YtacnclofbnafiabGreatDoor
open Go.RowKit Fl

def Fin (k : Int) : Prop := -(INF : Int) < k ∧ k < INF
theorem Fin.pl {k : Int} (h : Fin k) : Pl k := by unfold Fin at h; unfold Pl; omega
/-- A disc with numbers, and not all: its places. -/
structure DFin (a b r : Nat) (x y t : Int) : Prop where
  ka : Key a x
  kb : Key b y
  kr : Key r t
  fa : Fin x
  fb : Fin y
  r0 : 0 ≤ t
  r1 : t < INF
def Bad (x : Nat) : Prop := NaNw x ∨ ∃ k, Key x k ∧ (k = INF ∨ k = -(INF : Int))
/-- A disc without numbers. -/
def DNo (a b r : Nat) : Prop := NaNw r ∨ (∃ t, Key r t ∧ t < 0) ∨ ∃ t, Key r t ∧ 0 ≤ t ∧ t < INF ∧ (Bad a ∨ Bad b)
theorem word_fin (x : Nat) (h : x < 18446744073709551616) : (∃ k, Key x k ∧ Fin k) ∨ Bad x := by
  rcases word_cases x h with ⟨k, g⟩ | g
  · have := g.bd
    by_cases c : k = INF ∨ k = -(INF : Int)
    · exact .inr (.inr ⟨k, g, c⟩)
    · exact .inl ⟨k, g, by unfold Fin; omega⟩
  · exact .inr (.inl g)
theorem disc_cases (a b r : Nat) (ha : a < 18446744073709551616) (hb : b < 18446744073709551616) (hr : r < 18446744073709551616) : (∃ x y t, DFin a b r x y t) ∨ Key r INF ∨ DNo a b r := by
  rcases word_cases r hr with ⟨t, g⟩ | g
  · have := g.bd
    by_cases c : t = INF
    · subst c; exact .inr (.inl g)
    · by_cases c0 : t < 0
      · exact .inr (.inr (.inr (.inl ⟨t, g, c0⟩)))
      · rcases word_fin a ha with ⟨x, kx, fx⟩ | bx
        · rcases word_fin b hb with ⟨y, ky, fy⟩ | by_
          · exact .inl ⟨x, y, t, kx, ky, g, fx, fy, by omega, by omega⟩
          · exact .inr (.inr (.inr (.inr ⟨t, g, by omega, by omega, .inr by_⟩)))
        · exact .inr (.inr (.inr (.inr ⟨t, g, by omega, by omega, .inl bx⟩)))
  · exact .inr (.inr (.inl g))
theorem isNumber_fin {x : Nat} {k : Int} (h : Key x k) (f : Fin k) : ∀ w, Calls Tryz.prog 144 #[.float .f64 x] w fun e w' => e = .returned (.bool true) ∧ Below w.heap.size w w' := by
  have i := isInf0_key h
  rw [decide_eq_false (by unfold Fin at f; omega)] at i
  exact isNumber_ok_w x (isNaN_key h) i
theorem isNumber_bad {x : Nat} (h : Bad x) : ∀ w, Calls Tryz.prog 144 #[.float .f64 x] w fun e w' => e = .returned (.bool false) ∧ Below w.heap.size w w' := by
  rcases h with h | ⟨k, h, c⟩
  · exact isNumber_nan_w x (isNaN_nan h)
  · have i := isInf0_key h
    rw [decide_eq_true c] at i
    exact isNumber_inf_w x (isNaN_key h) i
theorem hasAll_no {a b r : Nat} {t : Int} (h : Key r t) (ht : t ≠ INF) : ∀ w, Calls Tryz.prog 113 #[.agg #[.complex .f64 a b, .float .f64 r]] w fun e w' => e = .returned (.bool false) ∧ Below w.heap.size w w' := by
  have i := isInf1_key h
  rw [decide_eq_false ht] at i
  exact hasAll_f_w a b r i
theorem hasAll_yes {a b r : Nat} (h : Key r INF) : ∀ w, Calls Tryz.prog 113 #[.agg #[.complex .f64 a b, .float .f64 r]] w fun e w' => e = .returned (.bool true) ∧ Below w.heap.size w w' := by
  have i := isInf1_key h
  rw [decide_eq_true rfl] at i
  exact hasAll_t_w a b r i
theorem ord0 {x : Nat} {k : Int} (h : Key x k) : Ieee.double.order x 0 = some (compare k 0) := h.order Key.zero
theorem hasNone_fin {a b r : Nat} {x y t : Int} (h : DFin a b r x y t) : ∀ w, Calls Tryz.prog 111 #[.agg #[.complex .f64 a b, .float .f64 r]] w fun e w' => e = .returned (.bool false) ∧ Below w.heap.size w w' := by
  have o := ord0 h.kr
  have r0 := h.r0
  have r1 := h.r1
  have al := hasAll_no (a := a) (b := b) h.kr (by omega)
  rcases Int.lt_or_eq_of_le h.r0 with g | g
  · rw [Int.compare_eq_gt.2 g] at o
    exact hasNone_gt_ok_w a b r o al (isNumber_fin h.ka h.fa) (isNumber_fin h.kb h.fb)
  · rw [Int.compare_eq_eq.2 g.symm] at o
    exact hasNone_eq_ok_w a b r o al (isNumber_fin h.ka h.fa) (isNumber_fin h.kb h.fb)
theorem hasNone_all {a b r : Nat} (h : Key r INF) : ∀ w, Calls Tryz.prog 111 #[.agg #[.complex .f64 a b, .float .f64 r]] w fun e w' => e = .returned (.bool false) ∧ Below w.heap.size w w' := by
  have o := ord0 h
  have hI := INF_pos
  rw [Int.compare_eq_gt.2 (by omega)] at o
  exact hasNone_gt_all_w a b r o (hasAll_yes h)
theorem hasNone_yes {a b r : Nat} (ha : a < 18446744073709551616) (_hb : b < 18446744073709551616) (h : DNo a b r) : ∀ w, Calls Tryz.prog 111 #[.agg #[.complex .f64 a b, .float .f64 r]] w fun e w' => e = .returned (.bool true) ∧ Below w.heap.size w w' := by
  rcases h with h | ⟨t, h, c⟩ | ⟨t, h, c1, c2, hbad⟩
  · exact hasNone_nan_w a b r (h.l 0)
  · have o := ord0 h
    rw [Int.compare_eq_lt.2 c] at o
    exact hasNone_lt_w a b r o
  · have o := ord0 h
    have al := hasAll_no (a := a) (b := b) h (by omega)
    rcases word_fin a ha with ⟨x, kx, fx⟩ | bx
    · have by_ : Bad b := by
        rcases hbad with q | q
        · exfalso
          rcases q with q | ⟨k, q, c⟩
          · exact q.no kx
          · have := q.unique kx
            unfold Fin at fx
            omega
        · exact q
      rcases Int.lt_or_eq_of_le c1 with g | g
      · rw [Int.compare_eq_gt.2 g] at o
        exact hasNone_gt_im_w a b r o al (isNumber_fin kx fx) (isNumber_bad by_)
      · rw [Int.compare_eq_eq.2 g.symm] at o
        exact hasNone_eq_im_w a b r o al (isNumber_fin kx fx) (isNumber_bad by_)
    · rcases Int.lt_or_eq_of_le c1 with g | g
      · rw [Int.compare_eq_gt.2 g] at o
        exact hasNone_gt_re_w a b r o al (isNumber_bad bx)
      · rw [Int.compare_eq_eq.2 g.symm] at o
        exact hasNone_eq_re_w a b r o al (isNumber_bad bx)
-- forms
def AllD (e f i : Nat) : Prop := e = 0 ∧ f = 0 ∧ i = B INF
def NoD (e f i : Nat) : Prop := e = 0 ∧ f = 0 ∧ i = 13830554455654793216
theorem pnoDisc : ∀ w, Calls Tryz.prog 122 #[] w fun e w' => e = .returned (.agg #[.complex .f64 0 0, .float .f64 13830554455654793216]) ∧ Below w.heap.size w w' := noDisc_w
theorem pallDisc : ∀ w, Calls Tryz.prog 135 #[] w fun e w' => e = .returned (.agg #[.complex .f64 0 0, .float .f64 (B INF)]) ∧ Below w.heap.size w w' := allDisc_w _ infp
theorem pendless_no {X1 X2 : Nat} {k l : Int} (hx : Key X1 k) (hy : Key X2 l) (hk : Fin k) (hl : Fin l) : ∀ w, Calls Tryz.prog 150 #[.agg #[.float .f64 X1, .float .f64 X2]] w fun e w' => e = .returned (.bool false) ∧ Below w.heap.size w w' := by
  have i := isInf0_key hx
  have j := isInf0_key hy
  unfold Fin at hk hl
  rw [decide_eq_false (by omega)] at i j
  exact endless_f_w X1 X2 i j
theorem pendless_yes {X1 X2 : Nat} {k l : Int} (hx : Key X1 k) (hy : Key X2 l) (h : ¬ (Fin k ∧ Fin l)) : ∀ w, Calls Tryz.prog 150 #[.agg #[.float .f64 X1, .float .f64 X2]] w fun e w' => e = .returned (.bool true) ∧ Below w.heap.size w w' := by
  have i := isInf0_key hx
  have j := isInf0_key hy
  have b1 := hx.bd
  have b2 := hy.bd
  unfold Fin at h
  by_cases c : k = INF ∨ k = -(INF : Int)
  · rw [decide_eq_true c] at i
    exact endless_1_w X1 X2 i
  · rw [decide_eq_false c] at i
    rw [decide_eq_true (by omega)] at j
    exact endless_t_w X1 X2 i j
/-- What 'around' goes by: the box from (k, m) to (l, n), the middle (u, v), the reach c. -/
structure Ard (F : Ops) (k l m n u v c : Int) : Prop where
  fk : Fin k
  fl : Fin l
  fm : Fin m
  fn : Fin n
  fu : Fin u
  fv : Fin v
  mu : MidOk k l u
  mv : MidOk m n v
  len : LenOk F (max (F.aU l (-u)) (F.aU u (-k))) (max (F.aU n (-v)) (F.aU v (-m))) c
theorem Fin.neg {k : Int} (h : Fin k) : Fin (-k) := by unfold Fin at *; omega
theorem Ard.pl {F : Ops} {k l m n u v c : Int} (h : Ard F k l m n u v c) : Pl (max (F.aU l (-u)) (F.aU u (-k))) ∧ Pl (max (F.aU n (-v)) (F.aU v (-m))) :=
  ⟨pl_max (F.add_pl h.fl.pl h.fu.neg.pl).2 (F.add_pl h.fu.pl h.fk.neg.pl).2, pl_max (F.add_pl h.fn.pl h.fv.neg.pl).2 (F.add_pl h.fv.pl h.fm.neg.pl).2⟩
/-- Nothing of the box is lost: numbers E1 / C, E2 / C of it are no farther from the middle than the reach. -/
theorem Ard.sound {F : Ops} {k l m n u v c : Int} (h : Ard F k l m n u v c) (hc : c < INF) {C E1 E2 : Int} (hC : 0 < C) (h1 : C * Vk k ≤ E1) (h2 : E1 ≤ C * Vk l) (h3 : C * Vk m ≤ E2) (h4 : E2 ≤ C * Vk n) :
    (E1 - C * Vk u) * (E1 - C * Vk u) + (E2 - C * Vk v) * (E2 - C * Vk v) ≤ C * Vk c * (C * Vk c) := by
  obtain ⟨p1, p2⟩ := h.pl
  obtain ⟨_, _, g⟩ := h.len.ge p1 p2
  obtain ⟨_, q1, _, q2, g⟩ := g hc
  obtain ⟨r1, r2⟩ := F.reach_ge h.fk.1 h.fk.2 h.fl.1 h.fl.2 h.fu.1 h.fu.2 q1
  obtain ⟨s1, s2⟩ := F.reach_ge h.fm.1 h.fm.2 h.fn.1 h.fn.2 h.fv.1 h.fv.2 q2
  revert g r1 r2 s1 s2
  generalize Vk (max (F.aU l (-u)) (F.aU u (-k))) = P
  generalize Vk (max (F.aU n (-v)) (F.aU v (-m))) = Q
  intro g r1 r2 s1 s2
  have sq : ∀ x y : Int, x ≤ y → -y ≤ x → x * x ≤ y * y := fun x y a b => by
    rcases Int.le_total 0 x with z | z
    · exact sq_mono z a
    · have := sq_mono (a := -x) (b := y) (by omega) (by omega)
      rwa [Int.neg_mul_neg] at this
  have m1 : C * (Vk l - Vk u) ≤ C * P := Int.mul_le_mul_of_nonneg_left r1 (Int.le_of_lt hC)
  have m2 : C * (Vk u - Vk k) ≤ C * P := Int.mul_le_mul_of_nonneg_left r2 (Int.le_of_lt hC)
  have m3 : C * (Vk n - Vk v) ≤ C * Q := Int.mul_le_mul_of_nonneg_left s1 (Int.le_of_lt hC)
  have m4 : C * (Vk v - Vk m) ≤ C * Q := Int.mul_le_mul_of_nonneg_left s2 (Int.le_of_lt hC)
  rw [Int.mul_sub] at m1 m2 m3 m4
  have a := sq (E1 - C * Vk u) (C * P) (by omega) (by omega)
  have b := sq (E2 - C * Vk v) (C * Q) (by omega) (by omega)
  have e : C * P * (C * P) + C * Q * (C * Q) = C * C * (P * P + Q * Q) := by grind
  have e2 : C * Vk c * (C * Vk c) = C * C * (Vk c * Vk c) := by grind
  have := Int.mul_le_mul_of_nonneg_left g (Int.le_of_lt (Int.mul_pos hC hC))
  omega
/-- Why 'around' answers all numbers: the box is not finite, or the radius is too great. -/
def Ovr (F : Ops) (k l m n t : Int) : Prop := ¬ (Fin k ∧ Fin l ∧ Fin m ∧ Fin n) ∨ ∃ u v c, Ard F k l m n u v c ∧ F.aU c t = INF
theorem paround (F : Ops) {X1 X2 X3 X4 rad : Nat} {k l m n t : Int} (h1 : Key X1 k) (h2 : Key X2 l) (h3 : Key X3 m) (h4 : Key X4 n) (hr : Key rad t) (_ht : 0 ≤ t) :
    ∃ e f i, (∀ w, Calls Tryz.prog 123 #[.agg #[.float .f64 X1, .float .f64 X2, .float .f64 X3, .float .f64 X4], .float .f64 rad] w fun e' w' => e' = .returned (.agg #[.complex .f64 e f, .float .f64 i]) ∧ Below w.heap.size w w') ∧
      (AllD e f i ∧ Ovr F k l m n t ∨ ∃ u v c, Ard F k l m n u v c ∧ F.aU c t < INF ∧ e = B u ∧ f = B v ∧ i = B (F.aU c t)) := by
  by_cases c1 : Fin k ∧ Fin l
  · have e1 := pendless_no h1 h2 c1.1 c1.2
    by_cases c2 : Fin m ∧ Fin n
    · have e2 := pendless_no h3 h4 c2.1 c2.2
      obtain ⟨u, mu, u1, u2, cu⟩ := pmiddle h1 h2 c1.1.1 c1.1.2 c1.2.1 c1.2.2
      obtain ⟨v, mv, v1, v2, cv⟩ := pmiddle h3 h4 c2.1.1 c2.1.2 c2.2.1 c2.2.2
      have fu : Fin u := ⟨u1, u2⟩
      have fv : Fin v := ⟨v1, v2⟩
      obtain ⟨p, kp, cp⟩ := preach F h1 h2 (Key.at fu.pl)
      obtain ⟨q, kq, cq⟩ := preach F h3 h4 (Key.at fv.pl)
      obtain ⟨x, c, kx, lx, cx⟩ := plength F kp kq
      have ua := paddUp F kx hr
      have pa := (F.add_pl kx.pl hr.pl).2
      have fi := isInf1_key (Key.at pa)
      by_cases g : F.aU c t = INF
      · rw [decide_eq_true g] at fi
        exact ⟨_, _, _, around_t_w X1 X2 X3 X4 rad _ _ p q x _ _ e1 e2 cu cv cp cq cx ua fi pallDisc, .inl ⟨⟨rfl, rfl, rfl⟩, .inr ⟨u, v, c, ⟨c1.1, c1.2, c2.1, c2.2, fu, fv, mu, mv, lx⟩, g⟩⟩⟩
      · rw [decide_eq_false g] at fi
        exact ⟨_, _, _, around_f_w X1 X2 X3 X4 rad _ _ p q x _ e1 e2 cu cv cp cq cx ua fi, .inr ⟨u, v, c, ⟨c1.1, c1.2, c2.1, c2.2, fu, fv, mu, mv, lx⟩, by unfold Pl at pa; omega, rfl, rfl, rfl⟩⟩
    · have e2 := pendless_yes h3 h4 c2
      exact ⟨_, _, _, around_e2_w X1 X2 X3 X4 rad _ e1 e2 pallDisc, .inl ⟨⟨rfl, rfl, rfl⟩, .inl fun c => c2 c.2.2⟩⟩
  · have e1 := pendless_yes h1 h2 c1
    exact ⟨_, _, _, around_e1_w X1 X2 X3 X4 rad _ e1 pallDisc, .inl ⟨⟨rfl, rfl, rfl⟩, .inl fun c => c1 ⟨c.1, c.2.1⟩⟩⟩
end Go.Proofs.YtacnclofbnafiabGreatDoor

namespace Go.Proofs.YtacnclofbnafiabGreatDoor
open Go.RowKit Fl

theorem DNo.not_all {a b r : Nat} (h : DNo a b r) (g : Key r INF) : False := by
  rcases h with h | ⟨t, h, c⟩ | ⟨t, h, c1, c2, _⟩
  · exact h.no g
  · have := h.unique g; have := INF_pos; omega
  · have := h.unique g; omega
theorem Bad.no {x : Nat} {k : Int} (h : Bad x) (g : Key x k) (f : Fin k) : False := by
  rcases h with h | ⟨j, h, c⟩
  · exact h.no g
  · have := h.unique g; unfold Fin at f; omega
theorem DNo.not_fin {a b r : Nat} {x y t : Int} (h : DNo a b r) (g : DFin a b r x y t) : False := by
  have r0 := g.r0
  rcases h with h | ⟨t', h, c⟩ | ⟨t', h, c1, c2, c3⟩
  · exact h.no g.kr
  · have := h.unique g.kr; omega
  · rcases c3 with c | c
    · exact c.no g.ka g.fa
    · exact c.no g.kb g.fb
end Go.Proofs.YtacnclofbnafiabGreatDoor
