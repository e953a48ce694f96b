import Derived.Test.YtacnclofbnafiabV3
import Derived.Test.YtacnclofbnafiabV5
import Derived.Test.YtacnclofbnafiabTB
import Derived.Test.YtacnclofbnafiabYA
namespace Go.Proofs.Ytacnclofbnafiab
open Go.RowKit Fl

theorem ge0 {x : Nat} {k : Int} (h : Key x k) (k0 : 0 ≤ k) : (Ieee.double.order x 0 == some .gt || Ieee.double.order x 0 == some .eq) = true := by
  rw [ord0 h]
  rcases Int.lt_or_eq_of_le k0 with g | g
  · rw [Int.compare_eq_gt.2 g]; rfl
  · subst g; rfl
theorem neg_complex {a b : Nat} {k l : Int} (ha : Key a k) (hb : Key b l) : ∃ a' b', Op.unary .neg (.complex .f64 a b) = pure (.complex .f64 a' b') ∧ Key a' (-k) ∧ Key b' (-l) := by
  obtain ⟨s, r, rfl, hr, rfl⟩ := ha
  obtain ⟨t, q, rfl, hq, rfl⟩ := hb
  refine ⟨W (!s) r, W (!t) q, ?_, ⟨!s, r, rfl, hr, ix_not s r⟩, ⟨!t, q, rfl, hq, ix_not t q⟩⟩
  rw [← xor_top (W s r) s r rfl (fin_lt hr), ← xor_top (W t q) t q rfl (fin_lt hq)]; rfl
def fourI (a b c d : Int) : Nat → Int := fun j => if j = 0 then a else if j = 1 then b else if j = 2 then c else d
def twoI (a b : Int) : Nat → Int := fun j => if j = 0 then a else b
theorem key4 {a b c d : Nat} {A B' C D : Int} (h1 : Key a A) (h2 : Key b B') (h3 : Key c C) (h4 : Key d D) : ∀ j, Key (four a b c d j) (fourI A B' C D j) := fun j => by
  unfold four fourI
  split
  · exact h1
  split
  · exact h2
  split
  · exact h3
  exact h4
theorem fin4 {A B' C D : Int} (h1 : Fin A) (h2 : Fin B') (h3 : Fin C) (h4 : Fin D) : ∀ j, Fin (fourI A B' C D j) := fun j => by
  unfold fourI
  split
  · exact h1
  split
  · exact h2
  split
  · exact h3
  exact h4
theorem key2 {a b : Nat} {A B' : Int} (h1 : Key a A) (h2 : Key b B') : ∀ j, Key (two a b j) (twoI A B' j) := fun j => by
  unfold two twoI
  split
  · exact h1
  exact h2
theorem fin2 {A B' : Int} (h1 : Fin A) (h2 : Fin B') : ∀ j, Fin (twoI A B' j) := fun j => by
  unfold twoI
  split
  · exact h1
  exact h2
theorem sum4 (A B' C D : Int) : sumV (fourI A B' C D) 4 = Vk A + Vk B' + Vk C + Vk D := by
  show 0 + Vk A + Vk B' + Vk C + Vk D = _
  omega
theorem sum2 (A B' : Int) : sumV (twoI A B') 2 = Vk A + Vk B' := by
  show 0 + Vk A + Vk B' = _
  omega
/-- Sums that lie in a finite disc. -/
theorem sum_ok {n m : Nat} (n1 : 0 < n) (n4 : n ≤ 4) (m1 : 0 < m) (m4 : m ≤ 4) {g h : Nat → Nat} {G H : Nat → Int} (kg : ∀ j, Key (g j) (G j)) (fg : ∀ j, Fin (G j)) (kh : ∀ j, Key (h j) (H j)) (fh : ∀ j, Fin (H j)) {a b r : Nat} {A C R : Int} (D : DFin a b r A C R)
    (E : (sumV G n - Vk A) * (sumV G n - Vk A) + (sumV H m - Vk C) * (sumV H m - Vk C) ≤ Vk R * Vk R) : ∀ re im w, Arr w re n g → Arr w im m h → Calls Try.prog 33 #[re, im, .agg #[.complex .f64 a b, .float .f64 r]] w fun e w' => e = .returned (.bool true) ∧ Below w.heap.size w w' := by
  intro re im w hre him
  obtain ⟨an, e1, k1⟩ := D.ka.neg
  obtain ⟨bn, e2, k2⟩ := D.kb.neg
  obtain ⟨rn, e3, k3⟩ := D.kr.neg
  have S := sum_w re im n m n1 n4 m1 m4 g h G H kg fg kh fh a b r an bn rn A C R k1 k2 D.kr k3 D.fa D.fb (Fin.of D.r0 D.r1) e1 e2 e3 w hre him
  rw [decide_eq_true (by omega)] at S
  exact S
/-- What lies farthest out is in the sum. -/
theorem far_any (F : Ops) {a1 a2 a3 c1 c2 c3 : Nat} {x y t x2 y2 t2 : Int} (D1 : DFin a1 a2 a3 x y t) (D2 : DFin c1 c2 c3 x2 y2 t2) {e f i : Nat} {O : Prop}
    (q : AllD e f i ∧ O ∨ ∃ u v c, Ard F (F.aD x x2) (F.aU x x2) (F.aD y y2) (F.aU y y2) u v c ∧ F.aU c (F.aU t t2) < INF ∧ e = B u ∧ f = B v ∧ i = B (F.aU c (F.aU t t2))) :
    ∀ w, Calls Try.prog 18 #[.agg #[.complex .f64 e f, .float .f64 i], .agg #[.complex .f64 a1 a2, .float .f64 a3], .agg #[.complex .f64 c1 c2, .float .f64 c3]] w fun e w' => e = .returned (.bool true) ∧ Below w.heap.size w w' := by
  have hI := INF_pos
  rcases q with ⟨q, _⟩ | ⟨u, v, c, A, lt, rfl, rfl, rfl⟩
  · obtain ⟨rfl, rfl, rfl⟩ := q
    have h := isInf1_key (Key.at pl_inf)
    rw [decide_eq_true rfl] at h
    exact far_inf_w _ _ _ _ _ _ _ _ _ h
  · have ft := Fin.of D1.r0 D1.r1
    have ft2 := Fin.of D2.r0 D2.r1
    have z := (A.rad (F.add_pl ft.pl ft2.pl).2 (F.aU_nn ft.pl ft2.pl D1.r0 D2.r0) lt).2.2.2.2.2
    have kz := Key.at (Fin.of z lt).pl
    have h := isInf1_key kz
    rw [decide_eq_false (by omega)] at h
    obtain ⟨rn, g1, k1⟩ := D1.kr.neg
    obtain ⟨sn, g2, k2⟩ := D2.kr.neg
    have DZ : DFin (B u) (B v) (B (F.aU c (F.aU t t2))) u v (F.aU c (F.aU t t2)) := dfin_B A.fu A.fv z lt
    have S := fun P Q P2 Q2 h1 h2 => add_sound D1.fa D1.fb D2.fa D2.fb D1.r0 D1.r1 D2.r0 D2.r1 A lt (P := P) (Q := Q) (P2 := P2) (Q2 := Q2) h1 h2
    have e0 : ∀ a : Int, a - a = 0 := fun a => by omega
    have ep : ∀ a b : Int, a + b - a = b := fun a b => by omega
    have em : ∀ a b : Int, a + -b - a = -b := fun a b => by omega
    refine far_w _ _ _ a1 a2 a3 c1 c2 c3 rn sn h g1 g2 (ge0 kz z) ?_ ?_ ?_ ?_
    · refine sum_ok (by omega) (by omega) (by omega) (by omega) (key4 D1.ka D2.ka D1.kr D2.kr) (fin4 D1.fa D2.fa ft ft2) (key2 D1.kb D2.kb) (fin2 D1.fb D2.fb) DZ ?_
      rw [sum4, sum2]
      have s := S (Vk x + Vk t) (Vk y) (Vk x2 + Vk t2) (Vk y2) (by rw [ep, e0]; omega) (by rw [ep, e0]; omega)
      rw [show Vk x + Vk x2 + Vk t + Vk t2 = Vk x + Vk t + (Vk x2 + Vk t2) by omega]
      exact s
    · refine sum_ok (by omega) (by omega) (by omega) (by omega) (key4 D1.ka D2.ka k1 k2) (fin4 D1.fa D2.fa ft.neg ft2.neg) (key2 D1.kb D2.kb) (fin2 D1.fb D2.fb) DZ ?_
      rw [sum4, sum2, Vk_neg, Vk_neg]
      have s := S (Vk x + -Vk t) (Vk y) (Vk x2 + -Vk t2) (Vk y2) (by rw [em, e0, Int.neg_mul_neg]; omega) (by rw [em, e0, Int.neg_mul_neg]; omega)
      rw [show Vk x + Vk x2 + -Vk t + -Vk t2 = Vk x + -Vk t + (Vk x2 + -Vk t2) by omega]
      exact s
    · refine sum_ok (by omega) (by omega) (by omega) (by omega) (key2 D1.ka D2.ka) (fin2 D1.fa D2.fa) (key4 D1.kb D2.kb D1.kr D2.kr) (fin4 D1.fb D2.fb ft ft2) DZ ?_
      rw [sum4, sum2]
      have s := S (Vk x) (Vk y + Vk t) (Vk x2) (Vk y2 + Vk t2) (by rw [ep, e0]; omega) (by rw [ep, e0]; omega)
      rw [show Vk y + Vk y2 + Vk t + Vk t2 = Vk y + Vk t + (Vk y2 + Vk t2) by omega]
      exact s
    · refine sum_ok (by omega) (by omega) (by omega) (by omega) (key2 D1.ka D2.ka) (fin2 D1.fa D2.fa) (key4 D1.kb D2.kb k1 k2) (fin4 D1.fb D2.fb ft.neg ft2.neg) DZ ?_
      rw [sum4, sum2, Vk_neg, Vk_neg]
      have s := S (Vk x) (Vk y + -Vk t) (Vk x2) (Vk y2 + -Vk t2) (by rw [em, e0, Int.neg_mul_neg]; omega) (by rw [em, e0, Int.neg_mul_neg]; omega)
      rw [show Vk y + Vk y2 + -Vk t + -Vk t2 = Vk y + -Vk t + (Vk y2 + -Vk t2) by omega]
      exact s
theorem side_key {a b v : Nat} {k l j : Int} (ha : Key a k) (hb : Key b l) (hv : Key v j) (fk : Fin k) (fl : Fin l) (fj : Fin j) : ∀ w, Calls Try.prog 34 #[.int .i64 0, .float .f64 a, .float .f64 b, .float .f64 v] w fun e w' => e = .returned (.int .i64 (Vk k + Vk l - Vk j).sign) ∧ Below w.heap.size w w' := by
  obtain ⟨s, r, rfl, hr, _, e1⟩ := ha.fin fk.1 fk.2
  obtain ⟨t, q, rfl, hq, _, e2⟩ := hb.fin fl.1 fl.2
  obtain ⟨u, z, rfl, hz, _, e3⟩ := hv.fin fj.1 fj.2
  rw [← e1, ← e2, ← e3]
  exact Side_plus s t u r q z hr hq hz
theorem low_any (F : Ops) {a b : Nat} {k l : Int} (ha : Key a k) (hb : Key b l) (fk : Fin k) (fl : Fin l) : ∀ w, Calls Try.prog 19 #[.float .f64 (B (F.aD k l)), .float .f64 a, .float .f64 b] w fun e w' => e = .returned (.bool true) ∧ Below w.heap.size w w' := by
  have hI := INF_pos
  have R := ((F.add fk.pl fl.pl).num fk.1 fk.2 fl.1 fl.2).dn
  have kd := Key.at (F.add_pl fk.pl fl.pl).1
  have h := isInf0_key kd
  by_cases c : F.aD k l = -(INF : Int)
  · rw [decide_eq_true (.inr c)] at h
    exact low_inf_w _ _ _ h (tlt kd Key.zero (by omega))
  · have fd : Fin (F.aD k l) := ⟨by have := R.lo; omega, R.hi⟩
    rw [decide_eq_false (by unfold Fin at fd; omega)] at h
    have q := (R.ok _ fd.1 fd.2).2 (Int.le_refl _)
    unfold Ep at q
    refine low_w _ _ _ _ h (side_key ha hb kd fk fl fd) ?_
    exact Int.sign_nonneg_iff.2 (by omega)
theorem high_any (F : Ops) {a b : Nat} {k l : Int} (ha : Key a k) (hb : Key b l) (fk : Fin k) (fl : Fin l) : ∀ w, Calls Try.prog 20 #[.float .f64 (B (F.aU k l)), .float .f64 a, .float .f64 b] w fun e w' => e = .returned (.bool true) ∧ Below w.heap.size w w' := by
  have hI := INF_pos
  have R := ((F.add fk.pl fl.pl).num fk.1 fk.2 fl.1 fl.2).up
  have kd := Key.at (F.add_pl fk.pl fl.pl).2
  have h := isInf0_key kd
  by_cases c : F.aU k l = INF
  · rw [decide_eq_true (.inl c)] at h
    exact high_inf_w _ _ _ h (tgt kd Key.zero (by omega))
  · have fd : Fin (F.aU k l) := ⟨R.lo, by have := R.hi; omega⟩
    rw [decide_eq_false (by unfold Fin at fd; omega)] at h
    have q := (R.ok _ fd.1 fd.2).2 (Int.le_refl _)
    unfold Ep at q
    refine high_w _ _ _ _ h (side_key ha hb kd fk fl fd) ?_
    exact Int.sign_nonpos_iff.2 (by omega)
/-- plain: numbers, but not all. -/
theorem lplain_any {a b r : Nat} (ha : a < 18446744073709551616) (hb : b < 18446744073709551616) (hr : r < 18446744073709551616) : ∃ v : Bool, (v = true → ∃ x y t, DFin a b r x y t) ∧ ∀ w, Calls Try.prog 15 #[.agg #[.complex .f64 a b, .float .f64 r]] w fun e w' => e = .returned (.bool v) ∧ Below w.heap.size w w' := by
  have hI := INF_pos
  rcases disc_cases a b r ha hb hr with ⟨x, y, t, h⟩ | h | h
  · have i := isInf0_key h.kr
    have r0 := h.r0
    have r1 := h.r1
    rw [decide_eq_false (by omega)] at i
    exact ⟨true, fun _ => ⟨x, y, t, h⟩, plain_f_w _ _ _ (rlone_fin h) i⟩
  · have i := isInf0_key h
    rw [decide_eq_true (.inl rfl)] at i
    exact ⟨false, fun e => by simp at e, plain_t_w _ _ _ (rlone_all h) i⟩
  · exact ⟨false, fun e => by simp at e, plain_no_w _ _ _ (rlone_no ha hb h)⟩
set_option maxHeartbeats 4000000 in
theorem edges_any (v : Value) (f : Nat → Nat) (w : World) (hl : Lst w v f) : Calls Try.prog 4 #[v] w fun e w' => e = .returned (.bool true) ∧ Below w.heap.size w w' := by
  obtain ⟨F⟩ := ops
  have hI := INF_pos
  have L := hl.lt
  obtain ⟨va, ha, ca⟩ := lplain_any (L 0) (L 1) (L 2)
  obtain ⟨vb, hb, cb⟩ := lplain_any (L 3) (L 4) (L 5)
  -- the last part
  have last : ∃ t1 t2 t3, (∀ w, Calls Try.prog 10 #[.agg #[.float .f64 (f 6), .float .f64 (f 7), .float .f64 (f 8), .float .f64 (f 9)]] w fun e w' => e = .returned (.agg #[.complex .f64 t1 t2, .float .f64 t3]) ∧ Below w.heap.size w w')
      ∧ (((∀ w, Calls Try.prog 9 #[.agg #[.float .f64 (f 6), .float .f64 (f 7), .float .f64 (f 8), .float .f64 (f 9)]] w fun e w' => e = .returned (.bool true) ∧ Below w.heap.size w w') ∧ (Ieee.double.order t3 13830554455654793216 == some .eq) = true)
        ∨ (∀ w, Calls Try.prog 9 #[.agg #[.float .f64 (f 6), .float .f64 (f 7), .float .f64 (f 8), .float .f64 (f 9)]] w fun e w' => e = .returned (.bool false) ∧ Below w.heap.size w w') ∧
          (((∀ w, Calls Try.prog 21 #[.float .f64 t3, .int .i64 1] w fun e w' => e = .returned (.bool true) ∧ w' = w) ∧ (Ieee.double.order t3 13830554455654793216 == some .eq) = false)
          ∨ (∀ w, Calls Try.prog 21 #[.float .f64 t3, .int .i64 1] w fun e w' => e = .returned (.bool false) ∧ w' = w) ∧ ∀ p q, (p = 6 ∨ p = 7) → (q = 8 ∨ q = 9) → ∀ w, Calls Try.prog 22 #[.float .f64 (f p), .float .f64 (f q), .agg #[.complex .f64 t1 t2, .float .f64 t3]] w fun e w' => e = .returned (.bool true) ∧ Below w.heap.size w w')) := by
    rcases Bx.or (f 6) (f 7) (f 8) (f 9) with ⟨k, l, m, n, g, g2⟩ | g
    · obtain ⟨e, f', i, c, q⟩ := toDisc_some F g g2
      refine ⟨e, f', i, c, .inr ⟨rbare_no g g2, ?_⟩⟩
      rcases q with ⟨q, _⟩ | ⟨u, v', c', A, lt, rfl, rfl, rfl⟩
      · obtain ⟨rfl, rfl, rfl⟩ := q
        have h := isInf1_key (Key.at pl_inf)
        rw [decide_eq_true rfl] at h
        exact .inl ⟨h, ne_mone (Key.at pl_inf) (by omega)⟩
      · obtain ⟨cI, _, c0, _, up, z⟩ := A.rad pl_zero (Int.le_refl _) lt
        rw [Vk_zero] at up
        have kz := Key.at (Fin.of z lt).pl
        have h := isInf1_key kz
        rw [decide_eq_false (by omega)] at h
        refine .inr ⟨h, fun p q hp hq => ?_⟩
        have kl := Vk_le.2 g.le
        have mn := Vk_le.2 g2.le
        have one : ∀ (X Y : Nat) (P Q : Int), Key X P → Key Y Q → Fin P → Fin Q → Vk k ≤ Vk P → Vk P ≤ Vk l → Vk m ≤ Vk Q → Vk Q ≤ Vk n → ∀ w, Calls Try.prog 22 #[.float .f64 X, .float .f64 Y, .agg #[.complex .f64 (B u) (B v'), .float .f64 (B (F.aU c' 0))]] w fun e w' => e = .returned (.bool true) ∧ Below w.heap.size w w' := fun X Y P Q hX hY fP fQ h1 h2 h3 h4 => by
          obtain ⟨b, hb, cc⟩ := rinDisc_fin hX fP hY fQ (dfin_B A.fu A.fv z lt)
          have s := A.sound cI (C := 1) (E1 := Vk P) (E2 := Vk Q) (by omega) (by omega) (by omega) (by omega) (by omega)
          rw [Int.one_mul, Int.one_mul, Int.one_mul] at s
          have t : b = true := hb.2 (by
            unfold inD
            have := Int.mul_le_mul (show Vk c' ≤ Vk (F.aU c' 0) by omega) (show Vk c' ≤ Vk (F.aU c' 0) by omega) c0 (Int.le_trans c0 (show Vk c' ≤ Vk (F.aU c' 0) by omega))
            omega)
          subst t
          exact cc
        rcases hp with rfl | rfl <;> rcases hq with rfl | rfl
        · exact one _ _ k m g.x g2.x A.fk A.fm (Int.le_refl _) kl (Int.le_refl _) mn
        · exact one _ _ k n g.x g2.y A.fk A.fn (Int.le_refl _) kl mn (Int.le_refl _)
        · exact one _ _ l m g.y g2.x A.fl A.fm kl (Int.le_refl _) (Int.le_refl _) mn
        · exact one _ _ l n g.y g2.y A.fl A.fn kl (Int.le_refl _) mn (Int.le_refl _)
    · obtain ⟨e, f', i, q, c⟩ := toDisc_no (L 6) (L 7) (L 8) (L 9) g
      refine ⟨e, f', i, c, .inl ⟨rbare_yes (L 6) (L 7) (L 8) (L 9) g, ?_⟩⟩
      obtain ⟨_, _, rfl⟩ := q
      rw [Key.mone.self]; rfl
  obtain ⟨t1, t2, t3, td, last⟩ := last
  cases va
  · rcases last with ⟨ba, om⟩ | ⟨ba, ⟨ii, om⟩ | ⟨ii, id⟩⟩
    · exact edges_fn_w v f vb ca cb t1 t2 t3 ba td om w hl
    · exact edges_fi_w v f vb ca cb t1 t2 t3 ba td ii om w hl
    · exact edges_fo_w v f vb ca cb t1 t2 t3 ba td ii (id 6 8 (.inl rfl) (.inl rfl)) (id 6 9 (.inl rfl) (.inr rfl)) (id 7 8 (.inr rfl) (.inl rfl)) (id 7 9 (.inr rfl) (.inr rfl)) w hl
  · obtain ⟨x, y, t, D1⟩ := ha rfl
    have ft := Fin.of D1.r0 D1.r1
    obtain ⟨nr, gr, kn⟩ := D1.kr.neg
    have tb := toBox_fin F D1
    have l1 := low_any F D1.ka kn D1.fa ft.neg
    have l2 := low_any F D1.kb kn D1.fb ft.neg
    have h1 := high_any F D1.ka D1.kr D1.fa ft
    have h2 := high_any F D1.kb D1.kr D1.fb ft
    cases vb
    · rcases last with ⟨ba, om⟩ | ⟨ba, ⟨ii, om⟩ | ⟨ii, id⟩⟩
      · exact edges_tfn_w v f ca cb _ _ _ _ nr tb gr l1 l2 h1 h2 t1 t2 t3 ba td om w hl
      · exact edges_tfi_w v f ca cb _ _ _ _ nr tb gr l1 l2 h1 h2 t1 t2 t3 ba td ii om w hl
      · exact edges_tfo_w v f ca cb _ _ _ _ nr tb gr l1 l2 h1 h2 t1 t2 t3 ba td ii (id 6 8 (.inl rfl) (.inl rfl)) (id 6 9 (.inl rfl) (.inr rfl)) (id 7 8 (.inr rfl) (.inl rfl)) (id 7 9 (.inr rfl) (.inr rfl)) w hl
    · obtain ⟨x2, y2, t2', D2⟩ := hb rfl
      obtain ⟨n4, n5, gc, k4, k5⟩ := neg_complex D2.ka D2.kb
      have D3 : DFin n4 n5 (f 5) (-x2) (-y2) t2' := ⟨k4, k5, D2.kr, D2.fa.neg, D2.fb.neg, D2.r0, D2.r1⟩
      obtain ⟨g1, g2, g3, ad, qa⟩ := discAdd_fin F D1 D2
      obtain ⟨h1', h2', h3', sb, qs⟩ := discSub_fin F D1 D2
      have fa := far_any F D1 D2 qa
      have fb := far_any F D1 D3 qs
      rcases last with ⟨ba, om⟩ | ⟨ba, ⟨ii, om⟩ | ⟨ii, id⟩⟩
      · exact edges_ttn_w v f ca cb _ _ _ _ _ _ n4 n5 ad sb gc fa fb _ _ _ _ nr tb gr l1 l2 h1 h2 t1 t2 t3 ba td om w hl
      · exact edges_tti_w v f ca cb _ _ _ _ _ _ n4 n5 ad sb gc fa fb _ _ _ _ nr tb gr l1 l2 h1 h2 t1 t2 t3 ba td ii om w hl
      · exact edges_tto_w v f ca cb _ _ _ _ _ _ n4 n5 ad sb gc fa fb _ _ _ _ nr tb gr l1 l2 h1 h2 t1 t2 t3 ba td ii (id 6 8 (.inl rfl) (.inl rfl)) (id 6 9 (.inl rfl) (.inr rfl)) (id 7 8 (.inr rfl) (.inl rfl)) (id 7 9 (.inr rfl) (.inr rfl)) w hl
end Go.Proofs.Ytacnclofbnafiab
