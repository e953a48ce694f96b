import Derived.Test.YtacnclofbnafiaaSP
import Derived.Test.YtacnclofbnafiaaS3
import Derived.Test.YtacnclofbnafiaaK16
import Derived.Test.YtacnclofbnafiaaK9r
namespace Go.Proofs.Ytacnclofbnafiaa
open Go.RowKit Fl

theorem iv_pos : Iv 0 (B INF) 0 INF := ⟨Key.zero, Key.at pl_inf, by omega, by have := INF_pos; omega, by have := INF_pos; omega⟩
theorem infpB : ∀ w, Calls Try.prog 31 #[.int .i64 1] w fun e w' => e = .returned (.float .f64 (B INF)) ∧ Below w.heap.size w w' := fun w => (infp w).mono fun _ _ ⟨he, hw⟩ => ⟨he, hw ▸ Below.refl _ _⟩
theorem psqrt_ok (F : Ops) {X1 X2 : Nat} {k l : Int} (h : Iv X1 X2 k l) (hm : max k 0 ≤ min l INF) : ∀ w, Calls Try.prog 108 #[.agg #[.float .f64 X1, .float .f64 X2]] w fun e w' => e = .returned (.agg #[.float .f64 (B (F.sD (max k 0))), .float .f64 (B (F.sU (min l INF)))]) ∧ Below w.heap.size w w' := by
  have hI := INF_pos
  have h1 := h.lo
  have h3 := h.hi
  have z : Iv (B (max k 0)) (B (min l INF)) (max k 0) (min l INF) := ⟨Key.at (pl_max h.x.pl pl_zero), Key.at (pl_min h.y.pl pl_inf), hm, by omega, by omega⟩
  exact sqrt_ok_w X1 X2 _ _ _ _ _ _ _ infp (pmeet_ok h iv_pos hm) (none_no z) (F.sqrt_p z.x (by omega)) (F.sqrt_p z.y (by omega))
theorem rroot_ok (F : Ops) {X1 X2 : Nat} {k l : Int} (h : Iv X1 X2 k l) (hm : max k 0 ≤ min l INF) : ∀ w, Calls Try.prog 45 #[.agg #[.float .f64 X1, .float .f64 X2]] w fun e w' => e = .returned (.agg #[.float .f64 (B (F.sD (max k 0))), .float .f64 (B (F.sU (min l INF)))]) ∧ Below w.heap.size w w' := by
  have hI := INF_pos
  have h1 := h.lo
  have h3 := h.hi
  have z : Iv (B (max k 0)) (B (min l INF)) (max k 0) (min l INF) := ⟨Key.at (pl_max h.x.pl pl_zero), Key.at (pl_min h.y.pl pl_inf), hm, by omega, by omega⟩
  exact rroot_ok_w X1 X2 _ _ _ _ _ _ _ infpB (rboth_ok h iv_pos hm) (rnone_no z) (F.sqrt_d z.x (by omega)) (F.sqrt_u z.y (by omega)) (rplain (Key.at (F.sqrt_pl z.x.pl (by omega)).1) (Key.at (F.sqrt_pl z.y.pl (by omega)).2))
theorem psqrt_emp {X1 X2 : Nat} (h : ∀ w, Calls Try.prog 109 #[.agg #[.float .f64 X1, .float .f64 X2], .agg #[.float .f64 0, .float .f64 (B INF)]] w fun e w' => e = .returned (.agg #[.float .f64 (B INF), .float .f64 (B (-INF))]) ∧ Below w.heap.size w w') : ∀ w, Calls Try.prog 108 #[.agg #[.float .f64 X1, .float .f64 X2]] w fun e w' => e = .returned (.agg #[.float .f64 (B INF), .float .f64 (B (-INF))]) ∧ Below w.heap.size w w' := sqrt_no_w X1 X2 _ _ _ _ _ infp h (none_yes emp_no emp1 emp2) pempty
theorem rroot_emp {X1 X2 : Nat} (h : ∀ w, Calls Try.prog 47 #[.agg #[.float .f64 X1, .float .f64 X2], .agg #[.float .f64 0, .float .f64 (B INF)]] w fun e w' => e = .returned (.agg #[.float .f64 (B INF), .float .f64 (B (-INF))]) ∧ Below w.heap.size w w') : ∀ w, Calls Try.prog 45 #[.agg #[.float .f64 X1, .float .f64 X2]] w fun e w' => e = .returned (.agg #[.float .f64 (B INF), .float .f64 (B (-INF))]) ∧ Below w.heap.size w w' := rroot_no_w X1 X2 _ _ _ _ _ infpB h (rnone_yes emp_no emp1 emp2) rempty
theorem sqrt_pair (F : Ops) (X1 X2 : Nat) (hX1 : X1 < 18446744073709551616) (hX2 : X2 < 18446744073709551616) : ∃ a b, Pl a ∧ Pl b ∧ (∀ w, Calls Try.prog 108 #[.agg #[.float .f64 X1, .float .f64 X2]] w fun e w' => e = .returned (.agg #[.float .f64 (B a), .float .f64 (B b)]) ∧ Below w.heap.size w w') ∧ (∀ w, Calls Try.prog 45 #[.agg #[.float .f64 X1, .float .f64 X2]] w fun e w' => e = .returned (.agg #[.float .f64 (B a), .float .f64 (B b)]) ∧ Below w.heap.size w w') := by
  have hI := INF_pos
  rcases Iv.or X1 X2 with ⟨k, l, g⟩ | g
  · rcases Int.lt_or_le (min l INF) (max k 0) with m | m
    · exact ⟨_, _, emp_pl.1, emp_pl.2, psqrt_emp (pmeet_emp g iv_pos m), rroot_emp (rboth_emp g iv_pos m)⟩
    · have h1 := g.lo
      exact ⟨_, _, (F.sqrt_pl (pl_max g.x.pl pl_zero) (by omega)).1, (F.sqrt_pl (pl_min g.y.pl pl_inf) (by omega)).2, psqrt_ok F g m, rroot_ok F g m⟩
  · exact ⟨_, _, emp_pl.1, emp_pl.2, psqrt_emp (pmeet_no hX1 hX2 (by rw [← W_zero]; exact W_lt _ _ (by omega)) emp1 (.inl g)), rroot_emp (rboth_no hX1 hX2 (by rw [← W_zero]; exact W_lt _ _ (by omega)) emp1 (.inl g))⟩
-- squares
theorem Ops.p_neg (F : Ops) {k l : Int} (hk : Pl k) (hl : Pl l) : F.pLo (-l) (-k) (-l) (-k) = F.pLo k l k l ∧ F.pHi (-l) (-k) (-l) (-k) = F.pHi k l k l := by
  have a := F.mul_negneg hl hl
  have b := F.mul_negneg hl hk
  have c := F.mul_negneg hk hl
  have d := F.mul_negneg hk hk
  unfold Ops.pLo Ops.pHi
  rw [a.1, a.2, b.1, b.2, c.1, c.2, d.1, d.2]
  omega
theorem Ops.p_sq (F : Ops) {m : Int} (hm : Pl m) (h : 0 ≤ m) : F.pLo 0 m 0 m = 0 ∧ F.pHi 0 m 0 m = F.mU m m := by
  have a := F.mul_zero pl_zero
  have b := F.mul_zero hm
  have c := F.mul_zero' hm
  have d := F.mul_pos hm hm h h
  unfold Ops.pLo Ops.pHi
  omega
theorem Ops.p_sq' (F : Ops) {k : Int} (hk : Pl k) (h : k ≤ 0) : F.pLo k 0 k 0 = 0 := by
  have a := F.mul_zero pl_zero
  have b := F.mul_zero hk
  have c := F.mul_zero' hk
  have d := F.mul_pos (pl_neg hk) (pl_neg hk) (by omega) (by omega)
  have e := F.mul_negneg hk hk
  unfold Ops.pLo
  omega
theorem Ops.p_amid (F : Ops) {k l : Int} (hk : Pl k) (hl : Pl l) (h1 : k ≤ 0) (h2 : 0 ≤ l) : F.pHi k l k l = F.mU (max (-k) l) (max (-k) l) := by
  have a := F.mul_negneg hk hk
  have b := F.mul_mono hk pl_zero hl h1 h2
  have c := F.mul_zero hl
  have d := F.mul_comm hk hl
  have e := F.mul_pos (pl_neg hk) (pl_neg hk) (by omega) (by omega)
  have e' := F.mul_pos hl hl h2 h2
  have q := F.mul_comm (pl_neg hk) hl
  unfold Ops.pHi
  rcases Int.lt_or_le (-k) l with g | g
  · rw [show max (-k) l = l by omega]
    have m1 := F.mul_mono (pl_neg hk) hl (pl_neg hk) (by omega) (by omega)
    have m2 := F.mul_mono (pl_neg hk) hl hl (by omega) h2
    omega
  · rw [show max (-k) l = -k by omega]
    have m1 := F.mul_mono hl (pl_neg hk) hl g h2
    have m2 := F.mul_mono hl (pl_neg hk) (pl_neg hk) g (by omega)
    omega
theorem sqr_pair (F : Ops) (X1 X2 : Nat) (hX1 : X1 < 18446744073709551616) (hX2 : X2 < 18446744073709551616) : ∃ a b, Pl a ∧ Pl b ∧ (∀ w, Calls Try.prog 107 #[.agg #[.float .f64 X1, .float .f64 X2]] w fun e w' => e = .returned (.agg #[.float .f64 (B a), .float .f64 (B b)]) ∧ Below w.heap.size w w') ∧ (∀ w, Calls Try.prog 43 #[.agg #[.float .f64 X1, .float .f64 X2]] w fun e w' => e = .returned (.agg #[.float .f64 (B a), .float .f64 (B b)]) ∧ Below w.heap.size w w') := by
  have hI := INF_pos
  rcases Iv.or X1 X2 with ⟨k, l, g⟩ | g
  · have u1 := g.le
    have u2 := g.lo
    have u3 := g.hi
    have q := F.p_pl g.x.pl g.y.pl g.x.pl g.y.pl
    have pr := rprod_ok F g g
    by_cases c1 : 0 ≤ k
    · have s : ∀ w, Calls Try.prog 144 #[.agg #[.float .f64 X1, .float .f64 X2]] w fun e w' => e = .returned (.agg #[.float .f64 X1, .float .f64 X2]) ∧ Below w.heap.size w w' := by
        by_cases c0 : k = 0
        · exact sizes_eq_w X1 X2 (none_no g) (g.x.oeq Key.zero c0)
        · exact sizes_gt_w X1 X2 (none_no g) (g.x.ogt Key.zero (by omega))
      refine ⟨_, _, q.1, q.2, sqr_w X1 X2 _ _ _ _ s (pmul_ok F g g), ?_⟩
      by_cases c0 : k = 0
      · subst c0
        have e := F.p_sq g.y.pl (show 0 ≤ l by omega)
        rw [e.1]
        exact rsqr_amid_w X1 X2 _ _ (rnone_no g) pr (tle g.x Key.zero (by omega)) (tge g.y Key.zero (by omega))
      · exact rsqr_pos_w X1 X2 _ _ (rnone_no g) pr (nle g.x Key.zero (by omega))
    · by_cases c2 : l ≤ 0
      · have s : ∀ w, Calls Try.prog 144 #[.agg #[.float .f64 X1, .float .f64 X2]] w fun e w' => e = .returned (.agg #[.float .f64 (B (-l)), .float .f64 (B (-k))]) ∧ Below w.heap.size w w' := by
          by_cases c0 : l = 0
          · exact sizes_neg_le_w X1 X2 _ _ (none_no g) (g.x.olt Key.zero (by omega)) (g.y.oeq Key.zero c0) (pneg g.x g.y)
          · exact sizes_neg_lt_w X1 X2 _ _ (none_no g) (g.x.olt Key.zero (by omega)) (g.y.olt Key.zero (by omega)) (pneg g.x g.y)
        have e := F.p_neg g.x.pl g.y.pl
        have m := pmul_ok F g.neg g.neg
        rw [e.1, e.2] at m
        refine ⟨_, _, q.1, q.2, sqr_w X1 X2 _ _ _ _ s m, ?_⟩
        by_cases c0 : l = 0
        · subst c0
          have e := F.p_sq' g.x.pl (show k ≤ 0 by omega)
          rw [e]
          exact rsqr_amid_w X1 X2 _ _ (rnone_no g) pr (tle g.x Key.zero (by omega)) (tge g.y Key.zero (by omega))
        · exact rsqr_neg_w X1 X2 _ _ (rnone_no g) pr (tle g.x Key.zero (by omega)) (nge g.y Key.zero (by omega))
      · obtain ⟨n, hn, kn⟩ := g.x.neg
        obtain ⟨m, km, _, rm⟩ := max_key kn g.y
        have i : Iv 0 m 0 (max (-k) l) := ⟨Key.zero, km, by omega, by omega, by omega⟩
        have p := pmul_ok F i i
        have e := F.p_sq km.pl (show 0 ≤ max (-k) l by omega)
        have e' := F.p_amid g.x.pl g.y.pl (show k ≤ 0 by omega) (by omega)
        rw [e.1, e.2, ← e'] at p
        refine ⟨_, _, pl_zero, q.2, sqr_w X1 X2 _ _ _ _ (sizes_amid_w X1 X2 n m (none_no g) (g.x.olt Key.zero (by omega)) (g.y.ogt Key.zero (by omega)) hn rm) p, ?_⟩
        exact rsqr_amid_w X1 X2 _ _ (rnone_no g) pr (tle g.x Key.zero (by omega)) (tge g.y Key.zero (by omega))
  · exact ⟨_, _, emp_pl.1, emp_pl.2, sqr_w X1 X2 _ _ _ _ (sizes_no_w X1 X2 (none_yes g hX1 hX2)) (pmul_no hX1 hX2 hX1 hX2 (.inl g)), rsqr_no_w X1 X2 _ _ (rnone_yes g hX1 hX2) rempty⟩
theorem roots_any (X1 X2 : Nat) (hX1 : X1 < 18446744073709551616) (hX2 : X2 < 18446744073709551616) : ∀ w, Calls Try.prog 7 #[.float .f64 X1, .float .f64 X2] w fun e w' => e = .returned (.bool true) ∧ Below w.heap.size w w' := by
  obtain ⟨F⟩ := ops
  obtain ⟨a, b, ha, hb, m1, m2⟩ := sqr_pair F X1 X2 hX1 hX2
  obtain ⟨c, d, hc, hd, m3, m4⟩ := sqrt_pair F X1 X2 hX1 hX2
  exact roots_w X1 X2 _ _ _ _ (iSqr_w X1 X2 _ _ m1) m2 (alike_any ha hb) (iSqrt_w X1 X2 _ _ m3) m4 (alike_any hc hd) (interval_w X1 X2)
end Go.Proofs.Ytacnclofbnafiaa
