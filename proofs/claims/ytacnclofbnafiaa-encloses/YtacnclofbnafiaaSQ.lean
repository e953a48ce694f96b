import Derived.Test.YtacnclofbnafiaaSPP
import Derived.Test.YtacnclofbnafiaaK7b
namespace Go.Proofs.Ytacnclofbnafiaa
open Go.RowKit Fl

theorem pmeet_ok {X1 X2 Y1 Y2 : Nat} {k l k' l' : Int} (h : Iv X1 X2 k l) (h' : Iv Y1 Y2 k' l') (hm : max k k' ≤ min l l') : ∀ w, Calls Try.prog 109 #[.agg #[.float .f64 X1, .float .f64 X2], .agg #[.float .f64 Y1, .float .f64 Y2]] w fun e w' => e = .returned (.agg #[.float .f64 (B (max k k')), .float .f64 (B (min l l'))]) ∧ Below w.heap.size w w' := by
  obtain ⟨a, ka, _, ra⟩ := max_key h.x h'.x
  obtain ⟨b, kb, _, rb⟩ := min_key h.y h'.y
  have h1 := h.lo
  have h2 := h'.lo
  have h3 := h.hi
  have h4 := h'.hi
  exact meet_ok_w X1 X2 Y1 Y2 a b _ _ (none_no h) (none_no h') ra rb (pplain_ok ⟨ka, kb, hm, by omega, by omega⟩)
theorem pmeet_emp {X1 X2 Y1 Y2 : Nat} {k l k' l' : Int} (h : Iv X1 X2 k l) (h' : Iv Y1 Y2 k' l') (hm : min l l' < max k k') : ∀ w, Calls Try.prog 109 #[.agg #[.float .f64 X1, .float .f64 X2], .agg #[.float .f64 Y1, .float .f64 Y2]] w fun e w' => e = .returned (.agg #[.float .f64 (B INF), .float .f64 (B (-INF))]) ∧ Below w.heap.size w w' := by
  obtain ⟨a, ka, _, ra⟩ := max_key h.x h'.x
  obtain ⟨b, kb, _, rb⟩ := min_key h.y h'.y
  exact meet_ok_w X1 X2 Y1 Y2 a b _ _ (none_no h) (none_no h') ra rb (pplain_no (no_of ka kb hm) ka.lt kb.lt)
theorem pmeet_no {X1 X2 Y1 Y2 : Nat} (hX1 : X1 < 18446744073709551616) (hX2 : X2 < 18446744073709551616) (hY1 : Y1 < 18446744073709551616) (hY2 : Y2 < 18446744073709551616) (h : NoIv X1 X2 ∨ NoIv Y1 Y2) : ∀ w, Calls Try.prog 109 #[.agg #[.float .f64 X1, .float .f64 X2], .agg #[.float .f64 Y1, .float .f64 Y2]] w fun e w' => e = .returned (.agg #[.float .f64 (B INF), .float .f64 (B (-INF))]) ∧ Below w.heap.size w w' := by
  rcases Iv.or X1 X2 with ⟨k, l, g⟩ | g
  · rcases h with h | h
    · exact absurd g (h k l)
    · exact meet_noy_w X1 X2 Y1 Y2 _ _ (none_no g) (none_yes h hY1 hY2) pempty
  · exact meet_nox_w X1 X2 Y1 Y2 _ _ (none_yes g hX1 hX2) pempty
theorem phull_ok {X1 X2 Y1 Y2 : Nat} {k l k' l' : Int} (h : Iv X1 X2 k l) (h' : Iv Y1 Y2 k' l') : ∀ w, Calls Try.prog 110 #[.agg #[.float .f64 X1, .float .f64 X2], .agg #[.float .f64 Y1, .float .f64 Y2]] w fun e w' => e = .returned (.agg #[.float .f64 (B (min k k')), .float .f64 (B (max l l'))]) ∧ Below w.heap.size w w' := by
  obtain ⟨a, ka, _, ra⟩ := min_key h.x h'.x
  obtain ⟨b, kb, _, rb⟩ := max_key h.y h'.y
  have h1 := h.lo
  have h2 := h'.lo
  have h3 := h.hi
  have h4 := h'.hi
  have h5 := h.le
  have h6 := h'.le
  exact hull_ok_w X1 X2 Y1 Y2 a b _ _ (none_no h) (none_no h') (cover_w X1 X2 Y1 Y2 a b ra rb) (pplain_ok ⟨ka, kb, by omega, by omega, by omega⟩)
theorem phull_nox {X1 X2 Y1 Y2 : Nat} {k' l' : Int} (hX1 : X1 < 18446744073709551616) (hX2 : X2 < 18446744073709551616) (h : NoIv X1 X2) (h' : Iv Y1 Y2 k' l') : ∀ w, Calls Try.prog 110 #[.agg #[.float .f64 X1, .float .f64 X2], .agg #[.float .f64 Y1, .float .f64 Y2]] w fun e w' => e = .returned (.agg #[.float .f64 (B k'), .float .f64 (B l')]) ∧ Below w.heap.size w w' :=
  hull_nox_w X1 X2 Y1 Y2 _ _ (none_yes h hX1 hX2) (pplain_ok h')
theorem phull_noy {X1 X2 Y1 Y2 : Nat} {k l : Int} (hY1 : Y1 < 18446744073709551616) (hY2 : Y2 < 18446744073709551616) (h : Iv X1 X2 k l) (h' : NoIv Y1 Y2) : ∀ w, Calls Try.prog 110 #[.agg #[.float .f64 X1, .float .f64 X2], .agg #[.float .f64 Y1, .float .f64 Y2]] w fun e w' => e = .returned (.agg #[.float .f64 (B k), .float .f64 (B l)]) ∧ Below w.heap.size w w' :=
  hull_noy_w X1 X2 Y1 Y2 _ _ (none_no h) (none_yes h' hY1 hY2) (pplain_ok h)
theorem phull_no {X1 X2 Y1 Y2 : Nat} (hX1 : X1 < 18446744073709551616) (hX2 : X2 < 18446744073709551616) (hY1 : Y1 < 18446744073709551616) (hY2 : Y2 < 18446744073709551616) (h : NoIv X1 X2) (h' : NoIv Y1 Y2) : ∀ w, Calls Try.prog 110 #[.agg #[.float .f64 X1, .float .f64 X2], .agg #[.float .f64 Y1, .float .f64 Y2]] w fun e w' => e = .returned (.agg #[.float .f64 (B INF), .float .f64 (B (-INF))]) ∧ Below w.heap.size w w' :=
  hull_nox_w X1 X2 Y1 Y2 _ _ (none_yes h hX1 hX2) (pplain_no h' hY1 hY2)
theorem iv_pos : Iv 0 (B INF) 0 INF := ⟨Key.zero, Key.at pl_inf, by omega, by have := INF_pos; omega, by have := INF_pos; omega⟩
theorem psqrt_ok (F : Ops) {X1 X2 : Nat} {k l : Int} (h : Iv X1 X2 k l) (hm : max k 0 ≤ min l INF) : ∀ w, Calls Try.prog 108 #[.agg #[.float .f64 X1, .float .f64 X2]] w fun e w' => e = .returned (.agg #[.float .f64 (B (F.sD (max k 0))), .float .f64 (B (F.sU (min l INF)))]) ∧ Below w.heap.size w w' := by
  have hI := INF_pos
  have h1 := h.lo
  have h3 := h.hi
  have z : Iv (B (max k 0)) (B (min l INF)) (max k 0) (min l INF) := ⟨Key.at (pl_max h.x.pl pl_zero), Key.at (pl_min h.y.pl pl_inf), hm, by omega, by omega⟩
  exact sqrt_ok_w X1 X2 _ _ _ _ _ _ _ infp (pmeet_ok h iv_pos hm) (none_no z) (F.sqrt_p z.x (by omega)) (F.sqrt_p z.y (by omega))
theorem psqrt_emp {X1 X2 : Nat} (h : ∀ w, Calls Try.prog 109 #[.agg #[.float .f64 X1, .float .f64 X2], .agg #[.float .f64 0, .float .f64 (B INF)]] w fun e w' => e = .returned (.agg #[.float .f64 (B INF), .float .f64 (B (-INF))]) ∧ Below w.heap.size w w') : ∀ w, Calls Try.prog 108 #[.agg #[.float .f64 X1, .float .f64 X2]] w fun e w' => e = .returned (.agg #[.float .f64 (B INF), .float .f64 (B (-INF))]) ∧ Below w.heap.size w w' := sqrt_no_w X1 X2 _ _ _ _ _ infp h (none_yes emp_no emp1 emp2) pempty
theorem Ops.p_neg (F : Ops) {k l : Int} (hk : Pl k) (hl : Pl l) : F.pLo (-l) (-k) (-l) (-k) = F.pLo k l k l ∧ F.pHi (-l) (-k) (-l) (-k) = F.pHi k l k l := by
  have a := F.mul_negneg hl hl
  have b := F.mul_negneg hl hk
  have c := F.mul_negneg hk hl
  have d := F.mul_negneg hk hk
  unfold Ops.pLo Ops.pHi
  rw [a.1, a.2, b.1, b.2, c.1, c.2, d.1, d.2]
  omega
theorem Ops.p_sq (F : Ops) {m : Int} (hm : Pl m) (h : 0 ≤ m) : F.pLo 0 m 0 m = 0 ∧ F.pHi 0 m 0 m = F.mU m m := by
  have a := F.mul_zero pl_zero
  have b := F.mul_zero hm
  have c := F.mul_zero' hm
  have d := F.mul_pos hm hm h h
  unfold Ops.pLo Ops.pHi
  omega
theorem Ops.p_sq' (F : Ops) {k : Int} (hk : Pl k) (h : k ≤ 0) : F.pLo k 0 k 0 = 0 := by
  have a := F.mul_zero pl_zero
  have b := F.mul_zero hk
  have c := F.mul_zero' hk
  have d := F.mul_pos (pl_neg hk) (pl_neg hk) (by omega) (by omega)
  have e := F.mul_negneg hk hk
  unfold Ops.pLo
  omega
theorem Ops.p_amid (F : Ops) {k l : Int} (hk : Pl k) (hl : Pl l) (h1 : k ≤ 0) (h2 : 0 ≤ l) : F.pHi k l k l = F.mU (max (-k) l) (max (-k) l) := by
  have a := F.mul_negneg hk hk
  have b := F.mul_mono hk pl_zero hl h1 h2
  have c := F.mul_zero hl
  have d := F.mul_comm hk hl
  have e := F.mul_pos (pl_neg hk) (pl_neg hk) (by omega) (by omega)
  have e' := F.mul_pos hl hl h2 h2
  have q := F.mul_comm (pl_neg hk) hl
  unfold Ops.pHi
  rcases Int.lt_or_le (-k) l with g | g
  · rw [show max (-k) l = l by omega]
    have m1 := F.mul_mono (pl_neg hk) hl (pl_neg hk) (by omega) (by omega)
    have m2 := F.mul_mono (pl_neg hk) hl hl (by omega) h2
    omega
  · rw [show max (-k) l = -k by omega]
    have m1 := F.mul_mono hl (pl_neg hk) hl g h2
    have m2 := F.mul_mono hl (pl_neg hk) (pl_neg hk) g (by omega)
    omega
theorem psqr_any (F : Ops) {X1 X2 : Nat} {k l : Int} (g : Iv X1 X2 k l) : ∃ a b, Pl a ∧ Pl b ∧ (∀ w, Calls Try.prog 107 #[.agg #[.float .f64 X1, .float .f64 X2]] w fun e w' => e = .returned (.agg #[.float .f64 (B a), .float .f64 (B b)]) ∧ Below w.heap.size w w') ∧ ((a = F.pLo k l k l ∨ a = 0) ∧ b = F.pHi k l k l) := by
  have hI := INF_pos
  have u1 := g.le
  have u2 := g.lo
  have u3 := g.hi
  have q := F.p_pl g.x.pl g.y.pl g.x.pl g.y.pl
  by_cases c1 : 0 ≤ k
  · have s : ∀ w, Calls Try.prog 144 #[.agg #[.float .f64 X1, .float .f64 X2]] w fun e w' => e = .returned (.agg #[.float .f64 X1, .float .f64 X2]) ∧ Below w.heap.size w w' := by
      by_cases c0 : k = 0
      · exact sizes_eq_w X1 X2 (none_no g) (g.x.oeq Key.zero c0)
      · exact sizes_gt_w X1 X2 (none_no g) (g.x.ogt Key.zero (by omega))
    exact ⟨_, _, q.1, q.2, sqr_w X1 X2 _ _ _ _ s (pmul_ok F g g), .inl rfl, rfl⟩
  · by_cases c2 : l ≤ 0
    · have s : ∀ w, Calls Try.prog 144 #[.agg #[.float .f64 X1, .float .f64 X2]] w fun e w' => e = .returned (.agg #[.float .f64 (B (-l)), .float .f64 (B (-k))]) ∧ Below w.heap.size w w' := by
        by_cases c0 : l = 0
        · exact sizes_neg_le_w X1 X2 _ _ (none_no g) (g.x.olt Key.zero (by omega)) (g.y.oeq Key.zero c0) (pneg g.x g.y)
        · exact sizes_neg_lt_w X1 X2 _ _ (none_no g) (g.x.olt Key.zero (by omega)) (g.y.olt Key.zero (by omega)) (pneg g.x g.y)
      have e := F.p_neg g.x.pl g.y.pl
      have m := pmul_ok F g.neg g.neg
      rw [e.1, e.2] at m
      exact ⟨_, _, q.1, q.2, sqr_w X1 X2 _ _ _ _ s m, .inl rfl, rfl⟩
    · obtain ⟨n, hn, kn⟩ := g.x.neg
      obtain ⟨m, km, _, rm⟩ := max_key kn g.y
      have i : Iv 0 m 0 (max (-k) l) := ⟨Key.zero, km, by omega, by omega, by omega⟩
      have p := pmul_ok F i i
      have e := F.p_sq km.pl (show 0 ≤ max (-k) l by omega)
      have e' := F.p_amid g.x.pl g.y.pl (show k ≤ 0 by omega) (by omega)
      rw [e.1, e.2, ← e'] at p
      exact ⟨_, _, pl_zero, q.2, sqr_w X1 X2 _ _ _ _ (sizes_amid_w X1 X2 n m (none_no g) (g.x.olt Key.zero (by omega)) (g.y.ogt Key.zero (by omega)) hn rm) p, .inr rfl, rfl⟩
end Go.Proofs.Ytacnclofbnafiaa
