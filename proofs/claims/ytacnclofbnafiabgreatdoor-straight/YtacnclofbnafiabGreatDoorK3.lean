import Derived.Test.YtacnclofbnafiabGreatDoorK2
namespace Go.Proofs.YtacnclofbnafiabGreatDoor
open Go.RowKit Fl

/-- A place of a float. -/
def Pl (k : Int) : Prop := -(INF : Int) ≤ k ∧ k ≤ INF
theorem Key.pl {x : Nat} {k : Int} (h : Key x k) : Pl k := h.bd
theorem Key.at {k : Int} (h : Pl k) : Key (B k) k := Key.of_B h.1 h.2

-- DOWN and UP are there
theorem int_max {p : Int → Prop} {lo hi : Int} : ∀ (n : Nat) (j : Int), (hi - j).toNat ≤ n → lo < j → j < hi → p j → ∃ m, lo < m ∧ m < hi ∧ p m ∧ ∀ i, lo < i → i < hi → p i → i ≤ m := by
  intro n
  induction n with
  | zero => intro j h1 _ h3; omega
  | succ n ih =>
    intro j h1 h2 h3 h4
    by_cases c : ∃ i, j < i ∧ i < hi ∧ p i
    · obtain ⟨i, c1, c2, c3⟩ := c
      exact ih i (by omega) (by omega) c2 c3
    · refine ⟨j, h2, h3, h4, fun i i1 i2 i3 => ?_⟩
      rcases Int.lt_or_le j i with g | g
      · exact absurd ⟨i, g, i2, i3⟩ c
      · exact g
theorem DnK.ex {E : Int → Int} (hE : AntiI E) : ∃ D, DnK E D := by
  have hI := INF_pos
  by_cases c : ∃ j, -(INF : Int) < j ∧ j < INF ∧ 0 ≤ E (Vk j)
  · obtain ⟨j, c1, c2, c3⟩ := c
    obtain ⟨m, m1, m2, m3, m4⟩ := int_max (p := fun j => 0 ≤ E (Vk j)) _ j (Nat.le_refl _) c1 c2 c3
    refine ⟨m, by omega, m2, fun i i1 i2 => ⟨fun h => m4 i i1 i2 h, fun h => hE.le (Vk_le.2 h) m3⟩⟩
  · exact ⟨-INF, Int.le_refl _, by omega, fun i i1 i2 => ⟨fun h => absurd ⟨i, i1, i2, h⟩ c, fun h => by omega⟩⟩
theorem UpK.ex {E : Int → Int} (hE : AntiI E) : ∃ P, UpK E P := by
  have hI := INF_pos
  by_cases c : ∃ j, -(INF : Int) < j ∧ j < INF ∧ E (Vk j) ≤ 0
  · obtain ⟨j, c1, c2, c3⟩ := c
    obtain ⟨m, m1, m2, m3, m4⟩ := int_max (p := fun j => E (Vk (-j)) ≤ 0) (lo := -(INF : Int)) (hi := INF) _ (-j) (Nat.le_refl _) (by omega) (by omega) (by rw [Int.neg_neg]; exact c3)
    refine ⟨-m, by omega, by omega, fun i i1 i2 => ⟨fun h => ?_, fun h => hE.le' (Vk_le.2 h) m3⟩⟩
    have := m4 (-i) (by omega) (by omega) (by rw [Int.neg_neg]; exact h)
    omega
  · exact ⟨INF, by omega, Int.le_refl _, fun i i1 i2 => ⟨fun h => absurd ⟨i, i1, i2, h⟩ c, fun h => by omega⟩⟩
theorem Rk.ex {E : Int → Int} (hE : AntiI E) : ∃ D P, Rk E D P := by
  obtain ⟨D, d⟩ := DnK.ex hE
  obtain ⟨P, p⟩ := UpK.ex hE
  exact ⟨D, P, d, p⟩
theorem AddK.has {k l : Int} (_ : Pl k) (hl : Pl l) : ∃ D P, AddK k l D P := by
  have hI := INF_pos
  unfold Pl at hl
  by_cases c1 : (k = INF ∧ l = -(INF : Int)) ∨ (k = -(INF : Int) ∧ l = INF)
  · exact ⟨-INF, INF, by omega, fun _ => by omega, fun _ => by omega, fun _ => by omega, fun _ _ _ _ => by omega⟩
  · by_cases c2 : k = INF ∨ l = INF
    · exact ⟨INF, INF, by omega, fun _ => by omega, fun _ => by omega, fun _ => by omega, fun _ _ _ _ => by omega⟩
    · by_cases c3 : k = -(INF : Int) ∨ l = -(INF : Int)
      · exact ⟨-INF, -INF, by omega, fun _ => by omega, fun _ => by omega, fun _ => by omega, fun _ _ _ _ => by omega⟩
      · obtain ⟨D, P, h⟩ := Rk.ex (Ep_anti (Vk k + Vk l))
        exact ⟨D, P, h.bd, fun _ => by omega, fun _ => by omega, fun _ => by omega, fun _ _ _ _ => h⟩
theorem MulK.has {k l : Int} (hk : Pl k) (hl : Pl l) : ∃ D P, MulK k l D P := by
  have hI := INF_pos
  unfold Pl at hk hl
  by_cases c0 : k = 0 ∨ l = 0
  · refine ⟨0, 0, by omega, fun _ => ⟨rfl, rfl⟩, fun _ _ => by omega, fun _ _ => by omega, fun _ _ _ _ => ?_⟩
    have e : Vk k * Vk l = 0 := by
      rcases c0 with c | c
      · rw [c, Vk_zero, Int.zero_mul]
      · rw [c, Vk_zero, Int.mul_zero]
    rw [e]
    exact Rk_zero
  · by_cases c1 : k = INF ∨ k = -(INF : Int) ∨ l = INF ∨ l = -(INF : Int)
    · by_cases c2 : (0 < k ∧ 0 < l) ∨ (k < 0 ∧ l < 0)
      · exact ⟨INF, INF, by omega, fun _ => by omega, fun _ _ => by omega, fun _ _ => by omega, fun _ _ _ _ => by omega⟩
      · exact ⟨-INF, -INF, by omega, fun _ => by omega, fun _ _ => by omega, fun _ _ => by omega, fun _ _ _ _ => by omega⟩
    · obtain ⟨D, P, h⟩ := Rk.ex (Et_anti (Vk k * Vk l))
      exact ⟨D, P, h.bd, fun _ => by omega, fun _ _ => by omega, fun _ _ => by omega, fun _ _ _ _ => h⟩
theorem DivK.has {k l : Int} (hk : Pl k) (hl : Pl l) (h0 : 0 ≤ l) : ∃ D P, DivK k l D P := by
  have hI := INF_pos
  unfold Pl at hk hl
  by_cases c0 : l = 0 ∨ ((k = INF ∨ k = -(INF : Int)) ∧ l = INF)
  · exact ⟨-INF, INF, by omega, fun _ => by omega, fun _ _ _ => by omega, fun _ _ _ => by omega, fun _ _ _ => by omega, fun _ _ _ _ => by omega⟩
  · by_cases c1 : l = INF
    · exact ⟨0, 0, by omega, fun _ => by omega, fun _ _ _ => by omega, fun _ _ _ => by omega, fun _ _ _ => by omega, fun _ _ _ _ => by omega⟩
    · by_cases c2 : k = INF
      · exact ⟨INF, INF, by omega, fun _ => by omega, fun _ _ _ => by omega, fun _ _ _ => by omega, fun _ _ _ => by omega, fun _ _ _ _ => by omega⟩
      · by_cases c3 : k = -(INF : Int)
        · exact ⟨-INF, -INF, by omega, fun _ => by omega, fun _ _ _ => by omega, fun _ _ _ => by omega, fun _ _ _ => by omega, fun _ _ _ _ => by omega⟩
        · have an : AntiI (Eo false (Vk k * (U : Int)) (Vk l)) := by
            intro a b hab h
            unfold Eo at *
            simp only [Bool.false_eq_true, if_false] at *
            have := Int.mul_lt_mul_of_pos_right hab (Vk_pos (show 0 < l by omega))
            omega
          obtain ⟨D, P, h⟩ := Rk.ex an
          exact ⟨D, P, h.bd, fun _ => by omega, fun _ _ _ => by omega, fun _ _ _ => by omega, fun _ _ _ => by omega, fun _ _ _ _ => h⟩
theorem SqrtK.has {k : Int} (_ : Pl k) (_ : 0 ≤ k) : ∃ D P, SqrtK k D P := by
  have hI := INF_pos
  by_cases c : k = INF
  · exact ⟨INF, INF, by omega, fun _ => by omega, fun _ _ => by omega⟩
  · obtain ⟨D, P, h⟩ := Rk.ex (Er_anti (Vk k * (U : Int)))
    exact ⟨D, P, h.bd, fun _ => by omega, fun _ _ => h⟩
/-- DOWN and UP as functions of places. -/
structure Ops where
  aD : Int → Int → Int
  aU : Int → Int → Int
  mD : Int → Int → Int
  mU : Int → Int → Int
  dD : Int → Int → Int
  dU : Int → Int → Int
  sD : Int → Int
  sU : Int → Int
  add : ∀ {k l}, Pl k → Pl l → AddK k l (aD k l) (aU k l)
  mul : ∀ {k l}, Pl k → Pl l → MulK k l (mD k l) (mU k l)
  div : ∀ {k l}, Pl k → Pl l → 0 ≤ l → DivK k l (dD k l) (dU k l)
  sqrt : ∀ {k}, Pl k → 0 ≤ k → SqrtK k (sD k) (sU k)
theorem pick2 {R : Int → Int → Int → Int → Prop} {Q : Int → Int → Prop} (h : ∀ k l, Q k l → ∃ D P, R k l D P) : ∃ f g : Int → Int → Int, ∀ k l, Q k l → R k l (f k l) (g k l) := by
  classical
  have h1 : ∀ k l, ∃ d : Int × Int, Q k l → R k l d.1 d.2 := by
    intro k l
    by_cases hq : Q k l
    · obtain ⟨D, P, hr⟩ := h k l hq
      exact ⟨(D, P), fun _ => hr⟩
    · exact ⟨(0, 0), fun g => absurd g hq⟩
  exact ⟨fun k l => (Classical.choose (h1 k l)).1, fun k l => (Classical.choose (h1 k l)).2, fun k l => Classical.choose_spec (h1 k l)⟩
theorem ops : Nonempty Ops := by
  obtain ⟨a, a', ha⟩ := pick2 (R := AddK) (Q := fun k l => Pl k ∧ Pl l) fun k l h => AddK.has h.1 h.2
  obtain ⟨m, m', hm⟩ := pick2 (R := MulK) (Q := fun k l => Pl k ∧ Pl l) fun k l h => MulK.has h.1 h.2
  obtain ⟨d, d', hd⟩ := pick2 (R := DivK) (Q := fun k l => Pl k ∧ Pl l ∧ 0 ≤ l) fun k l h => DivK.has h.1 h.2.1 h.2.2
  obtain ⟨s, s', hs⟩ := pick2 (R := fun k _ => SqrtK k) (Q := fun k _ => Pl k ∧ 0 ≤ k) fun k _ h => SqrtK.has h.1 h.2
  exact ⟨⟨a, a', m, m', d, d', fun k => s k 0, fun k => s' k 0, fun h g => ha _ _ ⟨h, g⟩, fun h g => hm _ _ ⟨h, g⟩, fun h g p => hd _ _ ⟨h, g, p⟩, fun h p => hs _ _ ⟨h, p⟩⟩⟩

theorem AddK.ex {x y : Nat} {k l : Int} (hx : Key x k) (hy : Key y l) : ∃ D P, AddK k l D P ∧ (∀ w, Calls Tryz.prog 147 #[.float .f64 x, .float .f64 y] w fun e w' => e = .returned (.tuple #[.float .f64 (B D), .float .f64 (B P)]) ∧ Below w.heap.size w w') := by
  obtain ⟨s, r, rfl, hr, rfl⟩ := hx
  obtain ⟨t, q, rfl, hq, rfl⟩ := hy
  obtain ⟨D, P, h1, h2⟩ := Add_any s t r q (fin_lt hr) (fin_lt hq)
  obtain ⟨d, p, rfl, rfl, h3⟩ := h1.key hr hq
  exact ⟨d, p, h3, h2⟩
theorem AddK.exr {x y : Nat} {k l : Int} (hx : Key x k) (hy : Key y l) : ∃ D P, AddK k l D P ∧ (∀ w, Calls Tryz.prog 107 #[.float .f64 x, .float .f64 y, .bool true] w fun e w' => e = .returned (.float .f64 (B D)) ∧ Below w.heap.size w w') ∧ (∀ w, Calls Tryz.prog 107 #[.float .f64 x, .float .f64 y, .bool false] w fun e w' => e = .returned (.float .f64 (B P)) ∧ Below w.heap.size w w') := by
  obtain ⟨s, r, rfl, hr, rfl⟩ := hx
  obtain ⟨t, q, rfl, hq, rfl⟩ := hy
  obtain ⟨D, P, h1, _⟩ := Add_any s t r q (fin_lt hr) (fin_lt hq)
  obtain ⟨d, p, rfl, rfl, h3⟩ := h1.key hr hq
  exact ⟨d, p, h3, refAdd_any s t true r q _ _ (fin_lt hr) (fin_lt hq) h1, refAdd_any s t false r q _ _ (fin_lt hr) (fin_lt hq) h1⟩
theorem MulK.ex {x y : Nat} {k l : Int} (hx : Key x k) (hy : Key y l) : ∃ D P, MulK k l D P ∧ (∀ w, Calls Tryz.prog 163 #[.float .f64 x, .float .f64 y] w fun e w' => e = .returned (.tuple #[.float .f64 (B D), .float .f64 (B P)]) ∧ Below w.heap.size w w') := by
  obtain ⟨s, r, rfl, hr, rfl⟩ := hx
  obtain ⟨t, q, rfl, hq, rfl⟩ := hy
  obtain ⟨D, P, h1, h2⟩ := Mul_any s t r q (fin_lt hr) (fin_lt hq)
  obtain ⟨d, p, rfl, rfl, h3⟩ := h1.key hr hq
  exact ⟨d, p, h3, h2⟩
theorem MulK.exr {x y : Nat} {k l : Int} (hx : Key x k) (hy : Key y l) : ∃ D P, MulK k l D P ∧ (∀ w, Calls Tryz.prog 108 #[.float .f64 x, .float .f64 y, .bool true] w fun e w' => e = .returned (.float .f64 (B D)) ∧ Below w.heap.size w w') ∧ (∀ w, Calls Tryz.prog 108 #[.float .f64 x, .float .f64 y, .bool false] w fun e w' => e = .returned (.float .f64 (B P)) ∧ Below w.heap.size w w') := by
  obtain ⟨s, r, rfl, hr, rfl⟩ := hx
  obtain ⟨t, q, rfl, hq, rfl⟩ := hy
  obtain ⟨D, P, h1, _⟩ := Mul_any s t r q (fin_lt hr) (fin_lt hq)
  obtain ⟨d, p, rfl, rfl, h3⟩ := h1.key hr hq
  exact ⟨d, p, h3, refMul_any s t true r q _ _ (fin_lt hr) (fin_lt hq) h1, refMul_any s t false r q _ _ (fin_lt hr) (fin_lt hq) h1⟩
theorem SqrtK.ex {x : Nat} {k : Int} (hx : Key x k) (hk : 0 ≤ k) : ∃ D P, SqrtK k D P ∧ (∀ w, Calls Tryz.prog 172 #[.float .f64 x] w fun e w' => e = .returned (.tuple #[.float .f64 (B D), .float .f64 (B P)]) ∧ Below w.heap.size w w') := by
  obtain ⟨s, r, rfl, hr, rfl⟩ := hx
  obtain ⟨D, P, h1, h2⟩ := Sqrt_all s r (fin_lt hr)
  obtain ⟨d, p, rfl, rfl, h3⟩ := h1.key hr hk
  exact ⟨d, p, h3, h2⟩
theorem Ops.add_p (F : Ops) {x y : Nat} {k l : Int} (hx : Key x k) (hy : Key y l) (w : World) :
    Calls Tryz.prog 147 #[.float .f64 x, .float .f64 y] w fun e w' => e = .returned (.tuple #[.float .f64 (B (F.aD k l)), .float .f64 (B (F.aU k l))]) ∧ Below w.heap.size w w' := by
  obtain ⟨D, P, h1, h2⟩ := AddK.ex hx hy
  obtain ⟨rfl, rfl⟩ := h1.unique (F.add hx.pl hy.pl) hx.bd.1 hx.bd.2 hy.bd.1 hy.bd.2
  exact h2 w
theorem Ops.add_d (F : Ops) {x y : Nat} {k l : Int} (hx : Key x k) (hy : Key y l) (w : World) :
    Calls Tryz.prog 107 #[.float .f64 x, .float .f64 y, .bool true] w fun e w' => e = .returned (.float .f64 (B (F.aD k l))) ∧ Below w.heap.size w w' := by
  obtain ⟨D, P, h1, h2, _⟩ := AddK.exr hx hy
  obtain ⟨rfl, rfl⟩ := h1.unique (F.add hx.pl hy.pl) hx.bd.1 hx.bd.2 hy.bd.1 hy.bd.2
  exact h2 w
theorem Ops.add_u (F : Ops) {x y : Nat} {k l : Int} (hx : Key x k) (hy : Key y l) (w : World) :
    Calls Tryz.prog 107 #[.float .f64 x, .float .f64 y, .bool false] w fun e w' => e = .returned (.float .f64 (B (F.aU k l))) ∧ Below w.heap.size w w' := by
  obtain ⟨D, P, h1, _, h2⟩ := AddK.exr hx hy
  obtain ⟨rfl, rfl⟩ := h1.unique (F.add hx.pl hy.pl) hx.bd.1 hx.bd.2 hy.bd.1 hy.bd.2
  exact h2 w
theorem Ops.mul_p (F : Ops) {x y : Nat} {k l : Int} (hx : Key x k) (hy : Key y l) (w : World) :
    Calls Tryz.prog 163 #[.float .f64 x, .float .f64 y] w fun e w' => e = .returned (.tuple #[.float .f64 (B (F.mD k l)), .float .f64 (B (F.mU k l))]) ∧ Below w.heap.size w w' := by
  obtain ⟨D, P, h1, h2⟩ := MulK.ex hx hy
  obtain ⟨rfl, rfl⟩ := h1.unique (F.mul hx.pl hy.pl) hx.bd.1 hx.bd.2 hy.bd.1 hy.bd.2
  exact h2 w
theorem Ops.mul_d (F : Ops) {x y : Nat} {k l : Int} (hx : Key x k) (hy : Key y l) (w : World) :
    Calls Tryz.prog 108 #[.float .f64 x, .float .f64 y, .bool true] w fun e w' => e = .returned (.float .f64 (B (F.mD k l))) ∧ Below w.heap.size w w' := by
  obtain ⟨D, P, h1, h2, _⟩ := MulK.exr hx hy
  obtain ⟨rfl, rfl⟩ := h1.unique (F.mul hx.pl hy.pl) hx.bd.1 hx.bd.2 hy.bd.1 hy.bd.2
  exact h2 w
theorem Ops.mul_u (F : Ops) {x y : Nat} {k l : Int} (hx : Key x k) (hy : Key y l) (w : World) :
    Calls Tryz.prog 108 #[.float .f64 x, .float .f64 y, .bool false] w fun e w' => e = .returned (.float .f64 (B (F.mU k l))) ∧ Below w.heap.size w w' := by
  obtain ⟨D, P, h1, _, h2⟩ := MulK.exr hx hy
  obtain ⟨rfl, rfl⟩ := h1.unique (F.mul hx.pl hy.pl) hx.bd.1 hx.bd.2 hy.bd.1 hy.bd.2
  exact h2 w
theorem Ops.sqrt_p (F : Ops) {x : Nat} {k : Int} (hx : Key x k) (hk : 0 ≤ k) (w : World) :
    Calls Tryz.prog 172 #[.float .f64 x] w fun e w' => e = .returned (.tuple #[.float .f64 (B (F.sD k)), .float .f64 (B (F.sU k))]) ∧ Below w.heap.size w w' := by
  obtain ⟨D, P, h1, h2⟩ := SqrtK.ex hx hk
  obtain ⟨rfl, rfl⟩ := h1.unique (F.sqrt hx.pl hk) hk hx.bd.2
  exact h2 w
end Go.Proofs.YtacnclofbnafiabGreatDoor
