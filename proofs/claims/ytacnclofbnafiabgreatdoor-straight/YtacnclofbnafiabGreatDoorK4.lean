import Derived.Test.YtacnclofbnafiabGreatDoorK3
namespace Go.Proofs.YtacnclofbnafiabGreatDoor
open Go.RowKit Fl

/-- The interval of the words X and Y has numbers: from place k to place l. -/
structure Iv (X Y : Nat) (k l : Int) : Prop where
  x : Key X k
  y : Key Y l
  le : k ≤ l
  lo : k < INF
  hi : -(INF : Int) < l
def NoIv (X Y : Nat) : Prop := ∀ k l, ¬ Iv X Y k l
theorem Iv.or (X Y : Nat) : (∃ k l, Iv X Y k l) ∨ NoIv X Y := by
  by_cases h : ∃ k l, Iv X Y k l
  · exact .inl h
  · exact .inr fun k l g => h ⟨k, l, g⟩
theorem NoIv.cases {X Y : Nat} (h : NoIv X Y) (hX : X < 18446744073709551616) (hY : Y < 18446744073709551616) :
    NaNw X ∨ (∃ k, Key X k ∧ NaNw Y) ∨ ∃ k l, Key X k ∧ Key Y l ∧ (l < k ∨ (k ≤ l ∧ k = INF) ∨ (k ≤ l ∧ k < INF ∧ l = -(INF : Int))) := by
  rcases word_cases X hX with ⟨k, hk⟩ | hk
  · rcases word_cases Y hY with ⟨l, hl⟩ | hl
    · right; right
      refine ⟨k, l, hk, hl, ?_⟩
      have h1 := hk.bd
      have h2 := hl.bd
      rcases Int.lt_or_le l k with g | g
      · exact .inl g
      · rcases Int.lt_or_le k INF with g1 | g1
        · rcases Int.lt_or_le (-(INF : Int)) l with g2 | g2
          · exact absurd ⟨hk, hl, g, g1, g2⟩ (h k l)
          · exact .inr (.inr ⟨g, g1, by omega⟩)
        · exact .inr (.inl ⟨g, by omega⟩)
    · exact .inr (.inl ⟨k, hk, hl⟩)
  · exact .inl hk
theorem Iv.at {k l : Int} (h : k ≤ l) (h1 : k < INF) (h2 : -(INF : Int) < l) (hk : -(INF : Int) ≤ k) (hl : l ≤ INF) : Iv (B k) (B l) k l :=
  ⟨Key.of_B hk (by omega), Key.of_B (by omega) hl, h, h1, h2⟩
theorem Iv.unique {X Y : Nat} {k l k' l' : Int} (h : Iv X Y k l) (h' : Iv X Y k' l') : k = k' ∧ l = l' := ⟨h.x.unique h'.x, h.y.unique h'.y⟩

theorem isInfP {x : Nat} {k : Int} (hx : Key x k) (w : World) :
    Calls Tryz.prog 60 #[.float .f64 x, .int .i64 1] w fun e w' => e = .returned (.bool (decide (k = INF))) ∧ w' = w := by
  have h1 : (Ieee.double.order x 9218868437227405311 == some .gt) = decide (k = INF) := by
    rw [hx.order Key.max]
    have := hx.bd
    by_cases c : k = INF
    · rw [Int.compare_eq_gt.2 (by omega)]; simp [c]
    · have : compare k (INF - 1) ≠ .gt := by rw [Ne, Int.compare_eq_gt]; omega
      simp [c, this]
  go_enter Tryz.func60, Tryz.ntmps60
  go_wp2
  go_ret
  exact ⟨rfl, rfl⟩
theorem isInfN {x : Nat} {k : Int} (hx : Key x k) (w : World) :
    Calls Tryz.prog 60 #[.float .f64 x, .int .i64 (-1)] w fun e w' => e = .returned (.bool (decide (k = -(INF : Int)))) ∧ w' = w := by
  obtain ⟨x', hn, hx'⟩ := hx.neg
  have h1 : (Ieee.double.order x' 9218868437227405311 == some .gt) = decide (k = -(INF : Int)) := by
    rw [hx'.order Key.max]
    have := hx.bd
    by_cases c : k = -(INF : Int)
    · rw [Int.compare_eq_gt.2 (by omega)]; simp [c]
    · have : compare (-k) (INF - 1) ≠ .gt := by rw [Ne, Int.compare_eq_gt]; omega
      simp [c, this]
  go_enter Tryz.func60, Tryz.ntmps60
  go_wp2
  go_ret
  exact ⟨rfl, rfl⟩

-- None
theorem none_no {X Y : Nat} {k l : Int} (h : Iv X Y k l) (w : World) :
    Calls Tryz.prog 121 #[.agg #[.float .f64 X, .float .f64 Y]] w fun e w' => e = .returned (.bool false) ∧ Below w.heap.size w w' := by
  have i1 := isInfP h.x
  have i2 := isInfN h.y
  have e1 := h.lo
  have e2 := h.hi
  rw [decide_eq_false (by omega)] at i1 i2
  rcases Int.lt_or_eq_of_le h.le with g | g
  · have o := h.x.olt h.y g
    clear h e1 e2 g
    go_enter Tryz.func121, Tryz.ntmps121
    go_wp2_with (first
      | (go_at_call 60; with_reducible refine (i1 _).mono ?_; rintro e w' ⟨rfl, rfl⟩)
      | (go_at_call 60; with_reducible refine (i2 _).mono ?_; rintro e w' ⟨rfl, rfl⟩))
    go_ret
    exact ⟨rfl, (Below.refl _ _).alloc (Nat.le_refl _) _⟩
  · have o := h.x.oeq h.y g
    clear h e1 e2 g
    go_enter Tryz.func121, Tryz.ntmps121
    go_wp2_with (first
      | (go_at_call 60; with_reducible refine (i1 _).mono ?_; rintro e w' ⟨rfl, rfl⟩)
      | (go_at_call 60; with_reducible refine (i2 _).mono ?_; rintro e w' ⟨rfl, rfl⟩))
    go_ret
    exact ⟨rfl, (Below.refl _ _).alloc (Nat.le_refl _) _⟩
theorem none_far {X Y : Nat} (h : Ieee.double.order X Y = none ∨ Ieee.double.order X Y = some .gt) (w : World) :
    Calls Tryz.prog 121 #[.agg #[.float .f64 X, .float .f64 Y]] w fun e w' => e = .returned (.bool true) ∧ Below w.heap.size w w' := by
  rcases h with h | h
  all_goals
    go_enter Tryz.func121, Tryz.ntmps121
    go_wp2
    go_ret
    exact ⟨rfl, (Below.refl _ _).alloc (Nat.le_refl _) _⟩
theorem none_inf {X Y : Nat} {o : Ordering} (h : Ieee.double.order X Y = some o) (ho : o = .lt ∨ o = .eq)
    (i1 : ∀ w, Calls Tryz.prog 60 #[.float .f64 X, .int .i64 1] w fun e w' => e = .returned (.bool true) ∧ w' = w) (w : World) :
    Calls Tryz.prog 121 #[.agg #[.float .f64 X, .float .f64 Y]] w fun e w' => e = .returned (.bool true) ∧ Below w.heap.size w w' := by
  rcases ho with rfl | rfl
  all_goals
    go_enter Tryz.func121, Tryz.ntmps121
    go_wp2_with (go_at_call 60; refine (i1 _).mono ?_; rintro e w' ⟨rfl, rfl⟩)
    go_ret
    exact ⟨rfl, (Below.refl _ _).alloc (Nat.le_refl _) _⟩
theorem none_ninf {X Y : Nat} {o : Ordering} (h : Ieee.double.order X Y = some o) (ho : o = .lt ∨ o = .eq)
    (i1 : ∀ w, Calls Tryz.prog 60 #[.float .f64 X, .int .i64 1] w fun e w' => e = .returned (.bool false) ∧ w' = w)
    (i2 : ∀ w, Calls Tryz.prog 60 #[.float .f64 Y, .int .i64 (-1)] w fun e w' => e = .returned (.bool true) ∧ w' = w) (w : World) :
    Calls Tryz.prog 121 #[.agg #[.float .f64 X, .float .f64 Y]] w fun e w' => e = .returned (.bool true) ∧ Below w.heap.size w w' := by
  rcases ho with rfl | rfl
  all_goals
    go_enter Tryz.func121, Tryz.ntmps121
    go_wp2_with (first
      | (go_at_call 60; with_reducible refine (i1 _).mono ?_; rintro e w' ⟨rfl, rfl⟩)
      | (go_at_call 60; with_reducible refine (i2 _).mono ?_; rintro e w' ⟨rfl, rfl⟩))
    go_ret
    exact ⟨rfl, (Below.refl _ _).alloc (Nat.le_refl _) _⟩
theorem cmp_le {k l : Int} (h : k ≤ l) : compare k l = .lt ∨ compare k l = .eq := by
  rcases Int.lt_or_eq_of_le h with g | g
  · exact .inl (Int.compare_eq_lt.2 g)
  · exact .inr (by rw [g]; simp)
theorem none_yes {X Y : Nat} (h : NoIv X Y) (hX : X < 18446744073709551616) (hY : Y < 18446744073709551616) (w : World) :
    Calls Tryz.prog 121 #[.agg #[.float .f64 X, .float .f64 Y]] w fun e w' => e = .returned (.bool true) ∧ Below w.heap.size w w' := by
  rcases h.cases hX hY with g | ⟨k, g1, g⟩ | ⟨k, l, g1, g2, g | ⟨g, g3⟩ | ⟨g, g3, g4⟩⟩
  · exact none_far (.inl (g.l _)) w
  · exact none_far (.inl (g.r _)) w
  · exact none_far (.inr (g1.ogt g2 g)) w
  · have i1 := isInfP g1
    rw [decide_eq_true g3] at i1
    exact none_inf (g1.order g2) (cmp_le g) i1 w
  · have i1 := isInfP g1
    have i2 := isInfN g2
    rw [decide_eq_false (by omega)] at i1
    rw [decide_eq_true g4] at i2
    exact none_ninf (g1.order g2) (cmp_le g) i1 i2 w

theorem max_key {x y : Nat} {k l : Int} (hx : Key x k) (hy : Key y l) : ∃ m, Key m (max k l) ∧ (x = B k → y = B l → m = B (max k l)) ∧ ∀ ts t w, (Builtin.max_ ts t #[.float .f64 x, .float .f64 y]).run Tryz.prog w = .ok (.float .f64 m) w := by
  have ho := hx.order hy
  have h' : FloatKind.f64.format.order x y = some (compare k l) := ho
  rcases Int.lt_trichotomy k l with g | g | g
  · have e : max k l = l := by omega
    rw [Int.compare_eq_lt.2 g] at h'
    exact ⟨y, by rw [e]; exact hy, fun _ h => by rw [e]; exact h, fun ts t w => by simp [Builtin.max_, Builtin.max2, h']⟩
  · have e : max k l = k := by omega
    rw [g] at h'
    have h2 : compare l l = .eq := by simp
    rw [h2] at h'
    refine ⟨if (FloatKind.f64.decode x).neg then y else x, ?_, fun h1 h3 => ?_, fun ts t w => by simp [Builtin.max_, Builtin.max2, h']⟩
    · rw [e]; split
      · rw [g]; exact hy
      · exact hx
    · rw [e]; split
      · rw [h3, g]
      · exact h1
  · have e : max k l = k := by omega
    rw [Int.compare_eq_gt.2 g] at h'
    exact ⟨x, by rw [e]; exact hx, fun h _ => by rw [e]; exact h, fun ts t w => by simp [Builtin.max_, Builtin.max2, h']⟩
theorem min_key {x y : Nat} {k l : Int} (hx : Key x k) (hy : Key y l) : ∃ m, Key m (min k l) ∧ (x = B k → y = B l → m = B (min k l)) ∧ ∀ ts t w, (Builtin.min_ ts t #[.float .f64 x, .float .f64 y]).run Tryz.prog w = .ok (.float .f64 m) w := by
  have ho := hx.order hy
  have h' : FloatKind.f64.format.order x y = some (compare k l) := ho
  rcases Int.lt_trichotomy k l with g | g | g
  · have e : min k l = k := by omega
    rw [Int.compare_eq_lt.2 g] at h'
    exact ⟨x, by rw [e]; exact hx, fun h _ => by rw [e]; exact h, fun ts t w => by simp [Builtin.min_, Builtin.min2, h']⟩
  · have e : min k l = k := by omega
    rw [g] at h'
    have h2 : compare l l = .eq := by simp
    rw [h2] at h'
    refine ⟨if (FloatKind.f64.decode x).neg then x else y, ?_, fun h1 h3 => ?_, fun ts t w => by simp [Builtin.min_, Builtin.min2, h']⟩
    · rw [e]; split
      · exact hx
      · rw [g]; exact hy
    · rw [e]; split
      · exact h1
      · rw [h3, g]
  · have e : min k l = l := by omega
    rw [Int.compare_eq_gt.2 g] at h'
    exact ⟨y, by rw [e]; exact hy, fun _ h => by rw [e]; exact h, fun ts t w => by simp [Builtin.min_, Builtin.min2, h']⟩
theorem max_B {k l : Int} (hk : Pl k) (hl : Pl l) (ts : Array TypeId) (t : TypeId) (w : World) : (Builtin.max_ ts t #[.float .f64 (B k), .float .f64 (B l)]).run Tryz.prog w = .ok (.float .f64 (B (max k l))) w := by
  obtain ⟨m, _, h1, h2⟩ := max_key (Key.at hk) (Key.at hl)
  rw [h2, h1 rfl rfl]
theorem min_B {k l : Int} (hk : Pl k) (hl : Pl l) (ts : Array TypeId) (t : TypeId) (w : World) : (Builtin.min_ ts t #[.float .f64 (B k), .float .f64 (B l)]).run Tryz.prog w = .ok (.float .f64 (B (min k l))) w := by
  obtain ⟨m, _, h1, h2⟩ := min_key (Key.at hk) (Key.at hl)
  rw [h2, h1 rfl rfl]
theorem plain_key {x : Nat} {k : Int} (hx : Key x k) (w : World) :
    Calls Tryz.prog 136 #[.float .f64 x] w fun e w' => e = .returned (.float .f64 (B k)) ∧ w' = w := by
  obtain ⟨s, r, rfl, hr, rfl⟩ := hx
  rw [B_ix]
  exact plain_any s r (fin_lt hr) w
theorem infp (w : World) : Calls Tryz.prog 141 #[.int .i64 1] w fun e w' => e = .returned (.float .f64 (B INF)) ∧ w' = w := by
  rw [B_inf]; exact inf_pos w
theorem infn (w : World) : Calls Tryz.prog 141 #[.int .i64 (-1)] w fun e w' => e = .returned (.float .f64 (B (-INF))) ∧ w' = w := by
  rw [B_ninf]; exact inf_neg w
end Go.Proofs.YtacnclofbnafiabGreatDoor
