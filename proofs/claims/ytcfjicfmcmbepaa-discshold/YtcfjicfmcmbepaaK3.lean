import Derived.Test.YtcfjicfmcmbepaaK2
namespace Go.Proofs.Ytcfjicfmcmbepaa
open Go.RowKit Fl

/-- A place of a float. -/
def Pl (k : Int) : Prop := -(INF : Int) ≤ k ∧ k ≤ INF
theorem Key.pl {x : Nat} {k : Int} (h : Key x k) : Pl k := h.bd
theorem Key.at {k : Int} (h : Pl k) : Key (B k) k := Key.of_B h.1 h.2

theorem AddK.ex {x y : Nat} {k l : Int} (hx : Key x k) (hy : Key y l) : ∃ D P, AddK k l D P
    ∧ (∀ w, Calls Try.prog 83 #[.float .f64 x, .float .f64 y] w fun e w' => e = .returned (.tuple #[.float .f64 (B D), .float .f64 (B P)]) ∧ Below w.heap.size w w')
    ∧ (∀ w, Calls Try.prog 23 #[.float .f64 x, .float .f64 y, .bool true] w fun e w' => e = .returned (.float .f64 (B D)) ∧ Below w.heap.size w w')
    ∧ (∀ w, Calls Try.prog 23 #[.float .f64 x, .float .f64 y, .bool false] w fun e w' => e = .returned (.float .f64 (B P)) ∧ Below w.heap.size w w') := by
  obtain ⟨s, r, rfl, hr, rfl⟩ := hx
  obtain ⟨t, q, rfl, hq, rfl⟩ := hy
  obtain ⟨D, P, h1, h2⟩ := Add_any s t r q (fin_lt hr) (fin_lt hq)
  obtain ⟨d, p, rfl, rfl, h3⟩ := h1.key hr hq
  exact ⟨d, p, h3, h2, refAdd_any s t true r q _ _ (fin_lt hr) (fin_lt hq) h1, refAdd_any s t false r q _ _ (fin_lt hr) (fin_lt hq) h1⟩
theorem MulK.ex {x y : Nat} {k l : Int} (hx : Key x k) (hy : Key y l) : ∃ D P, MulK k l D P
    ∧ (∀ w, Calls Try.prog 84 #[.float .f64 x, .float .f64 y] w fun e w' => e = .returned (.tuple #[.float .f64 (B D), .float .f64 (B P)]) ∧ Below w.heap.size w w')
    ∧ (∀ w, Calls Try.prog 24 #[.float .f64 x, .float .f64 y, .bool true] w fun e w' => e = .returned (.float .f64 (B D)) ∧ Below w.heap.size w w')
    ∧ (∀ w, Calls Try.prog 24 #[.float .f64 x, .float .f64 y, .bool false] w fun e w' => e = .returned (.float .f64 (B P)) ∧ Below w.heap.size w w') := by
  obtain ⟨s, r, rfl, hr, rfl⟩ := hx
  obtain ⟨t, q, rfl, hq, rfl⟩ := hy
  obtain ⟨D, P, h1, h2⟩ := Mul_any s t r q (fin_lt hr) (fin_lt hq)
  obtain ⟨d, p, rfl, rfl, h3⟩ := h1.key hr hq
  exact ⟨d, p, h3, h2, refMul_any s t true r q _ _ (fin_lt hr) (fin_lt hq) h1, refMul_any s t false r q _ _ (fin_lt hr) (fin_lt hq) h1⟩
theorem DivK.ex {x y : Nat} {k l : Int} (hx : Key x k) (hy : Key y l) (hl : 0 ≤ l) : ∃ D P, DivK k l D P
    ∧ (∀ w, Calls Try.prog 85 #[.float .f64 x, .float .f64 y] w fun e w' => e = .returned (.tuple #[.float .f64 (B D), .float .f64 (B P)]) ∧ Below w.heap.size w w')
    ∧ (∀ w, Calls Try.prog 25 #[.float .f64 x, .float .f64 y, .bool true] w fun e w' => e = .returned (.float .f64 (B D)) ∧ Below w.heap.size w w')
    ∧ (∀ w, Calls Try.prog 25 #[.float .f64 x, .float .f64 y, .bool false] w fun e w' => e = .returned (.float .f64 (B P)) ∧ Below w.heap.size w w') := by
  obtain ⟨s, r, rfl, hr, rfl⟩ := hx
  obtain ⟨t, q, rfl, hq, rfl⟩ := hy
  obtain ⟨D, P, h1, h2⟩ := Div_any s t r q (fin_lt hr) (fin_lt hq)
  obtain ⟨d, p, rfl, rfl, h3⟩ := h1.key hr hq hl
  exact ⟨d, p, h3, h2, refDiv_any s t true r q _ _ (fin_lt hr) (fin_lt hq) h1, refDiv_any s t false r q _ _ (fin_lt hr) (fin_lt hq) h1⟩
theorem SqrtK.ex {x : Nat} {k : Int} (hx : Key x k) (hk : 0 ≤ k) : ∃ D P, SqrtK k D P
    ∧ (∀ w, Calls Try.prog 86 #[.float .f64 x] w fun e w' => e = .returned (.tuple #[.float .f64 (B D), .float .f64 (B P)]) ∧ Below w.heap.size w w')
    ∧ (∀ w, Calls Try.prog 26 #[.float .f64 x, .bool true] w fun e w' => e = .returned (.float .f64 (B D)) ∧ Below w.heap.size w w')
    ∧ (∀ w, Calls Try.prog 26 #[.float .f64 x, .bool false] w fun e w' => e = .returned (.float .f64 (B P)) ∧ Below w.heap.size w w') := by
  obtain ⟨s, r, rfl, hr, rfl⟩ := hx
  obtain ⟨D, P, h1, h2⟩ := Sqrt_all s r (fin_lt hr)
  obtain ⟨d, p, rfl, rfl, h3⟩ := h1.key hr hk
  exact ⟨d, p, h3, h2, refSqrt_any s true r _ _ (fin_lt hr) h1, refSqrt_any s false r _ _ (fin_lt hr) h1⟩

/-- DOWN and UP as functions of places. -/
structure Ops where
  aD : Int → Int → Int
  aU : Int → Int → Int
  mD : Int → Int → Int
  mU : Int → Int → Int
  dD : Int → Int → Int
  dU : Int → Int → Int
  sD : Int → Int
  sU : Int → Int
  add : ∀ {k l}, Pl k → Pl l → AddK k l (aD k l) (aU k l)
  mul : ∀ {k l}, Pl k → Pl l → MulK k l (mD k l) (mU k l)
  div : ∀ {k l}, Pl k → Pl l → 0 ≤ l → DivK k l (dD k l) (dU k l)
  sqrt : ∀ {k}, Pl k → 0 ≤ k → SqrtK k (sD k) (sU k)
theorem pick2 {R : Int → Int → Int → Int → Prop} {Q : Int → Int → Prop} (h : ∀ k l, Q k l → ∃ D P, R k l D P) : ∃ f g : Int → Int → Int, ∀ k l, Q k l → R k l (f k l) (g k l) := by
  classical
  have h1 : ∀ k l, ∃ d : Int × Int, Q k l → R k l d.1 d.2 := by
    intro k l
    by_cases hq : Q k l
    · obtain ⟨D, P, hr⟩ := h k l hq
      exact ⟨(D, P), fun _ => hr⟩
    · exact ⟨(0, 0), fun g => absurd g hq⟩
  exact ⟨fun k l => (Classical.choose (h1 k l)).1, fun k l => (Classical.choose (h1 k l)).2, fun k l => Classical.choose_spec (h1 k l)⟩
theorem ops : Nonempty Ops := by
  obtain ⟨a, a', ha⟩ := pick2 (R := AddK) (Q := fun k l => Pl k ∧ Pl l) fun k l h => by
    obtain ⟨D, P, g, _⟩ := AddK.ex (Key.at h.1) (Key.at h.2); exact ⟨D, P, g⟩
  obtain ⟨m, m', hm⟩ := pick2 (R := MulK) (Q := fun k l => Pl k ∧ Pl l) fun k l h => by
    obtain ⟨D, P, g, _⟩ := MulK.ex (Key.at h.1) (Key.at h.2); exact ⟨D, P, g⟩
  obtain ⟨d, d', hd⟩ := pick2 (R := DivK) (Q := fun k l => Pl k ∧ Pl l ∧ 0 ≤ l) fun k l h => by
    obtain ⟨D, P, g, _⟩ := DivK.ex (Key.at h.1) (Key.at h.2.1) h.2.2; exact ⟨D, P, g⟩
  obtain ⟨s, s', hs⟩ := pick2 (R := fun k _ => SqrtK k) (Q := fun k _ => Pl k ∧ 0 ≤ k) fun k _ h => by
    obtain ⟨D, P, g, _⟩ := SqrtK.ex (Key.at h.1) h.2; exact ⟨D, P, g⟩
  exact ⟨⟨a, a', m, m', d, d', fun k => s k 0, fun k => s' k 0, fun h g => ha _ _ ⟨h, g⟩, fun h g => hm _ _ ⟨h, g⟩, fun h g p => hd _ _ ⟨h, g, p⟩, fun h p => hs _ _ ⟨h, p⟩⟩⟩

theorem Ops.add_p (F : Ops) {x y : Nat} {k l : Int} (hx : Key x k) (hy : Key y l) (w : World) :
    Calls Try.prog 83 #[.float .f64 x, .float .f64 y] w fun e w' => e = .returned (.tuple #[.float .f64 (B (F.aD k l)), .float .f64 (B (F.aU k l))]) ∧ Below w.heap.size w w' := by
  obtain ⟨D, P, h1, h2, _⟩ := AddK.ex hx hy
  obtain ⟨rfl, rfl⟩ := h1.unique (F.add hx.pl hy.pl) hx.bd.1 hx.bd.2 hy.bd.1 hy.bd.2
  exact h2 w
theorem Ops.add_d (F : Ops) {x y : Nat} {k l : Int} (hx : Key x k) (hy : Key y l) (w : World) :
    Calls Try.prog 23 #[.float .f64 x, .float .f64 y, .bool true] w fun e w' => e = .returned (.float .f64 (B (F.aD k l))) ∧ Below w.heap.size w w' := by
  obtain ⟨D, P, h1, _, h2, _⟩ := AddK.ex hx hy
  obtain ⟨rfl, rfl⟩ := h1.unique (F.add hx.pl hy.pl) hx.bd.1 hx.bd.2 hy.bd.1 hy.bd.2
  exact h2 w
theorem Ops.add_u (F : Ops) {x y : Nat} {k l : Int} (hx : Key x k) (hy : Key y l) (w : World) :
    Calls Try.prog 23 #[.float .f64 x, .float .f64 y, .bool false] w fun e w' => e = .returned (.float .f64 (B (F.aU k l))) ∧ Below w.heap.size w w' := by
  obtain ⟨D, P, h1, _, _, h2⟩ := AddK.ex hx hy
  obtain ⟨rfl, rfl⟩ := h1.unique (F.add hx.pl hy.pl) hx.bd.1 hx.bd.2 hy.bd.1 hy.bd.2
  exact h2 w
theorem Ops.mul_p (F : Ops) {x y : Nat} {k l : Int} (hx : Key x k) (hy : Key y l) (w : World) :
    Calls Try.prog 84 #[.float .f64 x, .float .f64 y] w fun e w' => e = .returned (.tuple #[.float .f64 (B (F.mD k l)), .float .f64 (B (F.mU k l))]) ∧ Below w.heap.size w w' := by
  obtain ⟨D, P, h1, h2, _⟩ := MulK.ex hx hy
  obtain ⟨rfl, rfl⟩ := h1.unique (F.mul hx.pl hy.pl) hx.bd.1 hx.bd.2 hy.bd.1 hy.bd.2
  exact h2 w
theorem Ops.mul_d (F : Ops) {x y : Nat} {k l : Int} (hx : Key x k) (hy : Key y l) (w : World) :
    Calls Try.prog 24 #[.float .f64 x, .float .f64 y, .bool true] w fun e w' => e = .returned (.float .f64 (B (F.mD k l))) ∧ Below w.heap.size w w' := by
  obtain ⟨D, P, h1, _, h2, _⟩ := MulK.ex hx hy
  obtain ⟨rfl, rfl⟩ := h1.unique (F.mul hx.pl hy.pl) hx.bd.1 hx.bd.2 hy.bd.1 hy.bd.2
  exact h2 w
theorem Ops.mul_u (F : Ops) {x y : Nat} {k l : Int} (hx : Key x k) (hy : Key y l) (w : World) :
    Calls Try.prog 24 #[.float .f64 x, .float .f64 y, .bool false] w fun e w' => e = .returned (.float .f64 (B (F.mU k l))) ∧ Below w.heap.size w w' := by
  obtain ⟨D, P, h1, _, _, h2⟩ := MulK.ex hx hy
  obtain ⟨rfl, rfl⟩ := h1.unique (F.mul hx.pl hy.pl) hx.bd.1 hx.bd.2 hy.bd.1 hy.bd.2
  exact h2 w
theorem Ops.div_p (F : Ops) {x y : Nat} {k l : Int} (hx : Key x k) (hy : Key y l) (hl : 0 ≤ l) (w : World) :
    Calls Try.prog 85 #[.float .f64 x, .float .f64 y] w fun e w' => e = .returned (.tuple #[.float .f64 (B (F.dD k l)), .float .f64 (B (F.dU k l))]) ∧ Below w.heap.size w w' := by
  obtain ⟨D, P, h1, h2, _⟩ := DivK.ex hx hy hl
  obtain ⟨rfl, rfl⟩ := h1.unique (F.div hx.pl hy.pl hl) hx.bd.1 hx.bd.2 hl hy.bd.2
  exact h2 w
theorem Ops.div_d (F : Ops) {x y : Nat} {k l : Int} (hx : Key x k) (hy : Key y l) (hl : 0 ≤ l) (w : World) :
    Calls Try.prog 25 #[.float .f64 x, .float .f64 y, .bool true] w fun e w' => e = .returned (.float .f64 (B (F.dD k l))) ∧ Below w.heap.size w w' := by
  obtain ⟨D, P, h1, _, h2, _⟩ := DivK.ex hx hy hl
  obtain ⟨rfl, rfl⟩ := h1.unique (F.div hx.pl hy.pl hl) hx.bd.1 hx.bd.2 hl hy.bd.2
  exact h2 w
theorem Ops.div_u (F : Ops) {x y : Nat} {k l : Int} (hx : Key x k) (hy : Key y l) (hl : 0 ≤ l) (w : World) :
    Calls Try.prog 25 #[.float .f64 x, .float .f64 y, .bool false] w fun e w' => e = .returned (.float .f64 (B (F.dU k l))) ∧ Below w.heap.size w w' := by
  obtain ⟨D, P, h1, _, _, h2⟩ := DivK.ex hx hy hl
  obtain ⟨rfl, rfl⟩ := h1.unique (F.div hx.pl hy.pl hl) hx.bd.1 hx.bd.2 hl hy.bd.2
  exact h2 w
theorem Ops.sqrt_p (F : Ops) {x : Nat} {k : Int} (hx : Key x k) (hk : 0 ≤ k) (w : World) :
    Calls Try.prog 86 #[.float .f64 x] w fun e w' => e = .returned (.tuple #[.float .f64 (B (F.sD k)), .float .f64 (B (F.sU k))]) ∧ Below w.heap.size w w' := by
  obtain ⟨D, P, h1, h2, _⟩ := SqrtK.ex hx hk
  obtain ⟨rfl, rfl⟩ := h1.unique (F.sqrt hx.pl hk) hk hx.bd.2
  exact h2 w
theorem Ops.sqrt_d (F : Ops) {x : Nat} {k : Int} (hx : Key x k) (hk : 0 ≤ k) (w : World) :
    Calls Try.prog 26 #[.float .f64 x, .bool true] w fun e w' => e = .returned (.float .f64 (B (F.sD k))) ∧ Below w.heap.size w w' := by
  obtain ⟨D, P, h1, _, h2, _⟩ := SqrtK.ex hx hk
  obtain ⟨rfl, rfl⟩ := h1.unique (F.sqrt hx.pl hk) hk hx.bd.2
  exact h2 w
theorem Ops.sqrt_u (F : Ops) {x : Nat} {k : Int} (hx : Key x k) (hk : 0 ≤ k) (w : World) :
    Calls Try.prog 26 #[.float .f64 x, .bool false] w fun e w' => e = .returned (.float .f64 (B (F.sU k))) ∧ Below w.heap.size w w' := by
  obtain ⟨D, P, h1, _, _, h2⟩ := SqrtK.ex hx hk
  obtain ⟨rfl, rfl⟩ := h1.unique (F.sqrt hx.pl hk) hk hx.bd.2
  exact h2 w
end Go.Proofs.Ytcfjicfmcmbepaa
