import Derived.Test.YtacnclofbnafiabGreatDoorPC
import Derived.Test.YtacnclofbnafiabGreatDoorPG
namespace Go.Proofs.YtacnclofbnafiabGreatDoor
open Go.RowKit Fl

structure Bx where
  a : Nat
  b : Nat
  c : Nat
  d : Nat
structure Dc where
  a : Nat
  b : Nat
  r : Nat
def Bx.v (x : Bx) : Value := .agg #[.float .f64 x.a, .float .f64 x.b, .float .f64 x.c, .float .f64 x.d]
def Dc.v (x : Dc) : Value := .agg #[.complex .f64 x.a x.b, .float .f64 x.r]
def Bx.ok (x : Bx) : Prop := W64 x.a ∧ W64 x.b ∧ W64 x.c ∧ W64 x.d
def Dc.ok (x : Dc) : Prop := W64 x.a ∧ W64 x.b ∧ W64 x.r
/-- What stands on the stack. -/
inductive St where
  | box (x : Bx)
  | disc (x : Dc)
def St.ty : St → TypeId
  | .box _ => 121
  | .disc _ => 124
def St.un : St → Value
  | .box x => x.v
  | .disc x => x.v
def St.v (s : St) : Value := .iface s.ty s.un
def St.ok : St → Prop
  | .box x => x.ok
  | .disc x => x.ok
/-- A call that answers v, wherever it is made. -/
def Ret (f : FuncId) (args : Array Value) (v : Value) : Prop := ∀ w, Calls Tryz.prog f args w fun e w' => e = .returned v ∧ Below w.heap.size w w'
/-- What the plane's calls answer. -/
structure Plane where
  badd : Bx → Bx → Bx
  bsub : Bx → Bx → Bx
  bmul : Bx → Bx → Bx
  bconj : Bx → Bx
  dadd : Dc → Dc → Dc
  dsub : Dc → Dc → Dc
  dmul : Dc → Dc → Dc
  dconj : Dc → Dc
  toB : Dc → Bx
  toD : Bx → Dc
  hbadd : ∀ x y, x.ok → y.ok → (badd x y).ok ∧ Ret 85 #[x.v, y.v] (badd x y).v
  hbsub : ∀ x y, x.ok → y.ok → (bsub x y).ok ∧ Ret 86 #[x.v, y.v] (bsub x y).v
  hbmul : ∀ x y, x.ok → y.ok → (bmul x y).ok ∧ Ret 87 #[x.v, y.v] (bmul x y).v
  hbconj : ∀ x, x.ok → (bconj x).ok ∧ Ret 94 #[x.v] (bconj x).v
  hdadd : ∀ x y, x.ok → y.ok → (dadd x y).ok ∧ Ret 89 #[x.v, y.v] (dadd x y).v
  hdsub : ∀ x y, x.ok → y.ok → (dsub x y).ok ∧ Ret 90 #[x.v, y.v] (dsub x y).v
  hdmul : ∀ x y, x.ok → y.ok → (dmul x y).ok ∧ Ret 91 #[x.v, y.v] (dmul x y).v
  hdconj : ∀ x, x.ok → (dconj x).ok ∧ Ret 95 #[x.v] (dconj x).v
  htoB : ∀ x, x.ok → (toB x).ok ∧ Ret 84 #[x.v] (toB x).v
  htoD : ∀ x, x.ok → (toD x).ok ∧ Ret 88 #[x.v] (toD x).v
theorem choose2 {α β : Type} {R : α → α → β → Prop} {A : α → Prop} [Inhabited β] (h : ∀ x y, A x → A y → ∃ z, R x y z) : ∃ f : α → α → β, ∀ x y, A x → A y → R x y (f x y) := by
  have h' : ∀ p : α × α, ∃ z, A p.1 → A p.2 → R p.1 p.2 z := fun p => by
    by_cases c : A p.1 ∧ A p.2
    · obtain ⟨z, hz⟩ := h p.1 p.2 c.1 c.2
      exact ⟨z, fun _ _ => hz⟩
    · exact ⟨default, fun a b => absurd ⟨a, b⟩ c⟩
  obtain ⟨f, hf⟩ := Classical.axiomOfChoice h'
  exact ⟨fun x y => f (x, y), fun x y => hf (x, y)⟩
theorem choose1 {α β : Type} {R : α → β → Prop} {A : α → Prop} [Inhabited β] (h : ∀ x, A x → ∃ z, R x z) : ∃ f : α → β, ∀ x, A x → R x (f x) := by
  have h' : ∀ p : α, ∃ z, A p → R p z := fun p => by
    by_cases c : A p
    · obtain ⟨z, hz⟩ := h p c
      exact ⟨z, fun _ => hz⟩
    · exact ⟨default, fun a => absurd a c⟩
  exact Classical.axiomOfChoice h'
instance : Inhabited Bx := ⟨⟨0, 0, 0, 0⟩⟩
instance : Inhabited Dc := ⟨⟨0, 0, 0⟩⟩
theorem TotB2.has {f : FuncId} (h : TotB2 f) : ∀ x y : Bx, x.ok → y.ok → ∃ z : Bx, z.ok ∧ Ret f #[x.v, y.v] z.v := fun x y hx hy => by
  obtain ⟨e1, e2, e3, e4, h1, h2, h3, h4, hw⟩ := h _ _ _ _ _ _ _ _ hx.1 hx.2.1 hx.2.2.1 hx.2.2.2 hy.1 hy.2.1 hy.2.2.1 hy.2.2.2
  exact ⟨⟨e1, e2, e3, e4⟩, ⟨h1, h2, h3, h4⟩, hw⟩
theorem TotB1.has {f : FuncId} (h : TotB1 f) : ∀ x : Bx, x.ok → ∃ z : Bx, z.ok ∧ Ret f #[x.v] z.v := fun x hx => by
  obtain ⟨e1, e2, e3, e4, h1, h2, h3, h4, hw⟩ := h _ _ _ _ hx.1 hx.2.1 hx.2.2.1 hx.2.2.2
  exact ⟨⟨e1, e2, e3, e4⟩, ⟨h1, h2, h3, h4⟩, hw⟩
theorem TotD2.has {f : FuncId} (h : TotD2 f) : ∀ x y : Dc, x.ok → y.ok → ∃ z : Dc, z.ok ∧ Ret f #[x.v, y.v] z.v := fun x y hx hy => by
  obtain ⟨e1, e2, e3, h1, h2, h3, hw⟩ := h _ _ _ _ _ _ hx.1 hx.2.1 hx.2.2 hy.1 hy.2.1 hy.2.2
  exact ⟨⟨e1, e2, e3⟩, ⟨h1, h2, h3⟩, hw⟩
theorem TotD1.has {f : FuncId} (h : TotD1 f) : ∀ x : Dc, x.ok → ∃ z : Dc, z.ok ∧ Ret f #[x.v] z.v := fun x hx => by
  obtain ⟨e1, e2, e3, h1, h2, h3, hw⟩ := h _ _ _ hx.1 hx.2.1 hx.2.2
  exact ⟨⟨e1, e2, e3⟩, ⟨h1, h2, h3⟩, hw⟩
theorem plane (F : Ops) : Nonempty Plane := by
  obtain ⟨f1, h1⟩ := choose2 (boxAdd_tot F).has
  obtain ⟨f2, h2⟩ := choose2 (boxSub_tot F).has
  obtain ⟨f3, h3⟩ := choose2 (boxMul_tot F).has
  obtain ⟨f4, h4⟩ := choose1 boxConj_tot.has
  obtain ⟨f5, h5⟩ := choose2 (discAdd_tot F).has
  obtain ⟨f6, h6⟩ := choose2 (discSub_tot F).has
  obtain ⟨f7, h7⟩ := choose2 (discMul_tot F).has
  obtain ⟨f8, h8⟩ := choose1 discConj_tot.has
  obtain ⟨f9, h9⟩ := choose1 (A := Dc.ok) (R := fun x (z : Bx) => z.ok ∧ Ret 84 #[x.v] z.v) fun x hx => by
    obtain ⟨e1, e2, e3, e4, h1, h2, h3, h4, hw⟩ := toBox_tot F _ _ _ hx.1 hx.2.1 hx.2.2
    exact ⟨⟨e1, e2, e3, e4⟩, ⟨h1, h2, h3, h4⟩, hw⟩
  obtain ⟨f10, h10⟩ := choose1 (A := Bx.ok) (R := fun x (z : Dc) => z.ok ∧ Ret 88 #[x.v] z.v) fun x hx => by
    obtain ⟨e1, e2, e3, h1, h2, h3, hw⟩ := toDisc_tot F _ _ _ _ hx.1 hx.2.1 hx.2.2.1 hx.2.2.2
    exact ⟨⟨e1, e2, e3⟩, ⟨h1, h2, h3⟩, hw⟩
  exact ⟨⟨f1, f2, f3, f4, f5, f6, f7, f8, f9, f10, h1, h2, h3, h4, h5, h6, h7, h8, h9, h10⟩⟩
def Plane.asB (P : Plane) : St → Bx
  | .box x => x
  | .disc x => P.toB x
def Plane.asD (P : Plane) : St → Dc
  | .box x => P.toD x
  | .disc x => x
theorem Plane.asB_ok (P : Plane) : ∀ s : St, s.ok → (P.asB s).ok ∧ Ret 128 #[s.v] (P.asB s).v
  | .box _, h => ⟨h, fun w => asBox_b_w _ _ _ _ w⟩
  | .disc x, h => ⟨(P.htoB x h).1, fun w => asBox_d_w _ _ _ _ _ _ _ (P.htoB x h).2 w⟩
theorem Plane.asD_ok (P : Plane) : ∀ s : St, s.ok → (P.asD s).ok ∧ Ret 130 #[s.v] (P.asD s).v
  | .box x, h => ⟨(P.htoD x h).1, fun w => asDisc_b_w _ _ _ _ _ _ _ (P.htoD x h).2 w⟩
  | .disc _, h => ⟨h, fun w => asDisc_d_w _ _ _ w⟩
/-- What an operation over two sets makes of them, held in kind kd. -/
def Plane.op2 (P : Plane) (c kd : Int) (x y : St) : St :=
  if kd = 0 then .box ((if c = 43 then P.badd else if c = 45 then P.bsub else P.bmul) (P.asB x) (P.asB y))
  else .disc ((if c = 43 then P.dadd else if c = 45 then P.dsub else P.dmul) (P.asD x) (P.asD y))
def Plane.op1 (P : Plane) (c kd : Int) (x : St) : St :=
  if kd = 0 then .box (if c = 126 then P.bconj (P.asB x) else P.bmul (P.asB x) (P.asB x))
  else .disc (if c = 126 then P.dconj (P.asD x) else P.dmul (P.asD x) (P.asD x))
theorem Plane.op2_ok (P : Plane) (c kd : Int) {x y : St} (hx : x.ok) (hy : y.ok) : (P.op2 c kd x y).ok := by
  have bx := (P.asB_ok x hx).1
  have bY := (P.asB_ok y hy).1
  have dx := (P.asD_ok x hx).1
  have dy := (P.asD_ok y hy).1
  unfold Plane.op2
  split
  · show Bx.ok _
    split
    · exact (P.hbadd _ _ bx bY).1
    · split
      · exact (P.hbsub _ _ bx bY).1
      · exact (P.hbmul _ _ bx bY).1
  · show Dc.ok _
    split
    · exact (P.hdadd _ _ dx dy).1
    · split
      · exact (P.hdsub _ _ dx dy).1
      · exact (P.hdmul _ _ dx dy).1
theorem Plane.op1_ok (P : Plane) (c kd : Int) {x : St} (hx : x.ok) : (P.op1 c kd x).ok := by
  have bx := (P.asB_ok x hx).1
  have dx := (P.asD_ok x hx).1
  unfold Plane.op1
  split
  · show Bx.ok _
    split
    · exact (P.hbconj _ bx).1
    · exact (P.hbmul _ _ bx bx).1
  · show Dc.ok _
    split
    · exact (P.hdconj _ dx).1
    · exact (P.hdmul _ _ dx dx).1
/-- How many sets an operation takes. -/
def tk (c : Int) : Nat := if c = 126 ∨ c = 94 then 1 else 2
instance : Inhabited St := ⟨.box default⟩
def after (P : Plane) (c kd : Int) (st : List St) : List St :=
  if tk c = 1 then st.take (st.length - 1) ++ [P.op1 c kd (st.getD (st.length - 1) default)]
  else st.take (st.length - 2) ++ [P.op2 c kd (st.getD (st.length - 2) default) (st.getD (st.length - 1) default)]
/-- One byte: the error (0: none), the stack, what the policy was asked. -/
def stp (P : Plane) (bs ds : List St) (kdf : Nat → Int) (gd : Nat → Bool) (c i : Int) (st : List St) (qs : List (Int × Int)) : Int × List St × List (Int × Int) :=
  if 48 ≤ c ∧ c < 52 then (match bs[(c - 48).toNat]? with | some x => (0, st ++ [x], qs) | none => (3, st, qs))
  else if 97 ≤ c ∧ c < 101 then (match ds[(c - 97).toNat]? with | some x => (0, st ++ [x], qs) | none => (3, st, qs))
  else if idx c = -1 then (2, st, qs)
  else if st.length < tk c then (4, st, qs)
  else if gd qs.length = true then (0, after P c (kdf qs.length) st, qs ++ [(c, i)])
  else (5, st, qs ++ [(c, i)])
end Go.Proofs.YtacnclofbnafiabGreatDoor

namespace Go.Proofs.YtacnclofbnafiabGreatDoor
open Go.RowKit Fl

/-- Blocks of a run that stay as they are. -/
def Kp (w0 : World) (base br k : Nat) : Prop := w0.heap.size ≤ k ∧ k < base ∧ k ≠ br
structure TB (K : Nat → Prop) (g : Nat) (p q : Nat → Nat) : Prop where
  hg : K g
  hp : ∀ j, j < 10 → K (p j)
  hq : ∀ j, j < 2 → K (q j)
theorem Tab.only {T K : Nat → Prop} {w w' : World} {g : Nat} {p q : Nat → Nat} (h : Tab w g p q) (t : TB K g p q) (hO : Only T w w') (hT : ∀ k, K k → ¬ T k) : Tab w' g p q := by
  have k : ∀ {b o : Nat} {v : Value}, K b → w.cell? ⟨b, o, none⟩ = some v → w'.cell? ⟨b, o, none⟩ = some v := fun hk e => hO.cell e (hT _ hk)
  have hp := fun j hj => t.hp j hj
  exact ⟨k t.hg h.s0, k t.hg h.n0, k t.hg h.b0, k t.hg h.d0, k (t.hp _ (by omega)) h.p0, k (t.hp _ (by omega)) h.p1, k t.hg h.s1, k t.hg h.n1, k t.hg h.b1, k t.hg h.d1, k (t.hp _ (by omega)) h.p2, k (t.hp _ (by omega)) h.p3, k t.hg h.s2, k t.hg h.n2, k t.hg h.b2, k t.hg h.d2, k (t.hp _ (by omega)) h.p4, k (t.hp _ (by omega)) h.p5, k t.hg h.s3, k t.hg h.n3, k t.hg h.b3, k t.hg h.d3, k (t.hp _ (by omega)) h.p6, k (t.hp _ (by omega)) h.p7, k t.hg h.s4, k t.hg h.n4, k t.hg h.b4, k t.hg h.d4, k (t.hp _ (by omega)) h.p8, k (t.hp _ (by omega)) h.p9, k (t.hq _ (by omega)) h.q0, k (t.hq _ (by omega)) h.q1⟩
/-- A list of inputs in memory. -/
structure Ins (K : Nat → Prop) (w : World) (v : Value) (l : List St) : Prop where
  sh : ∃ ao c, v = .slice ao l.length c
  ce : ∀ j s, l[j]? = some s → ∃ g0 c, v = .slice (some ⟨g0, 0, none⟩) l.length c ∧ K g0 ∧ w.cell? ⟨g0, j, none⟩ = some s.v
theorem Ins.only {T K : Nat → Prop} {w w' : World} {v : Value} {l : List St} (h : Ins K w v l) (hO : Only T w w') (hT : ∀ k, K k → ¬ T k) : Ins K w' v l :=
  ⟨h.sh, fun j s e => by
    obtain ⟨g0, c, h1, h2, h3⟩ := h.ce j s e
    exact ⟨g0, c, h1, h2, hO.cell h3 (hT _ h2)⟩⟩
/-- How a policy answers; PI: its state; S: its blocks. -/
structure Pol (PI : World → List (Int × Int) → (Nat → Prop) → Prop) (pv : Value) (kdf : Nat → Int) (gd : Nat → Bool) : Prop where
  lt : ∀ {w qs S}, PI w qs S → ∀ k, S k → k < w.heap.size
  keep : ∀ {w w' qs S T}, PI w qs S → Only T w w' → (∀ k, S k → ¬ T k) → PI w' qs S
  good : ∀ n, gd n = true → kdf n = 0 ∨ kdf n = 1
  pick : ∀ {br at_ sg w qs S}, qs.length ≤ 100 → w.cell? ⟨br, 0, none⟩ = some (.int .i64 at_) → w.cell? ⟨br, 3, none⟩ = some pv → PI w qs S → Calls Tryz.prog 139 #[.pointer (some ⟨br, 0, none⟩), .int .u8 sg] w fun e w' => e = .returned (.tuple #[.int .i64 (kdf qs.length), .bool (gd qs.length)]) ∧ Only S w w' ∧ ∃ S', PI w' (qs ++ [(sg, at_)]) S' ∧ ∀ k, S' k → S k ∨ w.heap.size ≤ k
/-- A program under way. -/
structure EI (w0 : World) (S0 : Nat → Prop) (PI : World → List (Int × Int) → (Nat → Prop) → Prop) (pv : Value) (base br g : Nat) (p q : Nat → Nat) (vb vd : Value) (bs ds : List St) (i : Int) (st : List St) (qs : List (Int × Int)) (vs : Value) (S : Nat → Prop) (w : World) : Prop where
  ri : RI w base br i vb vd pv g vs (st.map St.v)
  pi : PI w qs S
  s0 : ∀ k, S k → S0 k ∨ w0.heap.size ≤ k
  s1 : ∀ k, S k → k < w0.heap.size ∨ base ≤ k
  s2 : ∀ k, S k → vs.ownBlock ≠ some k
  tab : Tab w g p q
  tb : TB (Kp w0 base br) g p q
  ib : Ins (Kp w0 base br) w vb bs
  idd : Ins (Kp w0 base br) w vd ds
  fr : Only S0 w0 w
  b0 : w0.heap.size ≤ br
  sk : ∀ s ∈ st, s.ok
section
variable {w0 : World} {S0 : Nat → Prop} {PI : World → List (Int × Int) → (Nat → Prop) → Prop} {pv : Value} {base br g : Nat} {p q : Nat → Nat} {vb vd : Value} {bs ds : List St} {i : Int} {st : List St} {qs : List (Int × Int)} {vs : Value} {S : Nat → Prop} {w : World}
theorem EI.own (h : EI w0 S0 PI pv base br g p q vb vd bs ds i st qs vs S w) {k : Nat} (e : vs.ownBlock = some k) : base ≤ k := (h.ri.hs.lt k e).1
theorem EI.apart (h : EI w0 S0 PI pv base br g p q vb vd bs ds i st qs vs S w) : ∀ k, Kp w0 base br k → ¬ (k = br ∨ vs.ownBlock = some k ∨ S k) := fun k hk c => by
  rcases c with c | c | c
  · exact hk.2.2 c
  · have := h.own c; have := hk.2.1; omega
  · have := h.s1 k c; have := hk.1; have := hk.2.1; omega
theorem EI.go (h : EI w0 S0 PI pv base br g p q vb vd bs ds i st qs vs S w) {w' : World} {vs' : Value} {S' : Nat → Prop} {i' : Int} {st' : List St} {qs' : List (Int × Int)} (ri' : RI w' base br i' vb vd pv g vs' (st'.map St.v)) (pi' : PI w' qs' S') (hO : Only (fun k => k = br ∨ vs.ownBlock = some k ∨ S k) w w') (hS : ∀ k, S' k → S k ∨ w.heap.size ≤ k) (s2' : ∀ k, S' k → vs'.ownBlock ≠ some k) (sk' : ∀ s ∈ st', s.ok) : EI w0 S0 PI pv base br g p q vb vd bs ds i' st' qs' vs' S' w' := by
  have sz := h.fr.size
  refine ⟨ri', pi', fun k hk => ?_, fun k hk => ?_, s2', h.tab.only h.tb hO h.apart, h.tb, h.ib.only hO h.apart, h.idd.only hO h.apart, ?_, h.b0, sk'⟩
  · rcases hS k hk with c | c
    · exact h.s0 k c
    · exact .inr (by omega)
  · rcases hS k hk with c | c
    · exact h.s1 k c
    · have := h.ri.ba; exact .inr (by omega)
  · refine h.fr.trans hO (fun _ => id) fun k hk c => ?_
    have := h.b0
    have := h.ri.bb
    rcases c with c | c | c
    · omega
    · have := h.own c; omega
    · rcases h.s0 k c with d | d
      · exact d
      · omega
theorem EI.below (h : EI w0 S0 PI pv base br g p q vb vd bs ds i st qs vs S w) {kdf : Nat → Int} {gd : Nat → Bool} (hP : Pol PI pv kdf gd) {u : World} (hB : Below w.heap.size w u) : EI w0 S0 PI pv base br g p q vb vd bs ds i st qs vs S u :=
  h.go (h.ri.only (Only.of_below (S := fun _ => False) hB) (fun c => c) (fun _ _ c => c)) (hP.keep h.pi (Only.of_below (S := fun _ => False) hB) (fun _ _ c => c)) (Only.of_below hB) (fun _ c => .inl c) h.s2 h.sk
/-- The program ends here. -/
def Flt (w0 : World) (S0 : Nat → Prop) (PI : World → List (Int × Int) → (Nat → Prop) → Prop) (i err : Int) (qs : List (Int × Int)) (e : Ending) (w' : World) : Prop :=
  ∃ bf S, e = .returned (.iface 87 (.pointer (some ⟨bf, 0, none⟩))) ∧ w'.cell? ⟨bf, 0, none⟩ = some (.int .i64 i) ∧ w'.cell? ⟨bf, 1, none⟩ = some (.int .i64 err) ∧ PI w' qs S ∧ (∀ k, S k → S0 k ∨ w0.heap.size ≤ k) ∧ Only S0 w0 w'
def Done (w0 : World) (S0 : Nat → Prop) (PI : World → List (Int × Int) → (Nat → Prop) → Prop) (pv : Value) (base br g : Nat) (p q : Nat → Nat) (vb vd : Value) (bs ds : List St) (i : Int) (r : Int × List St × List (Int × Int)) (e : Ending) (w' : World) : Prop :=
  (r.1 = 0 ∧ e = .returned .nilIface ∧ ∃ vs S, EI w0 S0 PI pv base br g p q vb vd bs ds i r.2.1 r.2.2 vs S w') ∨ (r.1 ≠ 0 ∧ Flt w0 S0 PI i r.1 r.2.2 e w')
theorem Done.shape {r : Int × List St × List (Int × Int)} {e : Ending} {w' : World} (h : Done w0 S0 PI pv base br g p q vb vd bs ds i r e w') : Done w0 S0 PI pv base br g p q vb vd bs ds i r e w' ∧ ((∃ t x, e = .returned (.iface t x)) ∨ e = .returned .nilIface) := by
  refine ⟨h, ?_⟩
  rcases h with ⟨_, h, _⟩ | ⟨_, bf, S, h, _⟩
  · exact .inr h
  · exact .inl ⟨_, _, h⟩
theorem EI.flt (h : EI w0 S0 PI pv base br g p q vb vd bs ds i st qs vs S w) {kdf : Nat → Int} {gd : Nat → Bool} (hP : Pol PI pv kdf gd) {u : World} (hB : Below w.heap.size w u) {err : Int} {bf : Nat} (c0 : u.cell? ⟨bf, 0, none⟩ = some (.int .i64 i)) (c1 : u.cell? ⟨bf, 1, none⟩ = some (.int .i64 err)) : Flt w0 S0 PI i err qs (.returned (.iface 87 (.pointer (some ⟨bf, 0, none⟩)))) u :=
  ⟨bf, S, rfl, c0, c1, (h.below hP hB).pi, h.s0, (h.below hP hB).fr⟩
theorem put_any (hE : EI w0 S0 PI pv base br g p q vb vd bs ds i st qs vs S w) {kdf : Nat → Int} {gd : Nat → Bool} (hP : Pol PI pv kdf gd) {K : Nat → Prop} {v : Value} {l : List St} (hI : Ins K w v l) (hl : l.length ≤ 100) (hok : ∀ s ∈ l, s.ok) (hst : st.length ≤ 100) (k : Nat) :
    Calls Tryz.prog 98 #[.pointer (some ⟨br, 0, none⟩), v, .int .i64 k] w (Done w0 S0 PI pv base br g p q vb vd bs ds i (match l[k]? with | some x => (0, st ++ [x], qs) | none => (3, st, qs))) := by
  cases e : l[k]? with
  | none =>
    obtain ⟨ao, c, rfl⟩ := hI.sh
    have hk : l.length ≤ k := List.getElem?_eq_none_iff.mp e
    refine (put_no br i k ao l.length c w hE.ri.r0 (by omega)).mono ?_
    rintro e' w' ⟨rfl, rfl⟩
    exact .inr ⟨by simp, hE.flt hP (bl_alloc (Below.refl _ _)) (by simp [go_sem]) (by simp [go_sem])⟩
  | some x =>
    obtain ⟨g0, c, rfl, _, hc⟩ := hI.ce k x e
    have hk : k < l.length := by
      rcases Nat.lt_or_ge k l.length with c | c
      · exact c
      · rw [List.getElem?_eq_none c] at e; cases e
    refine (put_ok base br g0 i vb vd pv g vs (st.map St.v) k l.length c x.ty x.un w hE.ri hk hl (by simpa using hst) hc).mono ?_
    rintro e' w' ⟨rfl, vs', hr, hO, nw⟩
    have hO' : Only (fun k => k = br ∨ vs.ownBlock = some k ∨ S k) w w' := ⟨hO.os, hO.tape, hO.output, hO.size, fun k hk hn => hO.block k hk fun c => hn (c.imp id .inl)⟩
    refine .inl ⟨rfl, rfl, vs', S, hE.go (by rw [List.map_append]; exact hr) (hP.keep hE.pi hO fun k hk c => ?_) hO' (fun _ c => .inl c) (fun k hk c => ?_) ?_⟩
    · rcases c with c | c
      · subst c
        have := hE.s1 _ hk; have := hE.b0; have := hE.ri.bb; omega
      · exact hE.s2 k hk c
    · rcases nw k c with d | d
      · exact hE.s2 k hk d
      · have := hP.lt hE.pi k hk; omega
    · intro s hs
      rcases List.mem_append.mp hs with c | c
      · exact hE.sk s c
      · rw [List.mem_singleton] at c; subst c
        exact hok _ (List.mem_of_getElem? e)
end
end Go.Proofs.YtacnclofbnafiabGreatDoor

namespace Go.Proofs.YtacnclofbnafiabGreatDoor
open Go.RowKit Fl

section
variable {w0 : World} {S0 : Nat → Prop} {PI : World → List (Int × Int) → (Nat → Prop) → Prop} {pv : Value} {base br g : Nat} {p q : Nat → Nat} {vb vd : Value} {bs ds : List St} {i : Int} {st : List St} {qs : List (Int × Int)} {vs : Value} {S : Nat → Prop} {w : World}
theorem EI.notS (h : EI w0 S0 PI pv base br g p q vb vd bs ds i st qs vs S w) : ¬ S br := fun c => by
  have := h.s1 _ c; have := h.b0; have := h.ri.bb; omega
theorem getD_some {l : List St} {k : Nat} (h : k < l.length) : l[k]? = some (l.getD k default) := by
  simp [List.getD, h]
theorem ok_getD {l : List St} (ho : ∀ s ∈ l, s.ok) {k : Nat} (h : k < l.length) : (l.getD k default).ok := ho _ (List.mem_of_getElem? (getD_some h))
/-- What the policy leaves. -/
def Rp (PI : World → List (Int × Int) → (Nat → Prop) → Prop) (S : Nat → Prop) (w : World) (qs : List (Int × Int)) (wp : World) : Prop := Only S w wp ∧ ∃ S', PI wp qs S' ∧ ∀ k, S' k → S k ∨ w.heap.size ≤ k
theorem only_below {T : Nat → Prop} {w u v : World} (hB : Below w.heap.size w u) (hO : Only T u v) : Only T w v := (Only.of_below (S := fun _ => False) hB).trans hO (fun _ c => c.elim) (fun _ _ c => c)
theorem pick_at (hE : EI w0 S0 PI pv base br g p q vb vd bs ds i st qs vs S w) {kdf : Nat → Int} {gd : Nat → Bool} (hP : Pol PI pv kdf gd) (hq : qs.length ≤ 100) (sg : Int) : ∀ u, Below w.heap.size w u → Calls Tryz.prog 139 #[.pointer (some ⟨br, 0, none⟩), .int .u8 sg] u fun e w' => e = .returned (.tuple #[.int .i64 (kdf qs.length), .bool (gd qs.length)]) ∧ Only S u w' ∧ Rp PI S w (qs ++ [(sg, i)]) w' := fun u hB => by
  have hu := hE.below hP hB
  refine (hP.pick hq hu.ri.r0 hu.ri.r3 hu.pi).mono ?_
  rintro e w' ⟨h1, h2, S', h3, h4⟩
  exact ⟨h1, h2, only_below hB h2, S', h3, fun k hk => (h4 k hk).imp (fun c => c) fun c => Nat.le_trans hB.size c⟩
/-- A stack whose topmost sets are made to one. -/
theorem EI.made (hE : EI w0 S0 PI pv base br g p q vb vd bs ds i st qs vs S w) {kdf : Nat → Int} {gd : Nat → Bool} (hP : Pol PI pv kdf gd) {gs cap rest : Nat} {z : St} {qs' : List (Int × Int)} {wp w' : World} (hvs : vs.ownBlock = some gs) (hz : z.ok) (hR : Rp PI S w qs' wp) (hr : RI w' base br i vb vd pv g (.slice (some ⟨gs, 0, none⟩) (rest + 1) cap) ((st.map St.v).take rest ++ [z.v])) (hO : Only (fun k => k = br ∨ k = gs) wp w') :
    ∃ vs S, EI w0 S0 PI pv base br g p q vb vd bs ds i (st.take rest ++ [z]) qs' vs S w' := by
  obtain ⟨h1, S', h2, h3⟩ := hR
  have hsz := hE.ri.hs.lt gs hvs
  have nb : ∀ k, S' k → ¬ (k = br ∨ k = gs) := fun k hk c => by
    rcases h3 k hk with d | d
    · rcases c with c | c
      · subst c; exact hE.notS d
      · subst c; exact hE.s2 _ d hvs
    · have := hE.ri.ba; have := hE.ri.bb
      rcases c with c | c <;> omega
  refine ⟨_, S', hE.go (by rw [List.map_append, List.map_take]; exact hr) (hP.keep h2 hO nb) (h1.trans hO (fun _ c => .inr (.inr c)) fun k _ c => c.elim .inl fun c => .inr (.inl (by rw [hvs, c]))) h3 (fun k hk c => nb k hk (.inr ?_)) ?_⟩
  · cases c; rfl
  · intro s hs
    rcases List.mem_append.mp hs with c | c
    · exact hE.sk s (List.mem_of_mem_take c)
    · rw [List.mem_singleton] at c; subst c; exact hz
theorem EI.tabAt (hE : EI w0 S0 PI pv base br g p q vb vd bs ds i st qs vs S w) : ∀ u w', Below w.heap.size w u → Only S u w' → Tab w' g p q := fun _ _ hB hO =>
  hE.tab.only hE.tb (only_below hB hO) fun k hk c => hE.apart k hk (.inr (.inr c))
theorem operate_any1 (P : Plane) (hE : EI w0 S0 PI pv base br g p q vb vd bs ds i st qs vs S w) {kdf : Nat → Int} {gd : Nat → Bool} (hP : Pol PI pv kdf gd) (hq : qs.length ≤ 100) (hst : st.length ≤ 100) (sg : Int) (htk : tk sg = 1) (pb pd : Nat)
    (hb : ∀ u gs off cap x, Tab u g p q → x.ok → u.cell? ⟨gs, off, none⟩ = some x.v → Calls Tryz.prog 131 #[.slice (some ⟨gs, off, none⟩) 1 cap, .pointer (some ⟨pb, 0, none⟩)] u fun e w' => e = .returned (.iface (P.op1 sg 0 x).ty (P.op1 sg 0 x).un) ∧ Below u.heap.size u w')
    (hd : ∀ u gs off cap x, Tab u g p q → x.ok → u.cell? ⟨gs, off, none⟩ = some x.v → Calls Tryz.prog 132 #[.slice (some ⟨gs, off, none⟩) 1 cap, .pointer (some ⟨pd, 0, none⟩)] u fun e w' => e = .returned (.iface (P.op1 sg 1 x).ty (P.op1 sg 1 x).un) ∧ Below u.heap.size u w') :
    Calls Tryz.prog 101 #[.pointer (some ⟨br, 0, none⟩), .agg #[.int .u8 sg, .int .i64 1, .func (.func 131) #[] #[.pointer (some ⟨pb, 0, none⟩)], .func (.func 132) #[] #[.pointer (some ⟨pd, 0, none⟩)]]] w (Done w0 S0 PI pv base br g p q vb vd bs ds i (if st.length < tk sg then (4, st, qs) else if gd qs.length = true then (0, after P sg (kdf qs.length) st, qs ++ [(sg, i)]) else (5, st, qs ++ [(sg, i)]))) := by
  have hl : (st.map St.v).length ≤ 100 := by simpa using hst
  rw [htk]
  by_cases c1 : st.length < 1
  · rw [if_pos c1]
    refine (operate_short base br i vb vd pv g vs (st.map St.v) sg 1 _ _ _ _ _ _ w hE.ri hl (by rw [List.length_map]; omega) (by omega) (by omega)).mono ?_
    rintro e w' ⟨bf, rfl, h0, h1, hB⟩
    exact .inr ⟨by simp, hE.flt hP hB h0 h1⟩
  rw [if_neg c1]
  have pa := pick_at hE hP hq sg
  have hlt := fun k hk => hP.lt hE.pi k hk
  by_cases c2 : gd qs.length = true
  · rw [if_pos c2]
    rw [c2] at pa
    obtain ⟨gs, cap, hv, _, hob⟩ := own_row hE.ri.hs (j := st.length - 1) (u := (st.getD (st.length - 1) default).v) (by rw [List.getElem?_map, getD_some (by omega)]; rfl)
    have hvS : ¬ S gs := fun c => hE.s2 _ c hob
    have o1 := ok_getD hE.sk (k := st.length - 1) (by omega)
    have hr : st.length - 1 + 1 = (st.map St.v).length := by rw [List.length_map]; omega
    rcases hP.good _ c2 with c3 | c3
    · rw [c3] at pa ⊢
      refine (operate_ok10 base br i vb vd pv g vs (st.map St.v) sg S (Rp PI S w (qs ++ [(sg, i)])) w hE.ri hl hE.notS hlt _ _ _ gs cap (st.length - 1) pb (fun u => Tab u g p q) (st.getD (st.length - 1) default).ty (P.op1 sg 0 (st.getD (st.length - 1) default)).ty (st.getD (st.length - 1) default).un (P.op1 sg 0 (st.getD (st.length - 1) default)).un hv hr hvS (by rw [List.getElem?_map, getD_some (by omega)]; rfl) (fun u hu e1 => hb u _ _ _ _ hu o1 e1) (fun _ _ h hb => h.below (Nat.le_refl _) hb) hE.tabAt pa).mono ?_
      rintro e w' ⟨rfl, wp, hR, hr', hO⟩
      refine .inl ⟨rfl, rfl, ?_⟩
      have := hE.made hP (z := (P.op1 sg 0 (st.getD (st.length - 1) default))) hob (P.op1_ok _ _ o1) hR hr' hO
      simpa only [after, htk, if_true, if_neg (show ¬ (2 = 1) by decide)] using this
    · rw [c3] at pa ⊢
      refine (operate_ok11 base br i vb vd pv g vs (st.map St.v) sg S (Rp PI S w (qs ++ [(sg, i)])) w hE.ri hl hE.notS hlt _ _ _ gs cap (st.length - 1) pd (fun u => Tab u g p q) (st.getD (st.length - 1) default).ty (P.op1 sg 1 (st.getD (st.length - 1) default)).ty (st.getD (st.length - 1) default).un (P.op1 sg 1 (st.getD (st.length - 1) default)).un hv hr hvS (by rw [List.getElem?_map, getD_some (by omega)]; rfl) (fun u hu e1 => hd u _ _ _ _ hu o1 e1) (fun _ _ h hb => h.below (Nat.le_refl _) hb) hE.tabAt pa).mono ?_
      rintro e w' ⟨rfl, wp, hR, hr', hO⟩
      refine .inl ⟨rfl, rfl, ?_⟩
      have := hE.made hP (z := (P.op1 sg 1 (st.getD (st.length - 1) default))) hob (P.op1_ok _ _ o1) hR hr' hO
      simpa only [after, htk, if_true, if_neg (show ¬ (2 = 1) by decide)] using this
  · rw [if_neg c2]
    rw [eq_false_of_ne_true c2] at pa
    refine (operate_nopick1 base br i vb vd pv g vs (st.map St.v) sg S (Rp PI S w (qs ++ [(sg, i)])) w hE.ri hl hE.notS hlt _ _ _ _ _ _ (by rw [List.length_map]; omega) _ pa).mono ?_
    rintro e w' ⟨bf, rfl, h0, h1, wp, ⟨hR1, S', hR2, hR3⟩, hB⟩
    refine .inr ⟨by simp, bf, S', rfl, h0, h1, hP.keep hR2 (Only.of_below (S := fun _ => False) hB) (fun _ _ c => c), fun k hk => ?_, ?_⟩
    · rcases hR3 k hk with c | c
      · exact hE.s0 k c
      · have := hE.fr.size; exact .inr (by omega)
    · refine (hE.fr.trans hR1 (fun _ c => c) fun k hk c => ?_).trans (Only.of_below (S := fun _ => False) hB) (fun _ c => c) (fun _ _ c => c.elim)
      rcases hE.s0 k c with d | d
      · exact d
      · omega
theorem operate_any2 (P : Plane) (hE : EI w0 S0 PI pv base br g p q vb vd bs ds i st qs vs S w) {kdf : Nat → Int} {gd : Nat → Bool} (hP : Pol PI pv kdf gd) (hq : qs.length ≤ 100) (hst : st.length ≤ 100) (sg : Int) (htk : tk sg = 2) (pb pd : Nat)
    (hb : ∀ u gs off cap x y, Tab u g p q → x.ok → y.ok → u.cell? ⟨gs, off, none⟩ = some x.v → u.cell? ⟨gs, off + 1, none⟩ = some y.v → Calls Tryz.prog 127 #[.slice (some ⟨gs, off, none⟩) 2 cap, .pointer (some ⟨pb, 0, none⟩)] u fun e w' => e = .returned (.iface (P.op2 sg 0 x y).ty (P.op2 sg 0 x y).un) ∧ Below u.heap.size u w')
    (hd : ∀ u gs off cap x y, Tab u g p q → x.ok → y.ok → u.cell? ⟨gs, off, none⟩ = some x.v → u.cell? ⟨gs, off + 1, none⟩ = some y.v → Calls Tryz.prog 129 #[.slice (some ⟨gs, off, none⟩) 2 cap, .pointer (some ⟨pd, 0, none⟩)] u fun e w' => e = .returned (.iface (P.op2 sg 1 x y).ty (P.op2 sg 1 x y).un) ∧ Below u.heap.size u w') :
    Calls Tryz.prog 101 #[.pointer (some ⟨br, 0, none⟩), .agg #[.int .u8 sg, .int .i64 2, .func (.func 127) #[] #[.pointer (some ⟨pb, 0, none⟩)], .func (.func 129) #[] #[.pointer (some ⟨pd, 0, none⟩)]]] w (Done w0 S0 PI pv base br g p q vb vd bs ds i (if st.length < tk sg then (4, st, qs) else if gd qs.length = true then (0, after P sg (kdf qs.length) st, qs ++ [(sg, i)]) else (5, st, qs ++ [(sg, i)]))) := by
  have hl : (st.map St.v).length ≤ 100 := by simpa using hst
  rw [htk]
  by_cases c1 : st.length < 2
  · rw [if_pos c1]
    refine (operate_short base br i vb vd pv g vs (st.map St.v) sg 2 _ _ _ _ _ _ w hE.ri hl (by rw [List.length_map]; omega) (by omega) (by omega)).mono ?_
    rintro e w' ⟨bf, rfl, h0, h1, hB⟩
    exact .inr ⟨by simp, hE.flt hP hB h0 h1⟩
  rw [if_neg c1]
  have pa := pick_at hE hP hq sg
  have hlt := fun k hk => hP.lt hE.pi k hk
  by_cases c2 : gd qs.length = true
  · rw [if_pos c2]
    rw [c2] at pa
    obtain ⟨gs, cap, hv, _, hob⟩ := own_row hE.ri.hs (j := st.length - 2) (u := (st.getD (st.length - 2) default).v) (by rw [List.getElem?_map, getD_some (by omega)]; rfl)
    have hvS : ¬ S gs := fun c => hE.s2 _ c hob
    have o1 := ok_getD hE.sk (k := st.length - 2) (by omega)
    have o2 := ok_getD hE.sk (k := st.length - 1) (by omega)
    have hr : st.length - 2 + 2 = (st.map St.v).length := by rw [List.length_map]; omega
    rcases hP.good _ c2 with c3 | c3
    · rw [c3] at pa ⊢
      refine (operate_ok20 base br i vb vd pv g vs (st.map St.v) sg S (Rp PI S w (qs ++ [(sg, i)])) w hE.ri hl hE.notS hlt _ _ _ gs cap (st.length - 2) pb (fun u => Tab u g p q) (st.getD (st.length - 2) default).ty (st.getD (st.length - 1) default).ty (P.op2 sg 0 (st.getD (st.length - 2) default) (st.getD (st.length - 1) default)).ty (st.getD (st.length - 2) default).un (st.getD (st.length - 1) default).un (P.op2 sg 0 (st.getD (st.length - 2) default) (st.getD (st.length - 1) default)).un hv hr hvS (by rw [List.getElem?_map, getD_some (by omega)]; rfl) (by rw [show st.length - 2 + 1 = st.length - 1 by omega, List.getElem?_map, getD_some (by omega)]; rfl) (fun u hu e1 e2 => hb u _ _ _ _ _ hu o1 o2 e1 e2) (fun _ _ h hb => h.below (Nat.le_refl _) hb) hE.tabAt pa).mono ?_
      rintro e w' ⟨rfl, wp, hR, hr', hO⟩
      refine .inl ⟨rfl, rfl, ?_⟩
      have := hE.made hP (z := (P.op2 sg 0 (st.getD (st.length - 2) default) (st.getD (st.length - 1) default))) hob (P.op2_ok _ _ o1 o2) hR hr' hO
      simpa only [after, htk, if_true, if_neg (show ¬ (2 = 1) by decide)] using this
    · rw [c3] at pa ⊢
      refine (operate_ok21 base br i vb vd pv g vs (st.map St.v) sg S (Rp PI S w (qs ++ [(sg, i)])) w hE.ri hl hE.notS hlt _ _ _ gs cap (st.length - 2) pd (fun u => Tab u g p q) (st.getD (st.length - 2) default).ty (st.getD (st.length - 1) default).ty (P.op2 sg 1 (st.getD (st.length - 2) default) (st.getD (st.length - 1) default)).ty (st.getD (st.length - 2) default).un (st.getD (st.length - 1) default).un (P.op2 sg 1 (st.getD (st.length - 2) default) (st.getD (st.length - 1) default)).un hv hr hvS (by rw [List.getElem?_map, getD_some (by omega)]; rfl) (by rw [show st.length - 2 + 1 = st.length - 1 by omega, List.getElem?_map, getD_some (by omega)]; rfl) (fun u hu e1 e2 => hd u _ _ _ _ _ hu o1 o2 e1 e2) (fun _ _ h hb => h.below (Nat.le_refl _) hb) hE.tabAt pa).mono ?_
      rintro e w' ⟨rfl, wp, hR, hr', hO⟩
      refine .inl ⟨rfl, rfl, ?_⟩
      have := hE.made hP (z := (P.op2 sg 1 (st.getD (st.length - 2) default) (st.getD (st.length - 1) default))) hob (P.op2_ok _ _ o1 o2) hR hr' hO
      simpa only [after, htk, if_true, if_neg (show ¬ (2 = 1) by decide)] using this
  · rw [if_neg c2]
    rw [eq_false_of_ne_true c2] at pa
    refine (operate_nopick2 base br i vb vd pv g vs (st.map St.v) sg S (Rp PI S w (qs ++ [(sg, i)])) w hE.ri hl hE.notS hlt _ _ _ _ _ _ (by rw [List.length_map]; omega) _ pa).mono ?_
    rintro e w' ⟨bf, rfl, h0, h1, wp, ⟨hR1, S', hR2, hR3⟩, hB⟩
    refine .inr ⟨by simp, bf, S', rfl, h0, h1, hP.keep hR2 (Only.of_below (S := fun _ => False) hB) (fun _ _ c => c), fun k hk => ?_, ?_⟩
    · rcases hR3 k hk with c | c
      · exact hE.s0 k c
      · have := hE.fr.size; exact .inr (by omega)
    · refine (hE.fr.trans hR1 (fun _ c => c) fun k hk c => ?_).trans (Only.of_below (S := fun _ => False) hB) (fun _ c => c) (fun _ _ c => c.elim)
      rcases hE.s0 k c with d | d
      · exact d
      · omega
end
end Go.Proofs.YtacnclofbnafiabGreatDoor
