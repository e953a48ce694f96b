import Derived.Test.YtacnclofbnafiabGreatDoorPD
namespace Go.Proofs.YtacnclofbnafiabGreatDoor
open Go.RowKit Fl

section
variable {w0 : World} {S0 : Nat → Prop} {PI : World → List (Int × Int) → (Nat → Prop) → Prop} {pv : Value} {base br g : Nat} {p q : Nat → Nat} {vb vd : Value} {bs ds : List St} {i : Int} {st : List St} {qs : List (Int × Int)} {vs : Value} {S : Nat → Prop} {w : World}
theorem do_at0 (P : Plane) (hE : EI w0 S0 PI pv base br g p q vb vd bs ds i st qs vs S w) {kdf : Nat → Int} {gd : Nat → Bool} (hP : Pol PI pv kdf gd) (hq : qs.length ≤ 100) (hst : st.length ≤ 100) :
    Calls Tryz.prog 68 #[.pointer (some ⟨br, 0, none⟩), .int .u8 43] w (Done w0 S0 PI pv base br g p q vb vd bs ds i (stp P bs ds kdf gd 43 i st qs)) := by
  refine do_op0 br g p q w hE.ri.r4 hE.tab _ fun u hB => ?_
  refine Calls.mono (operate_any2 P (hE.below hP hB) hP hq hst 43 rfl (p 0) (p 1)
    (fun u gs off cap x y hT hx hy e0 e1 => by
      rw [show P.op2 43 0 x y = .box (P.badd (P.asB x) (P.asB y)) from rfl]
      exact add_b_w (p 0) gs off 2 cap x.v y.v _ _ _ _ _ _ _ _ _ _ _ _ (P.asB_ok x hx).2 (P.asB_ok y hy).2 (P.hbadd _ _ (P.asB_ok x hx).1 (P.asB_ok y hy).1).2 (by omega) (by omega) u hT.p0 e0 e1)
    (fun u gs off cap x y hT hx hy e0 e1 => by
      rw [show P.op2 43 1 x y = .disc (P.dadd (P.asD x) (P.asD y)) from rfl]
      exact add_d_w (p 1) gs off 2 cap x.v y.v _ _ _ _ _ _ _ _ _ (P.asD_ok x hx).2 (P.asD_ok y hy).2 (P.hdadd _ _ (P.asD_ok x hx).1 (P.asD_ok y hy).1).2 (by omega) (by omega) u hT.p1 e0 e1)) fun _ _ h => Done.shape h
theorem do_at1 (P : Plane) (hE : EI w0 S0 PI pv base br g p q vb vd bs ds i st qs vs S w) {kdf : Nat → Int} {gd : Nat → Bool} (hP : Pol PI pv kdf gd) (hq : qs.length ≤ 100) (hst : st.length ≤ 100) :
    Calls Tryz.prog 68 #[.pointer (some ⟨br, 0, none⟩), .int .u8 45] w (Done w0 S0 PI pv base br g p q vb vd bs ds i (stp P bs ds kdf gd 45 i st qs)) := by
  refine do_op1 br g p q w hE.ri.r4 hE.tab _ fun u hB => ?_
  refine Calls.mono (operate_any2 P (hE.below hP hB) hP hq hst 45 rfl (p 2) (p 3)
    (fun u gs off cap x y hT hx hy e0 e1 => by
      rw [show P.op2 45 0 x y = .box (P.bsub (P.asB x) (P.asB y)) from rfl]
      exact sub_b_w (p 2) gs off 2 cap x.v y.v _ _ _ _ _ _ _ _ _ _ _ _ (P.asB_ok x hx).2 (P.asB_ok y hy).2 (P.hbsub _ _ (P.asB_ok x hx).1 (P.asB_ok y hy).1).2 (by omega) (by omega) u hT.p2 e0 e1)
    (fun u gs off cap x y hT hx hy e0 e1 => by
      rw [show P.op2 45 1 x y = .disc (P.dsub (P.asD x) (P.asD y)) from rfl]
      exact sub_d_w (p 3) gs off 2 cap x.v y.v _ _ _ _ _ _ _ _ _ (P.asD_ok x hx).2 (P.asD_ok y hy).2 (P.hdsub _ _ (P.asD_ok x hx).1 (P.asD_ok y hy).1).2 (by omega) (by omega) u hT.p3 e0 e1)) fun _ _ h => Done.shape h
theorem do_at2 (P : Plane) (hE : EI w0 S0 PI pv base br g p q vb vd bs ds i st qs vs S w) {kdf : Nat → Int} {gd : Nat → Bool} (hP : Pol PI pv kdf gd) (hq : qs.length ≤ 100) (hst : st.length ≤ 100) :
    Calls Tryz.prog 68 #[.pointer (some ⟨br, 0, none⟩), .int .u8 42] w (Done w0 S0 PI pv base br g p q vb vd bs ds i (stp P bs ds kdf gd 42 i st qs)) := by
  refine do_op2 br g p q w hE.ri.r4 hE.tab _ fun u hB => ?_
  refine Calls.mono (operate_any2 P (hE.below hP hB) hP hq hst 42 rfl (p 4) (p 5)
    (fun u gs off cap x y hT hx hy e0 e1 => by
      rw [show P.op2 42 0 x y = .box (P.bmul (P.asB x) (P.asB y)) from rfl]
      exact mul_b_w (p 4) gs off 2 cap x.v y.v _ _ _ _ _ _ _ _ _ _ _ _ (P.asB_ok x hx).2 (P.asB_ok y hy).2 (P.hbmul _ _ (P.asB_ok x hx).1 (P.asB_ok y hy).1).2 (by omega) (by omega) u hT.p4 e0 e1)
    (fun u gs off cap x y hT hx hy e0 e1 => by
      rw [show P.op2 42 1 x y = .disc (P.dmul (P.asD x) (P.asD y)) from rfl]
      exact mul_d_w (p 5) gs off 2 cap x.v y.v _ _ _ _ _ _ _ _ _ (P.asD_ok x hx).2 (P.asD_ok y hy).2 (P.hdmul _ _ (P.asD_ok x hx).1 (P.asD_ok y hy).1).2 (by omega) (by omega) u hT.p5 e0 e1)) fun _ _ h => Done.shape h
theorem do_at3 (P : Plane) (hE : EI w0 S0 PI pv base br g p q vb vd bs ds i st qs vs S w) {kdf : Nat → Int} {gd : Nat → Bool} (hP : Pol PI pv kdf gd) (hq : qs.length ≤ 100) (hst : st.length ≤ 100) :
    Calls Tryz.prog 68 #[.pointer (some ⟨br, 0, none⟩), .int .u8 126] w (Done w0 S0 PI pv base br g p q vb vd bs ds i (stp P bs ds kdf gd 126 i st qs)) := by
  refine do_op3 br g p q w hE.ri.r4 hE.tab _ fun u hB => ?_
  refine Calls.mono (operate_any1 P (hE.below hP hB) hP hq hst 126 rfl (p 6) (p 7)
    (fun u gs off cap x hT hx e0 => by
      rw [show P.op1 126 0 x = .box (P.bconj (P.asB x)) from rfl]
      exact conj_b_w (p 6) gs off 1 cap x.v _ _ _ _ _ _ _ _ (P.asB_ok x hx).2 (P.hbconj _ (P.asB_ok x hx).1).2 (by omega) (by omega) u hT.p6 e0)
    (fun u gs off cap x hT hx e0 => by
      rw [show P.op1 126 1 x = .disc (P.dconj (P.asD x)) from rfl]
      exact conj_d_w (p 7) gs off 1 cap x.v _ _ _ _ _ _ (P.asD_ok x hx).2 (P.hdconj _ (P.asD_ok x hx).1).2 (by omega) (by omega) u hT.p7 e0)) fun _ _ h => Done.shape h
theorem do_at4 (P : Plane) (hE : EI w0 S0 PI pv base br g p q vb vd bs ds i st qs vs S w) {kdf : Nat → Int} {gd : Nat → Bool} (hP : Pol PI pv kdf gd) (hq : qs.length ≤ 100) (hst : st.length ≤ 100) :
    Calls Tryz.prog 68 #[.pointer (some ⟨br, 0, none⟩), .int .u8 94] w (Done w0 S0 PI pv base br g p q vb vd bs ds i (stp P bs ds kdf gd 94 i st qs)) := by
  refine do_op4 br g p q w hE.ri.r4 hE.tab _ fun u hB => ?_
  refine Calls.mono (operate_any1 P (hE.below hP hB) hP hq hst 94 rfl (p 8) (p 9)
    (fun u gs off cap x hT hx e0 => by
      rw [show P.op1 94 0 x = .box (P.bmul (P.asB x) (P.asB x)) from rfl]
      exact sqr_b_w (p 8) gs off 1 cap (q 0) x.v _ _ _ _ _ _ _ _ (P.asB_ok x hx).2 (twice_b_w (q 0) _ _ _ _ _ _ _ _ (P.hbmul _ _ (P.asB_ok x hx).1 (P.asB_ok x hx).1).2) (by omega) (by omega) u hT.p8 e0 hT.q0)
    (fun u gs off cap x hT hx e0 => by
      rw [show P.op1 94 1 x = .disc (P.dmul (P.asD x) (P.asD x)) from rfl]
      exact sqr_d_w (p 9) gs off 1 cap (q 1) x.v _ _ _ _ _ _ (P.asD_ok x hx).2 (twice_d_w (q 1) _ _ _ _ _ _ (P.hdmul _ _ (P.asD_ok x hx).1 (P.asD_ok x hx).1).2) (by omega) (by omega) u hT.p9 e0 hT.q1)) fun _ _ h => Done.shape h
theorem do_any (P : Plane) (hE : EI w0 S0 PI pv base br g p q vb vd bs ds i st qs vs S w) {kdf : Nat → Int} {gd : Nat → Bool} (hP : Pol PI pv kdf gd) (hq : qs.length ≤ 100) (hst : st.length ≤ 100) (hb : bs.length ≤ 100) (hd : ds.length ≤ 100) (ob : ∀ s ∈ bs, s.ok) (od : ∀ s ∈ ds, s.ok) (c : Int) :
    Calls Tryz.prog 68 #[.pointer (some ⟨br, 0, none⟩), .int .u8 c] w (Done w0 S0 PI pv base br g p q vb vd bs ds i (stp P bs ds kdf gd c i st qs)) := by
  by_cases c1 : 48 ≤ c ∧ c < 52
  · obtain ⟨ao, cp, hv⟩ := hE.ib.sh
    subst hv
    obtain ⟨k, rfl⟩ : ∃ k : Nat, c = k + 48 := ⟨(c - 48).toNat, by omega⟩
    refine do_dig br _ ao bs.length cp w hE.ri.r1 c1.1 c1.2 _ fun u hB => ?_
    have := hE.below hP hB
    rw [show (k : Int) + 48 - 48 = k by omega]
    refine Calls.mono (put_any this hP this.ib hb ob hst k) fun _ _ h => Done.shape ?_
    unfold stp
    rw [if_pos c1, show ((k : Int) + 48 - 48).toNat = k by omega]
    exact h
  by_cases c2 : 97 ≤ c ∧ c < 101
  · obtain ⟨ao, cp, hv⟩ := hE.idd.sh
    subst hv
    obtain ⟨k, rfl⟩ : ∃ k : Nat, c = k + 97 := ⟨(c - 97).toNat, by omega⟩
    refine do_let br _ ao ds.length cp w hE.ri.r2 c2.1 c2.2 _ fun u hB => ?_
    have := hE.below hP hB
    rw [show (k : Int) + 97 - 97 = k by omega]
    refine Calls.mono (put_any this hP this.idd hd od hst k) fun _ _ h => Done.shape ?_
    unfold stp
    rw [if_neg c1, if_pos c2, show ((k : Int) + 97 - 97).toNat = k by omega]
    exact h
  by_cases c3 : idx c = -1
  · refine (do_bad br g p q i c w hE.ri.r0 hE.ri.r4 hE.tab (by omega) c3).mono ?_
    rintro e w' ⟨bf, rfl, h0, h1, hB⟩
    unfold stp
    rw [if_neg c1, if_neg c2, if_pos c3]
    exact .inr ⟨by simp, hE.flt hP hB h0 h1⟩
  have c4 : c = 43 ∨ c = 45 ∨ c = 42 ∨ c = 126 ∨ c = 94 := by
    unfold idx at c3
    repeat' split at c3
    all_goals omega
  rcases c4 with rfl | rfl | rfl | rfl | rfl
  · exact do_at0 P hE hP hq hst
  · exact do_at1 P hE hP hq hst
  · exact do_at2 P hE hP hq hst
  · exact do_at3 P hE hP hq hst
  · exact do_at4 P hE hP hq hst
end
end Go.Proofs.YtacnclofbnafiabGreatDoor

namespace Go.Proofs.YtacnclofbnafiabGreatDoor
open Go.RowKit Fl

theorem LI.only {T : Nat → Prop} {w w' : World} {base bl : Nat} {ks : List Int} {vp va : Value} {qs : List (Int × Int)} (h : LI w base bl ks vp va qs) (hO : Only T w w') (hb : ¬ T bl) (ha : ∀ k, va.ownBlock = some k → ¬ T k) (hp : ∀ k, vp.ownBlock = some k → ¬ T k) : LI w' base bl ks vp va qs :=
  ⟨hO.cell h.l0 hb, hO.cell h.l1 hb, hO.frozen h.l1 h.lf hb, hO.own h.hp hp, hO.own h.ha ha, Nat.le_trans h.ba hO.size, h.bb, h.np⟩
/-- A policy that is a list. -/
def PL (base bl : Nat) (ks : List Int) (vp : Value) (w : World) (qs : List (Int × Int)) (S : Nat → Prop) : Prop := ∃ va, LI w base bl ks vp va qs ∧ S = fun k => k = bl ∨ va.ownBlock = some k ∨ vp.ownBlock = some k
def lkd (ks : List Int) (n : Nat) : Int := if ks.getD n 0 = -7 then 0 else ks.getD n 0
def lgd (ks : List Int) (n : Nat) : Bool := ks.getD n 0 == 0 || ks.getD n 0 == 1
theorem below_drewN (w : World) (n : Nat) : Below w.heap.size w (w.drewN n) := bl_drewN (Below.refl _ _) n
theorem listed_pol (base bl : Nat) (ks : List Int) (vp : Value) (hks : ks.length ≤ 4611686018427387904) : Pol (PL base bl ks vp) (.func (.func 33) #[.pointer (some ⟨bl, 0, none⟩)] #[]) (lkd ks) (lgd ks) := by
  refine ⟨?_, ?_, ?_, ?_⟩
  · rintro w qs S ⟨va, h, rfl⟩ k (c | c | c)
    · have := h.ba; have := h.bb; omega
    · exact (h.ha.lt k c).2
    · exact (h.hp.lt k c).2
  · rintro w w' qs S T ⟨va, h, rfl⟩ hO hd
    exact ⟨va, h.only hO (hd _ (.inl rfl)) (fun k c => hd k (.inr (.inl c))) (fun k c => hd k (.inr (.inr c))), rfl⟩
  · intro n h
    unfold lgd at h
    unfold lkd
    simp only [Bool.or_eq_true, beq_iff_eq] at h
    rcases h with h | h <;> rw [h]
    · exact .inl (by rw [if_neg (by omega)])
    · exact .inr (by rw [if_neg (by omega)])
  · rintro br at_ sg w qs S hq c0 c3 ⟨va, h, rfl⟩
    have fin : ∀ {n : Nat} {w' : World} {va' : Value}, LI w' base bl ks vp va' (qs ++ [(sg, at_)]) → Only (fun k => k = bl ∨ va.ownBlock = some k) (w.drewN n) w' → (∀ k, va'.ownBlock = some k → va.ownBlock = some k ∨ (w.drewN n).heap.size ≤ k) → Only (fun k => k = bl ∨ va.ownBlock = some k ∨ vp.ownBlock = some k) w w' ∧ ∃ S', PL base bl ks vp w' (qs ++ [(sg, at_)]) S' ∧ ∀ k, S' k → (k = bl ∨ va.ownBlock = some k ∨ vp.ownBlock = some k) ∨ w.heap.size ≤ k := fun {n w' va'} hl hO nw => by
      refine ⟨(only_below (below_drewN w n) hO).trans (Only.of_below (S := fun _ => False) (Below.refl _ _)) (fun k c => c.imp (fun c => c) .inl) (fun _ _ c => c.elim), _, ⟨va', hl, rfl⟩, fun k c => ?_⟩
      rcases c with c | c | c
      · exact .inl (.inl c)
      · rcases nw k c with d | d
        · exact .inl (.inr (.inl d))
        · exact .inr (by simpa using d)
      · exact .inl (.inr (.inr c))
    have hn : ∀ n, LI (w.drewN n) base bl ks vp va qs := fun n => h.only (Only.of_below (S := fun _ => False) (below_drewN w n)) (fun c => c) (fun _ _ c => c) (fun _ _ c => c)
    rcases Nat.lt_or_ge qs.length ks.length with c | c
    · have hk : ks[qs.length]? = some (ks.getD qs.length 0) := by simp [List.getD, c]
      by_cases c7 : ks.getD qs.length 0 = -7
      · rw [c7] at hk
        refine (pick_panic_w br bl sg at_ 9 (.string { data := #[97, 32, 112, 111, 108, 105, 99, 121, 32, 116, 104, 97, 116, 32, 112, 105, 99, 107, 115, 32, 110, 111, 116, 104, 105, 110, 103] }) (fun w' => Only (fun k => k = bl ∨ va.ownBlock = some k ∨ vp.ownBlock = some k) w w' ∧ ∃ S', PL base bl ks vp w' (qs ++ [(sg, at_)]) S' ∧ ∀ k, S' k → (k = bl ∨ va.ownBlock = some k ∨ vp.ownBlock = some k) ∨ w.heap.size ≤ k) w c0 c3 fun n => ?_).mono ?_
        · refine (lpick_panic base bl sg at_ ks vp va qs _ (hn n) hk hq hks).mono ?_
          rintro e w' ⟨rfl, va', h1, h2, h3⟩
          exact ⟨rfl, fin h1 h2 h3⟩
        · rintro e w' ⟨rfl, h1⟩
          exact ⟨by simp only [lkd, lgd, c7]; rfl, h1⟩
      · refine (pick_ret_w br bl sg at_ (ks.getD qs.length 0) (fun w' => Only (fun k => k = bl ∨ va.ownBlock = some k ∨ vp.ownBlock = some k) w w' ∧ ∃ S', PL base bl ks vp w' (qs ++ [(sg, at_)]) S' ∧ ∀ k, S' k → (k = bl ∨ va.ownBlock = some k ∨ vp.ownBlock = some k) ∨ w.heap.size ≤ k) w c0 c3 fun n => ?_).mono ?_
        · refine (lpick_ret base bl sg at_ ks vp va qs _ (hn n) _ hk c7 hq hks).mono ?_
          rintro e w' ⟨rfl, va', h1, h2, h3⟩
          exact ⟨rfl, fin h1 h2 h3⟩
        · rintro e w' ⟨rfl, h1⟩
          exact ⟨by simp only [lkd, lgd, if_neg c7], h1⟩
    · have hk : ks.getD qs.length 0 = 0 := by simp [List.getD, List.getElem?_eq_none c]
      refine (pick_ret_w br bl sg at_ 0 (fun w' => Only (fun k => k = bl ∨ va.ownBlock = some k ∨ vp.ownBlock = some k) w w' ∧ ∃ S', PL base bl ks vp w' (qs ++ [(sg, at_)]) S' ∧ ∀ k, S' k → (k = bl ∨ va.ownBlock = some k ∨ vp.ownBlock = some k) ∨ w.heap.size ≤ k) w c0 c3 fun n => ?_).mono ?_
      · refine (lpick_end base bl sg at_ ks vp va qs _ (hn n) c hq hks).mono ?_
        rintro e w' ⟨rfl, va', h1, h2, h3⟩
        exact ⟨rfl, fin h1 h2 h3⟩
      · rintro e w' ⟨rfl, h1⟩
        exact ⟨by simp only [lkd, lgd, hk]; rfl, h1⟩
/-- No policy. -/
def PN (_w : World) (_qs : List (Int × Int)) (S : Nat → Prop) : Prop := S = fun _ => False
end Go.Proofs.YtacnclofbnafiabGreatDoor

namespace Go.Proofs.YtacnclofbnafiabGreatDoor
open Go.RowKit Fl

set_option maxRecDepth 100000 in
theorem eval1_w (X1 X2 X3 X4 : Nat) (w : World) : Calls Tryz.prog 64 #[.agg #[.float .f64 X1, .float .f64 X2, .float .f64 X3, .float .f64 X4]] w fun e w' => e = .returned (.iface 121 (.agg #[.float .f64 X1, .float .f64 X2, .float .f64 X3, .float .f64 X4])) ∧ Below w.heap.size w w' := by
  go_enter Tryz.func64, Tryz.ntmps64
  go_wp2
  go_ret
  refine ⟨rfl, ?_⟩
  repeat (first | exact Below.refl _ _ | refine bl_alloc ?_)
set_option maxRecDepth 100000 in
theorem eval2_w (a b r : Nat) (w : World) : Calls Tryz.prog 66 #[.agg #[.complex .f64 a b, .float .f64 r]] w fun e w' => e = .returned (.iface 124 (.agg #[.complex .f64 a b, .float .f64 r])) ∧ Below w.heap.size w w' := by
  go_enter Tryz.func66, Tryz.ntmps66
  go_wp2
  go_ret
  refine ⟨rfl, ?_⟩
  repeat (first | exact Below.refl _ _ | refine bl_alloc ?_)
def bxs (l : List Bx) : List Value := (l.map St.box).map St.v
def dcs (l : List Dc) : List Value := (l.map St.disc).map St.v
theorem take_next {α : Type} {l : List α} {k : Nat} {x : α} (h : l[k]? = some x) : l.take (k + 1) = l.take k ++ [x] := by
  rw [List.take_add_one, h]; rfl
theorem bxs_next {l : List Bx} {k : Nat} {x : Bx} (h : l[k]? = some x) : bxs (l.take (k + 1)) = bxs (l.take k) ++ [(St.box x).v] := by
  rw [take_next h]; simp [bxs]
theorem dcs_next {l : List Dc} {k : Nat} {x : Dc} (h : l[k]? = some x) : dcs (l.take (k + 1)) = dcs (l.take k) ++ [(St.disc x).v] := by
  rw [take_next h]; simp [dcs]
/-- A list that is handed in. -/
structure SrcB (w : World) (v : Value) (l : List Bx) : Prop where
  sh : ∃ ao c, v = .slice ao l.length c
  ce : ∀ j x, l[j]? = some x → ∃ b1 c, v = .slice (some ⟨b1, 0, none⟩) l.length c ∧ w.cell? ⟨b1, j * 4, none⟩ = some (.float .f64 x.a) ∧ w.cell? ⟨b1, j * 4 + 1, none⟩ = some (.float .f64 x.b) ∧ w.cell? ⟨b1, j * 4 + 2, none⟩ = some (.float .f64 x.c) ∧ w.cell? ⟨b1, j * 4 + 3, none⟩ = some (.float .f64 x.d)
set_option maxRecDepth 100000 in
set_option maxHeartbeats 4000000 in
theorem setsB_any (v : Value) (l : List Bx) (w : World) (h : SrcB w v l) (hl : l.length ≤ 4) :
    Calls Tryz.prog 63 #[v, .func (.func 64) #[] #[]] w fun e w' => ∃ v', e = .returned v' ∧ w'.ownsRow w.heap.size 120 1 v' l.length ((l.map St.box).map St.v) ∧ Below w.heap.size w w' := by
  obtain ⟨i0, hi, hz0, hz1, hz2⟩ := info_parts infoS
  obtain ⟨ao, c, rfl⟩ := h.sh
  have HS : Hid (SrcB w (.slice ao l.length c) l) := h
  have HL : Hid (l.length ≤ 4) := hl
  clear h
  go_enter Tryz.func63, Tryz.ntmps63
  go_wp2_with fail
  go_loopw [5, 10] (fun v i wr => ∃ k : Nat, k ≤ l.length ∧ i = .int .i64 k ∧ wr.ownsRow w.heap.size 120 1 v k (bxs (l.take k)) ∧ Below w.heap.size w wr) (fun _ i _ => l.length - (intOf i).toNat)
  case atStart => exact ⟨0, Nat.zero_le _, rfl, World.ownsRow_nil _ _ _ _, Below.refl _ _⟩
  case round =>
    rename World => wr
    obtain ⟨k, hk, rfl, hown, hB⟩ := hrel
    have hsz := hB.size
    by_cases hlt : k < l.length
    · obtain ⟨x, hx⟩ : ∃ x, l[k]? = some x := ⟨l[k], by simp [hlt]⟩
      obtain ⟨b1, c', e1, cx⟩ := HS.out.ce k x hx
      cases e1
      have cx0 : wr.cell? ⟨b1, k * 4, none⟩ = some (.float .f64 x.a) := bkeep hB cx.1 (cell_lt cx.1)
      have cx1 : wr.cell? ⟨b1, k * 4 + 1, none⟩ = some (.float .f64 x.b) := bkeep hB cx.2.1 (cell_lt cx.2.1)
      have cx2 : wr.cell? ⟨b1, k * 4 + 2, none⟩ = some (.float .f64 x.c) := bkeep hB cx.2.2.1 (cell_lt cx.2.2.1)
      have cx3 : wr.cell? ⟨b1, k * 4 + 3, none⟩ = some (.float .f64 x.d) := bkeep hB cx.2.2.2 (cell_lt cx.2.2.2)
      have hltI : (k : Int) < (l.length : Int) := by omega
      have hk4 : k ≤ 4 := by have := HL.out; omega
      have hx' : Hid (l[k]? = some x) := hx
      clear hx cx
      go_wp2_with (first | (go_at_call 64; refine (eval1_w x.a x.b x.c x.d _).mono ?_; rintro e w2 ⟨rfl, hb⟩; have hown2 := (Only.of_below (S := fun _ => False) hb).own (hown.alloc _) (fun _ _ c => c); have hB2 : Below w.heap.size w w2 := (Below.alloc hB (by omega) _).trans (hb.mono (by simp; omega)); clear hb hown) | (at_builtin; refine wpList_append_at _ rfl (.tmp 14) (.tmp 18) 117 rfl w.heap.size 120 i0 .nilIface 1 16 Tryz.underlying117 hi hz0 hz1 hz2 rfl (by decide) _ _ _ rfl (hown2.alloc _) ⟨w2.heap.size, 0, none⟩ 1 1 [.iface 121 (.agg #[.float .f64 x.a, .float .f64 x.b, .float .f64 x.c, .float .f64 x.d])] rfl rfl (cell_one (by simp [go_sem])) (by intro x hx; simp at hx; subst hx; rfl) (by unfold maxLen; omega) (by omega) (by have := hB2.size; simp; omega) (by decide) ?_))
      intro v' w1 hown' hgrow _
      have R : w1.ownsRow w.heap.size 120 1 v' (k + 1) (bxs (l.take (k + 1))) ∧ Below w.heap.size w w1 := by
        refine ⟨by rw [bxs_next hx'.out]; exact hown', ?_⟩
        exact Below.grown (Below.alloc hB2 (by have := hB2.size; omega) _) hgrow (by have := hB2.size; simp; omega) fun j hj => by
          have := (hown2.lt j hj).1
          omega
      clear hown' hgrow hown2 hB2 hB
      go_wp2
      go_roundw
      case rel => exact ⟨k + 1, by omega, by go_num, R.1, R.2⟩
      case measure => simp [intOf]; omega
    · have hkn : k = l.length := by omega
      subst hkn
      clear hk hlt
      go_wp2_with fail
      go_ret
      exact ⟨_, rfl, by rw [List.take_length] at hown; exact hown, hB⟩
/-- A list that is handed in. -/
structure SrcD (w : World) (v : Value) (l : List Dc) : Prop where
  sh : ∃ ao c, v = .slice ao l.length c
  ce : ∀ j x, l[j]? = some x → ∃ b1 c, v = .slice (some ⟨b1, 0, none⟩) l.length c ∧ w.cell? ⟨b1, j * 2, none⟩ = some (.complex .f64 x.a x.b) ∧ w.cell? ⟨b1, j * 2 + 1, none⟩ = some (.float .f64 x.r)
set_option maxRecDepth 100000 in
set_option maxHeartbeats 4000000 in
theorem setsD_any (v : Value) (l : List Dc) (w : World) (h : SrcD w v l) (hl : l.length ≤ 4) :
    Calls Tryz.prog 65 #[v, .func (.func 66) #[] #[]] w fun e w' => ∃ v', e = .returned v' ∧ w'.ownsRow w.heap.size 120 1 v' l.length ((l.map St.disc).map St.v) ∧ Below w.heap.size w w' := by
  obtain ⟨i0, hi, hz0, hz1, hz2⟩ := info_parts infoS
  obtain ⟨ao, c, rfl⟩ := h.sh
  have HS : Hid (SrcD w (.slice ao l.length c) l) := h
  have HL : Hid (l.length ≤ 4) := hl
  clear h
  go_enter Tryz.func65, Tryz.ntmps65
  go_wp2_with fail
  go_loopw [5, 10] (fun v i wr => ∃ k : Nat, k ≤ l.length ∧ i = .int .i64 k ∧ wr.ownsRow w.heap.size 120 1 v k (dcs (l.take k)) ∧ Below w.heap.size w wr) (fun _ i _ => l.length - (intOf i).toNat)
  case atStart => exact ⟨0, Nat.zero_le _, rfl, World.ownsRow_nil _ _ _ _, Below.refl _ _⟩
  case round =>
    rename World => wr
    obtain ⟨k, hk, rfl, hown, hB⟩ := hrel
    have hsz := hB.size
    by_cases hlt : k < l.length
    · obtain ⟨x, hx⟩ : ∃ x, l[k]? = some x := ⟨l[k], by simp [hlt]⟩
      obtain ⟨b1, c', e1, cx⟩ := HS.out.ce k x hx
      cases e1
      have cx0 : wr.cell? ⟨b1, k * 2, none⟩ = some (.complex .f64 x.a x.b) := bkeep hB cx.1 (cell_lt cx.1)
      have cx1 : wr.cell? ⟨b1, k * 2 + 1, none⟩ = some (.float .f64 x.r) := bkeep hB cx.2 (cell_lt cx.2)
      have hltI : (k : Int) < (l.length : Int) := by omega
      have hk4 : k ≤ 4 := by have := HL.out; omega
      have hx' : Hid (l[k]? = some x) := hx
      clear hx cx
      go_wp2_with (first | (go_at_call 66; refine (eval2_w x.a x.b x.r _).mono ?_; rintro e w2 ⟨rfl, hb⟩; have hown2 := (Only.of_below (S := fun _ => False) hb).own (hown.alloc _) (fun _ _ c => c); have hB2 : Below w.heap.size w w2 := (Below.alloc hB (by omega) _).trans (hb.mono (by simp; omega)); clear hb hown) | (at_builtin; refine wpList_append_at _ rfl (.tmp 14) (.tmp 18) 117 rfl w.heap.size 120 i0 .nilIface 1 16 Tryz.underlying117 hi hz0 hz1 hz2 rfl (by decide) _ _ _ rfl (hown2.alloc _) ⟨w2.heap.size, 0, none⟩ 1 1 [.iface 124 (.agg #[.complex .f64 x.a x.b, .float .f64 x.r])] rfl rfl (cell_one (by simp [go_sem])) (by intro x hx; simp at hx; subst hx; rfl) (by unfold maxLen; omega) (by omega) (by have := hB2.size; simp; omega) (by decide) ?_))
      intro v' w1 hown' hgrow _
      have R : w1.ownsRow w.heap.size 120 1 v' (k + 1) (dcs (l.take (k + 1))) ∧ Below w.heap.size w w1 := by
        refine ⟨by rw [dcs_next hx'.out]; exact hown', ?_⟩
        exact Below.grown (Below.alloc hB2 (by have := hB2.size; omega) _) hgrow (by have := hB2.size; simp; omega) fun j hj => by
          have := (hown2.lt j hj).1
          omega
      clear hown' hgrow hown2 hB2 hB
      go_wp2
      go_roundw
      case rel => exact ⟨k + 1, by omega, by go_num, R.1, R.2⟩
      case measure => simp [intOf]; omega
    · have hkn : k = l.length := by omega
      subst hkn
      clear hk hlt
      go_wp2_with fail
      go_ret
      exact ⟨_, rfl, by rw [List.take_length] at hown; exact hown, hB⟩
end Go.Proofs.YtacnclofbnafiabGreatDoor

namespace Go.Proofs.YtacnclofbnafiabGreatDoor
open Go.RowKit Fl

/-- A program from its byte i on: the error, its place, the stack, what the policy was asked. -/
def runs (P : Plane) (bs ds : List St) (kdf : Nat → Int) (gd : Nat → Bool) : List Int → Int → List St → List (Int × Int) → Int × Int × List St × List (Int × Int)
  | [], i, st, qs => (if st.length = 1 then 0 else 4, i, st, qs)
  | c :: cs, i, st, qs =>
    if (stp P bs ds kdf gd c i st qs).1 = 0 then runs P bs ds kdf gd cs (i + 1) (stp P bs ds kdf gd c i st qs).2.1 (stp P bs ds kdf gd c i st qs).2.2
    else ((stp P bs ds kdf gd c i st qs).1, i, (stp P bs ds kdf gd c i st qs).2.1, (stp P bs ds kdf gd c i st qs).2.2)
/-- The bytes of a text. -/
def byts (s : ByteArray) : List Int := s.data.toList.map fun b => (b.toNat : Int)
def V0 : Value := .agg #[.int .i64 0, .float .f64 0, .float .f64 0, .float .f64 0, .float .f64 0, .complex .f64 0 0, .float .f64 0]
def St.val : St → Value
  | .box x => .agg #[.int .i64 0, .float .f64 x.a, .float .f64 x.b, .float .f64 x.c, .float .f64 x.d, .complex .f64 0 0, .float .f64 0]
  | .disc x => .agg #[.int .i64 1, .float .f64 0, .float .f64 0, .float .f64 0, .float .f64 0, .complex .f64 x.a x.b, .float .f64 x.r]
set_option maxRecDepth 100000 in
set_option maxHeartbeats 4000000 in
theorem eval_long (s : ByteArray) (ao bo : Option Addr) (n c m d : Nat) (pv : Value) (w : World) (h : 60 < s.size ∨ 4 < n ∨ 4 < m) (_hs : s.size ≤ 4611686018427387904) (_hn : n ≤ 4611686018427387904) (_hm : m ≤ 4611686018427387904) :
    Calls Tryz.prog 34 #[.string s, .slice ao n c, .slice bo m d, .agg #[pv]] w fun e w' => e = .returned (.tuple #[V0, .iface 49 (.int .i64 1)]) ∧ Below w.heap.size w w' := by
  by_cases h1 : (60 : Int) < s.size
  · go_enter Tryz.func34, Tryz.ntmps34
    go_wp2
    refine bodyPost_ret (v := .tuple #[V0, .iface 49 (.int .i64 1)]) (by simp [results, Tryz.results34, go_sem, V0]) rfl ⟨rfl, ?_⟩
    repeat (first | exact Below.refl _ _ | refine bl_alloc ?_ | refine bl_drewN ?_ _)
  by_cases h2 : (4 : Int) < n
  · go_enter Tryz.func34, Tryz.ntmps34
    go_wp2
    refine bodyPost_ret (v := .tuple #[V0, .iface 49 (.int .i64 1)]) (by simp [results, Tryz.results34, go_sem, V0]) rfl ⟨rfl, ?_⟩
    repeat (first | exact Below.refl _ _ | refine bl_alloc ?_ | refine bl_drewN ?_ _)
  have h3 : (4 : Int) < m := by omega
  go_enter Tryz.func34, Tryz.ntmps34
  go_wp2
  refine bodyPost_ret (v := .tuple #[V0, .iface 49 (.int .i64 1)]) (by simp [results, Tryz.results34, go_sem, V0]) rfl ⟨rfl, ?_⟩
  repeat (first | exact Below.refl _ _ | refine bl_alloc ?_ | refine bl_drewN ?_ _)
@[go_sem] theorem buildRun (a b g : Option Addr) (n c m d k l : Nat) (pv : Value) (w : World) : (Instr.build 129 #[(1, .slice a n c), (2, .slice b m d), (3, .agg #[pv]), (4, .slice g k l)]).run Tryz.prog w = .ok (.agg #[.int .i64 0, .slice a n c, .slice b m d, pv, .slice g k l, .slice none 0 0]) w := run_build w 129 _ _ (by kernel_rfl)
theorem SrcB.below {w w' : World} {v : Value} {l : List Bx} (h : SrcB w v l) (hb : Below w.heap.size w w') : SrcB w' v l :=
  ⟨h.sh, fun j x e => by
    obtain ⟨b1, c, h1, h2, h3, h4, h5⟩ := h.ce j x e
    exact ⟨b1, c, h1, bkeep2 hb h2, bkeep2 hb h3, bkeep2 hb h4, bkeep2 hb h5⟩⟩
theorem SrcD.below {w w' : World} {v : Value} {l : List Dc} (h : SrcD w v l) (hb : Below w.heap.size w w') : SrcD w' v l :=
  ⟨h.sh, fun j x e => by
    obtain ⟨b1, c, h1, h2, h3⟩ := h.ce j x e
    exact ⟨b1, c, h1, bkeep2 hb h2, bkeep2 hb h3⟩⟩
theorem SrcB.alloc {w : World} {v : Value} {l : List Bx} (h : SrcB w v l) (o : Obj) : SrcB (w.alloc o) v l := h.below (bl_alloc (Below.refl _ _))
theorem SrcD.alloc {w : World} {v : Value} {l : List Dc} (h : SrcD w v l) (o : Obj) : SrcD (w.alloc o) v l := h.below (bl_alloc (Below.refl _ _))
theorem SrcB.drew {w : World} {v : Value} {l : List Bx} (h : SrcB w v l) : SrcB w.drew v l := h.below (Below.refl _ _).drew
theorem SrcD.drew {w : World} {v : Value} {l : List Dc} (h : SrcD w v l) : SrcD w.drew v l := h.below (Below.refl _ _).drew
theorem TB.ofTab {w : World} {K : Nat → Prop} {b : Nat} (h : ∀ j, j ≤ 17 → K (b + j)) (hT : Tab w (b + 17) (tp b) (tq b)) : TB K (b + 17) (tp b) (tq b) := by
  have _ := hT.s0
  refine ⟨h 17 (by omega), fun j hj => ?_, fun j hj => ?_⟩
  · match j, hj with
    | 0, _ => exact h 0 (by omega)
    | 1, _ => exact h 1 (by omega)
    | 2, _ => exact h 3 (by omega)
    | 3, _ => exact h 4 (by omega)
    | 4, _ => exact h 6 (by omega)
    | 5, _ => exact h 7 (by omega)
    | 6, _ => exact h 9 (by omega)
    | 7, _ => exact h 10 (by omega)
    | 8, _ => exact h 14 (by omega)
    | 9, _ => exact h 15 (by omega)
  · match j, hj with
    | 0, _ => exact h 12 (by omega)
    | 1, _ => exact h 13 (by omega)
theorem Ins.ofOwn {w w' : World} {K : Nat → Prop} {base : Nat} {v : Value} {l : List St} (o : w.ownsRow base 120 1 v l.length (l.map St.v)) (hB : Below w.heap.size w w') (hK : ∀ k, base ≤ k → k < w.heap.size → K k) : Ins K w' v l := by
  obtain ⟨ao, c, hv, _⟩ := own_shape o
  refine ⟨⟨ao, c, hv⟩, fun j x e => ?_⟩
  obtain ⟨g0, c0, h1, h2, h3⟩ := own_row o (j := j) (u := x.v) (by rw [List.getElem?_map, e]; rfl)
  have lt := o.lt g0 h3
  exact ⟨g0, c0, h1, hK g0 lt.1 lt.2, bkeep2 hB h2⟩
/-- The program begins. -/
theorem EI.start {PI : World → List (Int × Int) → (Nat → Prop) → Prop} {pv : Value} {kdf : Nat → Int} {gd : Nat → Bool} (hP : Pol PI pv kdf gd) {S0 : Nat → Prop} {w w0 w1 w2 w3 W : World} {vb vd : Value} {bs ds : List St} (hpi : PI w [] S0) (h0 : Below w.heap.size w w0) (h1 : Below w0.heap.size w0 w1) (h2 : Below w1.heap.size w1 w2) (h3 : Below w2.heap.size w2 w3)
    (oB : w1.ownsRow w0.heap.size 120 1 vb bs.length (bs.map St.v)) (oD : w2.ownsRow w1.heap.size 120 1 vd ds.length (ds.map St.v)) (hT : Tab w3 (w2.heap.size + 17) (tp w2.heap.size) (tq w2.heap.size))
    (hW : W = w3.alloc (.cells #[.int .i64 0, vb, vd, pv, .slice (some ⟨w2.heap.size + 17, 0, none⟩) 5 5, .slice none 0 0] 129)) :
    EI w S0 PI pv (w3.heap.size + 1) w3.heap.size (w2.heap.size + 17) (tp w2.heap.size) (tq w2.heap.size) vb vd bs ds 0 [] [] (.slice none 0 0) S0 W := by
  have z0 := h0.size; have z1 := h1.size; have z2 := h2.size; have z3 := h3.size
  have g3 : w2.heap.size + 17 < w3.heap.size := cell_lt hT.s0
  have hB4 : Below w3.heap.size w3 W := by rw [hW]; exact bl_alloc (Below.refl _ _)
  have hB : Below w.heap.size w W := (((h0.trans (h1.mono z0)).trans (h2.mono (by omega))).trans (h3.mono (by omega))).trans (hB4.mono (by omega))
  have hp := hP.lt hpi
  refine ⟨⟨?_, ?_, ?_, ?_, ?_, ?_, ?_, ?_, World.ownsRow_nil _ _ _ _, ?_, by omega⟩, hP.keep hpi (Only.of_below (S := fun _ => False) hB) (fun _ _ c => c), fun k c => .inl c, fun k c => .inl (hp k c), fun k _ c => (by cases c), hT.below (Nat.le_refl _) hB4, TB.ofTab (fun j hj => ⟨by omega, by omega, by omega⟩) hT, Ins.ofOwn oB ?_ (fun k c d => ⟨by omega, by omega, by omega⟩), Ins.ofOwn oD ?_ (fun k c d => ⟨by omega, by omega, by omega⟩), Only.of_below hB, by omega, fun _ c => (by cases c)⟩
  · rw [hW]; simp [go_sem]
  · rw [hW]; simp [go_sem]
  · rw [hW]; simp [go_sem]
  · rw [hW]; simp [go_sem]
  · rw [hW]; simp [go_sem]
  · rw [hW]; simp [go_sem]
  · rw [hW]; simp [go_sem]
  · rw [hW]; simp [go_sem]
  · rw [hW]; simp
  · exact (h2.trans (h3.mono z2)).trans (hB4.mono (by omega))
  · exact h3.trans (hB4.mono (by omega))
/-- The next byte. -/
theorem EI.next {w0 : World} {S0 : Nat → Prop} {PI : World → List (Int × Int) → (Nat → Prop) → Prop} {pv : Value} {base br g : Nat} {p q : Nat → Nat} {vb vd : Value} {bs ds : List St} {i : Int} {st : List St} {qs : List (Int × Int)} {vs : Value} {S : Nat → Prop} {w : World} (h : EI w0 S0 PI pv base br g p q vb vd bs ds i st qs vs S w) {kdf : Nat → Int} {gd : Nat → Bool} (hP : Pol PI pv kdf gd) (i' : Int) :
    EI w0 S0 PI pv base br g p q vb vd bs ds i' st qs vs S (w.setCell ⟨br, 0, none⟩ (.int .i64 i')) := by
  have r := h.ri
  have lt0 : br < w.heap.size := Nat.lt_of_lt_of_le r.bb r.ba
  have ot : ∀ {j : Nat} {v : Value}, j ≠ 0 → w.cell? ⟨br, j, none⟩ = some v → (w.setCell ⟨br, 0, none⟩ (.int .i64 i')).cell? ⟨br, j, none⟩ = some v := fun {j} {v} hj e => by
    rw [World.cell?_setCell_other _ _ _ _ (by simp)]; exact e
  have hO : Only (fun k => k = br) w (w.setCell ⟨br, 0, none⟩ (.int .i64 i')) := ⟨rfl, rfl, rfl, by simp, fun k _ hn => Below.heap_setCell w ⟨br, 0, none⟩ _ k hn⟩
  refine h.go ⟨World.cell?_setCell_same _ _ _ r.r0, ot (by omega) r.r1, ot (by omega) r.r2, ot (by omega) r.r3, ot (by omega) r.r4, ot (by omega) r.r5, ?_, ?_, ?_, ?_, r.bb⟩ (hP.keep h.pi hO fun k hk c => ?_) (hO.trans (Only.of_below (S := fun _ => False) (Below.refl _ _)) (fun k c => .inl c) (fun _ _ c => c.elim)) (fun _ c => .inl c) h.s2 h.sk
  · rw [World.frozen?_setCell]; exact r.f0
  · rw [World.frozen?_setCell]; exact r.f5
  · exact ownsRow_setCell_other r.hs (fun c => by have := (r.hs.lt br c).1; have := r.bb; omega) _
  · simp; exact r.ba
  · subst c; exact h.notS hk
def atN (br : Nat) (w : World) : Nat := match w.cell? ⟨br, 0, none⟩ with
  | some (.int _ n) => n.toNat
  | _ => 0
theorem byts_len (s : ByteArray) : (byts s).length = s.size := by simp [byts]
theorem byts_drop (s : ByteArray) {k : Nat} (h : k < s.size) : (byts s).drop k = ((s[k]'h).toNat : Int) :: (byts s).drop (k + 1) := by
  have h' : k < (byts s).length := by rw [byts_len]; exact h
  rw [List.drop_eq_getElem_cons h']
  congr 1
  simp [byts]; rfl
/-- What a program answers, in memory. -/
def EvOk (S0 : Nat → Prop) (PI : World → List (Int × Int) → (Nat → Prop) → Prop) (w : World) (r : Int × Int × List St × List (Int × Int)) (e : Ending) (w' : World) : Prop :=
  ∃ S, PI w' r.2.2.2 S ∧ (∀ k, S k → S0 k ∨ w.heap.size ≤ k) ∧ Only S0 w w' ∧
    ((r.1 = 0 ∧ ∃ z : St, r.2.2.1 = [z] ∧ z.ok ∧ e = .returned (.tuple #[z.val, .nilIface])) ∨ (r.1 ≠ 0 ∧ ∃ bf, e = .returned (.tuple #[V0, .iface 87 (.pointer (some ⟨bf, 0, none⟩))]) ∧ w'.cell? ⟨bf, 0, none⟩ = some (.int .i64 r.2.1) ∧ w'.cell? ⟨bf, 1, none⟩ = some (.int .i64 r.1)))
theorem runs_cons (P : Plane) (bs ds : List St) (kdf : Nat → Int) (gd : Nat → Bool) (c : Int) (cs : List Int) (i : Int) (st : List St) (qs : List (Int × Int)) : runs P bs ds kdf gd (c :: cs) i st qs = if (stp P bs ds kdf gd c i st qs).1 = 0 then runs P bs ds kdf gd cs (i + 1) (stp P bs ds kdf gd c i st qs).2.1 (stp P bs ds kdf gd c i st qs).2.2 else ((stp P bs ds kdf gd c i st qs).1, i, (stp P bs ds kdf gd c i st qs).2.1, (stp P bs ds kdf gd c i st qs).2.2) := rfl
theorem runs_nil (P : Plane) (bs ds : List St) (kdf : Nat → Int) (gd : Nat → Bool) (i : Int) (st : List St) (qs : List (Int × Int)) : runs P bs ds kdf gd [] i st qs = (if st.length = 1 then 0 else 4, i, st, qs) := rfl
/-- A block of seven cells that may be written. -/
structure Seven (b : Nat) (w : World) : Prop where
  c0 : ∃ v, w.cell? ⟨b, 0, none⟩ = some v ∧ w.frozen? ⟨b, 0, none⟩ = false
  c1 : ∃ v, w.cell? ⟨b, 1, none⟩ = some v ∧ w.frozen? ⟨b, 1, none⟩ = false
  c2 : ∃ v, w.cell? ⟨b, 2, none⟩ = some v ∧ w.frozen? ⟨b, 2, none⟩ = false
  c3 : ∃ v, w.cell? ⟨b, 3, none⟩ = some v ∧ w.frozen? ⟨b, 3, none⟩ = false
  c4 : ∃ v, w.cell? ⟨b, 4, none⟩ = some v ∧ w.frozen? ⟨b, 4, none⟩ = false
  c5 : ∃ v, w.cell? ⟨b, 5, none⟩ = some v ∧ w.frozen? ⟨b, 5, none⟩ = false
  c6 : ∃ v, w.cell? ⟨b, 6, none⟩ = some v ∧ w.frozen? ⟨b, 6, none⟩ = false
theorem Seven.only {S : Nat → Prop} {b : Nat} {w w' : World} (h : Seven b w) (hO : Only S w w') (hb : ¬ S b) : Seven b w' := by
  have k : ∀ {j : Nat}, (∃ v, w.cell? ⟨b, j, none⟩ = some v ∧ w.frozen? ⟨b, j, none⟩ = false) → ∃ v, w'.cell? ⟨b, j, none⟩ = some v ∧ w'.frozen? ⟨b, j, none⟩ = false := fun ⟨v, h1, h2⟩ => ⟨v, hO.cell h1 hb, hO.frozen h1 h2 hb⟩
  exact ⟨k h.c0, k h.c1, k h.c2, k h.c3, k h.c4, k h.c5, k h.c6⟩
theorem stp_len (P : Plane) (bs ds : List St) (kdf : Nat → Int) (gd : Nat → Bool) (c i : Int) (st : List St) (qs : List (Int × Int)) : (stp P bs ds kdf gd c i st qs).2.1.length ≤ st.length + 1 ∧ (stp P bs ds kdf gd c i st qs).2.2.length ≤ qs.length + 1 := by
  unfold stp
  repeat' split
  all_goals (refine ⟨?_, ?_⟩ <;> simp [after])
  all_goals (split <;> simp <;> omega)
theorem St.forms (z : St) : (∃ x : Bx, z = .box x) ∨ (∃ x : Dc, z = .disc x) := by cases z <;> simp
theorem methodB (a b c d : Nat) (w : World) : (Go.method 350 121 (.agg #[.float .f64 a, .float .f64 b, .float .f64 c, .float .f64 d]) "intervals/programs.value").run Tryz.prog w = .ok (207, .agg #[.float .f64 a, .float .f64 b, .float .f64 c, .float .f64 d]) w := by kernel_rfl
theorem methodD (a b r : Nat) (w : World) : (Go.method 350 124 (.agg #[.complex .f64 a b, .float .f64 r]) "intervals/programs.value").run Tryz.prog w = .ok (208, .agg #[.complex .f64 a b, .float .f64 r]) w := by kernel_rfl
theorem Seven.set {b : Nat} {w : World} (h : Seven b w) (j : Nat) (v : Value) : Seven b (w.setCell ⟨b, j, none⟩ v) := by
  have k : ∀ {i : Nat}, (∃ u, w.cell? ⟨b, i, none⟩ = some u ∧ w.frozen? ⟨b, i, none⟩ = false) → ∃ u, (w.setCell ⟨b, j, none⟩ v).cell? ⟨b, i, none⟩ = some u ∧ (w.setCell ⟨b, j, none⟩ v).frozen? ⟨b, i, none⟩ = false := fun {i} ⟨u, h1, h2⟩ => by
    rw [World.frozen?_setCell]
    by_cases c : i = j
    · subst c; exact ⟨v, World.cell?_setCell_same _ _ _ h1, h2⟩
    · exact ⟨u, by rw [World.cell?_setCell_other _ _ _ _ (by simp)]; exact h1, h2⟩
  exact ⟨k h.c0, k h.c1, k h.c2, k h.c3, k h.c4, k h.c5, k h.c6⟩
theorem only_set {b : Nat} {w u : World} (h : Only (fun k => k = b) w u) (j : Nat) (v : Value) : Only (fun k => k = b) w (u.setCell ⟨b, j, none⟩ v) :=
  h.trans ⟨rfl, rfl, rfl, by simp, fun k _ hn => Below.heap_setCell u ⟨b, j, none⟩ _ k hn⟩ (fun _ c => c) (fun _ _ c => c)
theorem Seven.put {b : Nat} {w W : World} (h : Seven b w) (v0 v1 v2 v3 v4 v5 v6 : Value) (hW : W = ((((((w.setCell ⟨b, 0, none⟩ v0).setCell ⟨b, 1, none⟩ v1).setCell ⟨b, 2, none⟩ v2).setCell ⟨b, 3, none⟩ v3).setCell ⟨b, 4, none⟩ v4).setCell ⟨b, 5, none⟩ v5).setCell ⟨b, 6, none⟩ v6) :
    W.cell? ⟨b, 0, none⟩ = some v0 ∧ W.cell? ⟨b, 1, none⟩ = some v1 ∧ W.cell? ⟨b, 2, none⟩ = some v2 ∧ W.cell? ⟨b, 3, none⟩ = some v3 ∧ W.cell? ⟨b, 4, none⟩ = some v4 ∧ W.cell? ⟨b, 5, none⟩ = some v5 ∧ W.cell? ⟨b, 6, none⟩ = some v6 ∧ Only (fun k => k = b) w W := by
  have s0 := h.set 0 v0
  have s1 := s0.set 1 v1
  have s2 := s1.set 2 v2
  have s3 := s2.set 3 v3
  have s4 := s3.set 4 v4
  have s5 := s4.set 5 v5
  have sm : ∀ {w : World} {j : Nat} {v : Value}, (∃ u, w.cell? ⟨b, j, none⟩ = some u ∧ w.frozen? ⟨b, j, none⟩ = false) → (w.setCell ⟨b, j, none⟩ v).cell? ⟨b, j, none⟩ = some v := fun ⟨u, h1, _⟩ => World.cell?_setCell_same _ _ _ h1
  have ot : ∀ {w : World} {i j : Nat} {u v : Value}, i ≠ j → w.cell? ⟨b, i, none⟩ = some u → (w.setCell ⟨b, j, none⟩ v).cell? ⟨b, i, none⟩ = some u := fun {w i j u v} c e => by
    rw [World.cell?_setCell_other _ _ _ _ (by simp)]; exact e
  subst hW
  refine ⟨ot (by decide) (ot (by decide) (ot (by decide) (ot (by decide) (ot (by decide) (ot (by decide) (sm h.c0)))))), ot (by decide) (ot (by decide) (ot (by decide) (ot (by decide) (ot (by decide) (sm s0.c1))))), ot (by decide) (ot (by decide) (ot (by decide) (ot (by decide) (sm s1.c2)))), ot (by decide) (ot (by decide) (ot (by decide) (sm s2.c3))), ot (by decide) (ot (by decide) (sm s3.c4)), ot (by decide) (sm s4.c5), sm s5.c6, ?_⟩
  exact only_set (only_set (only_set (only_set (only_set (only_set (only_set (Only.of_below (Below.refl _ _)) _ _) _ _) _ _) _ _) _ _) _ _) _ _
theorem EvOk.mk7 {PI : World → List (Int × Int) → (Nat → Prop) → Prop} {pv : Value} {kdf : Nat → Int} {gd : Nat → Bool} (hP : Pol PI pv kdf gd) {S0 S : Nat → Prop} {w w0 w' W : World} {r : Int × Int × List St × List (Int × Int)} {e : Ending} (hB0 : Below w.heap.size w w0) (sz : w0.heap.size = w.heap.size + 2) (n0 : ¬ S0 (w.heap.size + 1)) (pi : PI w' r.2.2.2 S) (s0 : ∀ k, S k → S0 k ∨ w0.heap.size ≤ k) (fr : Only S0 w0 w') (h7 : Only (fun k => k = w.heap.size + 1) w' W)
    (he : (r.1 = 0 ∧ ∃ z : St, r.2.2.1 = [z] ∧ z.ok ∧ e = .returned (.tuple #[z.val, .nilIface])) ∨ (r.1 ≠ 0 ∧ ∃ bf, e = .returned (.tuple #[V0, .iface 87 (.pointer (some ⟨bf, 0, none⟩))]) ∧ W.cell? ⟨bf, 0, none⟩ = some (.int .i64 r.2.1) ∧ W.cell? ⟨bf, 1, none⟩ = some (.int .i64 r.1))) : EvOk S0 PI w r e W := by
  refine ⟨S, hP.keep pi h7 fun k hk c => ?_, fun k hk => (s0 k hk).imp (fun c => c) (fun c => by omega), (only_below hB0 fr).trans h7 (fun _ c => c) (fun k h c => by omega), he⟩
  subst c
  rcases s0 _ hk with c | c
  · exact n0 c
  · omega
set_option maxRecDepth 100000 in
set_option maxHeartbeats 4000000 in
theorem eval_any (P : Plane) {PI : World → List (Int × Int) → (Nat → Prop) → Prop} {pv : Value} {kdf : Nat → Int} {gd : Nat → Bool} (hP : Pol PI pv kdf gd) (s : ByteArray) (vb vd : Value) (bl : List Bx) (dl : List Dc) (S0 : Nat → Prop) (w : World) (hb : SrcB w vb bl) (hd : SrcD w vd dl) (hpi : PI w [] S0) (ob : ∀ x ∈ bl, x.ok) (od : ∀ x ∈ dl, x.ok) (hs : s.size ≤ 60) (hn : bl.length ≤ 4) (hm : dl.length ≤ 4) :
    Calls Tryz.prog 34 #[.string s, vb, vd, .agg #[pv]] w (EvOk S0 PI w (runs P (bl.map St.box) (dl.map St.disc) kdf gd (byts s) 0 [] [])) := by
  obtain ⟨ao, c, rfl⟩ := hb.sh
  obtain ⟨bo, d, rfl⟩ := hd.sh
  have h1 : ¬ (60 : Int) < s.size := by omega
  have h2 : ¬ (4 : Int) < bl.length := by omega
  have h3 : ¬ (4 : Int) < dl.length := by omega
  obtain ⟨w0, hw0⟩ : ∃ v, v = ((w.alloc (.cells #[pv] 32)).alloc (.cells #[.int .i64 0, .float .f64 0, .float .f64 0, .float .f64 0, .float .f64 0, .complex .f64 0 0, .float .f64 0] 44)) := ⟨_, rfl⟩
  have hB0 : Below w.heap.size w w0 := by rw [hw0]; exact bl_alloc (bl_alloc (Below.refl _ _))
  have cp : w0.cell? ⟨w.heap.size, 0, none⟩ = some pv := by rw [hw0]; simp [go_sem]
  have hpi0 := hP.keep hpi (Only.of_below (S := fun _ => False) hB0) (fun _ _ c => c)
  have h7 : Hid (Seven (w.heap.size + 1) w0) := by rw [hw0]; constructor <;> exact ⟨_, by simp [go_sem]; rfl, by simp [go_sem]⟩
  have hS0 : Hid (¬ S0 (w.heap.size + 1)) := fun c => by have := hP.lt hpi _ c; omega
  have c1x : Hid (w0.cell? ⟨w.heap.size + 1, 1, none⟩ = some (.float .f64 0)) := by
    show w0.cell? ⟨w.heap.size + 1, 1, none⟩ = _
    rw [hw0]; simp [go_sem]
  have sb0 := hb.below hB0
  have sd0 := hd.below hB0
  have s0 : w0.heap.size = w.heap.size + 2 := by rw [hw0]; simp
  go_enter Tryz.func34, Tryz.ntmps34
  go_wp2_with fail
  rw [← hw0]
  clear hw0 h1 h2 h3
  go_region_held3 (fun w' => w'.cell? ⟨w.heap.size, 0, none⟩ = some pv ∧ SrcB w' (.slice ao bl.length c) bl ∧ SrcD w' (.slice bo dl.length d) dl) (((try dsimp only); (try go_split_ands); (repeat' apply And.intro) <;> first | (with_reducible assumption) | (with_reducible refine bkeep2 hb ?_; first | (with_reducible assumption) | (simp [*]; done)) | (with_reducible exact SrcB.drew (by assumption)) | (with_reducible exact SrcD.drew (by assumption)) | (with_reducible exact SrcB.alloc (by assumption) _) | (with_reducible exact SrcD.alloc (by assumption) _) | (with_reducible refine SrcB.below ?_ hb; first | (with_reducible assumption) | (simp [*]; done)) | (with_reducible refine SrcD.below ?_ hb; first | (with_reducible assumption) | (simp [*]; done)) | go_keep)) (first
    | (go_at_call 63; with_reducible refine (setsB_any _ _ _ (by first | (with_reducible assumption) | (simp [*]; done)) hn).mono ?_; rintro e w1 ⟨vB, rfl, oB, hb⟩; have hw1 := hb; obtain ⟨aB, cB, rfl, _, _, _⟩ := own_shape oB)
    | (go_at_call 65; with_reducible refine (setsD_any _ _ _ (by first | (with_reducible assumption) | (simp [*]; done)) hm).mono ?_; rintro e w2 ⟨vD, rfl, oD, hb⟩; have hw2 := hb; obtain ⟨aD, cD, rfl, _, _, _⟩ := own_shape oD)
    | (go_at_call 67; with_reducible refine (operations_any _).mono ?_; rintro e w3 ⟨rfl, hT, hb⟩; have hw3 := hb))
  have oB' : w1.ownsRow w0.heap.size 120 1 (.slice aB bl.length cB) (bl.map St.box).length ((bl.map St.box).map St.v) := by rw [List.length_map]; exact oB
  have oD' : w2.ownsRow w1.heap.size 120 1 (.slice aD dl.length cD) (dl.map St.disc).length ((dl.map St.disc).map St.v) := by rw [List.length_map]; exact oD
  have hE : Hid (EI w0 S0 PI pv (w3.heap.size + 1) w3.heap.size (w2.heap.size + 17) (tp w2.heap.size) (tq w2.heap.size) (.slice aB bl.length cB) (.slice aD dl.length cD) (bl.map St.box) (dl.map St.disc) 0 [] [] (.slice none 0 0) S0 (w3.alloc (.cells #[.int .i64 0, .slice aB bl.length cB, .slice aD dl.length cD, pv, .slice (some ⟨w2.heap.size + 17, 0, none⟩) 5 5, .slice none 0 0] 129))) := by
    exact EI.start hP (w1 := w1) (w2 := w2) (w3 := w3) hpi0 (Below.refl _ _) ((Below.refl _ _).drew.trans hw1) hw2 hw3 oB' oD' hT rfl
  have hnm : Hid ((bl.map St.box).length ≤ 100 ∧ (dl.map St.disc).length ≤ 100) := ⟨by rw [List.length_map]; omega, by rw [List.length_map]; omega⟩
  clear cp sb0 sd0 hn hm oB oD oB' oD'
  have obs : Hid (∀ x ∈ bl.map St.box, x.ok) := by
    intro x hx
    obtain ⟨y, h1, rfl⟩ := List.mem_map.mp hx
    exact ob y h1
  have ods : Hid (∀ x ∈ dl.map St.disc, x.ok) := by
    intro x hx
    obtain ⟨y, h1, rfl⟩ := List.mem_map.mp hx
    exact od y h1
  go_wp2_with fail
  go_loopw [] (fun wr => ∃ (k : Nat) (st : List St) (qs : List (Int × Int)) (vs : Value) (S : Nat → Prop), k ≤ s.size ∧ Hid (EI w0 S0 PI pv (w3.heap.size + 1) w3.heap.size (w2.heap.size + 17) (tp w2.heap.size) (tq w2.heap.size) (.slice aB bl.length cB) (.slice aD dl.length cD) (bl.map St.box) (dl.map St.disc) k st qs vs S wr ∧ runs P (bl.map St.box) (dl.map St.disc) kdf gd ((byts s).drop k) k st qs = runs P (bl.map St.box) (dl.map St.disc) kdf gd (byts s) 0 [] [] ∧ st.length ≤ k ∧ qs.length ≤ k)) (fun wr => s.size - atN w3.heap.size wr)
  case atStart => exact ⟨0, [], [], _, _, Nat.zero_le _, hE.out, by simp, by simp, by simp⟩
  case round =>
    rename World => wr
    obtain ⟨k, st, qs, vs, S, hk, hH⟩ := hrel
    have r0 := hH.out.1.ri.r0
    by_cases hlt : k < s.size
    · have hltI : (k : Int) < s.size := by omega
      go_wp2_with fail
      go_at_call 68
      refine (do_any P hH.out.1 hP (by have := hH.out.2.2.2; omega) (by have := hH.out.2.2.1; omega) hnm.out.1 hnm.out.2 obs.out ods.out _).mono ?_
      have hrn := hH.out.2.1
      rw [byts_drop s hlt] at hrn
      have hln := stp_len P (bl.map St.box) (dl.map St.disc) kdf gd ((s[k]'hlt).toNat : Int) k st qs
      have hl1 := hH.out.2.2
      rw [runs_cons] at hrn
      generalize hr : stp P (bl.map St.box) (dl.map St.disc) kdf gd ((s[k]'hlt).toNat : Int) k st qs = r at hrn hln
      rintro e w' (⟨h1, rfl, vs', S', hE'⟩ | ⟨h1, bf, S', rfl, d0, d1, d2, d3, d4⟩)
      · rw [if_pos h1] at hrn
        have q0 := hE'.ri.r0
        have qf := hE'.ri.f0
        have hN := hE'.next hP ((k + 1 : Nat) : Int)
        have HN : Hid (EI w0 S0 PI pv (w3.heap.size + 1) w3.heap.size (w2.heap.size + 17) (tp w2.heap.size) (tq w2.heap.size) (.slice aB bl.length cB) (.slice aD dl.length cD) (bl.map St.box) (dl.map St.disc) ((k + 1 : Nat) : Int) r.2.1 r.2.2 vs' S' (w'.setCell ⟨w3.heap.size, 0, none⟩ (.int .i64 ((k + 1 : Nat) : Int))) ∧ runs P (bl.map St.box) (dl.map St.disc) kdf gd ((byts s).drop (k + 1)) ((k : Int) + 1) r.2.1 r.2.2 = runs P (bl.map St.box) (dl.map St.disc) kdf gd (byts s) 0 [] [] ∧ r.2.1.length ≤ k + 1 ∧ r.2.2.length ≤ k + 1) := ⟨hN, hrn, by omega, by omega⟩
        have qn : atN w3.heap.size wr = k := by unfold atN; rw [r0]; simp
        have qm : atN w3.heap.size (w'.setCell ⟨w3.heap.size, 0, none⟩ (.int .i64 ((k + 1 : Nat) : Int))) = k + 1 := by unfold atN; rw [World.cell?_setCell_same _ _ _ q0]; simp
        clear hN hrn hln hl1 hr hE' h1
        go_wp2_with fail
        go_roundw
        case rel => exact ⟨k + 1, r.2.1, r.2.2, vs', S', by omega, HN⟩
        case measure => show _ - atN _ _ < _ - atN _ _; rw [qn]; have := qm; simp at this; simp [this]; omega
      · rw [if_neg h1] at hrn
        have h77 := h7.out.only d4 hS0.out
        have nb : bf ≠ w.heap.size + 1 := fun c => by
          subst c
          have := d4.cell c1x.out hS0.out
          rw [d1] at this
          cases this
        have h78 := h77
        obtain ⟨⟨x0, y0, z0⟩, ⟨x1, y1, z1⟩, ⟨x2, y2, z2⟩, ⟨x3, y3, z3⟩, ⟨x4, y4, z4⟩, ⟨x5, y5, z5⟩, ⟨x6, y6, z6⟩⟩ := h78
        clear hln hl1 hr
        go_wp2_with fail
        obtain ⟨W, hW⟩ : ∃ v, v = (((((((w'.setCell ⟨w.heap.size + 1, 0, none⟩ (.int .i64 0)).setCell ⟨w.heap.size + 1, 1, none⟩ (.float .f64 0)).setCell ⟨w.heap.size + 1, 2, none⟩ (.float .f64 0)).setCell ⟨w.heap.size + 1, 3, none⟩ (.float .f64 0)).setCell ⟨w.heap.size + 1, 4, none⟩ (.float .f64 0)).setCell ⟨w.heap.size + 1, 5, none⟩ (.complex .f64 0 0)).setCell ⟨w.heap.size + 1, 6, none⟩ (.float .f64 0)) := ⟨_, rfl⟩
        rw [← hW]
        obtain ⟨g0, g1, g2, g3, g4, g5, g6, hO7⟩ := h77.put (.int .i64 0) (.float .f64 0) (.float .f64 0) (.float .f64 0) (.float .f64 0) (.complex .f64 0 0) (.float .f64 0) hW
        refine bodyPost_ret (v := .tuple #[V0, .iface 87 (.pointer (some ⟨bf, 0, none⟩))]) (by simp [results, Tryz.results34, go_sem, V0, *]) rfl ?_
        rw [← hrn]
        exact EvOk.mk7 hP hB0 s0 hS0.out d2 d3 d4 hO7 (.inr ⟨h1, bf, rfl, hO7.cell d0 nb, hO7.cell d1 nb⟩)
    · have hkn : k = s.size := by omega
      subst hkn
      have hrn := hH.out.2.1
      rw [List.drop_eq_nil_of_le (by rw [byts_len]; exact Nat.le_refl _)] at hrn
      rw [runs_nil] at hrn
      obtain ⟨so, sc, hvs, _⟩ := own_shape hH.out.1.ri.hs
      have r5 := hH.out.1.ri.r5
      rw [hvs] at r5
      rw [List.length_map] at r5
      by_cases hs1 : st.length = 1
      · obtain ⟨z, rfl⟩ : ∃ z, st = [z] := List.length_eq_one_iff.mp hs1
        obtain ⟨gs, c5, hv5, k5, _⟩ := own_row hH.out.1.ri.hs (j := 0) (u := z.v) (by simp)
        have r6 := hH.out.1.ri.r5
        rw [hv5] at r6
        simp only [List.map_cons, List.map_nil, List.length_cons, List.length_nil] at r6
        have okz := hH.out.1.sk z (by simp)
        clear r5
        rcases St.forms z with ⟨x, rfl⟩ | ⟨x, rfl⟩
        · simp only [St.v, St.ty, St.un, Bx.v] at k5
          have mV := methodB
          go_wp2_with (go_at_call 207; refine (value_b_w _ _ _ _ _).mono ?_; rintro e w8 ⟨rfl, hb8⟩; have h9 := hH.out.1.below hP hb8; have h77 := h7.out.only h9.fr hS0.out; have h78 := h77; obtain ⟨⟨x0, y0, z0⟩, ⟨x1, y1, z1⟩, ⟨x2, y2, z2⟩, ⟨x3, y3, z3⟩, ⟨x4, y4, z4⟩, ⟨x5, y5, z5⟩, ⟨x6, y6, z6⟩⟩ := h78; have H9 : Hid (EI w0 S0 PI pv (w3.heap.size + 1) w3.heap.size (w2.heap.size + 17) (tp w2.heap.size) (tq w2.heap.size) (.slice aB bl.length cB) (.slice aD dl.length cD) (bl.map St.box) (dl.map St.disc) s.size _ qs vs S w8) := h9; clear h9 hb8)
          obtain ⟨W, hW⟩ : ∃ v, v = (((((((w8.setCell ⟨w.heap.size + 1, 0, none⟩ (.int .i64 0)).setCell ⟨w.heap.size + 1, 1, none⟩ (.float .f64 x.a)).setCell ⟨w.heap.size + 1, 2, none⟩ (.float .f64 x.b)).setCell ⟨w.heap.size + 1, 3, none⟩ (.float .f64 x.c)).setCell ⟨w.heap.size + 1, 4, none⟩ (.float .f64 x.d)).setCell ⟨w.heap.size + 1, 5, none⟩ (.complex .f64 0 0)).setCell ⟨w.heap.size + 1, 6, none⟩ (.float .f64 0)) := ⟨_, rfl⟩
          rw [← hW]
          obtain ⟨g0, g1, g2, g3, g4, g5, g6, hO7⟩ := h77.put (.int .i64 0) (.float .f64 x.a) (.float .f64 x.b) (.float .f64 x.c) (.float .f64 x.d) (.complex .f64 0 0) (.float .f64 0) hW
          refine bodyPost_ret (v := .tuple #[St.val (.box x), .nilIface]) (by simp [results, Tryz.results34, go_sem, St.val, *]) rfl ?_
          rw [← hrn]
          exact EvOk.mk7 hP hB0 s0 hS0.out H9.out.pi H9.out.s0 H9.out.fr hO7 (.inl ⟨by simp, _, rfl, okz, rfl⟩)
        · simp only [St.v, St.ty, St.un, Dc.v] at k5
          have mV := methodD
          go_wp2_with (go_at_call 208; refine (value_d_w _ _ _ _).mono ?_; rintro e w8 ⟨rfl, hb8⟩; have h9 := hH.out.1.below hP hb8; have h77 := h7.out.only h9.fr hS0.out; have h78 := h77; obtain ⟨⟨x0, y0, z0⟩, ⟨x1, y1, z1⟩, ⟨x2, y2, z2⟩, ⟨x3, y3, z3⟩, ⟨x4, y4, z4⟩, ⟨x5, y5, z5⟩, ⟨x6, y6, z6⟩⟩ := h78; have H9 : Hid (EI w0 S0 PI pv (w3.heap.size + 1) w3.heap.size (w2.heap.size + 17) (tp w2.heap.size) (tq w2.heap.size) (.slice aB bl.length cB) (.slice aD dl.length cD) (bl.map St.box) (dl.map St.disc) s.size _ qs vs S w8) := h9; clear h9 hb8)
          obtain ⟨W, hW⟩ : ∃ v, v = (((((((w8.setCell ⟨w.heap.size + 1, 0, none⟩ (.int .i64 1)).setCell ⟨w.heap.size + 1, 1, none⟩ (.float .f64 0)).setCell ⟨w.heap.size + 1, 2, none⟩ (.float .f64 0)).setCell ⟨w.heap.size + 1, 3, none⟩ (.float .f64 0)).setCell ⟨w.heap.size + 1, 4, none⟩ (.float .f64 0)).setCell ⟨w.heap.size + 1, 5, none⟩ (.complex .f64 x.a x.b)).setCell ⟨w.heap.size + 1, 6, none⟩ (.float .f64 x.r)) := ⟨_, rfl⟩
          rw [← hW]
          obtain ⟨g0, g1, g2, g3, g4, g5, g6, hO7⟩ := h77.put (.int .i64 1) (.float .f64 0) (.float .f64 0) (.float .f64 0) (.float .f64 0) (.complex .f64 x.a x.b) (.float .f64 x.r) hW
          refine bodyPost_ret (v := .tuple #[St.val (.disc x), .nilIface]) (by simp [results, Tryz.results34, go_sem, St.val, *]) rfl ?_
          rw [← hrn]
          exact EvOk.mk7 hP hB0 s0 hS0.out H9.out.pi H9.out.s0 H9.out.fr hO7 (.inl ⟨by simp, _, rfl, okz, rfl⟩)
      · have hs1I : ¬ ((st.length : Int) = 1) := by omega
        rw [if_neg hs1] at hrn
        have hB9 : Below wr.heap.size wr (wr.alloc (.cells #[.int .i64 s.size, .int .i64 4] 93)) := bl_alloc (Below.refl _ _)
        have h9 := hH.out.1.below hP hB9
        have h77 := h7.out.only h9.fr hS0.out
        have nb : wr.heap.size ≠ w.heap.size + 1 := fun c => by have := hH.out.1.fr.size; omega
        have h78 := h77
        obtain ⟨⟨x0, y0, z0⟩, ⟨x1, y1, z1⟩, ⟨x2, y2, z2⟩, ⟨x3, y3, z3⟩, ⟨x4, y4, z4⟩, ⟨x5, y5, z5⟩, ⟨x6, y6, z6⟩⟩ := h78
        obtain ⟨w9, hw9⟩ : ∃ v, v = wr.alloc (.cells #[.int .i64 s.size, .int .i64 4] 93) := ⟨_, rfl⟩
        have d0 : w9.cell? ⟨wr.heap.size, 0, none⟩ = some (.int .i64 s.size) := by rw [hw9]; simp [go_sem]
        have d1 : w9.cell? ⟨wr.heap.size, 1, none⟩ = some (.int .i64 4) := by rw [hw9]; simp [go_sem]
        rw [← hw9] at h9 h77 y0 y1 y2 y3 y4 y5 y6 z0 z1 z2 z3 z4 z5 z6
        have H9 : Hid (EI w0 S0 PI pv (w3.heap.size + 1) w3.heap.size (w2.heap.size + 17) (tp w2.heap.size) (tq w2.heap.size) (.slice aB bl.length cB) (.slice aD dl.length cD) (bl.map St.box) (dl.map St.disc) s.size st qs vs S w9) := h9
        clear h9 hB9
        go_wp2_with (go_at_call 69; refine (fault_w _ _ _ _ r0).mono ?_; rintro e w8 ⟨rfl, hw8⟩; rw [← hw9] at hw8; subst hw8; clear hw9)
        obtain ⟨W, hW⟩ : ∃ v, v = (((((((w8.setCell ⟨w.heap.size + 1, 0, none⟩ (.int .i64 0)).setCell ⟨w.heap.size + 1, 1, none⟩ (.float .f64 0)).setCell ⟨w.heap.size + 1, 2, none⟩ (.float .f64 0)).setCell ⟨w.heap.size + 1, 3, none⟩ (.float .f64 0)).setCell ⟨w.heap.size + 1, 4, none⟩ (.float .f64 0)).setCell ⟨w.heap.size + 1, 5, none⟩ (.complex .f64 0 0)).setCell ⟨w.heap.size + 1, 6, none⟩ (.float .f64 0)) := ⟨_, rfl⟩
        rw [← hW]
        obtain ⟨g0, g1, g2, g3, g4, g5, g6, hO7⟩ := h77.put (.int .i64 0) (.float .f64 0) (.float .f64 0) (.float .f64 0) (.float .f64 0) (.complex .f64 0 0) (.float .f64 0) hW
        refine bodyPost_ret (v := .tuple #[V0, .iface 87 (.pointer (some ⟨wr.heap.size, 0, none⟩))]) (by simp [results, Tryz.results34, go_sem, V0, *]) rfl ?_
        rw [← hrn]
        exact EvOk.mk7 hP hB0 s0 hS0.out H9.out.pi H9.out.s0 H9.out.fr hO7 (.inr ⟨by simp, wr.heap.size, rfl, hO7.cell d0 nb, hO7.cell d1 nb⟩)
end Go.Proofs.YtacnclofbnafiabGreatDoor
