import Derived.Test.YtacnclofbnafiabGreatDoorCG
import Derived.Test.YtacnclofbnafiabGreatDoorAD
import Derived.StillTailTactics
import Derived.Deep.DeepCutAuto
import Derived.Deep.QuietTactic
namespace Go.Proofs.YtacnclofbnafiabGreatDoor
open Go.RowKit Fl

/-- The first two boxes and discs. -/
structure BD (bb bd : Nat) (f : Nat → Nat) (w : World) : Prop where
  b00 : w.cell? ⟨bb, 0 * 4, none⟩ = some (.float .f64 (bxf f 0).a)
  b01 : w.cell? ⟨bb, 0 * 4 + 1, none⟩ = some (.float .f64 (bxf f 0).b)
  b02 : w.cell? ⟨bb, 0 * 4 + 2, none⟩ = some (.float .f64 (bxf f 0).c)
  b03 : w.cell? ⟨bb, 0 * 4 + 3, none⟩ = some (.float .f64 (bxf f 0).d)
  b10 : w.cell? ⟨bb, 1 * 4, none⟩ = some (.float .f64 (bxf f 1).a)
  b11 : w.cell? ⟨bb, 1 * 4 + 1, none⟩ = some (.float .f64 (bxf f 1).b)
  b12 : w.cell? ⟨bb, 1 * 4 + 2, none⟩ = some (.float .f64 (bxf f 1).c)
  b13 : w.cell? ⟨bb, 1 * 4 + 3, none⟩ = some (.float .f64 (bxf f 1).d)
  d00 : w.cell? ⟨bd, 0 * 2, none⟩ = some (.complex .f64 (dcf f 0).a (dcf f 0).b)
  d01 : w.cell? ⟨bd, 0 * 2 + 1, none⟩ = some (.float .f64 (dcf f 0).r)
  d10 : w.cell? ⟨bd, 1 * 2, none⟩ = some (.complex .f64 (dcf f 1).a (dcf f 1).b)
  d11 : w.cell? ⟨bd, 1 * 2 + 1, none⟩ = some (.float .f64 (dcf f 1).r)
theorem BD.only {bb bd : Nat} {f : Nat → Nat} {w w' : World} {S : Nat → Prop} (h : BD bb bd f w) (hO : Only S w w') (hb : ¬ S bb) (hd : ¬ S bd) : BD bb bd f w' :=
  ⟨hO.cell h.b00 hb, hO.cell h.b01 hb, hO.cell h.b02 hb, hO.cell h.b03 hb, hO.cell h.b10 hb, hO.cell h.b11 hb, hO.cell h.b12 hb, hO.cell h.b13 hb, hO.cell h.d00 hd, hO.cell h.d01 hd, hO.cell h.d10 hd, hO.cell h.d11 hd⟩
theorem BD.below {bb bd : Nat} {f : Nat → Nat} {w w' : World} (h : BD bb bd f w) (hB : Below w.heap.size w w') : BD bb bd f w' := h.only (Only.of_below (S := fun _ => False) hB) (fun c => c) (fun c => c)
theorem src_b {bb bd : Nat} {f : Nat → Nat} {w : World} {bc : Nat} (h : BD bb bd f w) : SrcB w (.slice (some ⟨bb, 0, none⟩) 2 bc) ((List.range 2).map (bxf f)) := by
  refine ⟨⟨_, bc, rfl⟩, fun j x e => ?_⟩
  match j, e with
  | 0, e => obtain rfl : bxf f 0 = x := by simpa using e
            exact ⟨bb, bc, rfl, h.b00, h.b01, h.b02, h.b03⟩
  | 1, e => obtain rfl : bxf f 1 = x := by simpa using e
            exact ⟨bb, bc, rfl, h.b10, h.b11, h.b12, h.b13⟩
theorem src_d {bb bd : Nat} {f : Nat → Nat} {w : World} {dc : Nat} (h : BD bb bd f w) : SrcD w (.slice (some ⟨bd, 0, none⟩) 2 dc) ((List.range 2).map (dcf f)) := by
  refine ⟨⟨_, dc, rfl⟩, fun j x e => ?_⟩
  match j, e with
  | 0, e => obtain rfl : dcf f 0 = x := by simpa using e
            exact ⟨bd, dc, rfl, h.d00, h.d01⟩
  | 1, e => obtain rfl : dcf f 1 = x := by simpa using e
            exact ⟨bd, dc, rfl, h.d10, h.d11⟩
theorem val_of {r : Int × Int × List St × List (Int × Int)} {z : St} {v x : Value} {w : World} (h : (r.1 = 0 ∧ ∃ y : St, r.2.2.1 = [y] ∧ y.ok ∧ v = y.val ∧ x = .nilIface) ∨ (r.1 ≠ 0 ∧ v = V0 ∧ ErrIs w x r.1 r.2.1)) (h0 : r.1 = 0 := by rfl) (hz : r.2.2.1 = [z] := by rfl) : v = z.val ∧ x = .nilIface := by
  rcases h with ⟨_, y, hy, _, hv, hx⟩ | ⟨h1, _⟩
  · rw [hz] at hy
    injection hy with e _
    subst e
    exact ⟨hv, hx⟩
  · exact absurd h0 h1
theorem seven_new {S : Nat → Prop} {u w' : World} {a b c d e f g : Value} {t : TypeId} (fr : Only S (u.alloc (.cells #[a, b, c, d, e, f, g] t)) w') (hn : ¬ S u.heap.size) :
    w'.cell? ⟨u.heap.size, 0, none⟩ = some a ∧ w'.cell? ⟨u.heap.size, 1, none⟩ = some b ∧ w'.cell? ⟨u.heap.size, 2, none⟩ = some c ∧ w'.cell? ⟨u.heap.size, 3, none⟩ = some d ∧ w'.cell? ⟨u.heap.size, 4, none⟩ = some e ∧ w'.cell? ⟨u.heap.size, 5, none⟩ = some f ∧ w'.cell? ⟨u.heap.size, 6, none⟩ = some g ∧ w'.frozen? ⟨u.heap.size, 0, none⟩ = false ∧ w'.frozen? ⟨u.heap.size, 1, none⟩ = false ∧ w'.frozen? ⟨u.heap.size, 2, none⟩ = false ∧ w'.frozen? ⟨u.heap.size, 3, none⟩ = false ∧ w'.frozen? ⟨u.heap.size, 4, none⟩ = false ∧ w'.frozen? ⟨u.heap.size, 5, none⟩ = false ∧ w'.frozen? ⟨u.heap.size, 6, none⟩ = false := by
  have k : ∀ {j : Nat} {v : Value}, (u.alloc (.cells #[a, b, c, d, e, f, g] t)).cell? ⟨u.heap.size, j, none⟩ = some v → w'.cell? ⟨u.heap.size, j, none⟩ = some v := fun h => fr.cell h hn
  have q : ∀ {j : Nat} {v : Value}, (u.alloc (.cells #[a, b, c, d, e, f, g] t)).cell? ⟨u.heap.size, j, none⟩ = some v → (u.alloc (.cells #[a, b, c, d, e, f, g] t)).frozen? ⟨u.heap.size, j, none⟩ = false → w'.frozen? ⟨u.heap.size, j, none⟩ = false := fun h h' => fr.frozen h h' hn
  exact ⟨k (by simp), k (by simp), k (by simp), k (by simp), k (by simp), k (by simp), k (by simp), q (by simp; rfl) (by simp), q (by simp; rfl) (by simp), q (by simp; rfl) (by simp), q (by simp; rfl) (by simp), q (by simp; rfl) (by simp), q (by simp; rfl) (by simp), q (by simp; rfl) (by simp)⟩
/-- What a run of Eval leaves. -/
def EvR (S0 : Nat → Prop) (PI : World → List (Int × Int) → (Nat → Prop) → Prop) (qs : List (Int × Int)) (u w5 : World) : Prop := ∃ S, PI w5 qs S ∧ (∀ k, S k → S0 k ∨ u.heap.size ≤ k) ∧ Only S0 u w5
theorem evr_new {S : Nat → Prop} {PI : World → List (Int × Int) → (Nat → Prop) → Prop} {qs : List (Int × Int)} {u w' : World} {a b c d e f g : Value} {t : TypeId} (hR : EvR S PI qs (u.alloc (.cells #[a, b, c, d, e, f, g] t)) w') (n : Nat) (hb : u.heap.size = n) (hn : ¬ S n) :
    w'.cell? ⟨n, 0, none⟩ = some a ∧ w'.cell? ⟨n, 1, none⟩ = some b ∧ w'.cell? ⟨n, 2, none⟩ = some c ∧ w'.cell? ⟨n, 3, none⟩ = some d ∧ w'.cell? ⟨n, 4, none⟩ = some e ∧ w'.cell? ⟨n, 5, none⟩ = some f ∧ w'.cell? ⟨n, 6, none⟩ = some g ∧ w'.frozen? ⟨n, 0, none⟩ = false ∧ w'.frozen? ⟨n, 1, none⟩ = false ∧ w'.frozen? ⟨n, 2, none⟩ = false ∧ w'.frozen? ⟨n, 3, none⟩ = false ∧ w'.frozen? ⟨n, 4, none⟩ = false ∧ w'.frozen? ⟨n, 5, none⟩ = false ∧ w'.frozen? ⟨n, 6, none⟩ = false := by
  obtain ⟨_, _, _, fr⟩ := hR
  subst hb
  exact seven_new fr hn
theorem evr_newD {S : Nat → Prop} {PI : World → List (Int × Int) → (Nat → Prop) → Prop} {qs : List (Int × Int)} {u w' : World} {a b c d e f g : Value} {t : TypeId} (hR : EvR S PI qs (u.alloc (.cells #[a, b, c, d, e, f, g] t)).drew w') (n : Nat) (hb : u.heap.size = n) (hn : ¬ S n) :
    w'.cell? ⟨n, 0, none⟩ = some a ∧ w'.cell? ⟨n, 1, none⟩ = some b ∧ w'.cell? ⟨n, 2, none⟩ = some c ∧ w'.cell? ⟨n, 3, none⟩ = some d ∧ w'.cell? ⟨n, 4, none⟩ = some e ∧ w'.cell? ⟨n, 5, none⟩ = some f ∧ w'.cell? ⟨n, 6, none⟩ = some g ∧ w'.frozen? ⟨n, 0, none⟩ = false ∧ w'.frozen? ⟨n, 1, none⟩ = false ∧ w'.frozen? ⟨n, 2, none⟩ = false ∧ w'.frozen? ⟨n, 3, none⟩ = false ∧ w'.frozen? ⟨n, 4, none⟩ = false ∧ w'.frozen? ⟨n, 5, none⟩ = false ∧ w'.frozen? ⟨n, 6, none⟩ = false := by
  obtain ⟨_, _, _, fr⟩ := hR
  subst hb
  exact seven_new (u := u) ⟨fr.os, fr.tape, fr.output, fr.size, fr.block⟩ hn
/-- A value that lies at b; the blocks of the policy are others. -/
structure Lay (S0 : Nat → Prop) (PI : World → List (Int × Int) → (Nat → Prop) → Prop) (qs : List (Int × Int)) (W4 : World) (b : Nat) (v0 v1 v2 v3 v4 v5 v6 : Value) (w : World) : Prop where
  le : W4.heap.size ≤ b
  c0 : w.cell? ⟨b, 0, none⟩ = some v0
  f0 : w.frozen? ⟨b, 0, none⟩ = false
  c1 : w.cell? ⟨b, 1, none⟩ = some v1
  f1 : w.frozen? ⟨b, 1, none⟩ = false
  c2 : w.cell? ⟨b, 2, none⟩ = some v2
  f2 : w.frozen? ⟨b, 2, none⟩ = false
  c3 : w.cell? ⟨b, 3, none⟩ = some v3
  f3 : w.frozen? ⟨b, 3, none⟩ = false
  c4 : w.cell? ⟨b, 4, none⟩ = some v4
  f4 : w.frozen? ⟨b, 4, none⟩ = false
  c5 : w.cell? ⟨b, 5, none⟩ = some v5
  f5 : w.frozen? ⟨b, 5, none⟩ = false
  c6 : w.cell? ⟨b, 6, none⟩ = some v6
  f6 : w.frozen? ⟨b, 6, none⟩ = false
  po : ∃ S, PI w qs S ∧ (∀ k, S k → S0 k ∨ W4.heap.size ≤ k) ∧ ¬ S b
  fr : Only S0 W4 w
theorem Lay.mkB {S0 : Nat → Prop} {PI : World → List (Int × Int) → (Nat → Prop) → Prop} {pv : Value} {kdf : Nat → Int} {gd : Nat → Bool} (hP : Pol PI pv kdf gd) {qs : List (Int × Int)} {W4 w5 : World} {t : TypeId} (v0 v1 v2 v3 v4 v5 v6 : Value) (hR : EvR S0 PI qs W4.drew w5) : Lay S0 PI qs W4 w5.heap.size v0 v1 v2 v3 v4 v5 v6 (w5.alloc (.cells #[v0, v1, v2, v3, v4, v5, v6] t)) := by
  obtain ⟨S, h1, h2, h3⟩ := hR
  have hB : Below w5.heap.size w5 (w5.alloc (.cells #[v0, v1, v2, v3, v4, v5, v6] t)) := bl_alloc (Below.refl _ _)
  have h3' : Only S0 W4 w5 := ⟨h3.os, h3.tape, h3.output, h3.size, h3.block⟩
  refine ⟨h3.size, by simp, by simp, by simp, by simp, by simp, by simp, by simp, by simp, by simp, by simp, by simp, by simp, by simp, by simp, ⟨S, hP.keep h1 (Only.of_below (S := fun _ => False) hB) (fun _ _ c => c), h2, fun c => ?_⟩, h3'.trans (Only.of_below (S := fun _ => False) hB) (fun _ c => c) (fun _ _ c => c.elim)⟩
  have := hP.lt h1 _ c
  omega
theorem Lay.mkA {S0 : Nat → Prop} {PI : World → List (Int × Int) → (Nat → Prop) → Prop} {pv : Value} {kdf : Nat → Int} {gd : Nat → Bool} (hP : Pol PI pv kdf gd) {qs : List (Int × Int)} {W4 w5 W : World} {o : Obj} (v0 v1 v2 v3 v4 v5 v6 : Value) (hR : EvR S0 PI qs (W4.alloc o).drew w5) (hs : Seven W4.heap.size w5) (hn : ¬ S0 W4.heap.size)
    (hW : W = ((((((w5.setCell ⟨W4.heap.size, 0, none⟩ v0).setCell ⟨W4.heap.size, 1, none⟩ v1).setCell ⟨W4.heap.size, 2, none⟩ v2).setCell ⟨W4.heap.size, 3, none⟩ v3).setCell ⟨W4.heap.size, 4, none⟩ v4).setCell ⟨W4.heap.size, 5, none⟩ v5).setCell ⟨W4.heap.size, 6, none⟩ v6) : Lay S0 PI qs W4 W4.heap.size v0 v1 v2 v3 v4 v5 v6 W := by
  obtain ⟨S, h1, h2, h3⟩ := hR
  obtain ⟨g0, g1, g2, g3, g4, g5, g6, hO⟩ := hs.put v0 v1 v2 v3 v4 v5 v6 hW
  have hz : ((W4.alloc o).drew).heap.size = W4.heap.size + 1 := by simp
  have nS : ¬ S W4.heap.size := fun c => by
    rcases h2 _ c with d | d
    · exact hn d
    · omega
  have hB : Below W4.heap.size W4 (W4.alloc o).drew := (bl_alloc (Below.refl _ _)).drew
  have s7 : Seven W4.heap.size W := by
    rw [hW]
    exact ((((((hs.set 0 v0).set 1 v1).set 2 v2).set 3 v3).set 4 v4).set 5 v5).set 6 v6
  have fz : ∀ {j : Nat}, (∃ v, W.cell? ⟨W4.heap.size, j, none⟩ = some v ∧ W.frozen? ⟨W4.heap.size, j, none⟩ = false) → W.frozen? ⟨W4.heap.size, j, none⟩ = false := fun ⟨_, _, h⟩ => h
  refine ⟨Nat.le_refl _, g0, fz s7.c0, g1, fz s7.c1, g2, fz s7.c2, g3, fz s7.c3, g4, fz s7.c4, g5, fz s7.c5, g6, fz s7.c6, ⟨S, hP.keep h1 hO (fun k hk c => by subst c; exact nS hk), fun k hk => (h2 k hk).imp (fun c => c) (fun c => by omega), nS⟩, (only_below hB h3).trans hO (fun _ c => c) (fun k h c => by omega)⟩
theorem seven_of {w : World} {n : Nat} {a b c d e f g : Value} (h : w.cell? ⟨n, 0, none⟩ = some a ∧ w.cell? ⟨n, 1, none⟩ = some b ∧ w.cell? ⟨n, 2, none⟩ = some c ∧ w.cell? ⟨n, 3, none⟩ = some d ∧ w.cell? ⟨n, 4, none⟩ = some e ∧ w.cell? ⟨n, 5, none⟩ = some f ∧ w.cell? ⟨n, 6, none⟩ = some g ∧ w.frozen? ⟨n, 0, none⟩ = false ∧ w.frozen? ⟨n, 1, none⟩ = false ∧ w.frozen? ⟨n, 2, none⟩ = false ∧ w.frozen? ⟨n, 3, none⟩ = false ∧ w.frozen? ⟨n, 4, none⟩ = false ∧ w.frozen? ⟨n, 5, none⟩ = false ∧ w.frozen? ⟨n, 6, none⟩ = false) : Seven n w := by
  obtain ⟨a0, a1, a2, a3, a4, a5, a6, b0, b1, b2, b3, b4, b5, b6⟩ := h
  exact ⟨⟨_, a0, b0⟩, ⟨_, a1, b1⟩, ⟨_, a2, b2⟩, ⟨_, a3, b3⟩, ⟨_, a4, b4⟩, ⟨_, a5, b5⟩, ⟨_, a6, b6⟩⟩
end Go.Proofs.YtacnclofbnafiabGreatDoor

namespace Go.Proofs.YtacnclofbnafiabGreatDoor
open Go.RowKit Fl

/-- An operation over the first one or two inputs. -/
theorem runs_opb (P : Plane) {bs ds : List St} {kdf : Nat → Int} {gd : Nat → Bool} {f s c : Int} {x y : St} (hx : inAt bs ds f x) (hy : inAt bs ds s y) {L : List Int} (hc : ((c = 43 ∨ c = 45 ∨ c = 42) ∧ L = [f, s]) ∨ ((c = 94 ∨ c = 126) ∧ L = [f])) (hg : gd 0 = true) (hk : kdf 0 = 0) : ∃ n qs, runs P bs ds kdf gd (L ++ [c]) 0 [] [] = (0, n, [.box (P.bop c (P.asB x) (P.asB y))], qs) := by
  rcases hc with ⟨h, rfl⟩ | ⟨h, rfl⟩
  · exact ⟨_, _, by rw [show ([f, s] ++ [c] : List Int) = [f, s, c] from rfl, runs_two P _ _ hx hy h hg, hk, op2_b P h]⟩
  · exact ⟨_, _, by rw [show ([f] ++ [c] : List Int) = [f, c] from rfl, runs_one P _ _ hx h hg, hk, op1_b P h _ (P.asB y)]⟩
theorem runs_opd (P : Plane) {bs ds : List St} {kdf : Nat → Int} {gd : Nat → Bool} {f s c : Int} {x y : St} (hx : inAt bs ds f x) (hy : inAt bs ds s y) {L : List Int} (hc : ((c = 43 ∨ c = 45 ∨ c = 42) ∧ L = [f, s]) ∨ ((c = 94 ∨ c = 126) ∧ L = [f])) (hg : gd 0 = true) (hk : kdf 0 = 1) : ∃ n qs, runs P bs ds kdf gd (L ++ [c]) 0 [] [] = (0, n, [.disc (P.dop c (P.asD x) (P.asD y))], qs) := by
  rcases hc with ⟨h, rfl⟩ | ⟨h, rfl⟩
  · exact ⟨_, _, by rw [show ([f, s] ++ [c] : List Int) = [f, s, c] from rfl, runs_two P _ _ hx hy h hg, hk, op2_d P h]⟩
  · exact ⟨_, _, by rw [show ([f] ++ [c] : List Int) = [f, c] from rfl, runs_one P _ _ hx h hg, hk, op1_d P h _ (P.asD y)]⟩
theorem op_bytes {f s c : Int} {L : List Int} (hc : ((c = 43 ∨ c = 45 ∨ c = 42) ∧ L = [f, s]) ∨ ((c = 94 ∨ c = 126) ∧ L = [f])) : (c = 43 ∨ c = 45 ∨ c = 42 ∨ c = 94 ∨ c = 126) ∧ 1 ≤ L.length ∧ L.length ≤ 2 ∧ (L ++ [c]).take 1 = [f] := by
  rcases hc with ⟨h, rfl⟩ | ⟨h, rfl⟩
  · exact ⟨by omega, by simp, by simp, rfl⟩
  · exact ⟨by omega, by simp, by simp, rfl⟩
theorem inp_ok {k : Int} {b : Bx} {d : Dc} (hb : b.ok) (hd : d.ok) : (inp k b d).ok := by
  unfold inp
  split
  · exact hb
  · exact hd
theorem in_at0 {k fb : Int} {f : Nat → Nat} (h : (k = 0 ∧ fb = 48) ∨ (k = 1 ∧ fb = 97)) : inAt (((List.range 2).map (bxf f)).map St.box) (((List.range 2).map (dcf f)).map St.disc) fb (inp k (bxf f 0) (dcf f 0)) := by
  rcases h with ⟨rfl, rfl⟩ | ⟨rfl, rfl⟩
  · exact .inl ⟨by decide, by decide, rfl⟩
  · exact .inr ⟨by decide, by decide, rfl⟩
theorem in_at1 {k sb : Int} {f : Nat → Nat} (h : (k = 0 ∧ sb = 49) ∨ (k = 1 ∧ sb = 98)) : inAt (((List.range 2).map (bxf f)).map St.box) (((List.range 2).map (dcf f)).map St.disc) sb (inp k (bxf f 1) (dcf f 1)) := by
  rcases h with ⟨rfl, rfl⟩ | ⟨rfl, rfl⟩
  · exact .inl ⟨by decide, by decide, rfl⟩
  · exact .inr ⟨by decide, by decide, rfl⟩
set_option maxRecDepth 100000 in
set_option maxHeartbeats 16000000 in
theorem calls_w (F : Ops) (P : Plane) (op a1 a2 pk c kd k1 k2 fb sb : Int) (L : List Int) (j1 j2 j3 j4 j5 j6 j7 : Nat) (vl : Value) (f : Nat → Nat) (w : World) (hl : Lst w vl f) (h1 : bits .and .i64 a1 1 = k1) (h2 : bits .and .i64 a2 1 = k2) (hf1 : (k1 = 0 ∧ fb = 48) ∨ (k1 = 1 ∧ fb = 97)) (hf2 : (k2 = 0 ∧ sb = 49) ∨ (k2 = 1 ∧ sb = 98)) (hc : ((c = 43 ∨ c = 45 ∨ c = 42) ∧ L = [fb, sb]) ∨ ((c = 94 ∨ c = 126) ∧ L = [fb])) (hv7 : (inp k1 (bxf f 0) (dcf f 0)).val = .agg #[.int .i64 k1, .float .f64 j1, .float .f64 j2, .float .f64 j3, .float .f64 j4, .complex .f64 j5 j6, .float .f64 j7])
    (hraw : ∀ u, Calls Tryz.prog 25 #[.agg #[.int .i64 k1, .float .f64 j1, .float .f64 j2, .float .f64 j3, .float .f64 j4, .complex .f64 j5 j6, .float .f64 j7], .int .i64 k1, .agg #[.float .f64 (bxf f 0).a, .float .f64 (bxf f 0).b, .float .f64 (bxf f 0).c, .float .f64 (bxf f 0).d], .agg #[.complex .f64 (dcf f 0).a (dcf f 0).b, .float .f64 (dcf f 0).r]] u fun e w' => e = .returned (.bool true) ∧ Below u.heap.size u w') (hi : 0 ≤ wrap64 ((IntKind.u64.wrap op).tmod 5) ∧ wrap64 ((IntKind.u64.wrap op).tmod 5) < 5) (hkd : kd = 0 ∨ kd = 1) (hpk : bits .and .i64 pk 1 = kd) (hcx : (((⟨#[43, 45, 42, 94, 126]⟩ : ByteArray)[(wrap64 ((IntKind.u64.wrap op).tmod 5)).toNat]'(by show _ < 5; omega)).toNat : Int) = c) :
    Calls Tryz.prog 6 #[.int .i64 op, .int .i64 a1, .int .i64 a2, .int .i64 pk, vl] w fun e w' => e = .returned (.bool true) ∧ Below w.heap.size w w' := by
  obtain ⟨hc5, L1, L2, Lt⟩ := op_bytes hc
  have HC : Hid (c = 43 ∨ c = 45 ∨ c = 42 ∨ c = 94 ∨ c = 126) := hc5
  have HCL : Hid (((c = 43 ∨ c = 45 ∨ c = 42) ∧ L = [fb, sb]) ∨ ((c = 94 ∨ c = 126) ∧ L = [fb])) := hc
  have HF1 : Hid ((k1 = 0 ∧ fb = 48) ∨ (k1 = 1 ∧ fb = 97)) := hf1
  have HF2 : Hid ((k2 = 0 ∧ sb = 49) ∨ (k2 = 1 ∧ sb = 98)) := hf2
  have HV : Hid ((inp k1 (bxf f 0) (dcf f 0)).val = .agg #[.int .i64 k1, .float .f64 j1, .float .f64 j2, .float .f64 j3, .float .f64 j4, .complex .f64 j5 j6, .float .f64 j7]) := hv7
  have HT : Hid ((L ++ [c]).take 1 = [fb]) := Lt
  have HL : Hid (Lst w vl f) := hl
  have cr : (0 : Int) ≤ c ∧ (c : Int) < 256 := by omega
  clear hl hc hc5 hf1 hf2 hv7 Lt
  have hcv := conv_one c
  have hsn : (strOfNums [c]).size = 1 := strOfNums_size _
  go_enter Tryz.func6, Tryz.ntmps6
  go_upto_if 37 with fail
  go_cut [13] from 35 to 37 (fun s13 wx => ∃ X : ByteArray, s13 = .string X ∧ byts X = [fb, 49] ∧ w = wx)
  case first =>
    rcases HF1.out with ⟨rfl, rfl⟩ | ⟨rfl, rfl⟩
    all_goals
      go_wp2_with fail
      go_meet
      case rel => exact ⟨_, rfl, rfl, rfl⟩
  obtain ⟨X1, rfl, hX, rfl⟩ := hcut
  have HX1 : Hid (byts X1 = [fb, 49]) := hX
  have sX1 : X1.size = 2 := byts_sz hX
  clear hX
  go_upto_if 40 with fail
  go_cut [13] from 38 to 43 (fun s13 wx => ∃ X : ByteArray, s13 = .string X ∧ byts X = [fb, sb] ∧ w = wx)
  case first =>
    rcases HF2.out with ⟨rfl, rfl⟩ | ⟨rfl, rfl⟩
    all_goals
      go_wp2_with fail
      go_meet
      case rel => first | exact ⟨_, rfl, HX1.out, rfl⟩ | exact ⟨_, rfl, by rw [byts_app, byts_first, HX1.out]; rfl, rfl⟩
  obtain ⟨X2, rfl, hX, rfl⟩ := hcut
  have HX2 : Hid (byts X2 = [fb, sb]) := hX
  have sX2 : X2.size = 2 := byts_sz hX
  clear hX HX1 sX1
  go_upto_region 8 with fail
  go_cut [49] from 44 to 49 (fun s49 wx => s49 = .bool (decide (c = 94 ∨ c = 126)) ∧ w = wx)
  case first =>
    rcases HC.out with rfl | rfl | rfl | rfl | rfl
    all_goals
      go_wp2_with fail
      go_meet
      case rel => exact ⟨rfl, rfl⟩
  obtain ⟨rfl, rfl⟩ := hcut
  go_upto_if 49 with fail
  go_cut [13] from 46 to 51 (fun s13 wx => ∃ X : ByteArray, s13 = .string X ∧ byts X = L ∧ w = wx)
  case first =>
    rcases HCL.out with ⟨hc, hL⟩ | ⟨hc, hL⟩
    · have hd : decide (c = 94 ∨ c = 126) = false := decide_eq_false (by omega)
      go_wp2_with fail
      go_meet
      case rel => exact ⟨_, rfl, by rw [hL]; exact HX2.out, rfl⟩
    · have hd : decide (c = 94 ∨ c = 126) = true := decide_eq_true hc
      go_wp2_with fail
      go_meet
      case rel => exact ⟨_, rfl, by rw [byts_first, HX2.out, hL]; rfl, rfl⟩
  obtain ⟨X3, rfl, hX, rfl⟩ := hcut
  have HX3 : Hid (byts X3 = L) := hX
  have sX3 : X3.size ≤ 2 := by rw [byts_sz hX]; exact L2
  clear hX HX2 sX2
  go_wp2_with fail
  obtain ⟨w0, hw0⟩ : ∃ v, v = w.alloc (.cells #[.int .u8 c] 5) := ⟨_, rfl⟩
  rw [← hw0]
  have hB0 : Below w.heap.size w w0 := by rw [hw0]; exact bl_alloc (Below.refl _ _)
  clear hw0 hcv
  obtain ⟨pr, hpr⟩ : ∃ v, v = X3 ++ strOfNums [c] := ⟨_, rfl⟩
  rw [← hpr]
  have hby : Hid (byts pr = L ++ [c]) := by
    show byts pr = _
    rw [hpr, byts_app, byts_one c (by omega) (by omega), HX3.out]
  have hb1y : Hid (byts (pr.extract 0 1) = [fb]) := by
    show byts _ = _
    rw [byts_first, hby.out]; exact HT.out
  have hps : 2 ≤ pr.size ∧ pr.size ≤ 3 := by rw [byts_sz hby.out]; simp; omega
  have hp1 : (1 : Int) ≤ (pr.size : Int) := by omega
  clear hpr
  go_at_call 7
  refine (boxes_any 2 _ f _ (HL.out.below hB0)).mono ?_
  rintro e w1 ⟨vb, rfl, hb, hB1⟩
  have HB1 : Hid (SrcB w1 vb ((List.range 2).map (bxf f))) := hb
  have hBw1 : Below w.heap.size w w1 := bl_next hB0 hB1
  clear hb hB0
  go_wp2_with fail
  go_at_call 8
  refine (discs_any 2 _ f _ (HL.out.below hBw1)).mono ?_
  rintro e w2 ⟨vd, rfl, hd, hB2⟩
  have HD2 : Hid (SrcD w2 vd ((List.range 2).map (dcf f))) := hd
  have hBw2 : Below w.heap.size w w2 := bl_next hBw1 hB2
  clear hd
  go_wp2_with fail
  obtain ⟨u2, hu2⟩ : ∃ v, v = w2.alloc (.cells #[.int .i64 kd] 3) := ⟨_, rfl⟩
  rw [← hu2]
  have hBu : Below w2.heap.size w2 u2 := by rw [hu2]; exact bl_alloc (Below.refl _ _)
  have hk2 : u2.cell? ⟨w2.heap.size, 0, none⟩ = some (.int .i64 kd) := by rw [hu2]; simp [go_sem]
  clear hu2
  go_at_call 9
  refine (listed_any _ [kd] _ (lint_one hk2) (by simp)).mono ?_
  rintro e w3 ⟨rfl, vp, hM⟩
  have HM3 : Hid (LM u2 [kd] vp [kd].length w3) := hM
  clear hM hk2
  go_wp2_with fail
  go_at_call 10
  refine (policy_w _ _).mono ?_
  rintro e w4 ⟨rfl, hB4⟩
  go_wp2_with fail
  have z1 := hB1.size
  have z2 := hB2.size
  have zu := hBu.size
  have z3 := HM3.out.bl.size
  have z4 := hB4.size
  obtain ⟨W4, hW4⟩ : ∃ v, v = w4.alloc (.cells #[.func (.func 33) #[.pointer (some ⟨u2.heap.size, 0, none⟩)] #[]] 32) := ⟨_, rfl⟩
  rw [← hW4]
  have pol0 : W4.cell? ⟨w4.heap.size, 0, none⟩ = some (.func (.func 33) #[.pointer (some ⟨u2.heap.size, 0, none⟩)] #[]) := by rw [hW4]; simp [go_sem]
  have hB5 : Below w3.heap.size w3 W4 := by rw [hW4]; exact hB4.trans (bl_alloc (Below.refl _ _) |>.mono z4)
  have z5 := hB5.size
  clear hW4
  have hBu4 : Below u2.heap.size u2 W4 := HM3.out.bl.trans (hB5.mono z3)
  have hBD : Below w2.heap.size w2 W4 := hBu.trans (hBu4.mono zu)
  have hBB : Below w1.heap.size w1 W4 := hB2.trans (hBD.mono z2)
  have hBW : Below w.heap.size w W4 := hBw1.trans (hBB.mono (by have := hBw1.size; omega))
  have hP := listed_pol w3.heap.size u2.heap.size [kd] vp (by simp)
  have hpi := hP.keep HM3.out.pl (Only.of_below (S := fun _ => False) hB5) (fun _ _ c => c)
  have hS0 : Hid (∀ k, (k = u2.heap.size ∨ (Value.slice none 0 0).ownBlock = some k ∨ vp.ownBlock = some k) → u2.heap.size ≤ k) := by
    rintro k (c | c | c)
    · omega
    · cases c
    · have := (HM3.out.ow.lt k c).1; omega
  have obl := bxf_ok HL.out 2
  have odl := dcf_ok HL.out 2
  obtain ⟨bb, bc, rfl, x00, x01, x02, x03⟩ := HB1.out.ce 0 (bxf f 0) rfl
  obtain ⟨bb', bc', ebb, x10, x11, x12, x13⟩ := HB1.out.ce 1 (bxf f 1) rfl
  cases ebb
  obtain ⟨bd, dc, rfl, y00, y01⟩ := HD2.out.ce 0 (dcf f 0) rfl
  obtain ⟨bd', dc', ebd, y10, y11⟩ := HD2.out.ce 1 (dcf f 1) rfl
  cases ebd
  simp only [List.length_map, List.length_range]
  have lbb : bb < w1.heap.size := cell_lt x00
  have lbd : bd < w2.heap.size := cell_lt y00
  have BD4 : Hid (BD bb bd f W4) := ⟨bkeep2 hBB x00, bkeep2 hBB x01, bkeep2 hBB x02, bkeep2 hBB x03, bkeep2 hBB x10, bkeep2 hBB x11, bkeep2 hBB x12, bkeep2 hBB x13, bkeep2 hBD y00, bkeep2 hBD y01, bkeep2 hBD y10, bkeep2 hBD y11⟩
  clear x00 x01 x02 x03 x10 x11 x12 x13 y00 y01 y10 y11
  have hx0 : inAt (((List.range 2).map (bxf f)).map St.box) (((List.range 2).map (dcf f)).map St.disc) fb (inp k1 (bxf f 0) (dcf f 0)) := in_at0 HF1.out
  have nS4 : Hid (¬ (W4.heap.size = u2.heap.size ∨ (Value.slice none 0 0).ownBlock = some W4.heap.size ∨ vp.ownBlock = some W4.heap.size)) := fun c => by have := hP.lt hpi _ c; omega
  have nSp : Hid (¬ (w4.heap.size = u2.heap.size ∨ (Value.slice none 0 0).ownBlock = some w4.heap.size ∨ vp.ownBlock = some w4.heap.size)) := by
    rintro (c | c | c)
    · have := HM3.out.lt; omega
    · cases c
    · have := (HM3.out.ow.lt _ c).2; omega
  have lt4 := cell_lt pol0
  have hev : Hid (∀ u, Below W4.heap.size W4 u → Calls Tryz.prog 11 #[.string (pr.extract 0 1), .slice (some ⟨bb, 0, none⟩) 2 bc, .slice (some ⟨bd, 0, none⟩) 2 dc, .agg #[(.func (.func 33) #[.pointer (some ⟨u2.heap.size, 0, none⟩)] #[])]] u fun e w5 => e = .returned (.tuple #[.agg #[.int .i64 k1, .float .f64 j1, .float .f64 j2, .float .f64 j3, .float .f64 j4, .complex .f64 j5 j6, .float .f64 j7], .nilIface]) ∧ Hid (EvR (fun k => k = u2.heap.size ∨ (Value.slice none 0 0).ownBlock = some k ∨ vp.ownBlock = some k) (PL w3.heap.size u2.heap.size [kd] vp) [] u w5) ∧ w5.cell? ⟨w4.heap.size, 0, none⟩ = some (.func (.func 33) #[.pointer (some ⟨u2.heap.size, 0, none⟩)] #[])) := fun u hu => by
    have := ieval_t P hP (pr.extract 0 1) _ _ _ _ _ u (HB1.out.below (bl_next hBB hu)) (HD2.out.below (bl_next hBD hu)) (hP.keep hpi (Only.of_below (S := fun _ => False) hu) (fun _ _ c => c)) obl odl (by rw [byts_sz hb1y.out]; simp) (by simp) (by simp)
    rw [ans_runs P hb1y.out (by simp) (by simp) (by simp), runs_in P _ _ hx0] at this
    refine this.mono ?_
    rintro e w5 ⟨S5, pi5, s5, fr5, v, x, rfl, hv⟩
    obtain ⟨rfl, rfl⟩ := val_of hv
    exact ⟨by rw [HV.out], ⟨S5, pi5, s5, fr5⟩, fr5.cell (bkeep2 hu pol0) nSp.out⟩
  go_cut [18, 19] (fun s18 s19 wx => ∃ b : Nat, s18 = .pointer (some ⟨b, 0, none⟩) ∧ s19 = .nilIface ∧ Lay (fun k => k = u2.heap.size ∨ (Value.slice none 0 0).ownBlock = some k ∨ vp.ownBlock = some k) (PL w3.heap.size u2.heap.size [kd] vp) [] W4 b (.int .i64 k1) (.float .f64 j1) (.float .f64 j2) (.float .f64 j3) (.float .f64 j4) (.complex .f64 j5 j6) (.float .f64 j7) wx ∧ wx.cell? ⟨w4.heap.size, 0, none⟩ = some (.func (.func 33) #[.pointer (some ⟨u2.heap.size, 0, none⟩)] #[]))
  case first =>
    go_region_held3 (fun w' => w'.cell? ⟨w4.heap.size, 0, none⟩ = some (.func (.func 33) #[.pointer (some ⟨u2.heap.size, 0, none⟩)] #[])) (((try dsimp only); first | (with_reducible assumption) | ((repeat rw [set_other (by show w4.heap.size ≠ W4.heap.size; omega)]); with_reducible exact pw5) | (with_reducible exact bkeep (bl_alloc (Below.refl _ _)) pw5 (cell_lt pw5)) | (with_reducible exact bkeep (bl_alloc (Below.refl _ _)) (by assumption) (cell_lt (by assumption))) | go_keep)) (first | (go_at_call 11; (with_reducible refine (hev.out _ (by repeat (with_reducible first | exact Below.refl _ _ | refine Below.drew ?_ | refine bl_alloc ?_))).mono ?_); rintro e w5 ⟨rfl, hR, pw5⟩; (try ((with_reducible have hq : EvR _ _ _ (World.alloc _ _) _ := hR.out); have z7 := evr_new hq W4.heap.size (by simp) nS4.out; clear hq)); (try ((with_reducible have hq : EvR _ _ _ (World.drew (World.alloc _ _)) _ := hR.out); have z7 := evr_newD hq W4.heap.size (by simp) nS4.out; clear hq))))
    all_goals
      go_wp2_with fail
      go_meet
      case rel => first | (have y7 := seven_of z7; exact ⟨_, rfl, rfl, Lay.mkA hP (.int .i64 k1) (.float .f64 j1) (.float .f64 j2) (.float .f64 j3) (.float .f64 j4) (.complex .f64 j5 j6) (.float .f64 j7) hR.out y7 nS4.out rfl, by with_reducible assumption⟩) | (with_reducible exact ⟨_, rfl, rfl, Lay.mkB hP (.int .i64 k1) (.float .f64 j1) (.float .f64 j2) (.float .f64 j3) (.float .f64 j4) (.complex .f64 j5 j6) (.float .f64 j7) hR.out, by assumption⟩)
  case rest =>
    obtain ⟨bs, rfl, rfl, hL, pw⟩ := hcut
    have HLY : Hid (Lay (fun k => k = u2.heap.size ∨ (Value.slice none 0 0).ownBlock = some k ∨ vp.ownBlock = some k) (PL w3.heap.size u2.heap.size [kd] vp) [] W4 bs (.int .i64 k1) (.float .f64 j1) (.float .f64 j2) (.float .f64 j3) (.float .f64 j4) (.complex .f64 j5 j6) (.float .f64 j7) wc) := hL
    obtain ⟨w5, rfl⟩ : ∃ v, v = wc := ⟨wc, rfl⟩
    have nS : Hid (∀ k, k < u2.heap.size → ¬ (k = u2.heap.size ∨ (Value.slice none 0 0).ownBlock = some k ∨ vp.ownBlock = some k)) := fun k hk c => by have := hS0.out k c; omega
    have BD5 : Hid (BD bb bd f w5) := BD4.out.only hL.fr (nS.out _ (by omega)) (nS.out _ (by omega))
    have hw5 : Below w.heap.size w w5 := below_only hBW hL.fr hBW.size (fun k c => by have := hS0.out k c; have := hBw2.size; omega)
    have z6 := hL.fr.size
    have y0 := hL.c0
    have y1 := hL.c1
    have y2 := hL.c2
    have y3 := hL.c3
    have y4 := hL.c4
    have y5 := hL.c5
    have y6 := hL.c6
    clear hL hev
    go_wp2_with fail
    go_at_call 12
    refine (tell_nil _).mono ?_
    rintro e w6 ⟨rfl, hb6⟩
    have hw6 : Below w.heap.size w w6 := bl_next hw5 hb6
    have BD6 : Hid (BD bb bd f w6) := BD5.out.below hb6
    replace y0 := bkeep2 hb6 y0
    replace y1 := bkeep2 hb6 y1
    replace y2 := bkeep2 hb6 y2
    replace y3 := bkeep2 hb6 y3
    replace y4 := bkeep2 hb6 y4
    replace y5 := bkeep2 hb6 y5
    replace y6 := bkeep2 hb6 y6
    have q00 : w6.cell? ⟨bb, 0, none⟩ = some (.float .f64 (bxf f 0).a) := by simpa using BD6.out.b00
    have q01 : w6.cell? ⟨bb, 1, none⟩ = some (.float .f64 (bxf f 0).b) := by simpa using BD6.out.b01
    have q02 : w6.cell? ⟨bb, 2, none⟩ = some (.float .f64 (bxf f 0).c) := by simpa using BD6.out.b02
    have q03 : w6.cell? ⟨bb, 3, none⟩ = some (.float .f64 (bxf f 0).d) := by simpa using BD6.out.b03
    have r00 : w6.cell? ⟨bd, 0, none⟩ = some (.complex .f64 (dcf f 0).a (dcf f 0).b) := by simpa using BD6.out.d00
    have r01 : w6.cell? ⟨bd, 1, none⟩ = some (.float .f64 (dcf f 0).r) := by simpa using BD6.out.d01
    go_wp2_with fail
    go_still_tail 9, mixed
    go_wp2_with (go_at_call 25; refine (hraw _).mono ?_; rintro e w7 ⟨rfl, hb7⟩)
    go_at_call 15
    refine (num_w 0 (by omega) (by omega) _).mono ?_
    rintro e w7' ⟨rfl, rfl⟩
    have hB57 : Below w5.heap.size w5 w7' := bl_next hb6.drew hb7
    have hw7 : Below w.heap.size w w7' := bl_next hw5 hB57
    have BD7 : Hid (BD bb bd f w7') := BD5.out.below hB57
    have pw7 := bkeep2 hB57 pw
    obtain ⟨S5, pi5, s5, nb5⟩ := HLY.out.po
    have hS5 : Hid (∀ k, S5 k → u2.heap.size ≤ k) := fun k c => by
      rcases s5 k c with d | d
      · exact hS0.out k d
      · omega
    have hy0 : inAt (((List.range 2).map (bxf f)).map St.box) (((List.range 2).map (dcf f)).map St.disc) sb (inp k2 (bxf f 1) (dcf f 1)) := in_at1 HF2.out
    obtain ⟨hk1, hk2⟩ := lkd_bit hkd
    have hn7 : Below W4.heap.size W4 W4 := Below.refl _ _
    have ok0 : (inp k1 (bxf f 0) (dcf f 0)).ok := inp_ok (obl _ (List.mem_map.mpr ⟨0, by simp, rfl⟩)) (odl _ (List.mem_map.mpr ⟨0, by simp, rfl⟩))
    have ok1 : (inp k2 (bxf f 1) (dcf f 1)).ok := inp_ok (obl _ (List.mem_map.mpr ⟨1, by simp, rfl⟩)) (odl _ (List.mem_map.mpr ⟨1, by simp, rfl⟩))
    have sb7 : SrcB w7' (.slice (some ⟨bb, 0, none⟩) 2 bc) ((List.range 2).map (bxf f)) := src_b BD7.out
    have sd7 : SrcD w7' (.slice (some ⟨bd, 0, none⟩) 2 dc) ((List.range 2).map (dcf f)) := src_d BD7.out
    have hev2 := ieval_t P hP pr _ _ _ _ _ w7' sb7 sd7 (hP.keep pi5 (Only.of_below (S := fun _ => False) hB57) (fun _ _ c => c)) obl odl (by omega) (by simp) (by simp)
    rw [ans_runs P hby.out (by simp; omega) (by simp) (by simp)] at hev2
    have nb7 : ¬ S5 bs := nb5
    have bm := HLY.out
    have lsb : bs < w5.heap.size := cell_lt bm.c0
    have keepc : ∀ {u : World}, Only S5 w7' u → ∀ {j : Nat} {v : Value}, w5.cell? ⟨bs, j, none⟩ = some v → w5.frozen? ⟨bs, j, none⟩ = false → u.cell? ⟨bs, j, none⟩ = some v ∧ u.frozen? ⟨bs, j, none⟩ = false := fun {_} hO {_ _} h1 h2 => ⟨hO.cell (bkeep2 hB57 h1) nb5, hO.frozen (bkeep2 hB57 h1) ((Only.of_below (S := fun _ => False) hB57).frozen h1 h2 (fun c => c)) nb5⟩
    have oB0 := (P.asB_ok _ ok0).1
    have oB1 := (P.asB_ok _ ok1).1
    have oD0 := (P.asD_ok _ ok0).1
    have oD1 := (P.asD_ok _ ok1).1
    have ob0 : (bxf f 0).ok := obl _ (List.mem_map.mpr ⟨0, by simp, rfl⟩)
    have ob1 : (bxf f 1).ok := obl _ (List.mem_map.mpr ⟨1, by simp, rfl⟩)
    have od0 : (dcf f 0).ok := odl _ (List.mem_map.mpr ⟨0, by simp, rfl⟩)
    have od1 : (dcf f 1).ok := odl _ (List.mem_map.mpr ⟨1, by simp, rfl⟩)
    rcases hkd with rfl | rfl
    · obtain ⟨n8, q8, hr8⟩ := runs_opb P hx0 hy0 HCL.out hk2 hk1
      rw [hr8] at hev2
      clear hr8
      have hA0 := lasBox_op P (k := k1) (HF1.out.imp (·.1) (·.1)) (b := bxf f 0) od0
      have hA1 := lasBox_op P (k := k2) (HF2.out.imp (·.1) (·.1)) (b := bxf f 1) od1
      have hZ := boxed_op F P w HC.out oB0 oB1
      obtain ⟨X, hX⟩ : ∃ v, v = P.asB (inp k1 (bxf f 0) (dcf f 0)) := ⟨_, rfl⟩
      obtain ⟨Y, hY⟩ : ∃ v, v = P.asB (inp k2 (bxf f 1) (dcf f 1)) := ⟨_, rfl⟩
      obtain ⟨Z, hZe⟩ : ∃ v, v = P.bop c (P.asB (inp k1 (bxf f 0) (dcf f 0))) (P.asB (inp k2 (bxf f 1) (dcf f 1))) := ⟨_, rfl⟩
      rw [← hZe] at hev2 hZ
      rw [← hX] at hA0 hZ
      rw [← hY] at hA1 hZ
      clear hX hY hZe
      obtain ⟨hZ1, q1, q2, q3, q4, p1, p2, p3, p4, rfl⟩ := hZ
      have HQ : Hid (Pl q1 ∧ Pl q2 ∧ Pl q3 ∧ Pl q4) := ⟨p1, p2, p3, p4⟩
      clear p1 p2 p3 p4
      have hA0' : ∀ u, Calls Tryz.prog 26 #[.int .i64 k1, .agg #[.float .f64 (bxf f 0).a, .float .f64 (bxf f 0).b, .float .f64 (bxf f 0).c, .float .f64 (bxf f 0).d], .agg #[.complex .f64 (dcf f 0).a (dcf f 0).b, .float .f64 (dcf f 0).r]] u fun e w' => e = .returned (.agg #[.float .f64 X.a, .float .f64 X.b, .float .f64 X.c, .float .f64 X.d]) ∧ Below u.heap.size u w' := fun u => hA0 u
      have hA1' : ∀ u, Calls Tryz.prog 26 #[.int .i64 k2, .agg #[.float .f64 (bxf f 1).a, .float .f64 (bxf f 1).b, .float .f64 (bxf f 1).c, .float .f64 (bxf f 1).d], .agg #[.complex .f64 (dcf f 1).a (dcf f 1).b, .float .f64 (dcf f 1).r]] u fun e w' => e = .returned (.agg #[.float .f64 Y.a, .float .f64 Y.b, .float .f64 Y.c, .float .f64 Y.d]) ∧ Below u.heap.size u w' := fun u => hA1 u
      have hZ' : ∀ u, Calls Tryz.prog 27 #[.int .u8 c, .agg #[.float .f64 X.a, .float .f64 X.b, .float .f64 X.c, .float .f64 X.d], .agg #[.float .f64 Y.a, .float .f64 Y.b, .float .f64 Y.c, .float .f64 Y.d]] u fun e w' => e = .returned (.agg #[.float .f64 (B q1), .float .f64 (B q2), .float .f64 (B q3), .float .f64 (B q4)]) ∧ Below u.heap.size u w' := fun u => hZ1 u
      clear hA0 hA1 hZ1
      have hev3 : Calls Tryz.prog 11 #[.string pr, .slice (some ⟨bb, 0, none⟩) 2 bc, .slice (some ⟨bd, 0, none⟩) 2 dc, .agg #[(.func (.func 33) #[.pointer (some ⟨u2.heap.size, 0, none⟩)] #[])]] w7' (fun e w8 => e = .returned (.tuple #[.agg #[.int .i64 0, .float .f64 (B q1), .float .f64 (B q2), .float .f64 (B q3), .float .f64 (B q4), .complex .f64 0 0, .float .f64 0], .nilIface]) ∧ Only S5 w7' w8) := hev2.mono (by
        rintro e w8 ⟨S8, pi8, s8, fr8, v, x, rfl, hv⟩
        obtain ⟨rfl, rfl⟩ := val_of hv
        exact ⟨rfl, fr8⟩)
      clear hev2
      go_wp2_with fail
      go_at_call 11
      with_reducible refine hev3.mono ?_
      rintro e w8 ⟨rfl, fr8⟩
      obtain ⟨g0, f0⟩ := keepc fr8 bm.c0 bm.f0
      obtain ⟨g1, f1⟩ := keepc fr8 bm.c1 bm.f1
      obtain ⟨g2, f2⟩ := keepc fr8 bm.c2 bm.f2
      obtain ⟨g3, f3⟩ := keepc fr8 bm.c3 bm.f3
      obtain ⟨g4, f4⟩ := keepc fr8 bm.c4 bm.f4
      obtain ⟨g5, f5⟩ := keepc fr8 bm.c5 bm.f5
      obtain ⟨g6, f6⟩ := keepc fr8 bm.c6 bm.f6
      go_wp2_with fail
      obtain ⟨W8, hW8⟩ : ∃ v, v = ((((((w8.setCell ⟨bs, 0, none⟩ (.int .i64 0)).setCell ⟨bs, 1, none⟩ (.float .f64 (B q1))).setCell ⟨bs, 2, none⟩ (.float .f64 (B q2))).setCell ⟨bs, 3, none⟩ (.float .f64 (B q3))).setCell ⟨bs, 4, none⟩ (.float .f64 (B q4))).setCell ⟨bs, 5, none⟩ (.complex .f64 0 0)).setCell ⟨bs, 6, none⟩ (.float .f64 0) := ⟨_, rfl⟩
      rw [← hW8]
      have s7 : Seven bs w8 := seven_of ⟨g0, g1, g2, g3, g4, g5, g6, f0, f1, f2, f3, f4, f5, f6⟩
      clear g0 g1 g2 g3 g4 g5 g6 f0 f1 f2 f3 f4 f5 f6 keepc
      obtain ⟨g0, g1, g2, g3, g4, g5, g6, hO8⟩ := s7.put _ _ _ _ _ _ _ hW8
      clear hW8
      have le4 := bm.le
      have hBD8 : Hid (BD bb bd f W8) := (BD7.out.only fr8 (fun c => by have := hS5.out _ c; omega) (fun c => by have := hS5.out _ c; omega)).only hO8 (by omega) (by omega)
      have hw8 : Below w.heap.size w W8 := below_only (below_only hw7 fr8 hw7.size (fun k c => by have := hS5.out k c; have := hBw2.size; omega)) hO8 (Nat.le_trans hw7.size fr8.size) (fun k c => by have := hBw2.size; omega)
      go_at_call 12
      refine (tell_nil _).mono ?_
      rintro e w9 ⟨rfl, hb9⟩
      have hw9 : Below w.heap.size w w9 := bl_next hw8 hb9
      have BD9 : Hid (BD bb bd f w9) := hBD8.out.below hb9
      replace g0 := bkeep2 hb9 g0
      replace g1 := bkeep2 hb9 g1
      replace g2 := bkeep2 hb9 g2
      replace g3 := bkeep2 hb9 g3
      replace g4 := bkeep2 hb9 g4
      clear g5 g6 q00 q01 q02 q03 r00 r01
      have q00 : w9.cell? ⟨bb, 0, none⟩ = some (.float .f64 (bxf f 0).a) := by simpa using BD9.out.b00
      have q01 : w9.cell? ⟨bb, 1, none⟩ = some (.float .f64 (bxf f 0).b) := by simpa using BD9.out.b01
      have q02 : w9.cell? ⟨bb, 2, none⟩ = some (.float .f64 (bxf f 0).c) := by simpa using BD9.out.b02
      have q03 : w9.cell? ⟨bb, 3, none⟩ = some (.float .f64 (bxf f 0).d) := by simpa using BD9.out.b03
      have r00 : w9.cell? ⟨bd, 0, none⟩ = some (.complex .f64 (dcf f 0).a (dcf f 0).b) := by simpa using BD9.out.d00
      have r01 : w9.cell? ⟨bd, 1, none⟩ = some (.float .f64 (dcf f 0).r) := by simpa using BD9.out.d01
      have q10 : w9.cell? ⟨bb, 4, none⟩ = some (.float .f64 (bxf f 1).a) := by simpa using BD9.out.b10
      have q11 : w9.cell? ⟨bb, 5, none⟩ = some (.float .f64 (bxf f 1).b) := by simpa using BD9.out.b11
      have q12 : w9.cell? ⟨bb, 6, none⟩ = some (.float .f64 (bxf f 1).c) := by simpa using BD9.out.b12
      have q13 : w9.cell? ⟨bb, 7, none⟩ = some (.float .f64 (bxf f 1).d) := by simpa using BD9.out.b13
      have r10 : w9.cell? ⟨bd, 2, none⟩ = some (.complex .f64 (dcf f 1).a (dcf f 1).b) := by simpa using BD9.out.d10
      have r11 : w9.cell? ⟨bd, 3, none⟩ = some (.float .f64 (dcf f 1).r) := by simpa using BD9.out.d11
      go_wp2_with fail
      go_at_call 15
      refine (num_w 0 (by omega) (by omega) _).mono ?_
      rintro e w9' ⟨rfl, rfl⟩
      go_wp2_with fail
      have lb9 : bb < w9'.heap.size := cell_lt q00
      have ld9 : bd < w9'.heap.size := cell_lt r00
      go_cut [23] (fun s5 wx => ∃ b : Nat, s5 = .pointer (some ⟨b, 0, none⟩) ∧ wx.cell? ⟨b, 0, none⟩ = some (.float .f64 X.a) ∧ wx.cell? ⟨b, 1, none⟩ = some (.float .f64 X.b) ∧ wx.cell? ⟨b, 2, none⟩ = some (.float .f64 X.c) ∧ wx.cell? ⟨b, 3, none⟩ = some (.float .f64 X.d) ∧ w9'.heap.size ≤ b ∧ Below w9'.heap.size w9' wx)
      case first =>
        go_region_held3 (fun w' => w'.cell? ⟨bb, 0, none⟩ = some (.float .f64 (bxf f 0).a) ∧ w'.cell? ⟨bb, 1, none⟩ = some (.float .f64 (bxf f 0).b) ∧ w'.cell? ⟨bb, 2, none⟩ = some (.float .f64 (bxf f 0).c) ∧ w'.cell? ⟨bb, 3, none⟩ = some (.float .f64 (bxf f 0).d) ∧ w'.cell? ⟨bd, 0, none⟩ = some (.complex .f64 (dcf f 0).a (dcf f 0).b) ∧ w'.cell? ⟨bd, 1, none⟩ = some (.float .f64 (dcf f 0).r)) (((try dsimp only); (repeat' apply And.intro) <;> first | (with_reducible assumption) | exact bkeep (W := w9') (n := w9'.heap.size) (by repeat (with_reducible first | exact Below.refl _ _ | assumption | refine Below.drew ?_ | refine bl_drewN ?_ _ | refine bl_alloc ?_ | refine bl_next ?_ (by assumption) | refine bl_set ?_ (by first | omega | (simp; done) | (simp; omega) | exact Below.size (B := w9'.heap.size) (by repeat (with_reducible first | exact Below.refl _ _ | assumption | refine Below.drew ?_ | refine bl_drewN ?_ _ | refine bl_alloc ?_ | refine bl_next ?_ (by assumption) | refine bl_set ?_ (by first | omega | (simp; done) | (simp; omega))))))) (by with_reducible assumption) (by first | omega | (simp; done) | (simp; omega)))) (first | (go_at_call 26; (with_reducible refine (hA0' _).mono ?_); rintro e w' ⟨rfl, hb⟩; (try have z := bnew4 hb); (try have z := bnewD4 hb); (try simp only [World.size_drew] at z)))
        all_goals (go_wp2_with fail; go_meet; (case rel => exact ⟨_, rfl, (by first | (simp [go_sem]; done) | (simp [*]; done) | simp [go_sem, *]), (by first | (simp [go_sem]; done) | (simp [*]; done) | simp [go_sem, *]), (by first | (simp [go_sem]; done) | (simp [*]; done) | simp [go_sem, *]), (by first | (simp [go_sem]; done) | (simp [*]; done) | simp [go_sem, *]), (by first | omega | (simp; done) | exact Below.size (B := w9'.heap.size) (by repeat (with_reducible first | exact Below.refl _ _ | assumption | refine Below.drew ?_ | refine bl_drewN ?_ _ | refine bl_alloc ?_ | refine bl_next ?_ (by assumption) | refine bl_set ?_ (by first | omega | (simp; done) | (simp; omega))))), (by repeat (with_reducible first | exact Below.refl _ _ | assumption | refine Below.drew ?_ | refine bl_drewN ?_ _ | refine bl_alloc ?_ | refine bl_next ?_ (by assumption) | refine bl_set ?_ (by first | omega | (simp; done) | (simp; omega) | exact Below.size (B := w9'.heap.size) (by repeat (with_reducible first | exact Below.refl _ _ | assumption | refine Below.drew ?_ | refine bl_drewN ?_ _ | refine bl_alloc ?_ | refine bl_next ?_ (by assumption) | refine bl_set ?_ (by first | omega | (simp; done) | (simp; omega)))))))⟩))
      case rest =>
        obtain ⟨b11, rfl, m110, m111, m112, m113, le11, hb11⟩ := hcut
        obtain ⟨w11, rfl⟩ : ∃ v, v = wc := ⟨wc, rfl⟩
        replace q10 := bkeep2 hb11 q10
        replace q11 := bkeep2 hb11 q11
        replace q12 := bkeep2 hb11 q12
        replace q13 := bkeep2 hb11 q13
        replace r10 := bkeep2 hb11 r10
        replace r11 := bkeep2 hb11 r11
        replace g0 := bkeep2 hb11 g0
        replace g1 := bkeep2 hb11 g1
        replace g2 := bkeep2 hb11 g2
        replace g3 := bkeep2 hb11 g3
        replace g4 := bkeep2 hb11 g4
        have lb11 : bb < w11.heap.size := cell_lt q10
        have ld11 : bd < w11.heap.size := cell_lt r10
        clear q00 q01 q02 q03 r00 r01
        go_wp2_with fail
        go_cut [24] (fun s5 wx => ∃ b : Nat, s5 = .pointer (some ⟨b, 0, none⟩) ∧ wx.cell? ⟨b, 0, none⟩ = some (.float .f64 Y.a) ∧ wx.cell? ⟨b, 1, none⟩ = some (.float .f64 Y.b) ∧ wx.cell? ⟨b, 2, none⟩ = some (.float .f64 Y.c) ∧ wx.cell? ⟨b, 3, none⟩ = some (.float .f64 Y.d) ∧ w11.heap.size ≤ b ∧ Below w11.heap.size w11 wx)
        case first =>
          go_region_held3 (fun w' => w'.cell? ⟨bb, 4, none⟩ = some (.float .f64 (bxf f 1).a) ∧ w'.cell? ⟨bb, 5, none⟩ = some (.float .f64 (bxf f 1).b) ∧ w'.cell? ⟨bb, 6, none⟩ = some (.float .f64 (bxf f 1).c) ∧ w'.cell? ⟨bb, 7, none⟩ = some (.float .f64 (bxf f 1).d) ∧ w'.cell? ⟨bd, 2, none⟩ = some (.complex .f64 (dcf f 1).a (dcf f 1).b) ∧ w'.cell? ⟨bd, 3, none⟩ = some (.float .f64 (dcf f 1).r)) (((try dsimp only); (repeat' apply And.intro) <;> first | (with_reducible assumption) | exact bkeep (W := w11) (n := w11.heap.size) (by repeat (with_reducible first | exact Below.refl _ _ | assumption | refine Below.drew ?_ | refine bl_drewN ?_ _ | refine bl_alloc ?_ | refine bl_next ?_ (by assumption) | refine bl_set ?_ (by first | omega | (simp; done) | (simp; omega) | exact Below.size (B := w11.heap.size) (by repeat (with_reducible first | exact Below.refl _ _ | assumption | refine Below.drew ?_ | refine bl_drewN ?_ _ | refine bl_alloc ?_ | refine bl_next ?_ (by assumption) | refine bl_set ?_ (by first | omega | (simp; done) | (simp; omega))))))) (by with_reducible assumption) (by first | omega | (simp; done) | (simp; omega)))) (first | (go_at_call 26; (with_reducible refine (hA1' _).mono ?_); rintro e w' ⟨rfl, hb⟩; (try have z := bnew4 hb); (try have z := bnewD4 hb); (try simp only [World.size_drew] at z)))
          all_goals (go_wp2_with fail; go_meet; (case rel => exact ⟨_, rfl, (by first | (simp [go_sem]; done) | (simp [*]; done) | simp [go_sem, *]), (by first | (simp [go_sem]; done) | (simp [*]; done) | simp [go_sem, *]), (by first | (simp [go_sem]; done) | (simp [*]; done) | simp [go_sem, *]), (by first | (simp [go_sem]; done) | (simp [*]; done) | simp [go_sem, *]), (by first | omega | (simp; done) | exact Below.size (B := w11.heap.size) (by repeat (with_reducible first | exact Below.refl _ _ | assumption | refine Below.drew ?_ | refine bl_drewN ?_ _ | refine bl_alloc ?_ | refine bl_next ?_ (by assumption) | refine bl_set ?_ (by first | omega | (simp; done) | (simp; omega))))), (by repeat (with_reducible first | exact Below.refl _ _ | assumption | refine Below.drew ?_ | refine bl_drewN ?_ _ | refine bl_alloc ?_ | refine bl_next ?_ (by assumption) | refine bl_set ?_ (by first | omega | (simp; done) | (simp; omega) | exact Below.size (B := w11.heap.size) (by repeat (with_reducible first | exact Below.refl _ _ | assumption | refine Below.drew ?_ | refine bl_drewN ?_ _ | refine bl_alloc ?_ | refine bl_next ?_ (by assumption) | refine bl_set ?_ (by first | omega | (simp; done) | (simp; omega)))))))⟩))
        case rest =>
          obtain ⟨b12, rfl, m120, m121, m122, m123, le12, hb12⟩ := hcut
          obtain ⟨w12, rfl⟩ : ∃ v, v = wc := ⟨wc, rfl⟩
          replace m110 := bkeep2 hb12 m110
          replace m111 := bkeep2 hb12 m111
          replace m112 := bkeep2 hb12 m112
          replace m113 := bkeep2 hb12 m113
          replace g0 := bkeep2 hb12 g0
          replace g1 := bkeep2 hb12 g1
          replace g2 := bkeep2 hb12 g2
          replace g3 := bkeep2 hb12 g3
          replace g4 := bkeep2 hb12 g4
          have lb12 : b11 < w12.heap.size := cell_lt m110
          have ld12 : b12 < w12.heap.size := cell_lt m120
          clear q10 q11 q12 q13 r10 r11
          go_wp2_with fail
          go_at_call 27
          refine (hZ' _).mono ?_
          rintro e w13 ⟨rfl, hb13⟩
          replace g0 := bkeep2 hb13 g0
          replace g1 := bkeep2 hb13 g1
          replace g2 := bkeep2 hb13 g2
          replace g3 := bkeep2 hb13 g3
          replace g4 := bkeep2 hb13 g4
          clear m110 m111 m112 m113 m120 m121 m122 m123
          have hw13 : Below w.heap.size w w13 := bl_next (bl_next (bl_next hw9 hb11) hb12) hb13
          have l13 : bs < w13.heap.size := cell_lt g0
          go_wp2_with fail
          go_at_call 18
          refine (alikeBox_any HQ.out.1 HQ.out.2.1 HQ.out.2.2.1 HQ.out.2.2.2 _).mono ?_
          rintro e w14 ⟨rfl, hb14⟩
          go_wp2_with fail
          go_ret
          exact ⟨rfl, bl_next (bl_alloc hw13) hb14⟩
    · obtain ⟨n8, q8, hr8⟩ := runs_opd P hx0 hy0 HCL.out hk2 hk1
      rw [hr8] at hev2
      clear hr8
      have hA0 := lasDisc_op P (k := k1) (HF1.out.imp (·.1) (·.1)) (d := dcf f 0) ob0
      have hA1 := lasDisc_op P (k := k2) (HF2.out.imp (·.1) (·.1)) (d := dcf f 1) ob1
      have hZ := disced_op F P w HC.out oD0 oD1
      obtain ⟨X, hX⟩ : ∃ v, v = P.asD (inp k1 (bxf f 0) (dcf f 0)) := ⟨_, rfl⟩
      obtain ⟨Y, hY⟩ : ∃ v, v = P.asD (inp k2 (bxf f 1) (dcf f 1)) := ⟨_, rfl⟩
      obtain ⟨Z, hZe⟩ : ∃ v, v = P.dop c (P.asD (inp k1 (bxf f 0) (dcf f 0))) (P.asD (inp k2 (bxf f 1) (dcf f 1))) := ⟨_, rfl⟩
      rw [← hZe] at hev2 hZ
      rw [← hX] at hA0 hZ
      rw [← hY] at hA1 hZ
      clear hX hY hZe
      obtain ⟨hZ1, p1, p2, p3⟩ := hZ
      have HQ : Hid (Ord Z.a ∧ Ord Z.b ∧ Ord Z.r) := ⟨p1, p2, p3⟩
      clear p1 p2 p3
      have hA0' : ∀ u, Calls Tryz.prog 28 #[.int .i64 k1, .agg #[.float .f64 (bxf f 0).a, .float .f64 (bxf f 0).b, .float .f64 (bxf f 0).c, .float .f64 (bxf f 0).d], .agg #[.complex .f64 (dcf f 0).a (dcf f 0).b, .float .f64 (dcf f 0).r]] u fun e w' => e = .returned (.agg #[.complex .f64 X.a X.b, .float .f64 X.r]) ∧ Below u.heap.size u w' := fun u => hA0 u
      have hA1' : ∀ u, Calls Tryz.prog 28 #[.int .i64 k2, .agg #[.float .f64 (bxf f 1).a, .float .f64 (bxf f 1).b, .float .f64 (bxf f 1).c, .float .f64 (bxf f 1).d], .agg #[.complex .f64 (dcf f 1).a (dcf f 1).b, .float .f64 (dcf f 1).r]] u fun e w' => e = .returned (.agg #[.complex .f64 Y.a Y.b, .float .f64 Y.r]) ∧ Below u.heap.size u w' := fun u => hA1 u
      have hZ' : ∀ u, Calls Tryz.prog 29 #[.int .u8 c, .agg #[.complex .f64 X.a X.b, .float .f64 X.r], .agg #[.complex .f64 Y.a Y.b, .float .f64 Y.r]] u fun e w' => e = .returned (.agg #[.complex .f64 Z.a Z.b, .float .f64 Z.r]) ∧ Below u.heap.size u w' := fun u => hZ1 u
      clear hA0 hA1 hZ1
      have hev3 : Calls Tryz.prog 11 #[.string pr, .slice (some ⟨bb, 0, none⟩) 2 bc, .slice (some ⟨bd, 0, none⟩) 2 dc, .agg #[(.func (.func 33) #[.pointer (some ⟨u2.heap.size, 0, none⟩)] #[])]] w7' (fun e w8 => e = .returned (.tuple #[.agg #[.int .i64 1, .float .f64 0, .float .f64 0, .float .f64 0, .float .f64 0, .complex .f64 Z.a Z.b, .float .f64 Z.r], .nilIface]) ∧ Only S5 w7' w8) := hev2.mono (by
        rintro e w8 ⟨S8, pi8, s8, fr8, v, x, rfl, hv⟩
        obtain ⟨rfl, rfl⟩ := val_of hv
        exact ⟨rfl, fr8⟩)
      clear hev2
      go_wp2_with fail
      go_at_call 11
      with_reducible refine hev3.mono ?_
      rintro e w8 ⟨rfl, fr8⟩
      obtain ⟨g0, f0⟩ := keepc fr8 bm.c0 bm.f0
      obtain ⟨g1, f1⟩ := keepc fr8 bm.c1 bm.f1
      obtain ⟨g2, f2⟩ := keepc fr8 bm.c2 bm.f2
      obtain ⟨g3, f3⟩ := keepc fr8 bm.c3 bm.f3
      obtain ⟨g4, f4⟩ := keepc fr8 bm.c4 bm.f4
      obtain ⟨g5, f5⟩ := keepc fr8 bm.c5 bm.f5
      obtain ⟨g6, f6⟩ := keepc fr8 bm.c6 bm.f6
      go_wp2_with fail
      obtain ⟨W8, hW8⟩ : ∃ v, v = ((((((w8.setCell ⟨bs, 0, none⟩ (.int .i64 1)).setCell ⟨bs, 1, none⟩ (.float .f64 0)).setCell ⟨bs, 2, none⟩ (.float .f64 0)).setCell ⟨bs, 3, none⟩ (.float .f64 0)).setCell ⟨bs, 4, none⟩ (.float .f64 0)).setCell ⟨bs, 5, none⟩ (.complex .f64 Z.a Z.b)).setCell ⟨bs, 6, none⟩ (.float .f64 Z.r) := ⟨_, rfl⟩
      rw [← hW8]
      have s7 : Seven bs w8 := seven_of ⟨g0, g1, g2, g3, g4, g5, g6, f0, f1, f2, f3, f4, f5, f6⟩
      clear g0 g1 g2 g3 g4 g5 g6 f0 f1 f2 f3 f4 f5 f6 keepc
      obtain ⟨g0, g1, g2, g3, g4, g5, g6, hO8⟩ := s7.put _ _ _ _ _ _ _ hW8
      clear hW8
      have le4 := bm.le
      have hBD8 : Hid (BD bb bd f W8) := (BD7.out.only fr8 (fun c => by have := hS5.out _ c; omega) (fun c => by have := hS5.out _ c; omega)).only hO8 (by omega) (by omega)
      have hw8 : Below w.heap.size w W8 := below_only (below_only hw7 fr8 hw7.size (fun k c => by have := hS5.out k c; have := hBw2.size; omega)) hO8 (Nat.le_trans hw7.size fr8.size) (fun k c => by have := hBw2.size; omega)
      go_at_call 12
      refine (tell_nil _).mono ?_
      rintro e w9 ⟨rfl, hb9⟩
      have hw9 : Below w.heap.size w w9 := bl_next hw8 hb9
      have BD9 : Hid (BD bb bd f w9) := hBD8.out.below hb9
      replace g0 := bkeep2 hb9 g0
      replace g5 := bkeep2 hb9 g5
      replace g6 := bkeep2 hb9 g6
      clear g1 g2 g3 g4 q00 q01 q02 q03 r00 r01
      have q00 : w9.cell? ⟨bb, 0, none⟩ = some (.float .f64 (bxf f 0).a) := by simpa using BD9.out.b00
      have q01 : w9.cell? ⟨bb, 1, none⟩ = some (.float .f64 (bxf f 0).b) := by simpa using BD9.out.b01
      have q02 : w9.cell? ⟨bb, 2, none⟩ = some (.float .f64 (bxf f 0).c) := by simpa using BD9.out.b02
      have q03 : w9.cell? ⟨bb, 3, none⟩ = some (.float .f64 (bxf f 0).d) := by simpa using BD9.out.b03
      have r00 : w9.cell? ⟨bd, 0, none⟩ = some (.complex .f64 (dcf f 0).a (dcf f 0).b) := by simpa using BD9.out.d00
      have r01 : w9.cell? ⟨bd, 1, none⟩ = some (.float .f64 (dcf f 0).r) := by simpa using BD9.out.d01
      have q10 : w9.cell? ⟨bb, 4, none⟩ = some (.float .f64 (bxf f 1).a) := by simpa using BD9.out.b10
      have q11 : w9.cell? ⟨bb, 5, none⟩ = some (.float .f64 (bxf f 1).b) := by simpa using BD9.out.b11
      have q12 : w9.cell? ⟨bb, 6, none⟩ = some (.float .f64 (bxf f 1).c) := by simpa using BD9.out.b12
      have q13 : w9.cell? ⟨bb, 7, none⟩ = some (.float .f64 (bxf f 1).d) := by simpa using BD9.out.b13
      have r10 : w9.cell? ⟨bd, 2, none⟩ = some (.complex .f64 (dcf f 1).a (dcf f 1).b) := by simpa using BD9.out.d10
      have r11 : w9.cell? ⟨bd, 3, none⟩ = some (.float .f64 (dcf f 1).r) := by simpa using BD9.out.d11
      go_wp2_with fail
      go_at_call 15
      refine (num_w 0 (by omega) (by omega) _).mono ?_
      rintro e w9' ⟨rfl, rfl⟩
      go_wp2_with fail
      have lb9 : bb < w9'.heap.size := cell_lt q00
      have ld9 : bd < w9'.heap.size := cell_lt r00
      go_cut [26] (fun s5 wx => ∃ b : Nat, s5 = .pointer (some ⟨b, 0, none⟩) ∧ wx.cell? ⟨b, 0, none⟩ = some (.complex .f64 X.a X.b) ∧ wx.cell? ⟨b, 1, none⟩ = some (.float .f64 X.r) ∧ w9'.heap.size ≤ b ∧ Below w9'.heap.size w9' wx)
      case first =>
        go_region_held3 (fun w' => w'.cell? ⟨bb, 0, none⟩ = some (.float .f64 (bxf f 0).a) ∧ w'.cell? ⟨bb, 1, none⟩ = some (.float .f64 (bxf f 0).b) ∧ w'.cell? ⟨bb, 2, none⟩ = some (.float .f64 (bxf f 0).c) ∧ w'.cell? ⟨bb, 3, none⟩ = some (.float .f64 (bxf f 0).d) ∧ w'.cell? ⟨bd, 0, none⟩ = some (.complex .f64 (dcf f 0).a (dcf f 0).b) ∧ w'.cell? ⟨bd, 1, none⟩ = some (.float .f64 (dcf f 0).r)) (((try dsimp only); (repeat' apply And.intro) <;> first | (with_reducible assumption) | exact bkeep (W := w9') (n := w9'.heap.size) (by repeat (with_reducible first | exact Below.refl _ _ | assumption | refine Below.drew ?_ | refine bl_drewN ?_ _ | refine bl_alloc ?_ | refine bl_next ?_ (by assumption) | refine bl_set ?_ (by first | omega | (simp; done) | (simp; omega) | exact Below.size (B := w9'.heap.size) (by repeat (with_reducible first | exact Below.refl _ _ | assumption | refine Below.drew ?_ | refine bl_drewN ?_ _ | refine bl_alloc ?_ | refine bl_next ?_ (by assumption) | refine bl_set ?_ (by first | omega | (simp; done) | (simp; omega))))))) (by with_reducible assumption) (by first | omega | (simp; done) | (simp; omega)))) (first | (go_at_call 28; (with_reducible refine (hA0' _).mono ?_); rintro e w' ⟨rfl, hb⟩; (try have z := bnew hb); (try have z := bnewD hb); (try simp only [World.size_drew] at z)))
        all_goals (go_wp2_with fail; go_meet; (case rel => exact ⟨_, rfl, (by first | (simp [go_sem]; done) | (simp [*]; done) | simp [go_sem, *]), (by first | (simp [go_sem]; done) | (simp [*]; done) | simp [go_sem, *]), (by first | omega | (simp; done) | exact Below.size (B := w9'.heap.size) (by repeat (with_reducible first | exact Below.refl _ _ | assumption | refine Below.drew ?_ | refine bl_drewN ?_ _ | refine bl_alloc ?_ | refine bl_next ?_ (by assumption) | refine bl_set ?_ (by first | omega | (simp; done) | (simp; omega))))), (by repeat (with_reducible first | exact Below.refl _ _ | assumption | refine Below.drew ?_ | refine bl_drewN ?_ _ | refine bl_alloc ?_ | refine bl_next ?_ (by assumption) | refine bl_set ?_ (by first | omega | (simp; done) | (simp; omega) | exact Below.size (B := w9'.heap.size) (by repeat (with_reducible first | exact Below.refl _ _ | assumption | refine Below.drew ?_ | refine bl_drewN ?_ _ | refine bl_alloc ?_ | refine bl_next ?_ (by assumption) | refine bl_set ?_ (by first | omega | (simp; done) | (simp; omega)))))))⟩))
      case rest =>
        obtain ⟨b11, rfl, m110, m111, le11, hb11⟩ := hcut
        obtain ⟨w11, rfl⟩ : ∃ v, v = wc := ⟨wc, rfl⟩
        replace q10 := bkeep2 hb11 q10
        replace q11 := bkeep2 hb11 q11
        replace q12 := bkeep2 hb11 q12
        replace q13 := bkeep2 hb11 q13
        replace r10 := bkeep2 hb11 r10
        replace r11 := bkeep2 hb11 r11
        replace g0 := bkeep2 hb11 g0
        replace g5 := bkeep2 hb11 g5
        replace g6 := bkeep2 hb11 g6
        have lb11 : bb < w11.heap.size := cell_lt q10
        have ld11 : bd < w11.heap.size := cell_lt r10
        clear q00 q01 q02 q03 r00 r01
        go_wp2_with fail
        go_cut [27] (fun s5 wx => ∃ b : Nat, s5 = .pointer (some ⟨b, 0, none⟩) ∧ wx.cell? ⟨b, 0, none⟩ = some (.complex .f64 Y.a Y.b) ∧ wx.cell? ⟨b, 1, none⟩ = some (.float .f64 Y.r) ∧ w11.heap.size ≤ b ∧ Below w11.heap.size w11 wx)
        case first =>
          go_region_held3 (fun w' => w'.cell? ⟨bb, 4, none⟩ = some (.float .f64 (bxf f 1).a) ∧ w'.cell? ⟨bb, 5, none⟩ = some (.float .f64 (bxf f 1).b) ∧ w'.cell? ⟨bb, 6, none⟩ = some (.float .f64 (bxf f 1).c) ∧ w'.cell? ⟨bb, 7, none⟩ = some (.float .f64 (bxf f 1).d) ∧ w'.cell? ⟨bd, 2, none⟩ = some (.complex .f64 (dcf f 1).a (dcf f 1).b) ∧ w'.cell? ⟨bd, 3, none⟩ = some (.float .f64 (dcf f 1).r)) (((try dsimp only); (repeat' apply And.intro) <;> first | (with_reducible assumption) | exact bkeep (W := w11) (n := w11.heap.size) (by repeat (with_reducible first | exact Below.refl _ _ | assumption | refine Below.drew ?_ | refine bl_drewN ?_ _ | refine bl_alloc ?_ | refine bl_next ?_ (by assumption) | refine bl_set ?_ (by first | omega | (simp; done) | (simp; omega) | exact Below.size (B := w11.heap.size) (by repeat (with_reducible first | exact Below.refl _ _ | assumption | refine Below.drew ?_ | refine bl_drewN ?_ _ | refine bl_alloc ?_ | refine bl_next ?_ (by assumption) | refine bl_set ?_ (by first | omega | (simp; done) | (simp; omega))))))) (by with_reducible assumption) (by first | omega | (simp; done) | (simp; omega)))) (first | (go_at_call 28; (with_reducible refine (hA1' _).mono ?_); rintro e w' ⟨rfl, hb⟩; (try have z := bnew hb); (try have z := bnewD hb); (try simp only [World.size_drew] at z)))
          all_goals (go_wp2_with fail; go_meet; (case rel => exact ⟨_, rfl, (by first | (simp [go_sem]; done) | (simp [*]; done) | simp [go_sem, *]), (by first | (simp [go_sem]; done) | (simp [*]; done) | simp [go_sem, *]), (by first | omega | (simp; done) | exact Below.size (B := w11.heap.size) (by repeat (with_reducible first | exact Below.refl _ _ | assumption | refine Below.drew ?_ | refine bl_drewN ?_ _ | refine bl_alloc ?_ | refine bl_next ?_ (by assumption) | refine bl_set ?_ (by first | omega | (simp; done) | (simp; omega))))), (by repeat (with_reducible first | exact Below.refl _ _ | assumption | refine Below.drew ?_ | refine bl_drewN ?_ _ | refine bl_alloc ?_ | refine bl_next ?_ (by assumption) | refine bl_set ?_ (by first | omega | (simp; done) | (simp; omega) | exact Below.size (B := w11.heap.size) (by repeat (with_reducible first | exact Below.refl _ _ | assumption | refine Below.drew ?_ | refine bl_drewN ?_ _ | refine bl_alloc ?_ | refine bl_next ?_ (by assumption) | refine bl_set ?_ (by first | omega | (simp; done) | (simp; omega)))))))⟩))
        case rest =>
          obtain ⟨b12, rfl, m120, m121, le12, hb12⟩ := hcut
          obtain ⟨w12, rfl⟩ : ∃ v, v = wc := ⟨wc, rfl⟩
          replace m110 := bkeep2 hb12 m110
          replace m111 := bkeep2 hb12 m111
          replace g0 := bkeep2 hb12 g0
          replace g5 := bkeep2 hb12 g5
          replace g6 := bkeep2 hb12 g6
          have lb12 : b11 < w12.heap.size := cell_lt m110
          have ld12 : b12 < w12.heap.size := cell_lt m120
          clear q10 q11 q12 q13 r10 r11
          go_wp2_with fail
          go_at_call 29
          refine (hZ' _).mono ?_
          rintro e w13 ⟨rfl, hb13⟩
          replace g0 := bkeep2 hb13 g0
          replace g5 := bkeep2 hb13 g5
          replace g6 := bkeep2 hb13 g6
          clear m110 m111 m120 m121
          have hw13 : Below w.heap.size w w13 := bl_next (bl_next (bl_next hw9 hb11) hb12) hb13
          have l13 : bs < w13.heap.size := cell_lt g0
          go_wp2_with fail
          go_at_call 30
          refine (alikeDisc_w _ _ _ HQ.out.1 HQ.out.2.1 HQ.out.2.2 _).mono ?_
          rintro e w14 ⟨rfl, hb14⟩
          go_wp2_with fail
          go_ret
          exact ⟨rfl, bl_next (bl_alloc hw13) hb14⟩
end Go.Proofs.YtacnclofbnafiabGreatDoor

namespace Go.Proofs.YtacnclofbnafiabGreatDoor
open Go.RowKit Fl

theorem op_five {i : Int} (h0 : 0 ≤ i) (h1 : i < 5) : (((⟨#[43, 45, 42, 94, 126]⟩ : ByteArray)[i.toNat]'(by show _ < 5; omega)).toNat : Int) = 43 ∨ (((⟨#[43, 45, 42, 94, 126]⟩ : ByteArray)[i.toNat]'(by show _ < 5; omega)).toNat : Int) = 45 ∨ (((⟨#[43, 45, 42, 94, 126]⟩ : ByteArray)[i.toNat]'(by show _ < 5; omega)).toNat : Int) = 42 ∨ (((⟨#[43, 45, 42, 94, 126]⟩ : ByteArray)[i.toNat]'(by show _ < 5; omega)).toNat : Int) = 94 ∨ (((⟨#[43, 45, 42, 94, 126]⟩ : ByteArray)[i.toNat]'(by show _ < 5; omega)).toNat : Int) = 126 := by
  have h : i = 0 ∨ i = 1 ∨ i = 2 ∨ i = 3 ∨ i = 4 := by omega
  rcases h with rfl | rfl | rfl | rfl | rfl
  · exact .inl rfl
  · exact .inr (.inl rfl)
  · exact .inr (.inr (.inl rfl))
  · exact .inr (.inr (.inr (.inl rfl)))
  · exact .inr (.inr (.inr (.inr rfl)))
theorem calls_any (F : Ops) (P : Plane) (op a1 a2 pk : Int) (vl : Value) (f : Nat → Nat) (w : World) (hl : Lst w vl f) (_hg : w.cell? ⟨0, 0, none⟩ = some (.iface 169 (.agg #[.pointer (some ⟨2, 46, none⟩)]))) :
    Calls Tryz.prog 6 #[.int .i64 op, .int .i64 a1, .int .i64 a2, .int .i64 pk, vl] w fun e w' => e = .returned (.bool true) ∧ Below w.heap.size w w' := by
  have hi : 0 ≤ wrap64 ((IntKind.u64.wrap op).tmod 5) ∧ wrap64 ((IntKind.u64.wrap op).tmod 5) < 5 := by rw [op_idx]; omega
  have h5 := op_five hi.1 hi.2
  obtain ⟨c, hcx⟩ : ∃ c : Int, (((⟨#[43, 45, 42, 94, 126]⟩ : ByteArray)[(wrap64 ((IntKind.u64.wrap op).tmod 5)).toNat]'(by show _ < 5; omega)).toNat : Int) = c := ⟨_, rfl⟩
  rw [hcx] at h5
  have hk := bit_is pk
  obtain ⟨k2, sb, h2, hf2⟩ : ∃ k2 sb : Int, bits .and .i64 a2 1 = k2 ∧ ((k2 = 0 ∧ sb = 49) ∨ (k2 = 1 ∧ sb = 98)) := by
    rcases bit_is a2 with h | h
    · exact ⟨0, 49, h, .inl ⟨rfl, rfl⟩⟩
    · exact ⟨1, 98, h, .inr ⟨rfl, rfl⟩⟩
  have hL : ∀ fb : Int, ∃ L : List Int, ((c = 43 ∨ c = 45 ∨ c = 42) ∧ L = [fb, sb]) ∨ ((c = 94 ∨ c = 126) ∧ L = [fb]) := fun fb => by
    have hc : (c = 43 ∨ c = 45 ∨ c = 42) ∨ c = 94 ∨ c = 126 := by omega
    rcases hc with h | h
    · exact ⟨_, .inl ⟨h, rfl⟩⟩
    · exact ⟨_, .inr ⟨h, rfl⟩⟩
  rcases bit_is a1 with h1 | h1
  · obtain ⟨L, hc⟩ := hL 48
    exact calls_w F P op a1 a2 pk c _ 0 k2 48 sb L _ _ _ _ _ _ _ vl f w hl h1 h2 (.inl ⟨rfl, rfl⟩) hf2 hc rfl (raws_b_w _ _ _ _ _ _ _) hi hk rfl hcx
  · obtain ⟨L, hc⟩ := hL 97
    exact calls_w F P op a1 a2 pk c _ 1 k2 97 sb L _ _ _ _ _ _ _ vl f w hl h1 h2 (.inr ⟨rfl, rfl⟩) hf2 hc rfl (raws_d_w _ _ _ _ _ _ _) hi hk rfl hcx
end Go.Proofs.YtacnclofbnafiabGreatDoor
