import Derived.Test.YtacnclofbnafiabGreatDoorPD
namespace Go.Proofs.YtacnclofbnafiabGreatDoor
open Go.RowKit

theorem runN_end {P : Program} {m a : Machine} {n : Nat} (h : runN P n m = .next a) {s : Stepped} (hs : step P a = s) (he : ∀ m', s ≠ .next m') (j : Nat) : runN P (n + (j + 1)) m = s := by
  rw [runN_add, h]
  show runN P (j + 1) a = s
  unfold runN
  rw [hs]
  cases s with
  | next m' => exact absurd rfl (he m')
  | ended o w => rfl
def doneOf : Stepped → Option Value
  | .ended (.done v) _ => some v
  | _ => none
/-- A call that answers v answers nothing else. -/
theorem calls_unique {f : FuncId} {args : Array Value} {w : World} {v v' : Value} {R R' : World → Prop} (hf : Tryz.prog.inits.idxOf? f = none) (h : Calls Tryz.prog f args w fun e w' => e = .returned v ∧ R w') (h' : Calls Tryz.prog f args w fun e w' => e = .returned v' ∧ R' w') : v = v' := by
  obtain ⟨e, w1, fr, ⟨rfl, _⟩, ⟨n, hn⟩, hfn, hl⟩ := h []
  obtain ⟨e', w2, fr', ⟨rfl, _⟩, ⟨k, hk⟩, hfn', hl'⟩ := h' []
  have s1 := step_leave_done hl (by rw [hfn]; exact hf)
  have s2 := step_leave_done hl' (by rw [hfn']; exact hf)
  have r1 := runN_end hn s1 (fun _ => by simp) k
  have r2 := runN_end hk s2 (fun _ => by simp) n
  rw [show k + (n + 1) = n + (k + 1) by omega, r1] at r2
  exact Option.some.inj (congrArg doneOf r2)
theorem ret_unique (w : World) {f : FuncId} {args : Array Value} {v v' : Value} (hf : Tryz.prog.inits.idxOf? f = none) (h : Ret f args v) (h' : Ret f args v') : v = v' := calls_unique hf (h w) (h' w)
theorem Bx.v_inj {x y : Bx} (h : x.v = y.v) : x = y := by
  cases x; cases y
  simp [Bx.v] at h
  simp [h]
theorem Dc.v_inj {x y : Dc} (h : x.v = y.v) : x = y := by
  cases x; cases y
  simp [Dc.v] at h
  simp [h]
theorem in_badd : Tryz.prog.inits.idxOf? 85 = none := by kernel_rfl
theorem in_bsub : Tryz.prog.inits.idxOf? 86 = none := by kernel_rfl
theorem in_bmul : Tryz.prog.inits.idxOf? 87 = none := by kernel_rfl
theorem in_bconj : Tryz.prog.inits.idxOf? 94 = none := by kernel_rfl
theorem in_dadd : Tryz.prog.inits.idxOf? 89 = none := by kernel_rfl
theorem in_dsub : Tryz.prog.inits.idxOf? 90 = none := by kernel_rfl
theorem in_dmul : Tryz.prog.inits.idxOf? 91 = none := by kernel_rfl
theorem in_dconj : Tryz.prog.inits.idxOf? 95 = none := by kernel_rfl
theorem in_toB : Tryz.prog.inits.idxOf? 84 = none := by kernel_rfl
theorem in_toD : Tryz.prog.inits.idxOf? 88 = none := by kernel_rfl
theorem Plane.is_badd (P : Plane) (w : World) {x y z : Bx} (hx : x.ok) (hy : y.ok) (h : Ret 85 #[x.v, y.v] z.v) : P.badd x y = z := Bx.v_inj (ret_unique w in_badd (P.hbadd x y hx hy).2 h)
theorem Plane.is_bsub (P : Plane) (w : World) {x y z : Bx} (hx : x.ok) (hy : y.ok) (h : Ret 86 #[x.v, y.v] z.v) : P.bsub x y = z := Bx.v_inj (ret_unique w in_bsub (P.hbsub x y hx hy).2 h)
theorem Plane.is_bmul (P : Plane) (w : World) {x y z : Bx} (hx : x.ok) (hy : y.ok) (h : Ret 87 #[x.v, y.v] z.v) : P.bmul x y = z := Bx.v_inj (ret_unique w in_bmul (P.hbmul x y hx hy).2 h)
theorem Plane.is_bconj (P : Plane) (w : World) {x z : Bx} (hx : x.ok) (h : Ret 94 #[x.v] z.v) : P.bconj x = z := Bx.v_inj (ret_unique w in_bconj (P.hbconj x hx).2 h)
theorem Plane.is_dadd (P : Plane) (w : World) {x y z : Dc} (hx : x.ok) (hy : y.ok) (h : Ret 89 #[x.v, y.v] z.v) : P.dadd x y = z := Dc.v_inj (ret_unique w in_dadd (P.hdadd x y hx hy).2 h)
theorem Plane.is_dsub (P : Plane) (w : World) {x y z : Dc} (hx : x.ok) (hy : y.ok) (h : Ret 90 #[x.v, y.v] z.v) : P.dsub x y = z := Dc.v_inj (ret_unique w in_dsub (P.hdsub x y hx hy).2 h)
theorem Plane.is_dmul (P : Plane) (w : World) {x y z : Dc} (hx : x.ok) (hy : y.ok) (h : Ret 91 #[x.v, y.v] z.v) : P.dmul x y = z := Dc.v_inj (ret_unique w in_dmul (P.hdmul x y hx hy).2 h)
theorem Plane.is_dconj (P : Plane) (w : World) {x z : Dc} (hx : x.ok) (h : Ret 95 #[x.v] z.v) : P.dconj x = z := Dc.v_inj (ret_unique w in_dconj (P.hdconj x hx).2 h)
theorem Plane.is_toB (P : Plane) (w : World) {x : Dc} {z : Bx} (hx : x.ok) (h : Ret 84 #[x.v] z.v) : P.toB x = z := Bx.v_inj (ret_unique w in_toB (P.htoB x hx).2 h)
theorem Plane.is_toD (P : Plane) (w : World) {x : Bx} {z : Dc} (hx : x.ok) (h : Ret 88 #[x.v] z.v) : P.toD x = z := Dc.v_inj (ret_unique w in_toD (P.htoD x hx).2 h)
end Go.Proofs.YtacnclofbnafiabGreatDoor
