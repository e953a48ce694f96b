import Derived.Test.YtacnclofbnafiabGreatDoorB2
import Derived.Test.YtacnclofbnafiabGreatDoorCA
import Derived.WalkLawsBesides
import Derived.Test.YtacnclofbnafiabGreatDoorPE
namespace Go.Proofs.YtacnclofbnafiabGreatDoor
open Go.RowKit Fl

/-- How many sets a byte takes, by the reference. -/
def rtk (c : Int) : Int := if c = 43 ∨ c = 45 ∨ c = 42 then 2 else if c = 126 ∨ c = 94 then 1 else if (48 ≤ c ∧ c ≤ 51) ∨ (97 ≤ c ∧ c ≤ 100) then 0 else -1
set_option maxRecDepth 100000 in
theorem num_w (n : Int) (h1 : -9223372036854775808 ≤ n) (h2 : n < 9223372036854775808) (w : World) : Calls Tryz.prog 15 #[.int .i64 n] w fun e w' => e = .returned (.int .i64 n) ∧ w' = w := by
  have hwr2 : IntKind.i64.wrap n = n := by rw [IntKind.wrap_i64]; omega
  go_enter Tryz.func15, Tryz.ntmps15
  go_wp2
  go_ret
  exact ⟨rfl, rfl⟩
end Go.Proofs.YtacnclofbnafiabGreatDoor

namespace Go.Proofs.YtacnclofbnafiabGreatDoor
open Go.RowKit Fl

theorem infoBx : (Tryz.prog.info? 39).map (fun i => (i.zero, i.size, i.bytes)) = some (some (.agg #[.float .f64 0, .float .f64 0, .float .f64 0, .float .f64 0]), 4, 32) := by kernel_rfl
theorem infoDc : (Tryz.prog.info? 42).map (fun i => (i.zero, i.size, i.bytes)) = some (some (.agg #[.complex .f64 0 0, .float .f64 0]), 2, 24) := by kernel_rfl
theorem infoKd : (Tryz.prog.info? 34).map (fun i => (i.zero, i.size, i.bytes)) = some (some (.int .i64 0), 1, 8) := by kernel_rfl
theorem infoIn : (Tryz.prog.info? 3).map (fun i => (i.zero, i.size, i.bytes)) = some (some (.int .i64 0), 1, 8) := by kernel_rfl
def bxf (f : Nat → Nat) (i : Nat) : Bx := ⟨f (4 * i), f (4 * i + 1), f (4 * i + 2), f (4 * i + 3)⟩
def dcf (f : Nat → Nat) (i : Nat) : Dc := ⟨f (3 * i), f (3 * i + 1), f (3 * i + 2)⟩
def cnt (n : Int) : Nat := min n.toNat 8
theorem keep_own {w W : World} {base : Nat} {e : TypeId} {size : Nat} {v : Value} {n : Nat} {xs : List Value} (o : w.ownsRow base e size v n xs) (hb : Below w.heap.size w W) : W.ownsRow base e size v n xs := (Only.of_below (S := fun _ => False) hb).own o (fun _ _ c => c)
def Bx.cs (x : Bx) : List Value := [.float .f64 x.a, .float .f64 x.b, .float .f64 x.c, .float .f64 x.d]
def Dc.cs (x : Dc) : List Value := [.complex .f64 x.a x.b, .float .f64 x.r]
def bfl (l : List Bx) : List Value := l.flatMap Bx.cs
def dfl (l : List Dc) : List Value := l.flatMap Dc.cs
theorem bfl_at {l : List Bx} {j : Nat} {x : Bx} (h : l[j]? = some x) (t : Nat) (ht : t < 4) : (bfl l)[j * 4 + t]? = x.cs[t]? := by
  induction l generalizing j with
  | nil => simp at h
  | cons y l ih =>
    have e : bfl (y :: l) = y.cs ++ bfl l := rfl
    have hl : y.cs.length = 4 := rfl
    cases j with
    | zero =>
      simp at h; subst h
      rw [e, List.getElem?_append_left (by rw [hl]; omega)]; simp
    | succ j =>
      simp at h
      rw [e, List.getElem?_append_right (by rw [hl]; omega), hl, ← ih h]
      congr 1; omega
theorem dfl_at {l : List Dc} {j : Nat} {x : Dc} (h : l[j]? = some x) (t : Nat) (ht : t < 2) : (dfl l)[j * 2 + t]? = x.cs[t]? := by
  induction l generalizing j with
  | nil => simp at h
  | cons y l ih =>
    have e : dfl (y :: l) = y.cs ++ dfl l := rfl
    have hl : y.cs.length = 2 := rfl
    cases j with
    | zero =>
      simp at h; subst h
      rw [e, List.getElem?_append_left (by rw [hl]; omega)]; simp
    | succ j =>
      simp at h
      rw [e, List.getElem?_append_right (by rw [hl]; omega), hl, ← ih h]
      congr 1; omega
theorem own_at {w : World} {base : Nat} {e : TypeId} {size : Nat} {v : Value} {n : Nat} {xs : List Value} (h : w.ownsRow base e size v n xs) {g cap : Nat} (hv : v = .slice (some ⟨g, 0, none⟩) n cap) {j : Nat} {u : Value} (hj : xs[j]? = some u) : w.cell? ⟨g, j, none⟩ = some u := by
  subst hv
  have q := h.cells (g := g) rfl j u hj
  have e : (⟨g, 0, none⟩ : Addr).add j = ⟨g, j, none⟩ := by
    unfold Addr.add
    by_cases c : j = 0
    · subst c; simp
    · simp [c]
  rwa [e] at q
theorem SrcB.own {w : World} {base : Nat} {v : Value} {l : List Bx} (h : w.ownsRow base 39 4 v l.length (bfl l)) : SrcB w v l := by
  obtain ⟨ao, c, hv, _, _, hn⟩ := own_shape h
  refine ⟨⟨ao, c, hv⟩, fun j x e => ?_⟩
  rcases h.2 with ⟨h1, _⟩ | ⟨g, cap, cur, h1, _⟩
  · rw [h1] at hv
    have : l = [] := List.eq_nil_of_length_eq_zero (by injection hv with _ h2 _)
    subst this; simp at e
  · exact ⟨g, cap, h1, own_at h h1 (by rw [show j * 4 = j * 4 + 0 by omega, bfl_at e 0 (by omega)]; rfl), own_at h h1 (by rw [bfl_at e 1 (by omega)]; rfl), own_at h h1 (by rw [bfl_at e 2 (by omega)]; rfl), own_at h h1 (by rw [bfl_at e 3 (by omega)]; rfl)⟩
theorem SrcD.own {w : World} {base : Nat} {v : Value} {l : List Dc} (h : w.ownsRow base 42 2 v l.length (dfl l)) : SrcD w v l := by
  obtain ⟨ao, c, hv, _, _, hn⟩ := own_shape h
  refine ⟨⟨ao, c, hv⟩, fun j x e => ?_⟩
  rcases h.2 with ⟨h1, _⟩ | ⟨g, cap, cur, h1, _⟩
  · rw [h1] at hv
    have : l = [] := List.eq_nil_of_length_eq_zero (by injection hv with _ h2 _)
    subst this; simp at e
  · exact ⟨g, cap, h1, own_at h h1 (by rw [show j * 2 = j * 2 + 0 by omega, dfl_at e 0 (by omega)]; rfl), own_at h h1 (by rw [dfl_at e 1 (by omega)]; rfl)⟩
theorem four_cells {w : World} {B : Nat} {u v x y : Value} (h0 : w.cell? ⟨B, 0, none⟩ = some u) (h1 : w.cell? ⟨B, 1, none⟩ = some v) (h2 : w.cell? ⟨B, 2, none⟩ = some x) (h3 : w.cell? ⟨B, 3, none⟩ = some y) : ∀ j z, [u, v, x, y][j]? = some z → w.cell? ((⟨B, 0, none⟩ : Addr).add j) = some z := by
  intro j z hj
  match j, hj with
  | 0, hj => simp at hj; subst hj; simpa [Addr.add] using h0
  | 1, hj => simp at hj; subst hj; simpa [Addr.add] using h1
  | 2, hj => simp at hj; subst hj; simpa [Addr.add] using h2
  | 3, hj => simp at hj; subst hj; simpa [Addr.add] using h3
/-- A list of ints that is handed in. -/
structure LInt (w : World) (v : Value) (ks : List Int) : Prop where
  sh : ∃ ao c, v = .slice ao ks.length c
  ce : ∀ j x, ks[j]? = some x → ∃ b off c, v = .slice (some ⟨b, off, none⟩) ks.length c ∧ b < w.heap.size ∧ w.cell? ⟨b, off + j, none⟩ = some (.int .i64 x)
theorem LInt.below {w w' : World} {v : Value} {ks : List Int} (h : LInt w v ks) (hb : Below w.heap.size w w') : LInt w' v ks :=
  ⟨h.sh, fun j x e => by
    obtain ⟨b, off, c, h1, h2, h3⟩ := h.ce j x e
    exact ⟨b, off, c, h1, Nat.lt_of_lt_of_le h2 hb.size, bkeep2 hb h3⟩⟩
def kvs (l : List Int) : List Value := l.map (Value.int .i64)
theorem kvs_next {l : List Int} {k : Nat} {x : Int} (h : l[k]? = some x) : kvs (l.take (k + 1)) = kvs (l.take k) ++ [.int .i64 x] := by
  rw [take_next h]; simp [kvs]
/-- A Listed that is being made. -/
structure LM (w : World) (ks : List Int) (vp : Value) (k : Nat) (wr : World) : Prop where
  l0 : wr.cell? ⟨w.heap.size, 0, none⟩ = some vp
  l1 : wr.cell? ⟨w.heap.size, 1, none⟩ = some (.slice none 0 0)
  f0 : wr.frozen? ⟨w.heap.size, 0, none⟩ = false
  f1 : wr.frozen? ⟨w.heap.size, 1, none⟩ = false
  ow : wr.ownsRow (w.heap.size + 1) 34 1 vp k (kvs (ks.take k))
  bl : Below w.heap.size w wr
  lt : w.heap.size < wr.heap.size
theorem LM.next {w wr w1 : World} {ks : List Int} {vp v' : Value} {k : Nat} {x : Int} {o : Obj} (h : LM w ks vp k wr) (hx : ks[k]? = some x) (o1 : w1.ownsRow (w.heap.size + 1) 34 1 v' (k + 1) (kvs (ks.take k) ++ [.int .i64 x])) (g1 : (wr.alloc o).grownBy w1 vp.ownBlock) : LM w ks v' (k + 1) (w1.setCell ⟨w.heap.size, 0, none⟩ v') := by
  have ne : some w.heap.size ≠ vp.ownBlock := fun e => by have := (h.ow.lt _ e.symm).1; omega
  have lt := h.lt
  have kp : ∀ {j : Nat} {v : Value}, wr.cell? ⟨w.heap.size, j, none⟩ = some v → w1.cell? ⟨w.heap.size, j, none⟩ = some v := fun {j} {v} e => g1.cell (bkeep (bl_alloc (Below.refl _ _)) e lt) ne
  have kf : ∀ {j : Nat} {v : Value}, wr.cell? ⟨w.heap.size, j, none⟩ = some v → wr.frozen? ⟨w.heap.size, j, none⟩ = false → w1.frozen? ⟨w.heap.size, j, none⟩ = false := fun {j} {v} e f => grown_frozen g1 (bkeep (bl_alloc (Below.refl _ _)) e lt) (bfroz (bl_alloc (Below.refl _ _)) f lt) ne
  have sz := g1.size
  simp at sz
  have hB1 : Below w.heap.size w w1 := Below.grown (Below.alloc h.bl (by omega) o) g1 (by have := h.bl.size; simp; omega) fun j hj => by
    have := (h.ow.lt j hj).1
    omega
  refine ⟨World.cell?_setCell_same _ _ _ (kp h.l0), ?_, ?_, ?_, ?_, Below.setCell hB1 (by simp) _, by simp; omega⟩
  · rw [World.cell?_setCell_other _ _ _ _ (by simp)]; exact kp h.l1
  · rw [World.frozen?_setCell]; exact kf h.l0 h.f0
  · rw [World.frozen?_setCell]; exact kf h.l1 h.f1
  · rw [kvs_next hx]
    exact ownsRow_setCell_other o1 (fun c => by have : w.heap.size + 1 ≤ w.heap.size := (o1.lt _ c).1; omega) _
@[go_sem] theorem buildLs (w : World) : (Instr.build 60 #[]).run Tryz.prog w = .ok (.agg #[.slice none 0 0, .slice none 0 0]) w := run_build w 60 _ _ (by kernel_rfl)
set_option maxRecDepth 100000 in
set_option maxHeartbeats 4000000 in
theorem listed_any (v : Value) (ks : List Int) (w : World) (h : LInt w v ks) (hks : ks.length ≤ 1048576) :
    Calls Tryz.prog 9 #[v] w fun e w' => e = .returned (.pointer (some ⟨w.heap.size, 0, none⟩)) ∧ ∃ vp, LM w ks vp ks.length w' := by
  obtain ⟨i0, hi, hz0, hz1, hz2⟩ := info_parts infoKd
  obtain ⟨ao, c, rfl⟩ := h.sh
  have HS : Hid (LInt w (.slice ao ks.length c) ks) := h
  clear h
  go_enter Tryz.func9, Tryz.ntmps9
  go_wp2_with fail
  go_loopw [4] (fun i wr => ∃ k : Nat, k ≤ ks.length ∧ i = .int .i64 k ∧ ∃ vp, Hid (LM w ks vp k wr)) (fun i _ => ks.length - (intOf i).toNat)
  case atStart => exact ⟨0, Nat.zero_le _, rfl, .slice none 0 0, by simp [go_sem], by simp [go_sem], by simp [go_sem], by simp [go_sem], World.ownsRow_nil _ _ _ _, bl_alloc (Below.refl _ _), by simp⟩
  case round =>
    rename World => wr
    obtain ⟨k, hk, rfl, vp, hM⟩ := hrel
    by_cases hlt : k < ks.length
    · obtain ⟨x, hx⟩ : ∃ x, ks[k]? = some x := ⟨ks[k], by simp [hlt]⟩
      obtain ⟨b1, off, c', e1, e2, cx⟩ := HS.out.ce k x hx
      cases e1
      have cx0 : wr.cell? ⟨b1, off + k, none⟩ = some (.int .i64 x) := bkeep2 hM.out.bl cx
      have hltI : (k : Int) < (ks.length : Int) := by omega
      have hx' : Hid (ks[k]? = some x) := hx
      obtain ⟨vo, vc, rfl, _, _, _⟩ := own_shape hM.out.ow
      have c0 := hM.out.l0
      have f0 := hM.out.f0
      have lt0 := hM.out.lt
      have hs := hM.out.ow
      have ne : some w.heap.size ≠ (Value.slice vo k vc).ownBlock := fun e => by have := (hM.out.ow.lt _ e.symm).1; omega
      clear hx cx
      go_wp2_with fail
      go_region_law (refine step_append_at rfl (.tmp 17) (.tmp 22) 57 rfl (w.heap.size + 1) 34 i0 (.int .i64 0) 1 8 Tryz.underlying57 hi hz0 hz1 hz2 rfl (by decide) _ _ _ (by simp [Act.eval]) (hs.drew.alloc _) ⟨wr.heap.size, 0, none⟩ 1 1 [.int .i64 x] (by simp [Act.eval]) rfl (cell_one (by simp [go_sem])) (by intro x hx; simp at hx; subst hx; rfl) (by unfold maxLen; omega) (by omega) (by simp; omega) (by decide) ?_; intro v' w1 o1 g1 nw; have k5 := g1.cell (bkeep (bl_alloc (Below.refl _ _)) c0 lt0) ne; have kf := grown_frozen g1 (bkeep (bl_alloc (Below.refl _ _)) c0 lt0) (bfroz (bl_alloc (Below.refl _ _)) f0 lt0) ne; obtain ⟨ao', ca', rfl, _, _, _⟩ := own_shape o1)
      all_goals (try go_wp2)
      all_goals
        have N : Hid (LM w ks _ (k + 1) _) := hM.out.next hx'.out o1 (grown_undrew g1)
        clear o1 g1 nw k5 kf
        go_roundw
        case rel => exact ⟨k + 1, by omega, by go_num, _, N⟩
        case measure => simp [intOf]; omega
    · have hkn : k = ks.length := by omega
      subst hkn
      clear hk hlt
      go_wp2_with fail
      go_ret
      exact ⟨rfl, vp, hM⟩
set_option maxRecDepth 100000 in
set_option maxHeartbeats 4000000 in
theorem policy_w (bl : Nat) (w : World) :
    Calls Tryz.prog 10 #[.pointer (some ⟨bl, 0, none⟩)] w fun e w' => e = .returned (.agg #[.func (.func 33) #[.pointer (some ⟨bl, 0, none⟩)] #[]]) ∧ Below w.heap.size w w' := by
  go_enter Tryz.func10, Tryz.ntmps10
  go_wp2
  refine bodyPost_ret (v := .agg #[.func (.func 33) #[.pointer (some ⟨bl, 0, none⟩)] #[]]) (by simp [results, Tryz.results10, go_sem]) rfl ⟨rfl, ?_⟩
  repeat (first | exact Below.refl _ _ | refine bl_alloc ?_ | refine bl_drewN ?_ _)
end Go.Proofs.YtacnclofbnafiabGreatDoor
