import Derived.Test.YtacnclofbnafiabGreatDoorPB
import Derived.StillTactics
import Derived.Deep.RegionHeld3
import Derived.StillTailTactics
namespace Go.Proofs.YtacnclofbnafiabGreatDoor
open Go.RowKit Fl

set_option maxRecDepth 100000 in
theorem do1_w (s t b : Int) (f1 f2 : Fn) (x1 x2 y1 y2 : Array Value) (pb : Nat) (w : World) (hb : w.cell? ⟨pb, 0, none⟩ = some (.int .u8 b)) (lb : pb < w.heap.size) :
    Calls Tryz.prog 100 #[.agg #[.int .u8 s, .int .i64 t, .func f1 x1 y1, .func f2 x2 y2], .pointer (some ⟨pb, 0, none⟩)] w fun e w' => e = .returned (.bool (s == b)) ∧ w' = w.alloc (.cells #[.int .u8 s, .int .i64 t, .func f1 x1 y1, .func f2 x2 y2] 158) := by
  go_enter Tryz.func100, Tryz.ntmps100
  go_wp2_with fail
  go_ret
  exact ⟨rfl, rfl⟩
/-- The place of an operation in the table. -/
def idx (b : Int) : Int := if b = 43 then 0 else if b = 45 then 1 else if b = 42 then 2 else if b = 126 then 3 else if b = 94 then 4 else -1
set_option maxRecDepth 100000 in
set_option maxHeartbeats 16000000 in
theorem index_w (g pb : Nat) (p q : Nat → Nat) (b : Int) (w : World) (h : Tab w g p q) (hb : w.cell? ⟨pb, 0, none⟩ = some (.int .u8 b)) :
    Calls Tryz.prog 99 #[.slice (some ⟨g, 0, none⟩) 5 5, .func (.func 100) #[] #[.pointer (some ⟨pb, 0, none⟩)]] w fun e w' => e = .returned (.int .i64 (idx b)) ∧ Below w.heap.size w w' := by
  have lb : pb < w.heap.size := cell_lt hb
  have lg : g < w.heap.size := cell_lt h.s0
  have s0 := h.s0
  have n0 := h.n0
  have b0 := h.b0
  have d0 := h.d0
  have s1 := h.s1
  have n1 := h.n1
  have b1 := h.b1
  have d1 := h.d1
  have s2 := h.s2
  have n2 := h.n2
  have b2 := h.b2
  have d2 := h.d2
  have s3 := h.s3
  have n3 := h.n3
  have b3 := h.b3
  have d3 := h.d3
  have s4 := h.s4
  have n4 := h.n4
  have b4 := h.b4
  have d4 := h.d4
  have lg1 : g < w.heap.size + 1 := by omega
  have lb1 : pb < w.heap.size + 1 := by omega
  have lg2 : g < w.heap.size + 1 + 1 := by omega
  have lb2 : pb < w.heap.size + 1 + 1 := by omega
  have lg3 : g < w.heap.size + 1 + 1 + 1 := by omega
  have lb3 : pb < w.heap.size + 1 + 1 + 1 := by omega
  have lg4 : g < w.heap.size + 1 + 1 + 1 + 1 := by omega
  have lb4 : pb < w.heap.size + 1 + 1 + 1 + 1 := by omega
  have lg5 : g < w.heap.size + 1 + 1 + 1 + 1 + 1 := by omega
  have lb5 : pb < w.heap.size + 1 + 1 + 1 + 1 + 1 := by omega
  clear h
  go_enter Tryz.func99, Tryz.ntmps99
  go_wp2_with fail
  refine wp_loop_rounds 6 ?_
  rw [rounds_succ]
  go_wp2_with fail
  go_at_call 100
  refine (do1_w _ _ b _ _ _ _ _ _ pb _ ?_ ?_).mono ?_
  · exact bkeep (n := w.heap.size) (W := w) (by repeat (first | exact Below.refl _ _ | refine bl_alloc ?_)) hb lb
  · first | exact lb | (simp; omega)
  rintro e w' ⟨rfl, rfl⟩
  by_cases e0 : b = 43
  · subst e0
    go_wp2
    go_ret
    refine ⟨rfl, ?_⟩
    repeat (first | exact Below.refl _ _ | refine bl_alloc ?_)
  have z0 : ((43 : Int) == b) = false := by simp; omega
  rw [z0]
  go_wp2_with fail
  rw [rounds_succ]
  go_wp2_with fail
  go_at_call 100
  refine (do1_w _ _ b _ _ _ _ _ _ pb _ ?_ ?_).mono ?_
  · exact bkeep (n := w.heap.size) (W := w) (by repeat (first | exact Below.refl _ _ | refine bl_alloc ?_)) hb lb
  · first | exact lb | (simp; omega)
  rintro e w' ⟨rfl, rfl⟩
  by_cases e1 : b = 45
  · subst e1
    go_wp2
    go_ret
    refine ⟨rfl, ?_⟩
    repeat (first | exact Below.refl _ _ | refine bl_alloc ?_)
  have z1 : ((45 : Int) == b) = false := by simp; omega
  rw [z1]
  go_wp2_with fail
  rw [rounds_succ]
  go_wp2_with fail
  go_at_call 100
  refine (do1_w _ _ b _ _ _ _ _ _ pb _ ?_ ?_).mono ?_
  · exact bkeep (n := w.heap.size) (W := w) (by repeat (first | exact Below.refl _ _ | refine bl_alloc ?_)) hb lb
  · first | exact lb | (simp; omega)
  rintro e w' ⟨rfl, rfl⟩
  by_cases e2 : b = 42
  · subst e2
    go_wp2
    go_ret
    refine ⟨rfl, ?_⟩
    repeat (first | exact Below.refl _ _ | refine bl_alloc ?_)
  have z2 : ((42 : Int) == b) = false := by simp; omega
  rw [z2]
  go_wp2_with fail
  rw [rounds_succ]
  go_wp2_with fail
  go_at_call 100
  refine (do1_w _ _ b _ _ _ _ _ _ pb _ ?_ ?_).mono ?_
  · exact bkeep (n := w.heap.size) (W := w) (by repeat (first | exact Below.refl _ _ | refine bl_alloc ?_)) hb lb
  · first | exact lb | (simp; omega)
  rintro e w' ⟨rfl, rfl⟩
  by_cases e3 : b = 126
  · subst e3
    go_wp2
    go_ret
    refine ⟨rfl, ?_⟩
    repeat (first | exact Below.refl _ _ | refine bl_alloc ?_)
  have z3 : ((126 : Int) == b) = false := by simp; omega
  rw [z3]
  go_wp2_with fail
  rw [rounds_succ]
  go_wp2_with fail
  go_at_call 100
  refine (do1_w _ _ b _ _ _ _ _ _ pb _ ?_ ?_).mono ?_
  · exact bkeep (n := w.heap.size) (W := w) (by repeat (first | exact Below.refl _ _ | refine bl_alloc ?_)) hb lb
  · first | exact lb | (simp; omega)
  rintro e w' ⟨rfl, rfl⟩
  by_cases e4 : b = 94
  · subst e4
    go_wp2
    go_ret
    refine ⟨rfl, ?_⟩
    repeat (first | exact Below.refl _ _ | refine bl_alloc ?_)
  have z4 : ((94 : Int) == b) = false := by simp; omega
  rw [z4]
  go_wp2_with fail
  rw [rounds_succ]
  go_wp2
  have hix : idx b = -1 := by unfold idx; simp [e0, e1, e2, e3, e4]
  rw [hix]
  go_ret
  refine ⟨rfl, ?_⟩
  repeat (first | exact Below.refl _ _ | refine bl_alloc ?_)
end Go.Proofs.YtacnclofbnafiabGreatDoor

namespace Go.Proofs.YtacnclofbnafiabGreatDoor
open Go.RowKit Fl

theorem cell_one {w : World} {B : Nat} {u : Value} (h : w.cell? ⟨B, 0, none⟩ = some u) : ∀ j v, [u][j]? = some v → w.cell? ((⟨B, 0, none⟩ : Addr).add j) = some v := by
  intro j v hj
  match j, hj with
  | 0, hj => simp at hj; subst hj; simpa [Addr.add] using h
theorem infoS : (Tryz.prog.info? 120).map (fun i => (i.zero, i.size, i.bytes)) = some (some .nilIface, 1, 16) := by kernel_rfl
/-- A run in memory: at br; the place at_, the inputs vb and vd, the policy's function pk, the table at g; on the stack st. -/
structure RI (w : World) (base br : Nat) (at_ : Int) (vb vd pk : Value) (g : Nat) (vs : Value) (st : List Value) : Prop where
  r0 : w.cell? ⟨br, 0, none⟩ = some (.int .i64 at_)
  r1 : w.cell? ⟨br, 1, none⟩ = some vb
  r2 : w.cell? ⟨br, 2, none⟩ = some vd
  r3 : w.cell? ⟨br, 3, none⟩ = some pk
  r4 : w.cell? ⟨br, 4, none⟩ = some (.slice (some ⟨g, 0, none⟩) 5 5)
  r5 : w.cell? ⟨br, 5, none⟩ = some vs
  f0 : w.frozen? ⟨br, 0, none⟩ = false
  f5 : w.frozen? ⟨br, 5, none⟩ = false
  hs : w.ownsRow base 120 1 vs st.length st
  ba : base ≤ w.heap.size
  bb : br < base
theorem Only.own {S : Nat → Prop} {w w' : World} (h : Only S w w') {base : Nat} {e : TypeId} {size : Nat} {v : Value} {n : Nat} {xs : List Value} (o : w.ownsRow base e size v n xs) (hn : ∀ k, v.ownBlock = some k → ¬ S k) : w'.ownsRow base e size v n xs := by
  refine ⟨o.1, ?_⟩
  have lt := o.lt
  rcases o.2 with h' | ⟨g, cap, cur, rfl, e2, e3, r⟩
  · exact .inl h'
  · exact .inr ⟨g, cap, cur, rfl, e2, by rw [h.block g (lt g rfl).2 (hn g rfl)]; exact e3, r⟩
theorem grown_undrew {u w' : World} {r : Option Nat} (h : u.drew.grownBy w' r) : u.grownBy w' r := ⟨h.os, h.tape, h.output, h.size, h.block⟩
/-- A new stack. -/
theorem RI.next {w w1 : World} {base br : Nat} {at_ : Int} {vb vd pk : Value} {g : Nat} {vs v' : Value} {st st' : List Value} {o : Obj} (h : RI w base br at_ vb vd pk g vs st) (o1 : w1.ownsRow base 120 1 v' st'.length st') (g1 : (w.alloc o).grownBy w1 vs.ownBlock) :
    RI (w1.setCell ⟨br, 5, none⟩ v') base br at_ vb vd pk g v' st' ∧ Only (fun k => k = br ∨ vs.ownBlock = some k) w (w1.setCell ⟨br, 5, none⟩ v') := by
  have lt0 : br < w.heap.size := Nat.lt_of_lt_of_le h.bb h.ba
  have ne : some br ≠ vs.ownBlock := fun e => by have := (h.hs.lt br e.symm).1; have := h.bb; omega
  have kp : ∀ {j : Nat} {v : Value}, w.cell? ⟨br, j, none⟩ = some v → w1.cell? ⟨br, j, none⟩ = some v := fun {j} {v} e => g1.cell (bkeep (bl_alloc (Below.refl _ _)) e lt0) ne
  have kf : ∀ {j : Nat} {v : Value}, w.cell? ⟨br, j, none⟩ = some v → w.frozen? ⟨br, j, none⟩ = false → w1.frozen? ⟨br, j, none⟩ = false := fun {j} {v} e f => grown_frozen g1 (bkeep (bl_alloc (Below.refl _ _)) e lt0) (bfroz (bl_alloc (Below.refl _ _)) f lt0) ne
  have sz := g1.size
  simp at sz
  have hs : (w1.setCell ⟨br, 5, none⟩ v').heap.size = w1.heap.size := by simp
  have ot : ∀ {j : Nat} {v : Value}, j ≠ 5 → w1.cell? ⟨br, j, none⟩ = some v → (w1.setCell ⟨br, 5, none⟩ v').cell? ⟨br, j, none⟩ = some v := fun {j} {v} hj e => by
    rw [World.cell?_setCell_other _ _ _ _ (by simp)]; exact e
  refine ⟨⟨ot (by omega) (kp h.r0), ot (by omega) (kp h.r1), ot (by omega) (kp h.r2), ot (by omega) (kp h.r3), ot (by omega) (kp h.r4), World.cell?_setCell_same _ _ _ (kp h.r5), ?_, ?_, ?_, ?_, h.bb⟩, ?_⟩
  · rw [World.frozen?_setCell]; exact kf h.r0 h.f0
  · rw [World.frozen?_setCell]; exact kf h.r5 h.f5
  · exact ownsRow_setCell_other o1 (fun c => by have := (o1.lt br c).1; have := h.bb; omega) _
  · have := h.ba; rw [hs]; omega
  · refine ⟨g1.os, g1.tape, g1.output, by rw [hs]; omega, fun k hk hn => ?_⟩
    rw [Below.heap_setCell w1 ⟨br, 5, none⟩ v' k (fun c => hn (.inl c)), g1.block k (by simp; omega) (fun c => hn (.inr c.symm))]
    exact heap_alloc_old w o hk
set_option maxRecDepth 100000 in
set_option maxHeartbeats 4000000 in
theorem put_no (br : Nat) (at_ k : Int) (ao : Option Addr) (n c : Nat) (w : World) (c0 : w.cell? ⟨br, 0, none⟩ = some (.int .i64 at_)) (hk : (n : Int) ≤ k) :
    Calls Tryz.prog 98 #[.pointer (some ⟨br, 0, none⟩), .slice ao n c, .int .i64 k] w fun e w' => e = .returned (.iface 87 (.pointer (some ⟨w.heap.size, 0, none⟩))) ∧ w' = w.alloc (.cells #[.int .i64 at_, .int .i64 3] 93) := by
  have hk' : ¬ (k < (n : Int)) := by omega
  go_enter Tryz.func98, Tryz.ntmps98
  go_wp2_with (go_at_call 69; refine (fault_w br at_ _ _ c0).mono ?_; rintro e w' ⟨rfl, rfl⟩)
  go_ret
  exact ⟨rfl, rfl⟩
set_option maxRecDepth 100000 in
set_option maxHeartbeats 4000000 in
theorem put_ok (base br g0 : Nat) (at_ : Int) (vb vd pk : Value) (g : Nat) (vs : Value) (st : List Value) (k n c : Nat) (tb : TypeId) (u : Value) (w : World) (h : RI w base br at_ vb vd pk g vs st) (hk : k < n) (_hn : n ≤ 100) (hl : st.length ≤ 100) (hu : w.cell? ⟨g0, k, none⟩ = some (.iface tb u)) :
    Calls Tryz.prog 98 #[.pointer (some ⟨br, 0, none⟩), .slice (some ⟨g0, 0, none⟩) n c, .int .i64 k] w fun e w' => e = .returned .nilIface ∧ ∃ vs', RI w' base br at_ vb vd pk g vs' (st ++ [.iface tb u]) ∧ Only (fun k => k = br ∨ vs.ownBlock = some k) w w' ∧ ∀ k, vs'.ownBlock = some k → vs.ownBlock = some k ∨ w.heap.size ≤ k := by
  obtain ⟨i0, hi, hz0, hz1, hz2⟩ := info_parts infoS
  obtain ⟨ao, ca, rfl, hca, hcm, han⟩ := own_shape h.hs
  have c5 := h.r5
  have f5 := h.f5
  have hs := h.hs
  have ba := h.ba
  have lt0 : br < w.heap.size := Nat.lt_of_lt_of_le h.bb h.ba
  have lg : g0 < w.heap.size := cell_lt hu
  have hkI : (k : Int) < (n : Int) := by omega
  have ne : some br ≠ (Value.slice ao st.length ca).ownBlock := fun e => by have := (h.hs.lt br e.symm).1; have := h.bb; omega
  have HH : Hid (RI w base br at_ vb vd pk g (.slice ao st.length ca) st) := h
  clear h
  go_enter Tryz.func98, Tryz.ntmps98
  go_wp2_with fail
  go_region_law (refine step_append_at rfl (.tmp 17) (.tmp 22) 117 rfl base 120 i0 .nilIface 1 16 Tryz.underlying117 hi hz0 hz1 hz2 rfl (by decide) _ _ _ (by simp [Act.eval]) (hs.drew.alloc _) ⟨w.heap.size, 0, none⟩ 1 1 [.iface tb u] (by simp [Act.eval]) rfl (cell_one (by simp [go_sem])) (by intro x hx; simp at hx; subst hx; rfl) (by unfold maxLen; omega) (by omega) (by simp; omega) (by decide) ?_; intro v' w1 o1 g1 nw; have k5 := g1.cell (bkeep (bl_alloc (Below.refl _ _)) c5 lt0) ne; have kf := grown_frozen g1 (bkeep (bl_alloc (Below.refl _ _)) c5 lt0) (bfroz (bl_alloc (Below.refl _ _)) f5 lt0) ne; obtain ⟨ao', ca', rfl, _, _, _⟩ := own_shape o1)
  all_goals (try go_wp2)
  all_goals
    have N := HH.out.next (st' := st ++ [.iface tb u]) (by simpa using o1) (grown_undrew g1)
    go_ret
    exact ⟨rfl, _, N.1, N.2, fun k hk => (nw k hk).imp id fun q => by simp at q; omega⟩
end Go.Proofs.YtacnclofbnafiabGreatDoor

namespace Go.Proofs.YtacnclofbnafiabGreatDoor
open Go.RowKit Fl

theorem own_take {w : World} {base : Nat} {e : TypeId} {g n cap : Nat} {xs : List Value} (h : w.ownsRow base e 1 (.slice (some ⟨g, 0, none⟩) n cap) n xs) {r : Nat} (hr : r ≤ n) : w.ownsRow base e 1 (.slice (some ⟨g, 0, none⟩) r cap) r (xs.take r) := by
  have h1 := h.1
  rcases h.2 with ⟨h0, _⟩ | ⟨g', cap', cur, e1, e2, e3, e4, e5, e6, e7⟩
  · cases h0
  · cases e1
    refine ⟨by rw [List.length_take]; omega, .inr ⟨g, cap, cur, rfl, e2, e3, by omega, e5, e6, ?_⟩⟩
    rw [← e7, List.take_take, Nat.mul_one, Nat.mul_one, Nat.min_eq_left hr]
set_option maxRecDepth 100000 in
set_option maxHeartbeats 4000000 in
theorem operate_short (base br : Nat) (at_ : Int) (vb vd pk : Value) (g : Nat) (vs : Value) (st : List Value) (sg tk : Int) (f1 f2 : Fn) (x1 x2 y1 y2 : Array Value) (w : World) (h : RI w base br at_ vb vd pk g vs st) (hl : st.length ≤ 100) (ht : (st.length : Int) < tk) (ht1 : 1 ≤ tk) (ht2 : tk ≤ 2) :
    Calls Tryz.prog 101 #[.pointer (some ⟨br, 0, none⟩), .agg #[.int .u8 sg, .int .i64 tk, .func f1 x1 y1, .func f2 x2 y2]] w fun e w' => ∃ bf, e = .returned (.iface 87 (.pointer (some ⟨bf, 0, none⟩))) ∧ w'.cell? ⟨bf, 0, none⟩ = some (.int .i64 at_) ∧ w'.cell? ⟨bf, 1, none⟩ = some (.int .i64 4) ∧ Below w.heap.size w w' := by
  obtain ⟨ao, ca, rfl, hca, hcm, han⟩ := own_shape h.hs
  have c0 := h.r0
  have c5 := h.r5
  have lt0 : br < w.heap.size := cell_lt c0
  have ht0 : (st.length : Int) - tk < 0 := by omega
  clear h
  go_enter Tryz.func101, Tryz.ntmps101
  go_wp2_with fail
  obtain ⟨w0, hw0⟩ : ∃ v, v = w.alloc (.cells #[.int .u8 sg, .int .i64 tk, .func f1 x1 y1, .func f2 x2 y2] 158) := ⟨_, rfl⟩
  rw [← hw0]
  have hB0 : Below w.heap.size w w0 := by rw [hw0]; exact bl_alloc (Below.refl _ _)
  have o0 : w0.cell? ⟨w.heap.size, 0, none⟩ = some (.int .u8 sg) := by simp [hw0, go_sem]
  have o1 : w0.cell? ⟨w.heap.size, 1, none⟩ = some (.int .i64 tk) := by simp [hw0, go_sem]
  have o2 : w0.cell? ⟨w.heap.size, 2, none⟩ = some (.func f1 x1 y1) := by simp [hw0, go_sem]
  have o3 : w0.cell? ⟨w.heap.size, 3, none⟩ = some (.func f2 x2 y2) := by simp [hw0, go_sem]
  replace c0 := bkeep hB0 c0 lt0
  replace c5 := bkeep hB0 c5 lt0
  clear hw0
  go_still mixed
  go_wp2_with (go_at_call 69; refine (fault_w br at_ _ w0.drew c0).mono ?_; rintro e w' ⟨rfl, rfl⟩)
  go_ret
  refine ⟨_, rfl, by simp [go_sem], by simp [go_sem], ?_⟩
  exact (hB0.trans ((Below.refl _ _).drew)).trans ((bl_alloc (Below.refl _ _)).mono hB0.size)
theorem RI.only {w w' : World} {S : Nat → Prop} {base br : Nat} {at_ : Int} {vb vd pk : Value} {g : Nat} {vs : Value} {st : List Value} (h : RI w base br at_ vb vd pk g vs st) (hO : Only S w w') (hb : ¬ S br) (hv : ∀ k, vs.ownBlock = some k → ¬ S k) : RI w' base br at_ vb vd pk g vs st :=
  ⟨hO.cell h.r0 hb, hO.cell h.r1 hb, hO.cell h.r2 hb, hO.cell h.r3 hb, hO.cell h.r4 hb, hO.cell h.r5 hb, hO.frozen h.r0 h.f0 hb, hO.frozen h.r5 h.f5 hb, hO.own h.hs hv, Nat.le_trans h.ba hO.size, h.bb⟩
theorem own_cell {w : World} {base : Nat} {e : TypeId} {g n cap : Nat} {xs : List Value} (h : w.ownsRow base e 1 (.slice (some ⟨g, 0, none⟩) n cap) n xs) {j : Nat} {u : Value} (hj : xs[j]? = some u) : w.cell? ⟨g, j, none⟩ = some u := by
  obtain ⟨g', cap', e, c, _⟩ := own_row h hj
  cases e
  exact c
theorem wrap_nat (n : Nat) (h : n ≤ 100) : IntKind.i64.wrap (n : Int) = n := by rw [IntKind.wrap_i64]; omega
theorem Only.trans_below {S : Nat → Prop} {w w0 wp : World} (h : Only S w0.drew wp) (hb : Below w.heap.size w w0) : Only S w wp :=
  ⟨h.os.trans hb.os, h.tape.trans hb.tape, h.output.trans hb.output, Nat.le_trans hb.size h.size, fun k hk hn => (h.block k (Nat.lt_of_lt_of_le hk hb.size) hn).trans (hb.block k hk)⟩
set_option maxRecDepth 100000 in
set_option maxHeartbeats 4000000 in
theorem operate_nopick1 (base br : Nat) (at_ : Int) (vb vd pk : Value) (g : Nat) (vs : Value) (st : List Value) (sg : Int) (SP : Nat → Prop) (R : World → Prop) (w : World) (h : RI w base br at_ vb vd pk g vs st) (hl : st.length ≤ 100) (hSb : ¬ SP br) (hS : ∀ k, SP k → k < w.heap.size) (f1 f2 : Fn) (x1 x2 y1 y2 : Array Value) (hn : 1 ≤ st.length) (kd : Int)
    (pc : ∀ u, Below w.heap.size w u → Calls Tryz.prog 139 #[.pointer (some ⟨br, 0, none⟩), .int .u8 sg] u fun e w' => e = .returned (.tuple #[.int .i64 kd, .bool false]) ∧ Only SP u w' ∧ R w') :
    Calls Tryz.prog 101 #[.pointer (some ⟨br, 0, none⟩), .agg #[.int .u8 sg, .int .i64 1, .func f1 x1 y1, .func f2 x2 y2]] w fun e w' => ∃ bf, e = .returned (.iface 87 (.pointer (some ⟨bf, 0, none⟩))) ∧ w'.cell? ⟨bf, 0, none⟩ = some (.int .i64 at_) ∧ w'.cell? ⟨bf, 1, none⟩ = some (.int .i64 5) ∧ ∃ wp, R wp ∧ Below wp.heap.size wp w' := by
  obtain ⟨ao, ca, rfl, hca, hcm, han⟩ := own_shape h.hs
  have c0 := h.r0
  have c5 := h.r5
  have lt0 : br < w.heap.size := cell_lt c0
  have hnI : ((1 : Int) ≤ (st.length : Int)) := by omega
  have hn0 : ¬ ((st.length : Int) - 1 < 0) := by omega
  clear h
  go_enter Tryz.func101, Tryz.ntmps101
  go_wp2_with fail
  obtain ⟨w0, hw0⟩ : ∃ v, v = w.alloc (.cells #[.int .u8 sg, .int .i64 1, .func f1 x1 y1, .func f2 x2 y2] 158) := ⟨_, rfl⟩
  rw [← hw0]
  have hB0 : Below w.heap.size w w0 := by rw [hw0]; exact bl_alloc (Below.refl _ _)
  have o0 : w0.cell? ⟨w.heap.size, 0, none⟩ = some (.int .u8 sg) := by simp [hw0, go_sem]
  have o1 : w0.cell? ⟨w.heap.size, 1, none⟩ = some (.int .i64 1) := by simp [hw0, go_sem]
  have o2 : w0.cell? ⟨w.heap.size, 2, none⟩ = some (.func f1 x1 y1) := by simp [hw0, go_sem]
  have o3 : w0.cell? ⟨w.heap.size, 3, none⟩ = some (.func f2 x2 y2) := by simp [hw0, go_sem]
  replace c0 := bkeep hB0 c0 lt0
  replace c5 := bkeep hB0 c5 lt0
  clear hw0
  go_still mixed
  go_wp2_with fail
  go_at_call 139
  refine (pc w0.drew (hB0.trans ((Below.refl _ _).drew))).mono ?_
  rintro e wp ⟨rfl, hO, hR⟩
  have hl0 : w.heap.size < w0.heap.size := cell_lt o0
  have hSo : ¬ SP w.heap.size := fun c => by have := hS _ c; omega
  have d0 : wp.cell? ⟨w.heap.size, 0, none⟩ = some (.int .u8 sg) := hO.cell o0 hSo
  have d1 : wp.cell? ⟨w.heap.size, 1, none⟩ = some (.int .i64 1) := hO.cell o1 hSo
  have d2 : wp.cell? ⟨w.heap.size, 2, none⟩ = some (.func f1 x1 y1) := hO.cell o2 hSo
  have d3 : wp.cell? ⟨w.heap.size, 3, none⟩ = some (.func f2 x2 y2) := hO.cell o3 hSo
  have e0 : wp.cell? ⟨br, 0, none⟩ = some (.int .i64 at_) := hO.cell c0 hSb
  clear hO
  go_wp2_with (go_at_call 69; refine (fault_w br at_ _ wp e0).mono ?_; rintro e w' ⟨rfl, rfl⟩)
  go_ret
  exact ⟨_, rfl, by simp [go_sem], by simp [go_sem], wp, hR, bl_alloc (Below.refl _ _)⟩
set_option maxRecDepth 100000 in
set_option maxHeartbeats 4000000 in
theorem operate_nopick2 (base br : Nat) (at_ : Int) (vb vd pk : Value) (g : Nat) (vs : Value) (st : List Value) (sg : Int) (SP : Nat → Prop) (R : World → Prop) (w : World) (h : RI w base br at_ vb vd pk g vs st) (hl : st.length ≤ 100) (hSb : ¬ SP br) (hS : ∀ k, SP k → k < w.heap.size) (f1 f2 : Fn) (x1 x2 y1 y2 : Array Value) (hn : 2 ≤ st.length) (kd : Int)
    (pc : ∀ u, Below w.heap.size w u → Calls Tryz.prog 139 #[.pointer (some ⟨br, 0, none⟩), .int .u8 sg] u fun e w' => e = .returned (.tuple #[.int .i64 kd, .bool false]) ∧ Only SP u w' ∧ R w') :
    Calls Tryz.prog 101 #[.pointer (some ⟨br, 0, none⟩), .agg #[.int .u8 sg, .int .i64 2, .func f1 x1 y1, .func f2 x2 y2]] w fun e w' => ∃ bf, e = .returned (.iface 87 (.pointer (some ⟨bf, 0, none⟩))) ∧ w'.cell? ⟨bf, 0, none⟩ = some (.int .i64 at_) ∧ w'.cell? ⟨bf, 1, none⟩ = some (.int .i64 5) ∧ ∃ wp, R wp ∧ Below wp.heap.size wp w' := by
  obtain ⟨ao, ca, rfl, hca, hcm, han⟩ := own_shape h.hs
  have c0 := h.r0
  have c5 := h.r5
  have lt0 : br < w.heap.size := cell_lt c0
  have hnI : ((2 : Int) ≤ (st.length : Int)) := by omega
  have hn0 : ¬ ((st.length : Int) - 2 < 0) := by omega
  clear h
  go_enter Tryz.func101, Tryz.ntmps101
  go_wp2_with fail
  obtain ⟨w0, hw0⟩ : ∃ v, v = w.alloc (.cells #[.int .u8 sg, .int .i64 2, .func f1 x1 y1, .func f2 x2 y2] 158) := ⟨_, rfl⟩
  rw [← hw0]
  have hB0 : Below w.heap.size w w0 := by rw [hw0]; exact bl_alloc (Below.refl _ _)
  have o0 : w0.cell? ⟨w.heap.size, 0, none⟩ = some (.int .u8 sg) := by simp [hw0, go_sem]
  have o1 : w0.cell? ⟨w.heap.size, 1, none⟩ = some (.int .i64 2) := by simp [hw0, go_sem]
  have o2 : w0.cell? ⟨w.heap.size, 2, none⟩ = some (.func f1 x1 y1) := by simp [hw0, go_sem]
  have o3 : w0.cell? ⟨w.heap.size, 3, none⟩ = some (.func f2 x2 y2) := by simp [hw0, go_sem]
  replace c0 := bkeep hB0 c0 lt0
  replace c5 := bkeep hB0 c5 lt0
  clear hw0
  go_still mixed
  go_wp2_with fail
  go_at_call 139
  refine (pc w0.drew (hB0.trans ((Below.refl _ _).drew))).mono ?_
  rintro e wp ⟨rfl, hO, hR⟩
  have hl0 : w.heap.size < w0.heap.size := cell_lt o0
  have hSo : ¬ SP w.heap.size := fun c => by have := hS _ c; omega
  have d0 : wp.cell? ⟨w.heap.size, 0, none⟩ = some (.int .u8 sg) := hO.cell o0 hSo
  have d1 : wp.cell? ⟨w.heap.size, 1, none⟩ = some (.int .i64 2) := hO.cell o1 hSo
  have d2 : wp.cell? ⟨w.heap.size, 2, none⟩ = some (.func f1 x1 y1) := hO.cell o2 hSo
  have d3 : wp.cell? ⟨w.heap.size, 3, none⟩ = some (.func f2 x2 y2) := hO.cell o3 hSo
  have e0 : wp.cell? ⟨br, 0, none⟩ = some (.int .i64 at_) := hO.cell c0 hSb
  clear hO
  go_wp2_with (go_at_call 69; refine (fault_w br at_ _ wp e0).mono ?_; rintro e w' ⟨rfl, rfl⟩)
  go_ret
  exact ⟨_, rfl, by simp [go_sem], by simp [go_sem], wp, hR, bl_alloc (Below.refl _ _)⟩
set_option maxRecDepth 100000 in
set_option maxHeartbeats 8000000 in
theorem operate_ok10 (base br : Nat) (at_ : Int) (vb vd pk : Value) (g : Nat) (vs : Value) (st : List Value) (sg : Int) (SP : Nat → Prop) (R : World → Prop) (w : World) (h : RI w base br at_ vb vd pk g vs st) (hl : st.length ≤ 100) (hSb : ¬ SP br) (hS : ∀ k, SP k → k < w.heap.size) (f2 : Fn) (x2 y2 : Array Value) (gs cap rest pc0 : Nat) (E : World → Prop) (t1 ti : TypeId) (v1 vi : Value) (hvs : vs = .slice (some ⟨gs, 0, none⟩) st.length cap) (hr : rest + 1 = st.length) (hvS : ¬ SP gs)
    (h1 : st[rest]? = some (.iface t1 v1))
    (cl : ∀ u, E u → u.cell? ⟨gs, rest, none⟩ = some (.iface t1 v1) → Calls Tryz.prog 131 #[.slice (some ⟨gs, rest, none⟩) 1 (cap - rest), .pointer (some ⟨pc0, 0, none⟩)] u fun e w' => e = .returned (.iface ti vi) ∧ Below u.heap.size u w')
    (hE : ∀ u u', E u → Below u.heap.size u u' → E u') (hE0 : ∀ u w', Below w.heap.size w u → Only SP u w' → E w')
    (pc : ∀ u, Below w.heap.size w u → Calls Tryz.prog 139 #[.pointer (some ⟨br, 0, none⟩), .int .u8 sg] u fun e w' => e = .returned (.tuple #[.int .i64 0, .bool true]) ∧ Only SP u w' ∧ R w') :
    Calls Tryz.prog 101 #[.pointer (some ⟨br, 0, none⟩), .agg #[.int .u8 sg, .int .i64 1, .func (.func 131) #[] #[.pointer (some ⟨pc0, 0, none⟩)], .func f2 x2 y2]] w fun e w' => e = .returned .nilIface ∧ ∃ wp, R wp ∧ RI w' base br at_ vb vd pk g (.slice (some ⟨gs, 0, none⟩) (rest + 1) cap) (st.take rest ++ [.iface ti vi]) ∧ Only (fun k => k = br ∨ k = gs) wp w' := by
  subst hvs
  have c0 := h.r0
  have c5 := h.r5
  have lt0 : br < w.heap.size := cell_lt c0
  have hnI : ((1 : Int) ≤ (st.length : Int)) := by omega
  have hwr : IntKind.i64.wrap ((st.length : Int) - 1) = (rest : Int) := by rw [show (st.length : Int) - 1 = (rest : Int) by omega]; exact wrap_nat rest (by omega)
  have hr0 : ¬ ((rest : Int) < 0) := by omega
  have HH : Hid (RI w base br at_ vb vd pk g (.slice (some ⟨gs, 0, none⟩) st.length cap) st) := h
  have hrH : Hid (rest + 1 = st.length) := hr
  clear h hr
  go_enter Tryz.func101, Tryz.ntmps101
  go_wp2_with fail
  obtain ⟨w0, hw0⟩ : ∃ v, v = w.alloc (.cells #[.int .u8 sg, .int .i64 1, .func (.func 131) #[] #[.pointer (some ⟨pc0, 0, none⟩)], .func f2 x2 y2] 158) := ⟨_, rfl⟩
  rw [← hw0]
  have hB0 : Below w.heap.size w w0 := by rw [hw0]; exact bl_alloc (Below.refl _ _)
  have o0 : w0.cell? ⟨w.heap.size, 0, none⟩ = some (.int .u8 sg) := by simp [hw0, go_sem]
  have o1 : w0.cell? ⟨w.heap.size, 1, none⟩ = some (.int .i64 1) := by simp [hw0, go_sem]
  have o2 : w0.cell? ⟨w.heap.size, 2, none⟩ = some (.func (.func 131) #[] #[.pointer (some ⟨pc0, 0, none⟩)]) := by simp [hw0, go_sem]
  have o3 : w0.cell? ⟨w.heap.size, 3, none⟩ = some (.func f2 x2 y2) := by simp [hw0, go_sem]
  replace c0 := bkeep hB0 c0 lt0
  replace c5 := bkeep hB0 c5 lt0
  clear hw0
  go_still mixed
  go_wp2_with fail
  go_at_call 139
  refine (pc w0.drew (hB0.trans ((Below.refl _ _).drew))).mono ?_
  rintro e wp ⟨rfl, hO, hR⟩
  have hl0 : w.heap.size < w0.heap.size := cell_lt o0
  have hSo : ¬ SP w.heap.size := fun c => by have := hS _ c; omega
  have d0 : wp.cell? ⟨w.heap.size, 0, none⟩ = some (.int .u8 sg) := hO.cell o0 hSo
  have d1 : wp.cell? ⟨w.heap.size, 1, none⟩ = some (.int .i64 1) := hO.cell o1 hSo
  have d2 : wp.cell? ⟨w.heap.size, 2, none⟩ = some (.func (.func 131) #[] #[.pointer (some ⟨pc0, 0, none⟩)]) := hO.cell o2 hSo
  have d3 : wp.cell? ⟨w.heap.size, 3, none⟩ = some (.func f2 x2 y2) := hO.cell o3 hSo
  have e0 : wp.cell? ⟨br, 0, none⟩ = some (.int .i64 at_) := hO.cell c0 hSb
  have hOw : Hid (Only SP w wp) := hO.trans_below hB0
  have e5 : wp.cell? ⟨br, 5, none⟩ = some (.slice (some ⟨gs, 0, none⟩) st.length cap) := hO.cell c5 hSb
  have hEp : E wp := hE0 _ _ (hB0.trans ((Below.refl _ _).drew)) hO
  have own : wp.ownsRow base 120 1 (.slice (some ⟨gs, 0, none⟩) st.length cap) st.length st := hOw.out.own HH.out.hs (fun k hk => by cases hk; exact hvS)
  clear hO
  have r1 : wp.cell? ⟨gs, rest, none⟩ = some (.iface t1 v1) := own_cell own h1
  have hcap : st.length ≤ cap := by
    obtain ⟨_, _, e, q, _⟩ := own_shape own
    cases e; exact q
  have hcI : (rest : Int) ≤ (st.length : Int) := by have := hrH.out; omega
  have hcr : ¬ (cap = rest) := by have := hrH.out; omega
  have hcJ : (rest : Int) ≤ (cap : Int) := by have := hrH.out; omega
  have hln : st.length - rest = 1 := by have := hrH.out; omega
  have hb0 : Below wp.heap.size wp wp := Below.refl _ _
  go_wp2_with fail
  go_region_held3 (fun w' => w'.cell? ⟨w.heap.size, 0, none⟩ = some (.int .u8 sg) ∧ w'.cell? ⟨w.heap.size, 1, none⟩ = some (.int .i64 1) ∧ w'.cell? ⟨w.heap.size, 2, none⟩ = some (.func (.func 131) #[] #[.pointer (some ⟨pc0, 0, none⟩)]) ∧ w'.cell? ⟨w.heap.size, 3, none⟩ = some (.func f2 x2 y2) ∧ w'.cell? ⟨br, 5, none⟩ = some (.slice (some ⟨gs, 0, none⟩) st.length cap) ∧ w'.cell? ⟨gs, rest, none⟩ = some (.iface t1 v1) ∧ E w' ∧ Below wp.heap.size wp w') (((try dsimp only); (try go_split_ands); (repeat' apply And.intro) <;> first | (with_reducible assumption) | (with_reducible refine bkeep2 hb ?_; first | (with_reducible assumption) | (simp [*]; done)) | (exact hE _ _ (by assumption) hb) | (exact Below.trans (by assumption) (hb.mono (by have := Below.size (by assumption : Below wp.heap.size wp _); omega))) | (exact hE _ _ hEp ((Below.refl _ _).drew)) | (exact (Below.refl _ _).drew) | go_keep)) (first | (go_at_call 140; with_reducible refine (in_b_w _ _ _ _ _ _ _ _ _).mono ?_; rintro e w' ⟨rfl, hb⟩) | (go_at_call 131; with_reducible refine (cl _ (by first | (with_reducible assumption) | (simp [*]; done)) (by first | (with_reducible assumption) | (simp [*]; done))).mono ?_; rintro e w' ⟨rfl, hb⟩))
  have hBw : Below wp.heap.size wp w' := by first | assumption | (simp [*]; done)
  have RIp := HH.out.only hOw.out hSb (fun k hk => by cases hk; exact hvS)
  have RIw := RIp.only (Only.of_below (S := fun _ => False) hBw) id (fun _ _ => id)
  have own2 := own_take RIw.hs (show rest ≤ st.length by omega)
  have k5 := RIw.r5
  have kf := RIw.f5
  have lt1 : br < w'.heap.size := cell_lt k5
  have bg : br ≠ gs := fun c => by have := (RIw.hs.lt gs rfl).1; have := RIw.bb; omega
  have HW : Hid (RI w' base br at_ vb vd pk g (.slice (some ⟨gs, 0, none⟩) st.length cap) st) := RIw
  have Hb : Hid (Below wp.heap.size wp w') := hBw
  have hrc : rest + 1 ≤ cap := by have := hrH.out; omega
  have hln2 : (List.take rest st).length = rest := by rw [List.length_take]; omega
  obtain ⟨i0, hi, hz0, hz1, hz2⟩ := info_parts infoS
  clear RIp RIw hBw own hln
  go_wp2_with (first | (at_builtin; refine wpList_append_fits _ rfl (.tmp 48) (.tmp 50) 117 rfl base 120 i0 1 Tryz.underlying117 hi hz1 gs rest cap (st.take rest) rfl (own2.alloc _) ⟨w'.heap.size, 0, none⟩ 1 1 [.iface ti vi] rfl rfl (cell_one (by simp [go_sem])) (by intro x hx; simp at hx; subst hx; rfl) hrc ?_))
  intro w2 oo2 gg2
  have m5 := gg2.cell (bkeep (bl_alloc (Below.refl _ _)) k5 lt1) (by simpa using bg)
  have mf := grown_frozen gg2 (bkeep (bl_alloc (Below.refl _ _)) k5 lt1) (bfroz (bl_alloc (Below.refl _ _)) kf lt1) (by simpa using bg)
  have NX := HW.out.next (v' := .slice (some ⟨gs, 0, none⟩) (rest + 1) cap) (st' := st.take rest ++ [.iface ti vi]) (by rw [List.length_append, hln2]; exact oo2) gg2
  have HN : Hid (RI (w2.setCell ⟨br, 5, none⟩ (.slice (some ⟨gs, 0, none⟩) (rest + 1) cap)) base br at_ vb vd pk g (.slice (some ⟨gs, 0, none⟩) (rest + 1) cap) (st.take rest ++ [.iface ti vi]) ∧ Only (fun k => k = br ∨ (Value.slice (some ⟨gs, 0, none⟩) st.length cap).ownBlock = some k) w' (w2.setCell ⟨br, 5, none⟩ (.slice (some ⟨gs, 0, none⟩) (rest + 1) cap))) := NX
  clear NX oo2 gg2 own2
  go_wp2
  go_ret
  refine ⟨rfl, wp, hR, HN.out.1, (Only.of_below (S := fun _ => False) Hb.out).trans HN.out.2 (fun _ c => c.elim) fun k _ (c : k = br ∨ _ = some k) => c.imp id fun c => by cases c; rfl⟩
set_option maxRecDepth 100000 in
set_option maxHeartbeats 8000000 in
theorem operate_ok11 (base br : Nat) (at_ : Int) (vb vd pk : Value) (g : Nat) (vs : Value) (st : List Value) (sg : Int) (SP : Nat → Prop) (R : World → Prop) (w : World) (h : RI w base br at_ vb vd pk g vs st) (hl : st.length ≤ 100) (hSb : ¬ SP br) (hS : ∀ k, SP k → k < w.heap.size) (f1 : Fn) (x1 y1 : Array Value) (gs cap rest pc0 : Nat) (E : World → Prop) (t1 ti : TypeId) (v1 vi : Value) (hvs : vs = .slice (some ⟨gs, 0, none⟩) st.length cap) (hr : rest + 1 = st.length) (hvS : ¬ SP gs)
    (h1 : st[rest]? = some (.iface t1 v1))
    (cl : ∀ u, E u → u.cell? ⟨gs, rest, none⟩ = some (.iface t1 v1) → Calls Tryz.prog 132 #[.slice (some ⟨gs, rest, none⟩) 1 (cap - rest), .pointer (some ⟨pc0, 0, none⟩)] u fun e w' => e = .returned (.iface ti vi) ∧ Below u.heap.size u w')
    (hE : ∀ u u', E u → Below u.heap.size u u' → E u') (hE0 : ∀ u w', Below w.heap.size w u → Only SP u w' → E w')
    (pc : ∀ u, Below w.heap.size w u → Calls Tryz.prog 139 #[.pointer (some ⟨br, 0, none⟩), .int .u8 sg] u fun e w' => e = .returned (.tuple #[.int .i64 1, .bool true]) ∧ Only SP u w' ∧ R w') :
    Calls Tryz.prog 101 #[.pointer (some ⟨br, 0, none⟩), .agg #[.int .u8 sg, .int .i64 1, .func f1 x1 y1, .func (.func 132) #[] #[.pointer (some ⟨pc0, 0, none⟩)]]] w fun e w' => e = .returned .nilIface ∧ ∃ wp, R wp ∧ RI w' base br at_ vb vd pk g (.slice (some ⟨gs, 0, none⟩) (rest + 1) cap) (st.take rest ++ [.iface ti vi]) ∧ Only (fun k => k = br ∨ k = gs) wp w' := by
  subst hvs
  have c0 := h.r0
  have c5 := h.r5
  have lt0 : br < w.heap.size := cell_lt c0
  have hnI : ((1 : Int) ≤ (st.length : Int)) := by omega
  have hwr : IntKind.i64.wrap ((st.length : Int) - 1) = (rest : Int) := by rw [show (st.length : Int) - 1 = (rest : Int) by omega]; exact wrap_nat rest (by omega)
  have hr0 : ¬ ((rest : Int) < 0) := by omega
  have HH : Hid (RI w base br at_ vb vd pk g (.slice (some ⟨gs, 0, none⟩) st.length cap) st) := h
  have hrH : Hid (rest + 1 = st.length) := hr
  clear h hr
  go_enter Tryz.func101, Tryz.ntmps101
  go_wp2_with fail
  obtain ⟨w0, hw0⟩ : ∃ v, v = w.alloc (.cells #[.int .u8 sg, .int .i64 1, .func f1 x1 y1, .func (.func 132) #[] #[.pointer (some ⟨pc0, 0, none⟩)]] 158) := ⟨_, rfl⟩
  rw [← hw0]
  have hB0 : Below w.heap.size w w0 := by rw [hw0]; exact bl_alloc (Below.refl _ _)
  have o0 : w0.cell? ⟨w.heap.size, 0, none⟩ = some (.int .u8 sg) := by simp [hw0, go_sem]
  have o1 : w0.cell? ⟨w.heap.size, 1, none⟩ = some (.int .i64 1) := by simp [hw0, go_sem]
  have o2 : w0.cell? ⟨w.heap.size, 2, none⟩ = some (.func f1 x1 y1) := by simp [hw0, go_sem]
  have o3 : w0.cell? ⟨w.heap.size, 3, none⟩ = some (.func (.func 132) #[] #[.pointer (some ⟨pc0, 0, none⟩)]) := by simp [hw0, go_sem]
  replace c0 := bkeep hB0 c0 lt0
  replace c5 := bkeep hB0 c5 lt0
  clear hw0
  go_still mixed
  go_wp2_with fail
  go_at_call 139
  refine (pc w0.drew (hB0.trans ((Below.refl _ _).drew))).mono ?_
  rintro e wp ⟨rfl, hO, hR⟩
  have hl0 : w.heap.size < w0.heap.size := cell_lt o0
  have hSo : ¬ SP w.heap.size := fun c => by have := hS _ c; omega
  have d0 : wp.cell? ⟨w.heap.size, 0, none⟩ = some (.int .u8 sg) := hO.cell o0 hSo
  have d1 : wp.cell? ⟨w.heap.size, 1, none⟩ = some (.int .i64 1) := hO.cell o1 hSo
  have d2 : wp.cell? ⟨w.heap.size, 2, none⟩ = some (.func f1 x1 y1) := hO.cell o2 hSo
  have d3 : wp.cell? ⟨w.heap.size, 3, none⟩ = some (.func (.func 132) #[] #[.pointer (some ⟨pc0, 0, none⟩)]) := hO.cell o3 hSo
  have e0 : wp.cell? ⟨br, 0, none⟩ = some (.int .i64 at_) := hO.cell c0 hSb
  have hOw : Hid (Only SP w wp) := hO.trans_below hB0
  have e5 : wp.cell? ⟨br, 5, none⟩ = some (.slice (some ⟨gs, 0, none⟩) st.length cap) := hO.cell c5 hSb
  have hEp : E wp := hE0 _ _ (hB0.trans ((Below.refl _ _).drew)) hO
  have own : wp.ownsRow base 120 1 (.slice (some ⟨gs, 0, none⟩) st.length cap) st.length st := hOw.out.own HH.out.hs (fun k hk => by cases hk; exact hvS)
  clear hO
  have r1 : wp.cell? ⟨gs, rest, none⟩ = some (.iface t1 v1) := own_cell own h1
  have hcap : st.length ≤ cap := by
    obtain ⟨_, _, e, q, _⟩ := own_shape own
    cases e; exact q
  have hcI : (rest : Int) ≤ (st.length : Int) := by have := hrH.out; omega
  have hcr : ¬ (cap = rest) := by have := hrH.out; omega
  have hcJ : (rest : Int) ≤ (cap : Int) := by have := hrH.out; omega
  have hln : st.length - rest = 1 := by have := hrH.out; omega
  have hb0 : Below wp.heap.size wp wp := Below.refl _ _
  go_wp2_with fail
  go_region_held3 (fun w' => w'.cell? ⟨w.heap.size, 0, none⟩ = some (.int .u8 sg) ∧ w'.cell? ⟨w.heap.size, 1, none⟩ = some (.int .i64 1) ∧ w'.cell? ⟨w.heap.size, 2, none⟩ = some (.func f1 x1 y1) ∧ w'.cell? ⟨w.heap.size, 3, none⟩ = some (.func (.func 132) #[] #[.pointer (some ⟨pc0, 0, none⟩)]) ∧ w'.cell? ⟨br, 5, none⟩ = some (.slice (some ⟨gs, 0, none⟩) st.length cap) ∧ w'.cell? ⟨gs, rest, none⟩ = some (.iface t1 v1) ∧ E w' ∧ Below wp.heap.size wp w') (((try dsimp only); (try go_split_ands); (repeat' apply And.intro) <;> first | (with_reducible assumption) | (with_reducible refine bkeep2 hb ?_; first | (with_reducible assumption) | (simp [*]; done)) | (exact hE _ _ (by assumption) hb) | (exact Below.trans (by assumption) (hb.mono (by have := Below.size (by assumption : Below wp.heap.size wp _); omega))) | (exact hE _ _ hEp ((Below.refl _ _).drew)) | (exact (Below.refl _ _).drew) | go_keep)) (first | (go_at_call 140; with_reducible refine (in_d_w _ _ _ _ _ _ _ _ _).mono ?_; rintro e w' ⟨rfl, hb⟩) | (go_at_call 132; with_reducible refine (cl _ (by first | (with_reducible assumption) | (simp [*]; done)) (by first | (with_reducible assumption) | (simp [*]; done))).mono ?_; rintro e w' ⟨rfl, hb⟩))
  have hBw : Below wp.heap.size wp w' := by first | assumption | (simp [*]; done)
  have RIp := HH.out.only hOw.out hSb (fun k hk => by cases hk; exact hvS)
  have RIw := RIp.only (Only.of_below (S := fun _ => False) hBw) id (fun _ _ => id)
  have own2 := own_take RIw.hs (show rest ≤ st.length by omega)
  have k5 := RIw.r5
  have kf := RIw.f5
  have lt1 : br < w'.heap.size := cell_lt k5
  have bg : br ≠ gs := fun c => by have := (RIw.hs.lt gs rfl).1; have := RIw.bb; omega
  have HW : Hid (RI w' base br at_ vb vd pk g (.slice (some ⟨gs, 0, none⟩) st.length cap) st) := RIw
  have Hb : Hid (Below wp.heap.size wp w') := hBw
  have hrc : rest + 1 ≤ cap := by have := hrH.out; omega
  have hln2 : (List.take rest st).length = rest := by rw [List.length_take]; omega
  obtain ⟨i0, hi, hz0, hz1, hz2⟩ := info_parts infoS
  clear RIp RIw hBw own hln
  go_wp2_with (first | (at_builtin; refine wpList_append_fits _ rfl (.tmp 48) (.tmp 50) 117 rfl base 120 i0 1 Tryz.underlying117 hi hz1 gs rest cap (st.take rest) rfl (own2.alloc _) ⟨w'.heap.size, 0, none⟩ 1 1 [.iface ti vi] rfl rfl (cell_one (by simp [go_sem])) (by intro x hx; simp at hx; subst hx; rfl) hrc ?_))
  intro w2 oo2 gg2
  have m5 := gg2.cell (bkeep (bl_alloc (Below.refl _ _)) k5 lt1) (by simpa using bg)
  have mf := grown_frozen gg2 (bkeep (bl_alloc (Below.refl _ _)) k5 lt1) (bfroz (bl_alloc (Below.refl _ _)) kf lt1) (by simpa using bg)
  have NX := HW.out.next (v' := .slice (some ⟨gs, 0, none⟩) (rest + 1) cap) (st' := st.take rest ++ [.iface ti vi]) (by rw [List.length_append, hln2]; exact oo2) gg2
  have HN : Hid (RI (w2.setCell ⟨br, 5, none⟩ (.slice (some ⟨gs, 0, none⟩) (rest + 1) cap)) base br at_ vb vd pk g (.slice (some ⟨gs, 0, none⟩) (rest + 1) cap) (st.take rest ++ [.iface ti vi]) ∧ Only (fun k => k = br ∨ (Value.slice (some ⟨gs, 0, none⟩) st.length cap).ownBlock = some k) w' (w2.setCell ⟨br, 5, none⟩ (.slice (some ⟨gs, 0, none⟩) (rest + 1) cap))) := NX
  clear NX oo2 gg2 own2
  go_wp2
  go_ret
  refine ⟨rfl, wp, hR, HN.out.1, (Only.of_below (S := fun _ => False) Hb.out).trans HN.out.2 (fun _ c => c.elim) fun k _ (c : k = br ∨ _ = some k) => c.imp id fun c => by cases c; rfl⟩
set_option maxRecDepth 100000 in
set_option maxHeartbeats 8000000 in
theorem operate_ok20 (base br : Nat) (at_ : Int) (vb vd pk : Value) (g : Nat) (vs : Value) (st : List Value) (sg : Int) (SP : Nat → Prop) (R : World → Prop) (w : World) (h : RI w base br at_ vb vd pk g vs st) (hl : st.length ≤ 100) (hSb : ¬ SP br) (hS : ∀ k, SP k → k < w.heap.size) (f2 : Fn) (x2 y2 : Array Value) (gs cap rest pc0 : Nat) (E : World → Prop) (t1 t2 ti : TypeId) (v1 v2 vi : Value) (hvs : vs = .slice (some ⟨gs, 0, none⟩) st.length cap) (hr : rest + 2 = st.length) (hvS : ¬ SP gs)
    (h1 : st[rest]? = some (.iface t1 v1)) (h2 : st[rest + 1]? = some (.iface t2 v2))
    (cl : ∀ u, E u → u.cell? ⟨gs, rest, none⟩ = some (.iface t1 v1) → u.cell? ⟨gs, rest + 1, none⟩ = some (.iface t2 v2) → Calls Tryz.prog 127 #[.slice (some ⟨gs, rest, none⟩) 2 (cap - rest), .pointer (some ⟨pc0, 0, none⟩)] u fun e w' => e = .returned (.iface ti vi) ∧ Below u.heap.size u w')
    (hE : ∀ u u', E u → Below u.heap.size u u' → E u') (hE0 : ∀ u w', Below w.heap.size w u → Only SP u w' → E w')
    (pc : ∀ u, Below w.heap.size w u → Calls Tryz.prog 139 #[.pointer (some ⟨br, 0, none⟩), .int .u8 sg] u fun e w' => e = .returned (.tuple #[.int .i64 0, .bool true]) ∧ Only SP u w' ∧ R w') :
    Calls Tryz.prog 101 #[.pointer (some ⟨br, 0, none⟩), .agg #[.int .u8 sg, .int .i64 2, .func (.func 127) #[] #[.pointer (some ⟨pc0, 0, none⟩)], .func f2 x2 y2]] w fun e w' => e = .returned .nilIface ∧ ∃ wp, R wp ∧ RI w' base br at_ vb vd pk g (.slice (some ⟨gs, 0, none⟩) (rest + 1) cap) (st.take rest ++ [.iface ti vi]) ∧ Only (fun k => k = br ∨ k = gs) wp w' := by
  subst hvs
  have c0 := h.r0
  have c5 := h.r5
  have lt0 : br < w.heap.size := cell_lt c0
  have hnI : ((2 : Int) ≤ (st.length : Int)) := by omega
  have hwr : IntKind.i64.wrap ((st.length : Int) - 2) = (rest : Int) := by rw [show (st.length : Int) - 2 = (rest : Int) by omega]; exact wrap_nat rest (by omega)
  have hr0 : ¬ ((rest : Int) < 0) := by omega
  have HH : Hid (RI w base br at_ vb vd pk g (.slice (some ⟨gs, 0, none⟩) st.length cap) st) := h
  have hrH : Hid (rest + 2 = st.length) := hr
  clear h hr
  go_enter Tryz.func101, Tryz.ntmps101
  go_wp2_with fail
  obtain ⟨w0, hw0⟩ : ∃ v, v = w.alloc (.cells #[.int .u8 sg, .int .i64 2, .func (.func 127) #[] #[.pointer (some ⟨pc0, 0, none⟩)], .func f2 x2 y2] 158) := ⟨_, rfl⟩
  rw [← hw0]
  have hB0 : Below w.heap.size w w0 := by rw [hw0]; exact bl_alloc (Below.refl _ _)
  have o0 : w0.cell? ⟨w.heap.size, 0, none⟩ = some (.int .u8 sg) := by simp [hw0, go_sem]
  have o1 : w0.cell? ⟨w.heap.size, 1, none⟩ = some (.int .i64 2) := by simp [hw0, go_sem]
  have o2 : w0.cell? ⟨w.heap.size, 2, none⟩ = some (.func (.func 127) #[] #[.pointer (some ⟨pc0, 0, none⟩)]) := by simp [hw0, go_sem]
  have o3 : w0.cell? ⟨w.heap.size, 3, none⟩ = some (.func f2 x2 y2) := by simp [hw0, go_sem]
  replace c0 := bkeep hB0 c0 lt0
  replace c5 := bkeep hB0 c5 lt0
  clear hw0
  go_still mixed
  go_wp2_with fail
  go_at_call 139
  refine (pc w0.drew (hB0.trans ((Below.refl _ _).drew))).mono ?_
  rintro e wp ⟨rfl, hO, hR⟩
  have hl0 : w.heap.size < w0.heap.size := cell_lt o0
  have hSo : ¬ SP w.heap.size := fun c => by have := hS _ c; omega
  have d0 : wp.cell? ⟨w.heap.size, 0, none⟩ = some (.int .u8 sg) := hO.cell o0 hSo
  have d1 : wp.cell? ⟨w.heap.size, 1, none⟩ = some (.int .i64 2) := hO.cell o1 hSo
  have d2 : wp.cell? ⟨w.heap.size, 2, none⟩ = some (.func (.func 127) #[] #[.pointer (some ⟨pc0, 0, none⟩)]) := hO.cell o2 hSo
  have d3 : wp.cell? ⟨w.heap.size, 3, none⟩ = some (.func f2 x2 y2) := hO.cell o3 hSo
  have e0 : wp.cell? ⟨br, 0, none⟩ = some (.int .i64 at_) := hO.cell c0 hSb
  have hOw : Hid (Only SP w wp) := hO.trans_below hB0
  have e5 : wp.cell? ⟨br, 5, none⟩ = some (.slice (some ⟨gs, 0, none⟩) st.length cap) := hO.cell c5 hSb
  have hEp : E wp := hE0 _ _ (hB0.trans ((Below.refl _ _).drew)) hO
  have own : wp.ownsRow base 120 1 (.slice (some ⟨gs, 0, none⟩) st.length cap) st.length st := hOw.out.own HH.out.hs (fun k hk => by cases hk; exact hvS)
  clear hO
  have r1 : wp.cell? ⟨gs, rest, none⟩ = some (.iface t1 v1) := own_cell own h1
  have r2 : wp.cell? ⟨gs, rest + 1, none⟩ = some (.iface t2 v2) := own_cell own h2
  have hcap : st.length ≤ cap := by
    obtain ⟨_, _, e, q, _⟩ := own_shape own
    cases e; exact q
  have hcI : (rest : Int) ≤ (st.length : Int) := by have := hrH.out; omega
  have hcr : ¬ (cap = rest) := by have := hrH.out; omega
  have hcJ : (rest : Int) ≤ (cap : Int) := by have := hrH.out; omega
  have hln : st.length - rest = 2 := by have := hrH.out; omega
  have hb0 : Below wp.heap.size wp wp := Below.refl _ _
  go_wp2_with fail
  go_region_held3 (fun w' => w'.cell? ⟨w.heap.size, 0, none⟩ = some (.int .u8 sg) ∧ w'.cell? ⟨w.heap.size, 1, none⟩ = some (.int .i64 2) ∧ w'.cell? ⟨w.heap.size, 2, none⟩ = some (.func (.func 127) #[] #[.pointer (some ⟨pc0, 0, none⟩)]) ∧ w'.cell? ⟨w.heap.size, 3, none⟩ = some (.func f2 x2 y2) ∧ w'.cell? ⟨br, 5, none⟩ = some (.slice (some ⟨gs, 0, none⟩) st.length cap) ∧ w'.cell? ⟨gs, rest, none⟩ = some (.iface t1 v1) ∧ w'.cell? ⟨gs, rest + 1, none⟩ = some (.iface t2 v2) ∧ E w' ∧ Below wp.heap.size wp w') (((try dsimp only); (try go_split_ands); (repeat' apply And.intro) <;> first | (with_reducible assumption) | (with_reducible refine bkeep2 hb ?_; first | (with_reducible assumption) | (simp [*]; done)) | (exact hE _ _ (by assumption) hb) | (exact Below.trans (by assumption) (hb.mono (by have := Below.size (by assumption : Below wp.heap.size wp _); omega))) | (exact hE _ _ hEp ((Below.refl _ _).drew)) | (exact (Below.refl _ _).drew) | go_keep)) (first | (go_at_call 140; with_reducible refine (in_b_w _ _ _ _ _ _ _ _ _).mono ?_; rintro e w' ⟨rfl, hb⟩) | (go_at_call 127; with_reducible refine (cl _ (by first | (with_reducible assumption) | (simp [*]; done)) (by first | (with_reducible assumption) | (simp [*]; done)) (by first | (with_reducible assumption) | (simp [*]; done))).mono ?_; rintro e w' ⟨rfl, hb⟩))
  have hBw : Below wp.heap.size wp w' := by first | assumption | (simp [*]; done)
  have RIp := HH.out.only hOw.out hSb (fun k hk => by cases hk; exact hvS)
  have RIw := RIp.only (Only.of_below (S := fun _ => False) hBw) id (fun _ _ => id)
  have own2 := own_take RIw.hs (show rest ≤ st.length by omega)
  have k5 := RIw.r5
  have kf := RIw.f5
  have lt1 : br < w'.heap.size := cell_lt k5
  have bg : br ≠ gs := fun c => by have := (RIw.hs.lt gs rfl).1; have := RIw.bb; omega
  have HW : Hid (RI w' base br at_ vb vd pk g (.slice (some ⟨gs, 0, none⟩) st.length cap) st) := RIw
  have Hb : Hid (Below wp.heap.size wp w') := hBw
  have hrc : rest + 1 ≤ cap := by have := hrH.out; omega
  have hln2 : (List.take rest st).length = rest := by rw [List.length_take]; omega
  obtain ⟨i0, hi, hz0, hz1, hz2⟩ := info_parts infoS
  clear RIp RIw hBw own hln
  go_wp2_with (first | (at_builtin; refine wpList_append_fits _ rfl (.tmp 48) (.tmp 50) 117 rfl base 120 i0 1 Tryz.underlying117 hi hz1 gs rest cap (st.take rest) rfl (own2.alloc _) ⟨w'.heap.size, 0, none⟩ 1 1 [.iface ti vi] rfl rfl (cell_one (by simp [go_sem])) (by intro x hx; simp at hx; subst hx; rfl) hrc ?_))
  intro w2 oo2 gg2
  have m5 := gg2.cell (bkeep (bl_alloc (Below.refl _ _)) k5 lt1) (by simpa using bg)
  have mf := grown_frozen gg2 (bkeep (bl_alloc (Below.refl _ _)) k5 lt1) (bfroz (bl_alloc (Below.refl _ _)) kf lt1) (by simpa using bg)
  have NX := HW.out.next (v' := .slice (some ⟨gs, 0, none⟩) (rest + 1) cap) (st' := st.take rest ++ [.iface ti vi]) (by rw [List.length_append, hln2]; exact oo2) gg2
  have HN : Hid (RI (w2.setCell ⟨br, 5, none⟩ (.slice (some ⟨gs, 0, none⟩) (rest + 1) cap)) base br at_ vb vd pk g (.slice (some ⟨gs, 0, none⟩) (rest + 1) cap) (st.take rest ++ [.iface ti vi]) ∧ Only (fun k => k = br ∨ (Value.slice (some ⟨gs, 0, none⟩) st.length cap).ownBlock = some k) w' (w2.setCell ⟨br, 5, none⟩ (.slice (some ⟨gs, 0, none⟩) (rest + 1) cap))) := NX
  clear NX oo2 gg2 own2
  go_wp2
  go_ret
  refine ⟨rfl, wp, hR, HN.out.1, (Only.of_below (S := fun _ => False) Hb.out).trans HN.out.2 (fun _ c => c.elim) fun k _ (c : k = br ∨ _ = some k) => c.imp id fun c => by cases c; rfl⟩
set_option maxRecDepth 100000 in
set_option maxHeartbeats 8000000 in
theorem operate_ok21 (base br : Nat) (at_ : Int) (vb vd pk : Value) (g : Nat) (vs : Value) (st : List Value) (sg : Int) (SP : Nat → Prop) (R : World → Prop) (w : World) (h : RI w base br at_ vb vd pk g vs st) (hl : st.length ≤ 100) (hSb : ¬ SP br) (hS : ∀ k, SP k → k < w.heap.size) (f1 : Fn) (x1 y1 : Array Value) (gs cap rest pc0 : Nat) (E : World → Prop) (t1 t2 ti : TypeId) (v1 v2 vi : Value) (hvs : vs = .slice (some ⟨gs, 0, none⟩) st.length cap) (hr : rest + 2 = st.length) (hvS : ¬ SP gs)
    (h1 : st[rest]? = some (.iface t1 v1)) (h2 : st[rest + 1]? = some (.iface t2 v2))
    (cl : ∀ u, E u → u.cell? ⟨gs, rest, none⟩ = some (.iface t1 v1) → u.cell? ⟨gs, rest + 1, none⟩ = some (.iface t2 v2) → Calls Tryz.prog 129 #[.slice (some ⟨gs, rest, none⟩) 2 (cap - rest), .pointer (some ⟨pc0, 0, none⟩)] u fun e w' => e = .returned (.iface ti vi) ∧ Below u.heap.size u w')
    (hE : ∀ u u', E u → Below u.heap.size u u' → E u') (hE0 : ∀ u w', Below w.heap.size w u → Only SP u w' → E w')
    (pc : ∀ u, Below w.heap.size w u → Calls Tryz.prog 139 #[.pointer (some ⟨br, 0, none⟩), .int .u8 sg] u fun e w' => e = .returned (.tuple #[.int .i64 1, .bool true]) ∧ Only SP u w' ∧ R w') :
    Calls Tryz.prog 101 #[.pointer (some ⟨br, 0, none⟩), .agg #[.int .u8 sg, .int .i64 2, .func f1 x1 y1, .func (.func 129) #[] #[.pointer (some ⟨pc0, 0, none⟩)]]] w fun e w' => e = .returned .nilIface ∧ ∃ wp, R wp ∧ RI w' base br at_ vb vd pk g (.slice (some ⟨gs, 0, none⟩) (rest + 1) cap) (st.take rest ++ [.iface ti vi]) ∧ Only (fun k => k = br ∨ k = gs) wp w' := by
  subst hvs
  have c0 := h.r0
  have c5 := h.r5
  have lt0 : br < w.heap.size := cell_lt c0
  have hnI : ((2 : Int) ≤ (st.length : Int)) := by omega
  have hwr : IntKind.i64.wrap ((st.length : Int) - 2) = (rest : Int) := by rw [show (st.length : Int) - 2 = (rest : Int) by omega]; exact wrap_nat rest (by omega)
  have hr0 : ¬ ((rest : Int) < 0) := by omega
  have HH : Hid (RI w base br at_ vb vd pk g (.slice (some ⟨gs, 0, none⟩) st.length cap) st) := h
  have hrH : Hid (rest + 2 = st.length) := hr
  clear h hr
  go_enter Tryz.func101, Tryz.ntmps101
  go_wp2_with fail
  obtain ⟨w0, hw0⟩ : ∃ v, v = w.alloc (.cells #[.int .u8 sg, .int .i64 2, .func f1 x1 y1, .func (.func 129) #[] #[.pointer (some ⟨pc0, 0, none⟩)]] 158) := ⟨_, rfl⟩
  rw [← hw0]
  have hB0 : Below w.heap.size w w0 := by rw [hw0]; exact bl_alloc (Below.refl _ _)
  have o0 : w0.cell? ⟨w.heap.size, 0, none⟩ = some (.int .u8 sg) := by simp [hw0, go_sem]
  have o1 : w0.cell? ⟨w.heap.size, 1, none⟩ = some (.int .i64 2) := by simp [hw0, go_sem]
  have o2 : w0.cell? ⟨w.heap.size, 2, none⟩ = some (.func f1 x1 y1) := by simp [hw0, go_sem]
  have o3 : w0.cell? ⟨w.heap.size, 3, none⟩ = some (.func (.func 129) #[] #[.pointer (some ⟨pc0, 0, none⟩)]) := by simp [hw0, go_sem]
  replace c0 := bkeep hB0 c0 lt0
  replace c5 := bkeep hB0 c5 lt0
  clear hw0
  go_still mixed
  go_wp2_with fail
  go_at_call 139
  refine (pc w0.drew (hB0.trans ((Below.refl _ _).drew))).mono ?_
  rintro e wp ⟨rfl, hO, hR⟩
  have hl0 : w.heap.size < w0.heap.size := cell_lt o0
  have hSo : ¬ SP w.heap.size := fun c => by have := hS _ c; omega
  have d0 : wp.cell? ⟨w.heap.size, 0, none⟩ = some (.int .u8 sg) := hO.cell o0 hSo
  have d1 : wp.cell? ⟨w.heap.size, 1, none⟩ = some (.int .i64 2) := hO.cell o1 hSo
  have d2 : wp.cell? ⟨w.heap.size, 2, none⟩ = some (.func f1 x1 y1) := hO.cell o2 hSo
  have d3 : wp.cell? ⟨w.heap.size, 3, none⟩ = some (.func (.func 129) #[] #[.pointer (some ⟨pc0, 0, none⟩)]) := hO.cell o3 hSo
  have e0 : wp.cell? ⟨br, 0, none⟩ = some (.int .i64 at_) := hO.cell c0 hSb
  have hOw : Hid (Only SP w wp) := hO.trans_below hB0
  have e5 : wp.cell? ⟨br, 5, none⟩ = some (.slice (some ⟨gs, 0, none⟩) st.length cap) := hO.cell c5 hSb
  have hEp : E wp := hE0 _ _ (hB0.trans ((Below.refl _ _).drew)) hO
  have own : wp.ownsRow base 120 1 (.slice (some ⟨gs, 0, none⟩) st.length cap) st.length st := hOw.out.own HH.out.hs (fun k hk => by cases hk; exact hvS)
  clear hO
  have r1 : wp.cell? ⟨gs, rest, none⟩ = some (.iface t1 v1) := own_cell own h1
  have r2 : wp.cell? ⟨gs, rest + 1, none⟩ = some (.iface t2 v2) := own_cell own h2
  have hcap : st.length ≤ cap := by
    obtain ⟨_, _, e, q, _⟩ := own_shape own
    cases e; exact q
  have hcI : (rest : Int) ≤ (st.length : Int) := by have := hrH.out; omega
  have hcr : ¬ (cap = rest) := by have := hrH.out; omega
  have hcJ : (rest : Int) ≤ (cap : Int) := by have := hrH.out; omega
  have hln : st.length - rest = 2 := by have := hrH.out; omega
  have hb0 : Below wp.heap.size wp wp := Below.refl _ _
  go_wp2_with fail
  go_region_held3 (fun w' => w'.cell? ⟨w.heap.size, 0, none⟩ = some (.int .u8 sg) ∧ w'.cell? ⟨w.heap.size, 1, none⟩ = some (.int .i64 2) ∧ w'.cell? ⟨w.heap.size, 2, none⟩ = some (.func f1 x1 y1) ∧ w'.cell? ⟨w.heap.size, 3, none⟩ = some (.func (.func 129) #[] #[.pointer (some ⟨pc0, 0, none⟩)]) ∧ w'.cell? ⟨br, 5, none⟩ = some (.slice (some ⟨gs, 0, none⟩) st.length cap) ∧ w'.cell? ⟨gs, rest, none⟩ = some (.iface t1 v1) ∧ w'.cell? ⟨gs, rest + 1, none⟩ = some (.iface t2 v2) ∧ E w' ∧ Below wp.heap.size wp w') (((try dsimp only); (try go_split_ands); (repeat' apply And.intro) <;> first | (with_reducible assumption) | (with_reducible refine bkeep2 hb ?_; first | (with_reducible assumption) | (simp [*]; done)) | (exact hE _ _ (by assumption) hb) | (exact Below.trans (by assumption) (hb.mono (by have := Below.size (by assumption : Below wp.heap.size wp _); omega))) | (exact hE _ _ hEp ((Below.refl _ _).drew)) | (exact (Below.refl _ _).drew) | go_keep)) (first | (go_at_call 140; with_reducible refine (in_d_w _ _ _ _ _ _ _ _ _).mono ?_; rintro e w' ⟨rfl, hb⟩) | (go_at_call 129; with_reducible refine (cl _ (by first | (with_reducible assumption) | (simp [*]; done)) (by first | (with_reducible assumption) | (simp [*]; done)) (by first | (with_reducible assumption) | (simp [*]; done))).mono ?_; rintro e w' ⟨rfl, hb⟩))
  have hBw : Below wp.heap.size wp w' := by first | assumption | (simp [*]; done)
  have RIp := HH.out.only hOw.out hSb (fun k hk => by cases hk; exact hvS)
  have RIw := RIp.only (Only.of_below (S := fun _ => False) hBw) id (fun _ _ => id)
  have own2 := own_take RIw.hs (show rest ≤ st.length by omega)
  have k5 := RIw.r5
  have kf := RIw.f5
  have lt1 : br < w'.heap.size := cell_lt k5
  have bg : br ≠ gs := fun c => by have := (RIw.hs.lt gs rfl).1; have := RIw.bb; omega
  have HW : Hid (RI w' base br at_ vb vd pk g (.slice (some ⟨gs, 0, none⟩) st.length cap) st) := RIw
  have Hb : Hid (Below wp.heap.size wp w') := hBw
  have hrc : rest + 1 ≤ cap := by have := hrH.out; omega
  have hln2 : (List.take rest st).length = rest := by rw [List.length_take]; omega
  obtain ⟨i0, hi, hz0, hz1, hz2⟩ := info_parts infoS
  clear RIp RIw hBw own hln
  go_wp2_with (first | (at_builtin; refine wpList_append_fits _ rfl (.tmp 48) (.tmp 50) 117 rfl base 120 i0 1 Tryz.underlying117 hi hz1 gs rest cap (st.take rest) rfl (own2.alloc _) ⟨w'.heap.size, 0, none⟩ 1 1 [.iface ti vi] rfl rfl (cell_one (by simp [go_sem])) (by intro x hx; simp at hx; subst hx; rfl) hrc ?_))
  intro w2 oo2 gg2
  have m5 := gg2.cell (bkeep (bl_alloc (Below.refl _ _)) k5 lt1) (by simpa using bg)
  have mf := grown_frozen gg2 (bkeep (bl_alloc (Below.refl _ _)) k5 lt1) (bfroz (bl_alloc (Below.refl _ _)) kf lt1) (by simpa using bg)
  have NX := HW.out.next (v' := .slice (some ⟨gs, 0, none⟩) (rest + 1) cap) (st' := st.take rest ++ [.iface ti vi]) (by rw [List.length_append, hln2]; exact oo2) gg2
  have HN : Hid (RI (w2.setCell ⟨br, 5, none⟩ (.slice (some ⟨gs, 0, none⟩) (rest + 1) cap)) base br at_ vb vd pk g (.slice (some ⟨gs, 0, none⟩) (rest + 1) cap) (st.take rest ++ [.iface ti vi]) ∧ Only (fun k => k = br ∨ (Value.slice (some ⟨gs, 0, none⟩) st.length cap).ownBlock = some k) w' (w2.setCell ⟨br, 5, none⟩ (.slice (some ⟨gs, 0, none⟩) (rest + 1) cap))) := NX
  clear NX oo2 gg2 own2
  go_wp2
  go_ret
  refine ⟨rfl, wp, hR, HN.out.1, (Only.of_below (S := fun _ => False) Hb.out).trans HN.out.2 (fun _ c => c.elim) fun k _ (c : k = br ∨ _ = some k) => c.imp id fun c => by cases c; rfl⟩
end Go.Proofs.YtacnclofbnafiabGreatDoor

namespace Go.Proofs.YtacnclofbnafiabGreatDoor
open Go.RowKit Fl

set_option maxRecDepth 100000 in
set_option maxHeartbeats 4000000 in
theorem do_bad (br g : Nat) (p q : Nat → Nat) (at_ b : Int) (w : World) (c0 : w.cell? ⟨br, 0, none⟩ = some (.int .i64 at_)) (c4 : w.cell? ⟨br, 4, none⟩ = some (.slice (some ⟨g, 0, none⟩) 5 5)) (ht : Tab w g p q) (hc : b < 48 ∨ (¬ b < 48 ∧ ¬ b < 52 ∧ b < 97) ∨ (¬ b < 48 ∧ ¬ b < 52 ∧ ¬ b < 97 ∧ ¬ b < 101)) (h3 : idx b = -1) :
    Calls Tryz.prog 68 #[.pointer (some ⟨br, 0, none⟩), .int .u8 b] w fun e w' => ∃ bf, e = .returned (.iface 87 (.pointer (some ⟨bf, 0, none⟩))) ∧ w'.cell? ⟨bf, 0, none⟩ = some (.int .i64 at_) ∧ w'.cell? ⟨bf, 1, none⟩ = some (.int .i64 2) ∧ Below w.heap.size w w' := by
  have lt0 : br < w.heap.size := cell_lt c0
  obtain ⟨w0, hw0⟩ : ∃ v, v = w.alloc (.cells #[.int .u8 b] 5) := ⟨_, rfl⟩
  have hB0 : Below w.heap.size w w0 := by rw [hw0]; exact bl_alloc (Below.refl _ _)
  have o0 : w0.cell? ⟨w.heap.size, 0, none⟩ = some (.int .u8 b) := by simp [hw0, go_sem]
  have k0 := bkeep hB0 c0 lt0
  have k4 := bkeep hB0 c4 lt0
  have ht0 := ht.below (Nat.le_refl _) hB0
  have hI := index_w g w.heap.size p q b w0 ht0 o0
  rw [h3] at hI
  clear ht ht0
  rcases hc with h1 | ⟨h1, h2, h4⟩ | ⟨h1, h2, h4, h5⟩
  all_goals
    go_enter Tryz.func68, Tryz.ntmps68
    go_wp2_with (first | (go_at_call 99; rw [← hw0]; refine hI.mono ?_; rintro e w1 ⟨rfl, hB1⟩; have k1 := bkeep2 hB1 k0) | (go_at_call 69; refine (fault_w br at_ _ w1 k1).mono ?_; rintro e w' ⟨rfl, rfl⟩))
    go_ret
    refine ⟨_, rfl, by simp [go_sem], by simp [go_sem], ?_⟩
    exact bl_alloc (hB0.trans (hB1.mono hB0.size))
set_option maxRecDepth 100000 in
set_option maxHeartbeats 4000000 in
theorem do_dig (br : Nat) (b : Int) (ao : Option Addr) (n c : Nat) (w : World) (c1 : w.cell? ⟨br, 1, none⟩ = some (.slice ao n c)) (h1 : 48 ≤ b) (h2 : b < 52) (Q : Ending → World → Prop) (hp : ∀ u, Below w.heap.size w u → Calls Tryz.prog 98 #[.pointer (some ⟨br, 0, none⟩), .slice ao n c, .int .i64 (b - 48)] u fun e w' => Q e w' ∧ ((∃ t x, e = .returned (.iface t x)) ∨ e = .returned .nilIface)) :
    Calls Tryz.prog 68 #[.pointer (some ⟨br, 0, none⟩), .int .u8 b] w Q := by
  have lt0 : br < w.heap.size := cell_lt c1
  have hwr : IntKind.u8.wrap (b - 48) = b - 48 := by rw [IntKind.wrap_u8]; omega
  have hwr2 : IntKind.i64.wrap (b - 48) = b - 48 := by rw [IntKind.wrap_i64]; omega
  obtain ⟨w0, hw0⟩ : ∃ v, v = w.alloc (.cells #[.int .u8 b] 5) := ⟨_, rfl⟩
  have hB0 : Below w.heap.size w w0 := by rw [hw0]; exact bl_alloc (Below.refl _ _)
  have o0 : w0.cell? ⟨w.heap.size, 0, none⟩ = some (.int .u8 b) := by simp [hw0, go_sem]
  have k1 := bkeep hB0 c1 lt0
  go_enter Tryz.func68, Tryz.ntmps68
  go_wp2_with fail
  rw [← hw0]
  clear hw0
  go_still_tail 8, mixed
  go_wp2_with (go_at_call 98; refine (hp _ (hB0.trans ((Below.refl _ _).drew))).mono ?_; rintro e w' ⟨hq, (⟨t, x, rfl⟩ | rfl)⟩)
  all_goals exact hq
set_option maxRecDepth 100000 in
set_option maxHeartbeats 4000000 in
theorem do_let (br : Nat) (b : Int) (ao : Option Addr) (n c : Nat) (w : World) (c1 : w.cell? ⟨br, 2, none⟩ = some (.slice ao n c)) (h1 : 97 ≤ b) (h2 : b < 101) (Q : Ending → World → Prop) (hp : ∀ u, Below w.heap.size w u → Calls Tryz.prog 98 #[.pointer (some ⟨br, 0, none⟩), .slice ao n c, .int .i64 (b - 97)] u fun e w' => Q e w' ∧ ((∃ t x, e = .returned (.iface t x)) ∨ e = .returned .nilIface)) :
    Calls Tryz.prog 68 #[.pointer (some ⟨br, 0, none⟩), .int .u8 b] w Q := by
  have lt0 : br < w.heap.size := cell_lt c1
  have hwr : IntKind.u8.wrap (b - 97) = b - 97 := by rw [IntKind.wrap_u8]; omega
  have hwr2 : IntKind.i64.wrap (b - 97) = b - 97 := by rw [IntKind.wrap_i64]; omega
  have z1 : 48 ≤ b := by omega
  have z2 : ¬ b < 52 := by omega
  obtain ⟨w0, hw0⟩ : ∃ v, v = w.alloc (.cells #[.int .u8 b] 5) := ⟨_, rfl⟩
  have hB0 : Below w.heap.size w w0 := by rw [hw0]; exact bl_alloc (Below.refl _ _)
  have o0 : w0.cell? ⟨w.heap.size, 0, none⟩ = some (.int .u8 b) := by simp [hw0, go_sem]
  have k1 := bkeep hB0 c1 lt0
  go_enter Tryz.func68, Tryz.ntmps68
  go_wp2_with fail
  rw [← hw0]
  clear hw0
  go_still_tail 8, mixed
  go_wp2_with (go_at_call 98; refine (hp _ (hB0.trans ((Below.refl _ _).drew))).mono ?_; rintro e w' ⟨hq, (⟨t, x, rfl⟩ | rfl)⟩)
  all_goals exact hq
set_option maxRecDepth 100000 in
set_option maxHeartbeats 4000000 in
theorem do_op0 (br g : Nat) (p q : Nat → Nat) (w : World) (c4 : w.cell? ⟨br, 4, none⟩ = some (.slice (some ⟨g, 0, none⟩) 5 5)) (ht : Tab w g p q) (Q : Ending → World → Prop) (ho : ∀ u, Below w.heap.size w u → Calls Tryz.prog 101 #[.pointer (some ⟨br, 0, none⟩), .agg #[.int .u8 43, .int .i64 2, .func (.func 127) #[] #[.pointer (some ⟨p 0, 0, none⟩)], .func (.func 129) #[] #[.pointer (some ⟨p 1, 0, none⟩)]]] u fun e w' => Q e w' ∧ ((∃ t x, e = .returned (.iface t x)) ∨ e = .returned .nilIface)) :
    Calls Tryz.prog 68 #[.pointer (some ⟨br, 0, none⟩), .int .u8 43] w Q := by
  have lt0 : br < w.heap.size := cell_lt c4
  obtain ⟨w0, hw0⟩ : ∃ v, v = w.alloc (.cells #[.int .u8 43] 5) := ⟨_, rfl⟩
  have hB0 : Below w.heap.size w w0 := by rw [hw0]; exact bl_alloc (Below.refl _ _)
  have o0 : w0.cell? ⟨w.heap.size, 0, none⟩ = some (.int .u8 43) := by simp [hw0, go_sem]
  have k4 := bkeep hB0 c4 lt0
  have ht0 := ht.below (Nat.le_refl _) hB0
  have hI := index_w g w.heap.size p q 43 w0 ht0 o0
  rw [show idx 43 = 0 from rfl] at hI
  have s0 := ht0.s0
  have s1 := ht0.n0
  have s2 := ht0.b0
  have s3 := ht0.d0
  clear ht ht0
  go_enter Tryz.func68, Tryz.ntmps68
  go_wp2_with (first | (go_at_call 99; rw [← hw0]; refine hI.mono ?_; rintro e w1 ⟨rfl, hB1⟩; replace k4 := bkeep2 hB1 k4; replace s0 := bkeep2 hB1 s0; replace s1 := bkeep2 hB1 s1; replace s2 := bkeep2 hB1 s2; replace s3 := bkeep2 hB1 s3; clear hw0 hI) | (go_at_call 101; refine (ho _ (hB0.trans (hB1.mono hB0.size))).mono ?_; rintro e w' ⟨hq, (⟨t, x, rfl⟩ | rfl)⟩))
  all_goals exact hq
set_option maxRecDepth 100000 in
set_option maxHeartbeats 4000000 in
theorem do_op1 (br g : Nat) (p q : Nat → Nat) (w : World) (c4 : w.cell? ⟨br, 4, none⟩ = some (.slice (some ⟨g, 0, none⟩) 5 5)) (ht : Tab w g p q) (Q : Ending → World → Prop) (ho : ∀ u, Below w.heap.size w u → Calls Tryz.prog 101 #[.pointer (some ⟨br, 0, none⟩), .agg #[.int .u8 45, .int .i64 2, .func (.func 127) #[] #[.pointer (some ⟨p 2, 0, none⟩)], .func (.func 129) #[] #[.pointer (some ⟨p 3, 0, none⟩)]]] u fun e w' => Q e w' ∧ ((∃ t x, e = .returned (.iface t x)) ∨ e = .returned .nilIface)) :
    Calls Tryz.prog 68 #[.pointer (some ⟨br, 0, none⟩), .int .u8 45] w Q := by
  have lt0 : br < w.heap.size := cell_lt c4
  obtain ⟨w0, hw0⟩ : ∃ v, v = w.alloc (.cells #[.int .u8 45] 5) := ⟨_, rfl⟩
  have hB0 : Below w.heap.size w w0 := by rw [hw0]; exact bl_alloc (Below.refl _ _)
  have o0 : w0.cell? ⟨w.heap.size, 0, none⟩ = some (.int .u8 45) := by simp [hw0, go_sem]
  have k4 := bkeep hB0 c4 lt0
  have ht0 := ht.below (Nat.le_refl _) hB0
  have hI := index_w g w.heap.size p q 45 w0 ht0 o0
  rw [show idx 45 = 1 from rfl] at hI
  have s0 := ht0.s1
  have s1 := ht0.n1
  have s2 := ht0.b1
  have s3 := ht0.d1
  clear ht ht0
  go_enter Tryz.func68, Tryz.ntmps68
  go_wp2_with (first | (go_at_call 99; rw [← hw0]; refine hI.mono ?_; rintro e w1 ⟨rfl, hB1⟩; replace k4 := bkeep2 hB1 k4; replace s0 := bkeep2 hB1 s0; replace s1 := bkeep2 hB1 s1; replace s2 := bkeep2 hB1 s2; replace s3 := bkeep2 hB1 s3; clear hw0 hI) | (go_at_call 101; refine (ho _ (hB0.trans (hB1.mono hB0.size))).mono ?_; rintro e w' ⟨hq, (⟨t, x, rfl⟩ | rfl)⟩))
  all_goals exact hq
set_option maxRecDepth 100000 in
set_option maxHeartbeats 4000000 in
theorem do_op2 (br g : Nat) (p q : Nat → Nat) (w : World) (c4 : w.cell? ⟨br, 4, none⟩ = some (.slice (some ⟨g, 0, none⟩) 5 5)) (ht : Tab w g p q) (Q : Ending → World → Prop) (ho : ∀ u, Below w.heap.size w u → Calls Tryz.prog 101 #[.pointer (some ⟨br, 0, none⟩), .agg #[.int .u8 42, .int .i64 2, .func (.func 127) #[] #[.pointer (some ⟨p 4, 0, none⟩)], .func (.func 129) #[] #[.pointer (some ⟨p 5, 0, none⟩)]]] u fun e w' => Q e w' ∧ ((∃ t x, e = .returned (.iface t x)) ∨ e = .returned .nilIface)) :
    Calls Tryz.prog 68 #[.pointer (some ⟨br, 0, none⟩), .int .u8 42] w Q := by
  have lt0 : br < w.heap.size := cell_lt c4
  obtain ⟨w0, hw0⟩ : ∃ v, v = w.alloc (.cells #[.int .u8 42] 5) := ⟨_, rfl⟩
  have hB0 : Below w.heap.size w w0 := by rw [hw0]; exact bl_alloc (Below.refl _ _)
  have o0 : w0.cell? ⟨w.heap.size, 0, none⟩ = some (.int .u8 42) := by simp [hw0, go_sem]
  have k4 := bkeep hB0 c4 lt0
  have ht0 := ht.below (Nat.le_refl _) hB0
  have hI := index_w g w.heap.size p q 42 w0 ht0 o0
  rw [show idx 42 = 2 from rfl] at hI
  have s0 := ht0.s2
  have s1 := ht0.n2
  have s2 := ht0.b2
  have s3 := ht0.d2
  clear ht ht0
  go_enter Tryz.func68, Tryz.ntmps68
  go_wp2_with (first | (go_at_call 99; rw [← hw0]; refine hI.mono ?_; rintro e w1 ⟨rfl, hB1⟩; replace k4 := bkeep2 hB1 k4; replace s0 := bkeep2 hB1 s0; replace s1 := bkeep2 hB1 s1; replace s2 := bkeep2 hB1 s2; replace s3 := bkeep2 hB1 s3; clear hw0 hI) | (go_at_call 101; refine (ho _ (hB0.trans (hB1.mono hB0.size))).mono ?_; rintro e w' ⟨hq, (⟨t, x, rfl⟩ | rfl)⟩))
  all_goals exact hq
set_option maxRecDepth 100000 in
set_option maxHeartbeats 4000000 in
theorem do_op3 (br g : Nat) (p q : Nat → Nat) (w : World) (c4 : w.cell? ⟨br, 4, none⟩ = some (.slice (some ⟨g, 0, none⟩) 5 5)) (ht : Tab w g p q) (Q : Ending → World → Prop) (ho : ∀ u, Below w.heap.size w u → Calls Tryz.prog 101 #[.pointer (some ⟨br, 0, none⟩), .agg #[.int .u8 126, .int .i64 1, .func (.func 131) #[] #[.pointer (some ⟨p 6, 0, none⟩)], .func (.func 132) #[] #[.pointer (some ⟨p 7, 0, none⟩)]]] u fun e w' => Q e w' ∧ ((∃ t x, e = .returned (.iface t x)) ∨ e = .returned .nilIface)) :
    Calls Tryz.prog 68 #[.pointer (some ⟨br, 0, none⟩), .int .u8 126] w Q := by
  have lt0 : br < w.heap.size := cell_lt c4
  obtain ⟨w0, hw0⟩ : ∃ v, v = w.alloc (.cells #[.int .u8 126] 5) := ⟨_, rfl⟩
  have hB0 : Below w.heap.size w w0 := by rw [hw0]; exact bl_alloc (Below.refl _ _)
  have o0 : w0.cell? ⟨w.heap.size, 0, none⟩ = some (.int .u8 126) := by simp [hw0, go_sem]
  have k4 := bkeep hB0 c4 lt0
  have ht0 := ht.below (Nat.le_refl _) hB0
  have hI := index_w g w.heap.size p q 126 w0 ht0 o0
  rw [show idx 126 = 3 from rfl] at hI
  have s0 := ht0.s3
  have s1 := ht0.n3
  have s2 := ht0.b3
  have s3 := ht0.d3
  clear ht ht0
  go_enter Tryz.func68, Tryz.ntmps68
  go_wp2_with (first | (go_at_call 99; rw [← hw0]; refine hI.mono ?_; rintro e w1 ⟨rfl, hB1⟩; replace k4 := bkeep2 hB1 k4; replace s0 := bkeep2 hB1 s0; replace s1 := bkeep2 hB1 s1; replace s2 := bkeep2 hB1 s2; replace s3 := bkeep2 hB1 s3; clear hw0 hI) | (go_at_call 101; refine (ho _ (hB0.trans (hB1.mono hB0.size))).mono ?_; rintro e w' ⟨hq, (⟨t, x, rfl⟩ | rfl)⟩))
  all_goals exact hq
set_option maxRecDepth 100000 in
set_option maxHeartbeats 4000000 in
theorem do_op4 (br g : Nat) (p q : Nat → Nat) (w : World) (c4 : w.cell? ⟨br, 4, none⟩ = some (.slice (some ⟨g, 0, none⟩) 5 5)) (ht : Tab w g p q) (Q : Ending → World → Prop) (ho : ∀ u, Below w.heap.size w u → Calls Tryz.prog 101 #[.pointer (some ⟨br, 0, none⟩), .agg #[.int .u8 94, .int .i64 1, .func (.func 131) #[] #[.pointer (some ⟨p 8, 0, none⟩)], .func (.func 132) #[] #[.pointer (some ⟨p 9, 0, none⟩)]]] u fun e w' => Q e w' ∧ ((∃ t x, e = .returned (.iface t x)) ∨ e = .returned .nilIface)) :
    Calls Tryz.prog 68 #[.pointer (some ⟨br, 0, none⟩), .int .u8 94] w Q := by
  have lt0 : br < w.heap.size := cell_lt c4
  obtain ⟨w0, hw0⟩ : ∃ v, v = w.alloc (.cells #[.int .u8 94] 5) := ⟨_, rfl⟩
  have hB0 : Below w.heap.size w w0 := by rw [hw0]; exact bl_alloc (Below.refl _ _)
  have o0 : w0.cell? ⟨w.heap.size, 0, none⟩ = some (.int .u8 94) := by simp [hw0, go_sem]
  have k4 := bkeep hB0 c4 lt0
  have ht0 := ht.below (Nat.le_refl _) hB0
  have hI := index_w g w.heap.size p q 94 w0 ht0 o0
  rw [show idx 94 = 4 from rfl] at hI
  have s0 := ht0.s4
  have s1 := ht0.n4
  have s2 := ht0.b4
  have s3 := ht0.d4
  clear ht ht0
  go_enter Tryz.func68, Tryz.ntmps68
  go_wp2_with (first | (go_at_call 99; rw [← hw0]; refine hI.mono ?_; rintro e w1 ⟨rfl, hB1⟩; replace k4 := bkeep2 hB1 k4; replace s0 := bkeep2 hB1 s0; replace s1 := bkeep2 hB1 s1; replace s2 := bkeep2 hB1 s2; replace s3 := bkeep2 hB1 s3; clear hw0 hI) | (go_at_call 101; refine (ho _ (hB0.trans (hB1.mono hB0.size))).mono ?_; rintro e w' ⟨hq, (⟨t, x, rfl⟩ | rfl)⟩))
  all_goals exact hq
end Go.Proofs.YtacnclofbnafiabGreatDoor
