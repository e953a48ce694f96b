import Derived.Test.YtacnclofbnafiabGreatDoorPA
import Derived.Test.YtacnclofbnafiabGreatDoorV1
import Derived.Deep.RegionLaw
import Derived.Deep.RegionLawGrows
import Derived.Defers
import Derived.Recover
import Derived.WalkLawsBesides
import Derived.StillTailTactics
namespace Go.Proofs.YtacnclofbnafiabGreatDoor
open Go.RowKit Fl

/-- 'append' onto a row of the call's own, amid a region that draws. -/
theorem step_append_at {P : Program} {ops : Array Oper} {o : Oper} {a : Act} {w : World} {K : Act → World → Prop} {Q : Exit → Act → World → Prop} {E : Prop} (hgd : o.guard = none) (s x : Operand) (t : TypeId)
    (ho : o.op = .call { callee := .builtin .append, args := #[s, x], argTypes := #[t, t] })
    (base : Nat) (e : TypeId) (i : TypeInfo) (z : Value) (size bytes : Nat) (ht : P.underlying t = some (.slice e)) (hi : P.info? e = some i) (hz : i.zero = some z) (hsize : i.size = size) (hby : i.bytes = bytes) (hzs : z.cells.size = size) (hsz : 0 < size)
    (v : Value) (n : Nat) (xs : List Value) (hs : a.eval s = v) (hown : w.ownsRow base e size v n xs)
    (ad : Addr) (m c : Nat) (news : List Value) (hx : a.eval x = .slice (some ad) m c) (hl : news.length = m * size) (hnews : ∀ j u, news[j]? = some u → w.cell? (ad.add j) = some u) (h1 : ∀ u ∈ news, u.oneCell' = true)
    (h63 : n + m ≤ maxLen) (hbytes : (n + m) * bytes ≤ 140737488355328) (hbase : base ≤ w.heap.size) (hm1 : 0 < m)
    (h : ∀ v' w', w'.ownsRow base e size v' (n + m) (xs ++ news) → w.grownBy w' v.ownBlock → (∀ k, v'.ownBlock = some k → v.ownBlock = some k ∨ w.heap.size ≤ k) → K (a.put o.dst v') w') :
    if Region.wanted o (yielded ops a.tmps) = true then Oper.wp P o a w K Q else E := by
  have hw : Region.wanted o (yielded ops a.tmps) = true := by simp [Region.wanted, hgd]
  have wide : ∀ {v' : Value} {w' : World} {k : Nat} {ys : List Value}, w'.ownsRow w.heap.size e size v' k ys → w'.ownsRow base e size v' k ys := fun h => by
    refine ⟨h.1, ?_⟩
    rcases h.2 with h | ⟨g, cap, cur, e1, e2, r⟩
    · exact .inl h
    · exact .inr ⟨g, cap, cur, e1, Nat.le_trans hbase e2, r⟩
  have more : ∀ {w' : World}, w.grownBy w' none → w.grownBy w' v.ownBlock := fun h => ⟨h.os, h.tape, h.output, h.size, fun k a b => h.block k a (by simp)⟩
  have olds := hown
  rcases hown.2 with ⟨rfl, rfl⟩ | ⟨g, cap, cur, rfl, hb, hg, hle, hm, hcs, htk⟩
  · exact step_append_grows hgd s x t ho e i z size bytes ht hi hz hsize hby hzs hsz none 0 0 xs hs (fun _ => ⟨rfl, rfl⟩) hown.1 (fun b hb => by cases hb) ad m c news hx hl hnews h1 (by omega) h63 hbytes fun v' w' o1 g1 => h v' w' (wide o1) (more g1) fun k hk => .inr (o1.lt k hk).1
  · by_cases c1 : n + m ≤ cap
    · obtain ⟨w', hrun, r1, r2⟩ := run_append_fits (P := P) w base t o.type e i size ht hi hsize g n cap xs olds ad m c news hl hnews h1 c1
      rw [if_pos hw]
      unfold Oper.wp
      simp [execOp, ho, resolve, invoke, builtin, hs, hx, hrun, Result.andThen]
      exact h _ w' r1 r2 fun k hk => .inl hk
    · exact step_append_grows hgd s x t ho e i z size bytes ht hi hz hsize hby hzs hsz (some ⟨g, 0, none⟩) n cap xs hs (fun h => by cases h) hown.1 (fun b hb => by cases hb; exact olds.cells rfl) ad m c news hx hl hnews h1 (by omega) h63 hbytes fun v' w' o1 g1 => h v' w' (wide o1) (more g1) fun k hk => .inr (o1.lt k hk).1
@[go_sem] theorem buildFault (a b : Int) (w : World) : (Instr.build 93 #[(0, .int .i64 a), (1, .int .i64 b)]).run Tryz.prog w = .ok (.agg #[.int .i64 a, .int .i64 b]) w := run_build w 93 _ _ (by kernel_rfl)
set_option maxRecDepth 100000 in
theorem fault_w (br : Nat) (at_ en : Int) (w : World) (c0 : w.cell? ⟨br, 0, none⟩ = some (.int .i64 at_)) : Calls Tryz.prog 69 #[.pointer (some ⟨br, 0, none⟩), .int .i64 en] w fun e w' => e = .returned (.iface 87 (.pointer (some ⟨w.heap.size, 0, none⟩))) ∧ w' = w.alloc (.cells #[.int .i64 at_, .int .i64 en] 93) := by
  go_enter Tryz.func69, Tryz.ntmps69
  go_wp2_with fail
  go_ret
  exact ⟨rfl, rfl⟩
set_option maxRecDepth 100000 in
theorem in_b_w (s t : Int) (f1 f2 : Fn) (x1 x2 y1 y2 : Array Value) (w : World) : Calls Tryz.prog 140 #[.agg #[.int .u8 s, .int .i64 t, .func f1 x1 y1, .func f2 x2 y2], .int .i64 0] w fun e w' => e = .returned (.func f1 x1 y1) ∧ Below w.heap.size w w' := by
  go_enter Tryz.func140, Tryz.ntmps140
  go_wp2_with fail
  go_ret
  exact ⟨rfl, bl_alloc (Below.refl _ _)⟩
set_option maxRecDepth 100000 in
theorem in_d_w (s t : Int) (f1 f2 : Fn) (x1 x2 y1 y2 : Array Value) (w : World) : Calls Tryz.prog 140 #[.agg #[.int .u8 s, .int .i64 t, .func f1 x1 y1, .func f2 x2 y2], .int .i64 1] w fun e w' => e = .returned (.func f2 x2 y2) ∧ Below w.heap.size w w' := by
  go_enter Tryz.func140, Tryz.ntmps140
  go_wp2_with fail
  go_ret
  exact ⟨rfl, bl_alloc (Below.refl _ _)⟩
end Go.Proofs.YtacnclofbnafiabGreatDoor

namespace Go.Proofs.YtacnclofbnafiabGreatDoor
open Go.RowKit Fl

theorem infoA : (Tryz.prog.info? 62).map (fun i => (i.zero, i.size, i.bytes)) = some (some (.agg #[.int .u8 0, .int .i64 0]), 2, 16) := by kernel_rfl
@[go_sem] theorem buildAsked (a b : Int) (w : World) : (Instr.build 62 #[(0, .int .u8 a), (1, .int .i64 b)]).run Tryz.prog w = .ok (.agg #[.int .u8 a, .int .i64 b]) w := run_build w 62 _ _ (by kernel_rfl)
@[go_sem] theorem run_store_slice {P : Program} {w : World} {a : Addr} {m : Mode} (x : Option Addr) (n c : Nat) : (store a (.slice x n c) m).run P w = stored P w a (.slice x n c) m := run_store P w a _ m rfl
/-- What a Listed was asked, by cells. -/
def flat : List (Int × Int) → List Value
  | [] => []
  | (a, b) :: l => .int .u8 a :: .int .i64 b :: flat l
theorem flat_app : ∀ l k, flat (l ++ k) = flat l ++ flat k
  | [], _ => rfl
  | (a, b) :: l, k => by simp only [List.cons_append, flat, flat_app l k]
theorem own_shape {w : World} {base : Nat} {e : TypeId} {size : Nat} {v : Value} {n : Nat} {xs : List Value} (h : w.ownsRow base e size v n xs) : ∃ ao cap, v = .slice ao n cap ∧ n ≤ cap ∧ cap ≤ maxLen ∧ (ao = none → n = 0 ∧ cap = 0) := by
  rcases h.2 with ⟨rfl, rfl⟩ | ⟨g, cap, cur, rfl, _, _, h1, h2, _⟩
  · exact ⟨none, 0, rfl, Nat.le_refl _, Nat.zero_le _, fun _ => ⟨rfl, rfl⟩⟩
  · exact ⟨_, cap, rfl, h1, h2, fun e => by cases e⟩
/-- A Listed in memory: at bl; it picks ks; it was asked. -/
structure LI (w : World) (base bl : Nat) (ks : List Int) (vp va : Value) (qs : List (Int × Int)) : Prop where
  l0 : w.cell? ⟨bl, 0, none⟩ = some vp
  l1 : w.cell? ⟨bl, 1, none⟩ = some va
  lf : w.frozen? ⟨bl, 1, none⟩ = false
  hp : w.ownsRow 0 34 1 vp ks.length (ks.map (Value.int .i64))
  ha : w.ownsRow base 62 2 va qs.length (flat qs)
  ba : base ≤ w.heap.size
  bb : bl < base
  np : ∀ k, vp.ownBlock = some k → k < base ∧ k ≠ bl
/-- Of what there is, blocks with S alone are written. -/
structure Only (S : Nat → Prop) (w w' : World) : Prop where
  os : w'.os = w.os
  tape : w'.tape = w.tape
  output : w'.output = w.output
  size : w.heap.size ≤ w'.heap.size
  block : ∀ k, k < w.heap.size → ¬ S k → w'.heap[k]? = w.heap[k]?
theorem Only.of_below {S : Nat → Prop} {w w' : World} (h : Below w.heap.size w w') : Only S w w' := ⟨h.os, h.tape, h.output, h.size, fun k hk _ => h.block k hk⟩
theorem Only.trans {S T U : Nat → Prop} {w w' w'' : World} (h : Only S w w') (g : Only T w' w'') (hS : ∀ k, S k → U k) (hT : ∀ k, k < w.heap.size → T k → U k) : Only U w w'' :=
  ⟨g.os.trans h.os, g.tape.trans h.tape, g.output.trans h.output, Nat.le_trans h.size g.size, fun k hk hn => (g.block k (Nat.lt_of_lt_of_le hk h.size) fun c => hn (hT k hk c)).trans (h.block k hk fun c => hn (hS k c))⟩
theorem Only.cell {S : Nat → Prop} {w w' : World} (h : Only S w w') {a : Addr} {v : Value} (hc : w.cell? a = some v) (hn : ¬ S a.block) : w'.cell? a = some v :=
  (World.cell?_of_block (h.block a.block (cell_lt hc) hn)).trans hc
theorem Only.frozen {S : Nat → Prop} {w w' : World} (h : Only S w w') {a : Addr} {v : Value} (hc : w.cell? a = some v) (hf : w.frozen? a = false) (hn : ¬ S a.block) : w'.frozen? a = false := by
  rw [World.frozen?_of_block (h.block a.block (cell_lt hc) hn)]; exact hf
theorem two_cells {w : World} {B : Nat} {u v : Value} (h0 : w.cell? ⟨B, 0, none⟩ = some u) (h1 : w.cell? ⟨B, 1, none⟩ = some v) : ∀ j x, [u, v][j]? = some x → w.cell? ((⟨B, 0, none⟩ : Addr).add j) = some x := by
  intro j x hj
  match j, hj with
  | 0, hj => simp at hj; subst hj; simpa [Addr.add] using h0
  | 1, hj => simp at hj; subst hj; simpa [Addr.add] using h1
theorem two_one (a b : Int) : ∀ u ∈ [Value.int .u8 a, Value.int .i64 b], u.oneCell' = true := by
  intro u hu; simp at hu; rcases hu with rfl | rfl <;> rfl
theorem grown_frozen {w w' : World} {row : Option Nat} (hg : w.grownBy w' row) {a : Addr} {v : Value} (hc : w.cell? a = some v) (h : w.frozen? a = false) (hne : some a.block ≠ row) : w'.frozen? a = false := by
  rw [World.frozen?_of_block (hg.block a.block (World.block_lt_of_cell? w a hc) hne)]
  exact h
theorem own_row {w : World} {base : Nat} {e : TypeId} {v : Value} {n : Nat} {xs : List Value} (h : w.ownsRow base e 1 v n xs) {j : Nat} {u : Value} (hj : xs[j]? = some u) : ∃ g cap, v = .slice (some ⟨g, 0, none⟩) n cap ∧ w.cell? ⟨g, j, none⟩ = some u ∧ v.ownBlock = some g := by
  rcases h.2 with ⟨rfl, rfl⟩ | ⟨g, cap, cur, rfl, _⟩
  · have := h.1
    have : xs = [] := List.eq_nil_of_length_eq_zero (by omega)
    subst this
    simp at hj
  · refine ⟨g, cap, rfl, ?_, rfl⟩
    have q := h.cells (g := g) rfl j u hj
    have e : (⟨g, 0, none⟩ : Addr).add j = ⟨g, j, none⟩ := by
      unfold Addr.add
      by_cases c : j = 0
      · subst c; simp
      · simp [c]
    rwa [e] at q
theorem LI.next {w w1 : World} {base bl : Nat} {ks : List Int} {vp va v' : Value} {qs : List (Int × Int)} {op at_ : Int} {o : Obj} (h : LI w base bl ks vp va qs) (o1 : w1.ownsRow base 62 2 v' (qs.length + 1) (flat qs ++ [.int .u8 op, .int .i64 at_])) (g1 : (w.alloc o).grownBy w1 va.ownBlock) (nw : ∀ k, v'.ownBlock = some k → va.ownBlock = some k ∨ w.heap.size + 1 ≤ k) :
    LI (w1.setCell ⟨bl, 1, none⟩ v') base bl ks vp v' (qs ++ [(op, at_)]) ∧ Only (fun k => k = bl ∨ va.ownBlock = some k) w (w1.setCell ⟨bl, 1, none⟩ v') ∧ ∀ k, v'.ownBlock = some k → va.ownBlock = some k ∨ w.heap.size ≤ k := by
  have lt0 : bl < w.heap.size := Nat.lt_of_lt_of_le h.bb h.ba
  have ne : some bl ≠ va.ownBlock := fun e => by have := (h.ha.lt bl e.symm).1; have := h.bb; omega
  have k0 := g1.cell (bkeep (bl_alloc (Below.refl _ _)) h.l0 lt0) ne
  have k1 := g1.cell (bkeep (bl_alloc (Below.refl _ _)) h.l1 lt0) ne
  have kf := grown_frozen g1 (bkeep (bl_alloc (Below.refl _ _)) h.l1 lt0) (bfroz (bl_alloc (Below.refl _ _)) h.lf lt0) ne
  have sz := g1.size
  simp at sz
  have hs : (w1.setCell ⟨bl, 1, none⟩ v').heap.size = w1.heap.size := by simp
  have hp1 := (h.hp.alloc o).kept g1 (by
    cases e : vp.ownBlock with
    | none => exact .inl rfl
    | some j => refine .inr fun c => ?_; have := (h.np j e).1; have := (h.ha.lt j c.symm).1; omega)
  refine ⟨⟨?_, ?_, ?_, ?_, ?_, ?_, h.bb, h.np⟩, ?_⟩
  · rw [World.cell?_setCell_other _ _ _ _ (by simp)]; exact k0
  · exact World.cell?_setCell_same _ _ _ k1
  · rw [World.frozen?_setCell]; exact kf
  · exact ownsRow_setCell_other hp1 (fun c => (h.np bl c).2 rfl) _
  · rw [List.length_append, flat_app]
    exact ownsRow_setCell_other o1 (fun c => by have := (o1.lt bl c).1; have := h.bb; omega) _
  · have := h.ba; rw [hs]; omega
  · refine ⟨⟨g1.os, g1.tape, g1.output, by rw [hs]; omega, fun k hk hn => ?_⟩, fun k hk => (nw k hk).imp id fun q => by omega⟩
    rw [Below.heap_setCell w1 ⟨bl, 1, none⟩ v' k (fun c => hn (.inl c)), g1.block k (by simp; omega) (fun c => hn (.inr c.symm))]
    exact heap_alloc_old w o hk
set_option maxRecDepth 100000 in
set_option maxHeartbeats 4000000 in
theorem lpick_end (base bl : Nat) (op at_ : Int) (ks : List Int) (vp va : Value) (qs : List (Int × Int)) (w : World) (h : LI w base bl ks vp va qs) (hn : ks.length ≤ qs.length) (h60 : qs.length ≤ 100) (_hks : ks.length ≤ 4611686018427387904) :
    Calls Tryz.prog 33 #[.pointer (some ⟨bl, 0, none⟩), .int .u8 op, .int .i64 at_] w fun e w' => e = .returned (.int .i64 0) ∧ ∃ va', LI w' base bl ks vp va' (qs ++ [(op, at_)]) ∧ Only (fun k => k = bl ∨ va.ownBlock = some k) w w' ∧ ∀ k, va'.ownBlock = some k → va.ownBlock = some k ∨ w.heap.size ≤ k := by
  obtain ⟨i0, hi, hz0, hz1, hz2⟩ := info_parts infoA
  have HH : Hid (LI w base bl ks vp va qs) := h
  obtain ⟨po, cp, rfl, hcp, hpm, hpn⟩ := own_shape h.hp
  have hnI : ¬ ((qs.length : Int) < (ks.length : Int)) := by omega
  obtain ⟨ao, ca, rfl, hca, hcm, han⟩ := own_shape h.ha
  have c0 := h.l0
  have c1 := h.l1
  have cf := h.lf
  have ha := h.ha
  have ba := h.ba
  have lt0 : bl < w.heap.size := Nat.lt_of_lt_of_le h.bb h.ba
  clear h
  go_enter Tryz.func33, Tryz.ntmps33
  go_wp2_with (first | (at_builtin; refine wpList_append_at _ rfl (.tmp 17) (.tmp 21) 58 rfl base 62 i0 (.agg #[.int .u8 0, .int .i64 0]) 2 16 Tryz.underlying58 hi hz0 hz1 hz2 rfl (by decide) _ _ _ rfl (ha.alloc _) ⟨w.heap.size, 0, none⟩ 1 1 [.int .u8 op, .int .i64 at_] rfl rfl (two_cells (by simp [go_sem]) (by simp [go_sem])) (two_one _ _) (by unfold maxLen; omega) (by omega) (by simp; omega) (by decide) ?_))
  intro v' w1 o1 g1 nw
  obtain ⟨ao', ca', rfl, _, _, _⟩ := own_shape o1
  have N := HH.out.next o1 g1 nw
  have ne : some bl ≠ (Value.slice ao qs.length ca).ownBlock := fun e => by have := (ha.lt bl e.symm).1; have := HH.out.bb; omega
  have k0 := g1.cell (bkeep (bl_alloc (Below.refl _ _)) c0 lt0) ne
  have k1 := g1.cell (bkeep (bl_alloc (Below.refl _ _)) c1 lt0) ne
  have kf := grown_frozen g1 (bkeep (bl_alloc (Below.refl _ _)) c1 lt0) (bfroz (bl_alloc (Below.refl _ _)) cf lt0) ne
  have HN : Hid (LI (w1.setCell ⟨bl, 1, none⟩ (.slice ao' (qs.length + 1) ca')) base bl ks (.slice po ks.length cp) (.slice ao' (qs.length + 1) ca') (qs ++ [(op, at_)]) ∧ Only (fun k => k = bl ∨ (Value.slice ao qs.length ca).ownBlock = some k) w (w1.setCell ⟨bl, 1, none⟩ (.slice ao' (qs.length + 1) ca')) ∧ ∀ k, (Value.slice ao' (qs.length + 1) ca').ownBlock = some k → (Value.slice ao qs.length ca).ownBlock = some k ∨ w.heap.size ≤ k) := N
  clear N o1 g1 nw c0 c1 cf ha ne
  go_wp2
  go_ret
  exact ⟨rfl, _, HN.out.1, HN.out.2⟩
set_option maxRecDepth 100000 in
set_option maxHeartbeats 4000000 in
theorem lpick_ret (base bl : Nat) (op at_ : Int) (ks : List Int) (vp va : Value) (qs : List (Int × Int)) (w : World) (h : LI w base bl ks vp va qs) (kd : Int) (hk : ks[qs.length]? = some kd) (hkd : kd ≠ -7) (h60 : qs.length ≤ 100) (_hks : ks.length ≤ 4611686018427387904) :
    Calls Tryz.prog 33 #[.pointer (some ⟨bl, 0, none⟩), .int .u8 op, .int .i64 at_] w fun e w' => e = .returned (.int .i64 kd) ∧ ∃ va', LI w' base bl ks vp va' (qs ++ [(op, at_)]) ∧ Only (fun k => k = bl ∨ va.ownBlock = some k) w w' ∧ ∀ k, va'.ownBlock = some k → va.ownBlock = some k ∨ w.heap.size ≤ k := by
  obtain ⟨i0, hi, hz0, hz1, hz2⟩ := info_parts infoA
  have HH : Hid (LI w base bl ks vp va qs) := h
  obtain ⟨g, cp, rfl, cg, og⟩ := own_row h.hp (j := qs.length) (u := .int .i64 kd) (by rw [List.getElem?_map, hk]; rfl)
  have hlt : qs.length < ks.length := by
    rcases Nat.lt_or_ge qs.length ks.length with c | c
    · exact c
    · rw [List.getElem?_eq_none c] at hk; simp at hk
  have hnI : (qs.length : Int) < (ks.length : Int) := by omega
  have gb := h.np g og
  obtain ⟨ao, ca, rfl, hca, hcm, han⟩ := own_shape h.ha
  have c0 := h.l0
  have c1 := h.l1
  have cf := h.lf
  have ha := h.ha
  have ba := h.ba
  have lt0 : bl < w.heap.size := Nat.lt_of_lt_of_le h.bb h.ba
  clear h
  go_enter Tryz.func33, Tryz.ntmps33
  go_wp2_with (first | (at_builtin; refine wpList_append_at _ rfl (.tmp 17) (.tmp 21) 58 rfl base 62 i0 (.agg #[.int .u8 0, .int .i64 0]) 2 16 Tryz.underlying58 hi hz0 hz1 hz2 rfl (by decide) _ _ _ rfl (ha.alloc _) ⟨w.heap.size, 0, none⟩ 1 1 [.int .u8 op, .int .i64 at_] rfl rfl (two_cells (by simp [go_sem]) (by simp [go_sem])) (two_one _ _) (by unfold maxLen; omega) (by omega) (by simp; omega) (by decide) ?_))
  intro v' w1 o1 g1 nw
  obtain ⟨ao', ca', rfl, _, _, _⟩ := own_shape o1
  have N := HH.out.next o1 g1 nw
  have ne : some bl ≠ (Value.slice ao qs.length ca).ownBlock := fun e => by have := (ha.lt bl e.symm).1; have := HH.out.bb; omega
  have k0 := g1.cell (bkeep (bl_alloc (Below.refl _ _)) c0 lt0) ne
  have k1 := g1.cell (bkeep (bl_alloc (Below.refl _ _)) c1 lt0) ne
  have kf := grown_frozen g1 (bkeep (bl_alloc (Below.refl _ _)) c1 lt0) (bfroz (bl_alloc (Below.refl _ _)) cf lt0) ne
  have HN : Hid (LI (w1.setCell ⟨bl, 1, none⟩ (.slice ao' (qs.length + 1) ca')) base bl ks (.slice (some ⟨g, 0, none⟩) ks.length cp) (.slice ao' (qs.length + 1) ca') (qs ++ [(op, at_)]) ∧ Only (fun k => k = bl ∨ (Value.slice ao qs.length ca).ownBlock = some k) w (w1.setCell ⟨bl, 1, none⟩ (.slice ao' (qs.length + 1) ca')) ∧ ∀ k, (Value.slice ao' (qs.length + 1) ca').ownBlock = some k → (Value.slice ao qs.length ca).ownBlock = some k ∨ w.heap.size ≤ k) := N
  have kg : w1.cell? ⟨g, qs.length, none⟩ = some (.int .i64 kd) := g1.cell (bkeep (bl_alloc (Below.refl _ _)) cg (cell_lt cg)) (fun e => by have := (ha.lt g e.symm).1; omega)
  have gne : g ≠ bl := gb.2
  clear N o1 g1 nw c0 c1 cf ha ne
  go_wp2
  go_ret
  exact ⟨rfl, _, HN.out.1, HN.out.2⟩
set_option maxRecDepth 100000 in
set_option maxHeartbeats 4000000 in
theorem lpick_panic (base bl : Nat) (op at_ : Int) (ks : List Int) (vp va : Value) (qs : List (Int × Int)) (w : World) (h : LI w base bl ks vp va qs) (hk : ks[qs.length]? = some (-7)) (h60 : qs.length ≤ 100) (_hks : ks.length ≤ 4611686018427387904) :
    Calls Tryz.prog 33 #[.pointer (some ⟨bl, 0, none⟩), .int .u8 op, .int .i64 at_] w fun e w' => e = .panicked [{ v := .iface 9 (.string { data := #[97, 32, 112, 111, 108, 105, 99, 121, 32, 116, 104, 97, 116, 32, 112, 105, 99, 107, 115, 32, 110, 111, 116, 104, 105, 110, 103] }), recovered := false }] ∧ ∃ va', LI w' base bl ks vp va' (qs ++ [(op, at_)]) ∧ Only (fun k => k = bl ∨ va.ownBlock = some k) w w' ∧ ∀ k, va'.ownBlock = some k → va.ownBlock = some k ∨ w.heap.size ≤ k := by
  obtain ⟨i0, hi, hz0, hz1, hz2⟩ := info_parts infoA
  have HH : Hid (LI w base bl ks vp va qs) := h
  obtain ⟨g, cp, rfl, cg, og⟩ := own_row h.hp (j := qs.length) (u := .int .i64 (-7)) (by rw [List.getElem?_map, hk]; rfl)
  have hlt : qs.length < ks.length := by
    rcases Nat.lt_or_ge qs.length ks.length with c | c
    · exact c
    · rw [List.getElem?_eq_none c] at hk; simp at hk
  have hnI : (qs.length : Int) < (ks.length : Int) := by omega
  have gb := h.np g og
  obtain ⟨ao, ca, rfl, hca, hcm, han⟩ := own_shape h.ha
  have c0 := h.l0
  have c1 := h.l1
  have cf := h.lf
  have ha := h.ha
  have ba := h.ba
  have lt0 : bl < w.heap.size := Nat.lt_of_lt_of_le h.bb h.ba
  clear h
  go_enter Tryz.func33, Tryz.ntmps33
  go_wp2_with (first | (at_builtin; refine wpList_append_at _ rfl (.tmp 17) (.tmp 21) 58 rfl base 62 i0 (.agg #[.int .u8 0, .int .i64 0]) 2 16 Tryz.underlying58 hi hz0 hz1 hz2 rfl (by decide) _ _ _ rfl (ha.alloc _) ⟨w.heap.size, 0, none⟩ 1 1 [.int .u8 op, .int .i64 at_] rfl rfl (two_cells (by simp [go_sem]) (by simp [go_sem])) (two_one _ _) (by unfold maxLen; omega) (by omega) (by simp; omega) (by decide) ?_))
  intro v' w1 o1 g1 nw
  obtain ⟨ao', ca', rfl, _, _, _⟩ := own_shape o1
  have N := HH.out.next o1 g1 nw
  have ne : some bl ≠ (Value.slice ao qs.length ca).ownBlock := fun e => by have := (ha.lt bl e.symm).1; have := HH.out.bb; omega
  have k0 := g1.cell (bkeep (bl_alloc (Below.refl _ _)) c0 lt0) ne
  have k1 := g1.cell (bkeep (bl_alloc (Below.refl _ _)) c1 lt0) ne
  have kf := grown_frozen g1 (bkeep (bl_alloc (Below.refl _ _)) c1 lt0) (bfroz (bl_alloc (Below.refl _ _)) cf lt0) ne
  have HN : Hid (LI (w1.setCell ⟨bl, 1, none⟩ (.slice ao' (qs.length + 1) ca')) base bl ks (.slice (some ⟨g, 0, none⟩) ks.length cp) (.slice ao' (qs.length + 1) ca') (qs ++ [(op, at_)]) ∧ Only (fun k => k = bl ∨ (Value.slice ao qs.length ca).ownBlock = some k) w (w1.setCell ⟨bl, 1, none⟩ (.slice ao' (qs.length + 1) ca')) ∧ ∀ k, (Value.slice ao' (qs.length + 1) ca').ownBlock = some k → (Value.slice ao qs.length ca).ownBlock = some k ∨ w.heap.size ≤ k) := N
  have kg : w1.cell? ⟨g, qs.length, none⟩ = some (.int .i64 (-7)) := g1.cell (bkeep (bl_alloc (Below.refl _ _)) cg (cell_lt cg)) (fun e => by have := (ha.lt g e.symm).1; omega)
  have gne : g ≠ bl := gb.2
  clear N o1 g1 nw c0 c1 cf ha ne
  go_wp2
  exact ⟨rfl, rfl, _, HN.out.1, HN.out.2⟩
end Go.Proofs.YtacnclofbnafiabGreatDoor

namespace Go.Proofs.YtacnclofbnafiabGreatDoor
open Go.RowKit Fl

@[go_sem] theorem eql_nf (w : World) : (binOp .eql 30 .nilFunc .nilFunc).run Tryz.prog w = .ok (.bool true) w := by kernel_rfl
@[go_sem] theorem eql_fn (f : Fn) (x y : Array Value) (w : World) : (binOp .eql 30 (.func f x y) .nilFunc).run Tryz.prog w = .ok (.bool false) w := by kernel_rfl
theorem catch_p (u : TypeId) (pv : Value) (older : List PanicEntry) (w : World) :
    CallsD Tryz.prog 156 #[] (.panicking ({ v := .iface u pv, recovered := false } :: older)) w fun e u' w' => e = .returned (.tuple #[]) ∧ u' = .panicking ({ v := .iface u pv, recovered := true } :: older) ∧ w' = w := by
  refine callsD_of_wpS Tryz.func156 rfl fun c₀ cs hu => ?_
  apply wpS_region
  simp [wpOpsS, go_sem, recoverD, hu, Tryz.ntmps156, bodyPostS, results, Tryz.results156]
theorem catch_i (w : World) : CallsD Tryz.prog 156 #[] .returning w fun e u' w' => e = .returned (.tuple #[]) ∧ u' = .returning ∧ w' = w := by
  refine callsD_of_wpS Tryz.func156 rfl fun c₀ cs hu => ?_
  apply wpS_region
  simp [wpOpsS, go_sem, recoverD, hu, Tryz.ntmps156, bodyPostS, results, Tryz.results156]
  cases c₀
  simp_all
theorem mixed : Tryz.prog.follows .mixedOrders = true := by kernel_rfl
set_option maxRecDepth 100000 in
set_option maxHeartbeats 4000000 in
theorem pick_ret_w (br bl : Nat) (sg at_ kd : Int) (R : World → Prop) (w : World) (c0 : w.cell? ⟨br, 0, none⟩ = some (.int .i64 at_)) (c3 : w.cell? ⟨br, 3, none⟩ = some (.func (.func 33) #[.pointer (some ⟨bl, 0, none⟩)] #[]))
    (cp : ∀ n, Calls Tryz.prog 33 #[.pointer (some ⟨bl, 0, none⟩), .int .u8 sg, .int .i64 at_] (w.drewN n) fun e w' => e = .returned (.int .i64 kd) ∧ R w') :
    Calls Tryz.prog 139 #[.pointer (some ⟨br, 0, none⟩), .int .u8 sg] w fun e w' => e = .returned (.tuple #[.int .i64 kd, .bool (kd == 0 || kd == 1)]) ∧ R w' := by
  go_enter_defers Tryz.func139, Tryz.ntmps139
  go_wp2_with fail
  go_still_tail 11, mixed
  go_wp2_with (go_at_call 33; refine (cp 1).mono ?_; rintro e w' ⟨rfl, hR⟩)
  all_goals
    refine leaves_cons (f := 156) (args := #[]) (by simp) (by simp [go_sem]) ?_
    refine (catch_i _).mono ?_
    rintro e u' w'' ⟨rfl, rfl, rfl⟩
    simp_all [Leaves, settle, results, Tryz.results139, go_sem]
set_option maxRecDepth 100000 in
set_option maxHeartbeats 4000000 in
theorem pick_panic_w (br bl : Nat) (sg at_ : Int) (u : TypeId) (pv : Value) (R : World → Prop) (w : World) (c0 : w.cell? ⟨br, 0, none⟩ = some (.int .i64 at_)) (c3 : w.cell? ⟨br, 3, none⟩ = some (.func (.func 33) #[.pointer (some ⟨bl, 0, none⟩)] #[]))
    (cp : ∀ n, Calls Tryz.prog 33 #[.pointer (some ⟨bl, 0, none⟩), .int .u8 sg, .int .i64 at_] (w.drewN n) fun e w' => e = .panicked [{ v := .iface u pv, recovered := false }] ∧ R w') :
    Calls Tryz.prog 139 #[.pointer (some ⟨br, 0, none⟩), .int .u8 sg] w fun e w' => e = .returned (.tuple #[.int .i64 0, .bool false]) ∧ R w' := by
  go_enter_defers Tryz.func139, Tryz.ntmps139
  go_wp2_with fail
  go_still_tail 11, mixed
  go_wp2_with (go_at_call 33; refine (cp 1).mono ?_; rintro e w' ⟨rfl, hR⟩)
  refine leaves_cons (f := 156) (args := #[]) (by simp) (by simp [go_sem]) ?_
  refine (catch_p u pv [] _).mono ?_
  rintro e u' w'' ⟨rfl, rfl, rfl⟩
  simp [Leaves, settle, results, Tryz.results139, go_sem, hR]
end Go.Proofs.YtacnclofbnafiabGreatDoor
