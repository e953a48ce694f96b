import Derived.Test.YtacnclofbnafiabGreatDoorA5
import Derived.Test.YtacnclofbnafiabGreatDoorAC
import Derived.Deep.QuietTactic
namespace Go.Proofs.YtacnclofbnafiabGreatDoor
open Go.RowKit Fl

/-- An error: its number and its place. -/
def ErrIs (w : World) (x : Value) (er at_ : Int) : Prop := (∃ bf, x = .iface 87 (.pointer (some ⟨bf, 0, none⟩)) ∧ w.cell? ⟨bf, 0, none⟩ = some (.int .i64 at_) ∧ w.cell? ⟨bf, 1, none⟩ = some (.int .i64 er)) ∨ (er = 1 ∧ at_ = 0 ∧ x = .iface 49 (.int .i64 1))
/-- What Eval answers, in memory. -/
def TEv (S0 : Nat → Prop) (PI : World → List (Int × Int) → (Nat → Prop) → Prop) (w : World) (r : Int × Int × List St × List (Int × Int)) (e : Ending) (w' : World) : Prop :=
  ∃ S, PI w' r.2.2.2 S ∧ (∀ k, S k → S0 k ∨ w.heap.size ≤ k) ∧ Only S0 w w' ∧ ∃ v x, e = .returned (.tuple #[v, x]) ∧
    ((r.1 = 0 ∧ ∃ z : St, r.2.2.1 = [z] ∧ z.ok ∧ v = z.val ∧ x = .nilIface) ∨ (r.1 ≠ 0 ∧ v = V0 ∧ ErrIs w' x r.1 r.2.1))
def ans (P : Plane) (s : ByteArray) (bl : List Bx) (dl : List Dc) (kdf : Nat → Int) (gd : Nat → Bool) : Int × Int × List St × List (Int × Int) :=
  if 60 < s.size ∨ 4 < bl.length ∨ 4 < dl.length then (1, 0, [], []) else runs P (bl.map St.box) (dl.map St.disc) kdf gd (byts s) 0 [] []
theorem eval_t (P : Plane) {PI : World → List (Int × Int) → (Nat → Prop) → Prop} {pv : Value} {kdf : Nat → Int} {gd : Nat → Bool} (hP : Pol PI pv kdf gd) (s : ByteArray) (vb vd : Value) (bl : List Bx) (dl : List Dc) (S0 : Nat → Prop) (w : World) (hb : SrcB w vb bl) (hd : SrcD w vd dl) (hpi : PI w [] S0) (ob : ∀ x ∈ bl, x.ok) (od : ∀ x ∈ dl, x.ok) (hs : s.size ≤ 4611686018427387904) (hn : bl.length ≤ 4611686018427387904) (hm : dl.length ≤ 4611686018427387904) :
    Calls Tryz.prog 34 #[.string s, vb, vd, .agg #[pv]] w (TEv S0 PI w (ans P s bl dl kdf gd)) := by
  unfold ans
  split
  · rename_i h
    obtain ⟨ao, c, rfl⟩ := hb.sh
    obtain ⟨bo, d, rfl⟩ := hd.sh
    refine (eval_long s ao bo _ c _ d pv w h hs hn hm).mono ?_
    rintro e w' ⟨rfl, hB⟩
    exact ⟨S0, hP.keep hpi (Only.of_below (S := fun _ => False) hB) (fun _ _ c => c), fun k c => .inl c, Only.of_below hB, _, _, rfl, .inr ⟨by decide, rfl, .inr ⟨rfl, rfl, rfl⟩⟩⟩
  · rename_i h
    refine (eval_any P hP s vb vd bl dl S0 w hb hd hpi ob od (by omega) (by omega) (by omega)).mono ?_
    rintro e w' ⟨S, h1, h2, h3, h4⟩
    refine ⟨S, h1, h2, h3, ?_⟩
    rcases h4 with ⟨h4, z, h5, h6, rfl⟩ | ⟨h4, bf, rfl, h5, h6⟩
    · exact ⟨_, _, rfl, .inl ⟨h4, z, h5, h6, rfl, rfl⟩⟩
    · exact ⟨_, _, rfl, .inr ⟨h4, rfl, .inl ⟨bf, rfl, h5, h6⟩⟩⟩
theorem TEv.mk7 {PI : World → List (Int × Int) → (Nat → Prop) → Prop} {pv : Value} {kdf : Nat → Int} {gd : Nat → Bool} (hP : Pol PI pv kdf gd) {S0 S : Nat → Prop} {w w0 w' W : World} {r : Int × Int × List St × List (Int × Int)} {e : Ending} (hB0 : Below w.heap.size w w0) (sz : w0.heap.size = w.heap.size + 2) (n0 : ¬ S0 (w.heap.size + 1)) (pi : PI w' r.2.2.2 S) (s0 : ∀ k, S k → S0 k ∨ w0.heap.size ≤ k) (fr : Only S0 w0 w') (h7 : Only (fun k => k = w.heap.size + 1) w' W)
    (he : ∃ v x, e = .returned (.tuple #[v, x]) ∧ ((r.1 = 0 ∧ ∃ z : St, r.2.2.1 = [z] ∧ z.ok ∧ v = z.val ∧ x = .nilIface) ∨ (r.1 ≠ 0 ∧ v = V0 ∧ ErrIs W x r.1 r.2.1))) : TEv S0 PI w r e W := by
  refine ⟨S, hP.keep pi h7 fun k hk c => ?_, fun k hk => (s0 k hk).imp (fun c => c) (fun c => by omega), (only_below hB0 fr).trans h7 (fun _ c => c) (fun k h c => by omega), he⟩
  subst c
  rcases s0 _ hk with c | c
  · exact n0 c
  · omega
set_option maxRecDepth 100000 in
set_option maxHeartbeats 4000000 in
theorem ieval_t (P : Plane) {PI : World → List (Int × Int) → (Nat → Prop) → Prop} {pv : Value} {kdf : Nat → Int} {gd : Nat → Bool} (hP : Pol PI pv kdf gd) (s : ByteArray) (vb vd : Value) (bl : List Bx) (dl : List Dc) (S0 : Nat → Prop) (w : World) (hb : SrcB w vb bl) (hd : SrcD w vd dl) (hpi : PI w [] S0) (ob : ∀ x ∈ bl, x.ok) (od : ∀ x ∈ dl, x.ok) (hs : s.size ≤ 4611686018427387904) (hn : bl.length ≤ 4611686018427387904) (hm : dl.length ≤ 4611686018427387904) :
    Calls Tryz.prog 11 #[.string s, vb, vd, .agg #[pv]] w (TEv S0 PI w (ans P s bl dl kdf gd)) := by
  obtain ⟨w0, hw0⟩ : ∃ v, v = ((w.alloc (.cells #[pv] 32)).alloc (.cells #[.int .i64 0, .float .f64 0, .float .f64 0, .float .f64 0, .float .f64 0, .complex .f64 0 0, .float .f64 0] 44)) := ⟨_, rfl⟩
  have hB0 : Below w.heap.size w w0 := by rw [hw0]; exact bl_alloc (bl_alloc (Below.refl _ _))
  have hpi0 := hP.keep hpi (Only.of_below (S := fun _ => False) hB0) (fun _ _ c => c)
  have h7 : Hid (Seven (w.heap.size + 1) w0) := by rw [hw0]; constructor <;> exact ⟨_, by simp [go_sem]; rfl, by simp [go_sem]⟩
  have hS0 : Hid (¬ S0 (w.heap.size + 1)) := fun c => by have := hP.lt hpi _ c; omega
  have c1x : Hid (w0.cell? ⟨w.heap.size + 1, 1, none⟩ = some (.float .f64 0)) := by
    show w0.cell? ⟨w.heap.size + 1, 1, none⟩ = _
    rw [hw0]; simp [go_sem]
  have s0 : w0.heap.size = w.heap.size + 2 := by rw [hw0]; simp
  have hev := eval_t P hP s vb vd bl dl S0 w0 (hb.below hB0) (hd.below hB0) hpi0 ob od hs hn hm
  go_enter Tryz.func11, Tryz.ntmps11
  go_wp2_with fail
  go_at_call 34
  rw [← hw0]
  clear hw0
  refine hev.mono ?_
  rintro e w' ⟨S, pi, s1, fr, v, x, rfl, hv⟩
  clear hev
  generalize ans P s bl dl kdf gd = r at *
  have h77 := h7.out.only fr hS0.out
  have h78 := h77
  obtain ⟨⟨x0, y0, z0⟩, ⟨x1, y1, z1⟩, ⟨x2, y2, z2⟩, ⟨x3, y3, z3⟩, ⟨x4, y4, z4⟩, ⟨x5, y5, z5⟩, ⟨x6, y6, z6⟩⟩ := h78
  rcases hv with ⟨a1, z, a2, a3, rfl, rfl⟩ | ⟨a1, rfl, a2⟩
  · rcases St.forms z with ⟨z, rfl⟩ | ⟨z, rfl⟩
    · unfold St.val
      go_wp2_with fail
      obtain ⟨W, hW⟩ : ∃ v, v = (((((((w'.setCell ⟨w.heap.size + 1, 0, none⟩ (.int .i64 0)).setCell ⟨w.heap.size + 1, 1, none⟩ (.float .f64 z.a)).setCell ⟨w.heap.size + 1, 2, none⟩ (.float .f64 z.b)).setCell ⟨w.heap.size + 1, 3, none⟩ (.float .f64 z.c)).setCell ⟨w.heap.size + 1, 4, none⟩ (.float .f64 z.d)).setCell ⟨w.heap.size + 1, 5, none⟩ (.complex .f64 0 0)).setCell ⟨w.heap.size + 1, 6, none⟩ (.float .f64 0)) := ⟨_, rfl⟩
      rw [← hW]
      obtain ⟨g0, g1, g2, g3, g4, g5, g6, hO7⟩ := h77.put (.int .i64 0) (.float .f64 z.a) (.float .f64 z.b) (.float .f64 z.c) (.float .f64 z.d) (.complex .f64 0 0) (.float .f64 0) hW
      refine bodyPost_ret (v := .tuple #[St.val (.box z), .nilIface]) (by simp [results, Tryz.results11, go_sem, St.val, *]) rfl ?_
      exact TEv.mk7 hP hB0 s0 hS0.out pi s1 fr hO7 ⟨_, _, rfl, .inl ⟨a1, _, a2, a3, rfl, rfl⟩⟩
    · unfold St.val
      go_wp2_with fail
      obtain ⟨W, hW⟩ : ∃ v, v = (((((((w'.setCell ⟨w.heap.size + 1, 0, none⟩ (.int .i64 1)).setCell ⟨w.heap.size + 1, 1, none⟩ (.float .f64 0)).setCell ⟨w.heap.size + 1, 2, none⟩ (.float .f64 0)).setCell ⟨w.heap.size + 1, 3, none⟩ (.float .f64 0)).setCell ⟨w.heap.size + 1, 4, none⟩ (.float .f64 0)).setCell ⟨w.heap.size + 1, 5, none⟩ (.complex .f64 z.a z.b)).setCell ⟨w.heap.size + 1, 6, none⟩ (.float .f64 z.r)) := ⟨_, rfl⟩
      rw [← hW]
      obtain ⟨g0, g1, g2, g3, g4, g5, g6, hO7⟩ := h77.put (.int .i64 1) (.float .f64 0) (.float .f64 0) (.float .f64 0) (.float .f64 0) (.complex .f64 z.a z.b) (.float .f64 z.r) hW
      refine bodyPost_ret (v := .tuple #[St.val (.disc z), .nilIface]) (by simp [results, Tryz.results11, go_sem, St.val, *]) rfl ?_
      exact TEv.mk7 hP hB0 s0 hS0.out pi s1 fr hO7 ⟨_, _, rfl, .inl ⟨a1, _, a2, a3, rfl, rfl⟩⟩
  · have a3 := a2
    have nb : ∀ bf v, w'.cell? ⟨bf, 1, none⟩ = some (.int .i64 v) → bf ≠ w.heap.size + 1 := fun bf v d c => by
      subst c
      have := fr.cell c1x.out hS0.out
      rw [d] at this
      cases this
    unfold V0
    rcases a3 with ⟨bf, rfl, a3, a4⟩ | ⟨a3, a4, rfl⟩
    · have nbf := nb _ _ a4
      have A3 : Hid (w'.cell? ⟨bf, 0, none⟩ = some (.int .i64 r.2.1) ∧ w'.cell? ⟨bf, 1, none⟩ = some (.int .i64 r.1)) := ⟨a3, a4⟩
      clear a3 a4 a2
      go_wp2_with fail
      obtain ⟨W, hW⟩ : ∃ v, v = (((((((w'.setCell ⟨w.heap.size + 1, 0, none⟩ (.int .i64 0)).setCell ⟨w.heap.size + 1, 1, none⟩ (.float .f64 0)).setCell ⟨w.heap.size + 1, 2, none⟩ (.float .f64 0)).setCell ⟨w.heap.size + 1, 3, none⟩ (.float .f64 0)).setCell ⟨w.heap.size + 1, 4, none⟩ (.float .f64 0)).setCell ⟨w.heap.size + 1, 5, none⟩ (.complex .f64 0 0)).setCell ⟨w.heap.size + 1, 6, none⟩ (.float .f64 0)) := ⟨_, rfl⟩
      rw [← hW]
      obtain ⟨g0, g1, g2, g3, g4, g5, g6, hO7⟩ := h77.put (.int .i64 0) (.float .f64 0) (.float .f64 0) (.float .f64 0) (.float .f64 0) (.complex .f64 0 0) (.float .f64 0) hW
      refine bodyPost_ret (v := .tuple #[V0, .iface 87 (.pointer (some ⟨bf, 0, none⟩))]) (by simp [results, Tryz.results11, go_sem, V0, *]) rfl ?_
      exact TEv.mk7 hP hB0 s0 hS0.out pi s1 fr hO7 ⟨_, _, rfl, .inr ⟨a1, rfl, .inl ⟨bf, rfl, hO7.cell A3.out.1 nbf, hO7.cell A3.out.2 nbf⟩⟩⟩
    · have A3 : Hid (r.1 = 1 ∧ r.2.1 = 0) := ⟨a3, a4⟩
      clear a3 a4 a2
      go_wp2_with fail
      obtain ⟨W, hW⟩ : ∃ v, v = (((((((w'.setCell ⟨w.heap.size + 1, 0, none⟩ (.int .i64 0)).setCell ⟨w.heap.size + 1, 1, none⟩ (.float .f64 0)).setCell ⟨w.heap.size + 1, 2, none⟩ (.float .f64 0)).setCell ⟨w.heap.size + 1, 3, none⟩ (.float .f64 0)).setCell ⟨w.heap.size + 1, 4, none⟩ (.float .f64 0)).setCell ⟨w.heap.size + 1, 5, none⟩ (.complex .f64 0 0)).setCell ⟨w.heap.size + 1, 6, none⟩ (.float .f64 0)) := ⟨_, rfl⟩
      rw [← hW]
      obtain ⟨g0, g1, g2, g3, g4, g5, g6, hO7⟩ := h77.put (.int .i64 0) (.float .f64 0) (.float .f64 0) (.float .f64 0) (.float .f64 0) (.complex .f64 0 0) (.float .f64 0) hW
      refine bodyPost_ret (v := .tuple #[V0, .iface 49 (.int .i64 1)]) (by simp [results, Tryz.results11, go_sem, V0, *]) rfl ?_
      exact TEv.mk7 hP hB0 s0 hS0.out pi s1 fr hO7 ⟨_, _, rfl, .inr ⟨a1, rfl, .inr ⟨A3.out.1, A3.out.2, rfl⟩⟩⟩
theorem tell_any {w : World} {x : Value} {er at_ : Int} (h : ErrIs w x er at_) (hg : w.cell? ⟨0, 0, none⟩ = some (.iface 169 (.agg #[.pointer (some ⟨2, 46, none⟩)]))) : Calls Tryz.prog 12 #[x] w fun e w' => e = .returned (.tuple #[.int .i64 er, .int .i64 at_]) ∧ Below w.heap.size w w' := by
  rcases h with ⟨bf, rfl, h0, h1⟩ | ⟨rfl, rfl, rfl⟩
  · exact tell_fault bf at_ er w hg h0 h1
  · exact tell_no 1 w hg
def verd (r : Int × Int × List St × List (Int × Int)) : Int × Int × List Int := (r.1, if r.1 = 0 then 0 else r.2.1, r.2.2.2.map Prod.snd)
end Go.Proofs.YtacnclofbnafiabGreatDoor

namespace Go.Proofs.YtacnclofbnafiabGreatDoor
open Go.RowKit Fl

/-- The policy of a list that was made. -/
theorem LM.pl {w wr : World} {ks : List Int} {vp : Value} (h : LM w ks vp ks.length wr) : PL wr.heap.size w.heap.size ks vp wr [] (fun k => k = w.heap.size ∨ (Value.slice none 0 0).ownBlock = some k ∨ vp.ownBlock = some k) := by
  have o := h.ow
  rw [List.take_length] at o
  refine ⟨.slice none 0 0, ⟨h.l0, h.l1, h.f1, ?_, World.ownsRow_nil _ _ _ _, Nat.le_refl _, h.lt, fun k c => ?_⟩, rfl⟩
  · refine ⟨o.1, ?_⟩
    rcases o.2 with q | ⟨g, cap, cur, e1, e2, r⟩
    · exact .inl q
    · exact .inr ⟨g, cap, cur, e1, Nat.zero_le _, r⟩
  · have := o.lt k c; exact ⟨this.2, by omega⟩
theorem below_only {B : Nat} {w u v : World} {S : Nat → Prop} (h : Below B w u) (hO : Only S u v) (hB : B ≤ u.heap.size) (hS : ∀ k, S k → B ≤ k) : Below B w v :=
  ⟨hO.os.trans h.os, hO.tape.trans h.tape, hO.output.trans h.output, Nat.le_trans h.size hO.size, fun k hk => (hO.block k (by omega) fun c => by have := hS k c; omega).trans (h.block k hk)⟩
theorem ErrIs.below {w u : World} {x : Value} {er at_ : Int} (h : ErrIs w x er at_) (hb : Below w.heap.size w u) : ErrIs u x er at_ := by
  rcases h with ⟨bf, h1, h2, h3⟩ | h
  · exact .inl ⟨bf, h1, bkeep2 hb h2, bkeep2 hb h3⟩
  · exact .inr h
/-- The forms of what Eval answers. -/
theorem val_forms {v : Value} (h : (∃ z : St, v = z.val) ∨ v = V0) : ∃ k a b c d e f g, v = .agg #[.int .i64 k, .float .f64 a, .float .f64 b, .float .f64 c, .float .f64 d, .complex .f64 e f, .float .f64 g] := by
  rcases h with ⟨z, rfl⟩ | rfl
  · rcases St.forms z with ⟨z, rfl⟩ | ⟨z, rfl⟩
    · exact ⟨_, _, _, _, _, _, _, _, rfl⟩
    · exact ⟨_, _, _, _, _, _, _, _, rfl⟩
  · exact ⟨_, _, _, _, _, _, _, _, rfl⟩
end Go.Proofs.YtacnclofbnafiabGreatDoor
