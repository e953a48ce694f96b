import Derived.Test.YtacnclofbnafiabGreatDoorBS
import Derived.Test.YtacnclofbnafiabGreatDoorAD
namespace Go.Proofs.YtacnclofbnafiabGreatDoor
open Go.RowKit Fl

/-- Over boxes alone: what is left are boxes, and one that was made if something was asked. -/
theorem runs_nm (F : Ops) (P : Plane) (w : World) (bl : List Bx) (ob : ∀ x ∈ bl, x.ok) : ∀ (cs : List Int) (i : Int) (st : List Bx) (qs : List (Int × Int)), (∀ x ∈ st, x.ok) → (qs = [] ∨ ∃ x ∈ st, Nm x) → (runs P (bl.map St.box) [] (fun _ => 0) (fun _ => true) cs i (st.map St.box) qs).1 = 0 →
    ∃ sf : List Bx, (runs P (bl.map St.box) [] (fun _ => 0) (fun _ => true) cs i (st.map St.box) qs).2.2.1 = sf.map St.box ∧ (∀ x ∈ sf, x.ok) ∧ ((runs P (bl.map St.box) [] (fun _ => 0) (fun _ => true) cs i (st.map St.box) qs).2.2.2 = [] ∨ ∃ x ∈ sf, Nm x)
  | [], i, st, qs, ho, hn, _ => ⟨st, rfl, ho, hn⟩
  | c :: cs, i, st, qs, ho, hn, h0 => by
    obtain ⟨h1, h2⟩ := runs_step (R := runs P (bl.map St.box) [] (fun _ => 0) (fun _ => true) (c :: cs) i (st.map St.box) qs) rfl h0
    rw [← h2] at h0 ⊢
    rcases stp_boxes P bl c i st qs h1 with ⟨_, _, x, hx, e⟩ | ⟨st0, x, y, rfl, hc⟩ | ⟨st0, x, rfl, hc⟩
    · rw [e] at h0 ⊢
      refine runs_nm F P w bl ob cs (i + 1) (st ++ [x]) qs (all_ok ho (ob x (List.mem_of_getElem? hx))) ?_ h0
      rcases hn with hn | ⟨u, hu, hm⟩
      · exact .inl hn
      · exact .inr ⟨u, List.mem_append_left _ hu, hm⟩
    · have ho0 : ∀ q ∈ st0, q.ok := fun q hq => ho q (List.mem_append_left _ hq)
      have ox := ho x (by simp)
      have oy := ho y (by simp)
      rcases hc with ⟨_, e⟩ | ⟨_, e⟩ | ⟨_, e⟩ <;> rw [e] at h0 ⊢
      · exact runs_nm F P w bl ob cs (i + 1) (st0 ++ [P.badd x y]) _ (all_ok ho0 (P.hbadd x y ox oy).1) (.inr ⟨_, by simp, (badd_ref F P w ox oy).2⟩) h0
      · exact runs_nm F P w bl ob cs (i + 1) (st0 ++ [P.bsub x y]) _ (all_ok ho0 (P.hbsub x y ox oy).1) (.inr ⟨_, by simp, (bsub_ref F P w ox oy).2⟩) h0
      · exact runs_nm F P w bl ob cs (i + 1) (st0 ++ [P.bmul x y]) _ (all_ok ho0 (P.hbmul x y ox oy).1) (.inr ⟨_, by simp, (bmul_ref F P w ox oy).2⟩) h0
    · have ho0 : ∀ q ∈ st0, q.ok := fun q hq => ho q (List.mem_append_left _ hq)
      have ox := ho x (by simp)
      rcases hc with ⟨_, e⟩ | ⟨_, e⟩ <;> rw [e] at h0 ⊢
      · exact runs_nm F P w bl ob cs (i + 1) (st0 ++ [P.bconj x]) _ (all_ok ho0 (P.hbconj x ox).1) (.inr ⟨_, by simp, (bconj_ref P w ox).2⟩) h0
      · exact runs_nm F P w bl ob cs (i + 1) (st0 ++ [P.bmul x x]) _ (all_ok ho0 (P.hbmul x x ox ox).1) (.inr ⟨_, by simp, (bmul_ref F P w ox ox).2⟩) h0
theorem lkd_nil : lkd [] = fun _ => 0 := rfl
theorem lgd_nil : lgd [] = fun _ => true := rfl
set_option maxRecDepth 100000 in
theorem raw_eq (x : Nat) (w : World) : Calls Tryz.prog 17 #[.float .f64 x, .float .f64 x] w fun e w' => e = .returned (.bool true) ∧ w' = w := by
  go_enter Tryz.func17, Tryz.ntmps17
  go_wp2
  go_ret
  exact ⟨rfl, rfl⟩
set_option maxRecDepth 100000 in
set_option maxHeartbeats 4000000 in
theorem straight_long (s : ByteArray) (nb : Int) (ao : Option Addr) (n c : Nat) (w : World) (h : 1048576 < s.size ∨ 1048576 < n) (_hs : s.size ≤ 9223372036854775807) (_hn : n ≤ 9223372036854775807) :
    Calls Tryz.prog 4 #[.string s, .int .i64 nb, .slice ao n c] w fun e w' => e = .returned (.bool true) ∧ Below w.heap.size w w' := by
  by_cases h1 : (1048576 : Int) < s.size
  · go_enter Tryz.func4, Tryz.ntmps4
    go_wp2
    go_ret
    refine ⟨rfl, ?_⟩
    repeat (first | exact Below.refl _ _ | refine bl_alloc ?_ | refine bl_drewN ?_ _)
  have h2 : (1048576 : Int) < n := by omega
  go_enter Tryz.func4, Tryz.ntmps4
  go_wp2
  go_ret
  refine ⟨rfl, ?_⟩
  repeat (first | exact Below.refl _ _ | refine bl_alloc ?_ | refine bl_drewN ?_ _)
theorem straight_res (F : Ops) (P : Plane) (s : ByteArray) (bl : List Bx) (ob : ∀ x ∈ bl, x.ok) (w : World) (h0 : (ans P s bl [] (fun _ => 0) (fun _ => true)).1 = 0) {z : St} (hz : (ans P s bl [] (fun _ => 0) (fun _ => true)).2.2.1 = [z]) : ∃ z', z = .box z' ∧ ((ans P s bl [] (fun _ => 0) (fun _ => true)).2.2.2 = [] ∨ Nm z') ∧ ∀ v u, SrcB u v bl → Calls Tryz.prog 16 #[.string s, v] u fun e w' => e = .returned z'.v ∧ Below u.heap.size u w' := by
  unfold ans at h0 hz ⊢
  by_cases hl : 60 < s.size ∨ 4 < bl.length ∨ 4 < ([] : List Dc).length
  · rw [if_pos hl] at h0; simp at h0
  · rw [if_neg hl] at h0 hz ⊢
    obtain ⟨sf, h1, h2, h3⟩ := runs_nm F P w bl ob (byts s) 0 [] [] (by simp) (.inl rfl) h0
    have h1' : (runs P (bl.map St.box) [] (fun _ => 0) (fun _ => true) (byts s) 0 [] []).2.2.1 = sf.map St.box := h1
    have hz' : (runs P (bl.map St.box) [] (fun _ => 0) (fun _ => true) (byts s) 0 [] []).2.2.1 = [z] := hz
    have e : sf.map St.box = [z] := by rw [← h1', hz']
    obtain ⟨z', rfl⟩ : ∃ z', sf = [z'] := by
      have := congrArg List.length e
      rw [List.length_map] at this
      exact List.length_eq_one_iff.mp this
    have ez : St.box z' = z := by simpa using e
    subst ez
    refine ⟨z', rfl, ?_, fun v u hs => boxes_ref F P s v bl z' u hs ob (by omega) h0 hz'⟩
    rcases h3 with h3 | ⟨x, hx, hm⟩
    · exact .inl h3
    · rw [List.mem_singleton] at hx; subst hx; exact .inr hm
theorem srcD_nil (w : World) : SrcD w (.slice none 0 0) [] := ⟨⟨none, 0, rfl⟩, fun j x h => by simp at h⟩
theorem lint_nil (w : World) : LInt w (.slice none 0 0) [] := ⟨⟨none, 0, rfl⟩, fun j x h => by simp at h⟩
set_option maxRecDepth 100000 in
set_option maxHeartbeats 4000000 in
theorem straight_any (F : Ops) (P : Plane) (s : ByteArray) (nb : Int) (vl : Value) (f : Nat → Nat) (w : World) (hl : Lst w vl f) (hs : s.size ≤ 9223372036854775807) (hg : w.cell? ⟨0, 0, none⟩ = some (.iface 169 (.agg #[.pointer (some ⟨2, 46, none⟩)]))) :
    Calls Tryz.prog 4 #[.string s, .int .i64 nb, vl] w fun e w' => e = .returned (.bool true) ∧ Below w.heap.size w w' := by
  obtain ⟨ao, n, c, hvl, hn, _⟩ := id hl
  by_cases hlong : 1048576 < s.size ∨ 1048576 < n
  · subst hvl
    exact straight_long s nb ao n c w hlong hs hn
  have h1 : ¬ (1048576 : Int) < s.size := by omega
  have h2 : ¬ (1048576 : Int) < n := by omega
  have HL : Hid (Lst w vl f) := hl
  clear hl hlong
  subst hvl
  go_enter Tryz.func4, Tryz.ntmps4
  go_wp2_with (first
    | (go_at_call 7; refine (boxes_any nb _ f _ HL.out).mono ?_; rintro e w1 ⟨vb, rfl, hb1, hB1⟩; have HB1 : Hid (SrcB w1 vb ((List.range (cnt nb)).map (bxf f))) := hb1; clear hb1))
  have z1 := hB1.size
  have obl := bxf_ok HL.out (cnt nb)
  have hev := ieval_t P nil_pol s vb (.slice none 0 0) _ [] (fun _ => False) w1 HB1.out (srcD_nil w1) rfl obl (by simp) (by omega) (by simp [cnt]; omega) (by simp)
  have hck : Hid (∀ u, Calls Tryz.prog 13 #[.string s, .int .i64 (cnt nb), .int .i64 0, .slice none 0 0] u (Vdt u (verd (ans P s ((List.range (cnt nb)).map (bxf f)) [] (fun _ => 0) (fun _ => true))))) := fun u => by
    have := check_t P s ((List.range (cnt nb)).map (bxf f)) [] (.slice none 0 0) [] u (lint_nil u) (by simp)
    rw [lkd_nil, lgd_nil] at this
    simpa using this
  have hres : Hid (_ → ∀ {z : St}, _ → _) := straight_res F P s ((List.range (cnt nb)).map (bxf f)) obl w
  have her := ans_err P s ((List.range (cnt nb)).map (bxf f)) [] (fun _ => 0) (fun _ => true)
  have hql : Hid ((ans P s ((List.range (cnt nb)).map (bxf f)) [] (fun _ => 0) (fun _ => true)).2.2.2.length ≤ 60) := ans_len P s _ _ _ _
  generalize ans P s ((List.range (cnt nb)).map (bxf f)) [] (fun _ => 0) (fun _ => true) = r at *
  obtain ⟨bo', bc, rfl⟩ := HB1.out.sh
  simp only [List.length_map, List.length_range] at *
  go_at_call 11
  refine hev.mono ?_
  rintro e w5 ⟨S, pi5, s5, fr5, v, x, rfl, hv⟩
  have hw15 := below_only (Below.refl w1.heap.size w1) fr5 (Nat.le_refl _) (fun _ c => c.elim)
  have hw5 : Below w.heap.size w w5 := bl_next hB1 hw15
  clear pi5 s5 fr5 hev
  have hg5 := bkeep2 hw5 hg
  have HB5 : Hid (SrcB w5 (.slice bo' (cnt nb) bc) ((List.range (cnt nb)).map (bxf f))) := HB1.out.below hw15
  have hT : Hid (∀ u, Below w5.heap.size w5 u → Calls Tryz.prog 12 #[x] u fun e w' => e = .returned (.tuple #[.int .i64 r.1, .int .i64 (verd r).2.1]) ∧ Below u.heap.size u w') := fun u hu => by
    rcases hv with ⟨h1, z, _, _, _, rfl⟩ | ⟨h1, _, h2⟩
    · have : (verd r).2.1 = 0 := by unfold verd; simp [h1]
      rw [h1, this]
      exact tell_nil u
    · have : (verd r).2.1 = r.2.1 := by unfold verd; simp [h1]
      rw [this]
      exact tell_any (h2.below hu) (bkeep2 hu hg5)
  have HV : Hid ((r.1 = 0 ∧ ∃ z : Bx, v = (St.box z).val ∧ (r.2.2.2 = [] ∨ Nm z) ∧ ∀ v u, SrcB u v ((List.range (cnt nb)).map (bxf f)) → Calls Tryz.prog 16 #[.string s, v] u fun e w' => e = .returned z.v ∧ Below u.heap.size u w') ∨ (r.1 ≠ 0 ∧ v = V0)) := by
    rcases hv with ⟨h1, z, h2, h3, h4, _⟩ | ⟨h1, h2, _⟩
    · obtain ⟨z', e1, e2, e3⟩ := hres.out h1 h2
      subst e1
      exact .inl ⟨h1, z', h4, e2, e3⟩
    · exact .inr ⟨h1, h2⟩
  obtain ⟨k0, a0, b0, c0, d0, e1, e2, g0, hvv⟩ := val_forms (v := v) (by
    rcases hv with ⟨_, z, _, _, h, _⟩ | ⟨_, h, _⟩
    · exact .inl ⟨z, h⟩
    · exact .inr h)
  subst hvv
  clear hv hres
  go_wp2_with fail
  obtain ⟨W5, hW5⟩ : ∃ v, v = w5.alloc (.cells #[.int .i64 k0, .float .f64 a0, .float .f64 b0, .float .f64 c0, .float .f64 d0, .complex .f64 e1 e2, .float .f64 g0] 44) := ⟨_, rfl⟩
  rw [← hW5]
  have hB5' : Below w5.heap.size w5 W5 := by rw [hW5]; exact bl_alloc (Below.refl _ _)
  have y0 : W5.cell? ⟨w5.heap.size, 0, none⟩ = some (.int .i64 k0) := by rw [hW5]; simp [go_sem]
  have y1 : W5.cell? ⟨w5.heap.size, 1, none⟩ = some (.float .f64 a0) := by rw [hW5]; simp [go_sem]
  have y2 : W5.cell? ⟨w5.heap.size, 2, none⟩ = some (.float .f64 b0) := by rw [hW5]; simp [go_sem]
  have y3 : W5.cell? ⟨w5.heap.size, 3, none⟩ = some (.float .f64 c0) := by rw [hW5]; simp [go_sem]
  have y4 : W5.cell? ⟨w5.heap.size, 4, none⟩ = some (.float .f64 d0) := by rw [hW5]; simp [go_sem]
  have y5 : W5.cell? ⟨w5.heap.size, 5, none⟩ = some (.complex .f64 e1 e2) := by rw [hW5]; simp [go_sem]
  have y6 : W5.cell? ⟨w5.heap.size, 6, none⟩ = some (.float .f64 g0) := by rw [hW5]; simp [go_sem]
  clear hW5
  go_at_call 13
  refine (hck.out W5).mono ?_
  rintro e w7 ⟨vw, rfl, ow7, hb7⟩
  replace y0 := bkeep2 hb7 y0
  replace y1 := bkeep2 hb7 y1
  replace y2 := bkeep2 hb7 y2
  replace y3 := bkeep2 hb7 y3
  replace y4 := bkeep2 hb7 y4
  replace y5 := bkeep2 hb7 y5
  replace y6 := bkeep2 hb7 y6
  have hB7 : Below w5.heap.size w5 w7 := bl_next hB5' hb7
  have ow7' : w7.ownsRow W5.heap.size 3 1 vw r.2.2.2.length (kvs (r.2.2.2.map Prod.snd)) := by simpa [verd] using ow7
  obtain ⟨wo, wc, rfl, _, _, _⟩ := own_shape ow7'
  have l5 : w5.heap.size < w7.heap.size := cell_lt y0
  clear hb7 ow7 ow7' hB5'
  go_wp2_with fail
  obtain ⟨W7, hW7⟩ : ∃ v, v = w7.alloc (.cells #[.int .i64 (verd r).1, .int .i64 (verd r).2.1, .slice wo r.2.2.2.length wc] 53) := ⟨_, rfl⟩
  rw [← hW7]
  have hB8 : Below w7.heap.size w7 W7 := by rw [hW7]; exact bl_alloc (Below.refl _ _)
  have v0 : W7.cell? ⟨w7.heap.size, 0, none⟩ = some (.int .i64 (verd r).1) := by rw [hW7]; simp [go_sem]
  have v2 : W7.cell? ⟨w7.heap.size, 2, none⟩ = some (.slice wo r.2.2.2.length wc) := by rw [hW7]; simp [go_sem]
  clear hW7
  rw [show (verd r).1 = r.1 from rfl] at v0
  have hB9 : Below w5.heap.size w5 W7 := bl_next hB7 hB8
  go_at_call 12
  refine (hT.out W7 hB9).mono ?_
  rintro e w8 ⟨rfl, hb8⟩
  have hB10 : Below w7.heap.size w7 w8 := bl_next hB8 hb8
  replace v0 := bkeep2 hb8 v0
  replace v2 := bkeep2 hb8 v2
  replace y0 := bkeep2 hB10 y0
  replace y1 := bkeep2 hB10 y1
  replace y2 := bkeep2 hB10 y2
  replace y3 := bkeep2 hB10 y3
  replace y4 := bkeep2 hB10 y4
  replace y5 := bkeep2 hB10 y5
  replace y6 := bkeep2 hB10 y6
  have hB11 : Below w5.heap.size w5 w8 := bl_next hB9 hb8
  have hBF : Below w.heap.size w w8 := bl_next hw5 hB11
  have HB8 : Hid (SrcB w8 (.slice bo' (cnt nb) bc) ((List.range (cnt nb)).map (bxf f))) := HB5.out.below hB11
  have l7 : w7.heap.size < w8.heap.size := cell_lt v0
  have l58 : w5.heap.size < w8.heap.size := cell_lt y0
  clear hb8 hB8 hB9 hB10 hB11 hB7 hT hck HB1 HB5
  generalize (verd r).2.1 = pl at *
  generalize r.2.2.2 = qs at *
  generalize r.1 = r1 at *
  rcases HV.out with ⟨h0, z, hz, hm, hbx⟩ | ⟨h0, hz⟩
  · subst h0
    have HZ : Hid (qs = [] ∨ Nm z) := hm
    have HX : Hid (∀ v u, SrcB u v ((List.range (cnt nb)).map (bxf f)) → Calls Tryz.prog 16 #[.string s, v] u fun e w' => e = .returned z.v ∧ Below u.heap.size u w') := hbx
    clear HV hm hbx
    simp only [St.val, Value.agg.injEq, Array.mk.injEq, List.cons.injEq, Value.int.injEq, Value.float.injEq, Value.complex.injEq, true_and, and_true] at hz
    obtain ⟨rfl, rfl, rfl, rfl, rfl, ⟨rfl, rfl⟩, rfl⟩ := hz
    go_wp2_with (go_at_call 15; refine (num_w _ (by omega) (by omega) _).mono ?_; rintro e w9 ⟨rfl, rfl⟩)
    obtain ⟨W9, hW9⟩ : ∃ v, v = w9.alloc (.cells #[.float .f64 z.a, .float .f64 z.b, .float .f64 z.c, .float .f64 z.d] 39) := ⟨_, rfl⟩
    rw [← hW9]
    have hB12 : Below w9.heap.size w9 W9 := by rw [hW9]; exact bl_alloc (Below.refl _ _)
    have o0 : W9.cell? ⟨w9.heap.size, 0, none⟩ = some (.float .f64 z.a) := by rw [hW9]; simp [go_sem]
    have o1 : W9.cell? ⟨w9.heap.size, 1, none⟩ = some (.float .f64 z.b) := by rw [hW9]; simp [go_sem]
    have o2 : W9.cell? ⟨w9.heap.size, 2, none⟩ = some (.float .f64 z.c) := by rw [hW9]; simp [go_sem]
    have o3 : W9.cell? ⟨w9.heap.size, 3, none⟩ = some (.float .f64 z.d) := by rw [hW9]; simp [go_sem]
    clear hW9
    have hX := HX.out _ W9 (HB8.out.below hB12)
    unfold Bx.v at hX
    go_at_call 16
    refine hX.mono ?_
    rintro e w10 ⟨rfl, hb10⟩
    have hB13 : Below w9.heap.size w9 w10 := bl_next hB12 hb10
    replace v2 := bkeep2 hB13 v2
    replace o0 := bkeep2 hb10 o0
    replace o1 := bkeep2 hb10 o1
    replace o2 := bkeep2 hb10 o2
    replace o3 := bkeep2 hb10 o3
    have hBH : Below w.heap.size w w10 := bl_next hBF hB13
    have l9 : w9.heap.size < w10.heap.size := cell_lt o0
    have l7' : w7.heap.size < w10.heap.size := cell_lt v2
    clear hX hb10 hB12 hB13 y0 y1 y2 y3 y4 y5 y6 v0 HX HB8
    obtain ⟨W10, hW10⟩ : ∃ v, v = w10.alloc (.cells #[.float .f64 z.a, .float .f64 z.b, .float .f64 z.c, .float .f64 z.d] 39) := ⟨_, rfl⟩
    have hBW : Below w.heap.size w W10 := by rw [hW10]; exact bl_alloc hBH
    have hB14 : Below w10.heap.size w10 W10 := by rw [hW10]; exact bl_alloc (Below.refl _ _)
    have m0 : W10.cell? ⟨w10.heap.size, 0, none⟩ = some (.float .f64 z.a) := by rw [hW10]; simp [go_sem]
    have m1 : W10.cell? ⟨w10.heap.size, 1, none⟩ = some (.float .f64 z.b) := by rw [hW10]; simp [go_sem]
    have m2 : W10.cell? ⟨w10.heap.size, 2, none⟩ = some (.float .f64 z.c) := by rw [hW10]; simp [go_sem]
    have m3 : W10.cell? ⟨w10.heap.size, 3, none⟩ = some (.float .f64 z.d) := by rw [hW10]; simp [go_sem]
    have u0 := bkeep2 hB14 o0
    have u1 := bkeep2 hB14 o1
    have u2 := bkeep2 hB14 o2
    have u3 := bkeep2 hB14 o3
    have hl60 := hql.out
    by_cases hq : qs = []
    · subst hq
      go_wp2_with fail
      rw [← hW10]
      clear hW10 o0 o1 o2 o3 v2
      go_wp2_with (go_at_call 17; refine (raw_eq _ _).mono ?_; rintro e w11 ⟨rfl, rfl⟩)
      go_ret
      exact ⟨rfl, hBW⟩
    · have hqn : ¬ ((qs.length : Int) = 0) := fun c => hq (List.eq_nil_of_length_eq_zero (by omega))
      obtain ⟨n1, n2, n3, n4, q1, q2, q3, q4, rfl⟩ := HZ.out.resolve_left hq
      go_wp2_with fail
      go_at_call 18
      refine (alikeBox_any q1 q2 q3 q4 _).mono ?_
      rintro e w11 ⟨rfl, hb11⟩
      go_wp2_with fail
      go_ret
      exact ⟨rfl, bl_next (bl_alloc hBH) hb11⟩
  · have h0' : (r1 != 0) = true := by simp [h0]
    clear HV
    have hzw := zero_w
    rw [V0] at hz
    rw [← hz] at hzw
    go_wp2_with fail
    go_at_call 14
    refine (zero_w _).mono ?_
    rintro e w9 ⟨rfl, hb9⟩
    replace v0 := bkeep2 hb9 v0
    have hBG : Below w.heap.size w w9 := bl_next hBF hb9
    go_wp2_with fail
    go_quiet ((go_at_call 15; exact Calls.quiet_of_same (num_w _ (by omega) (by omega) _)))
    go_wp2_with fail
    go_ret
    exact ⟨rfl, bl_drewN hBG _⟩
end Go.Proofs.YtacnclofbnafiabGreatDoor
