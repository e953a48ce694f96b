import Derived.Test.YtacnclofbnafiabGreatDoorA6
import Derived.Deep.QuietTactic
namespace Go.Proofs.YtacnclofbnafiabGreatDoor
open Go.RowKit Fl

set_option maxRecDepth 100000 in
set_option maxHeartbeats 4000000 in
theorem faults_long (s : ByteArray) (nb nd : Int) (ao bo : Option Addr) (n c m d : Nat) (w : World) (h : 1048576 < s.size ∨ 1048576 < n ∨ 1048576 < m) (_hs : s.size ≤ 9223372036854775807) (_hn : n ≤ 9223372036854775807) (_hm : m ≤ 9223372036854775807) :
    Calls Tryz.prog 3 #[.string s, .int .i64 nb, .int .i64 nd, .slice ao n c, .slice bo m d] w fun e w' => e = .returned (.bool true) ∧ Below w.heap.size w w' := by
  by_cases h1 : (1048576 : Int) < s.size
  · go_enter Tryz.func3, Tryz.ntmps3
    go_wp2
    go_ret
    refine ⟨rfl, ?_⟩
    repeat (first | exact Below.refl _ _ | refine bl_alloc ?_ | refine bl_drewN ?_ _)
  by_cases h2 : (1048576 : Int) < n
  · go_enter Tryz.func3, Tryz.ntmps3
    go_wp2
    go_ret
    refine ⟨rfl, ?_⟩
    repeat (first | exact Below.refl _ _ | refine bl_alloc ?_ | refine bl_drewN ?_ _)
  have h3 : (1048576 : Int) < m := by omega
  go_enter Tryz.func3, Tryz.ntmps3
  go_wp2
  go_ret
  refine ⟨rfl, ?_⟩
  repeat (first | exact Below.refl _ _ | refine bl_alloc ?_ | refine bl_drewN ?_ _)
/-- The policy of a list that was made. -/
theorem LM.pl {w wr : World} {ks : List Int} {vp : Value} (h : LM w ks vp ks.length wr) : PL wr.heap.size w.heap.size ks vp wr [] (fun k => k = w.heap.size ∨ (Value.slice none 0 0).ownBlock = some k ∨ vp.ownBlock = some k) := by
  have o := h.ow
  rw [List.take_length] at o
  refine ⟨.slice none 0 0, ⟨h.l0, h.l1, h.f1, ?_, World.ownsRow_nil _ _ _ _, Nat.le_refl _, h.lt, fun k c => ?_⟩, rfl⟩
  · refine ⟨o.1, ?_⟩
    rcases o.2 with q | ⟨g, cap, cur, e1, e2, r⟩
    · exact .inl q
    · exact .inr ⟨g, cap, cur, e1, Nat.zero_le _, r⟩
  · have := o.lt k c; exact ⟨this.2, by omega⟩
theorem below_only {B : Nat} {w u v : World} {S : Nat → Prop} (h : Below B w u) (hO : Only S u v) (hB : B ≤ u.heap.size) (hS : ∀ k, S k → B ≤ k) : Below B w v :=
  ⟨hO.os.trans h.os, hO.tape.trans h.tape, hO.output.trans h.output, Nat.le_trans h.size hO.size, fun k hk => (hO.block k (by omega) fun c => by have := hS k c; omega).trans (h.block k hk)⟩
theorem ErrIs.below {w u : World} {x : Value} {er at_ : Int} (h : ErrIs w x er at_) (hb : Below w.heap.size w u) : ErrIs u x er at_ := by
  rcases h with ⟨bf, h1, h2, h3⟩ | h
  · exact .inl ⟨bf, h1, bkeep2 hb h2, bkeep2 hb h3⟩
  · exact .inr h
theorem stp_err (P : Plane) (bs ds : List St) (kdf : Nat → Int) (gd : Nat → Bool) (c i : Int) (st : List St) (qs : List (Int × Int)) : 0 ≤ (stp P bs ds kdf gd c i st qs).1 ∧ (stp P bs ds kdf gd c i st qs).1 ≤ 5 := by
  unfold stp
  repeat' split
  all_goals simp
theorem runs_err (P : Plane) (bs ds : List St) (kdf : Nat → Int) (gd : Nat → Bool) : ∀ (cs : List Int) (i : Int) (st : List St) (qs : List (Int × Int)), 0 ≤ (runs P bs ds kdf gd cs i st qs).1 ∧ (runs P bs ds kdf gd cs i st qs).1 ≤ 5
  | [], i, st, qs => by
    rw [runs_nil]
    show 0 ≤ (if _ then (0 : Int) else 4) ∧ (if _ then (0 : Int) else 4) ≤ 5
    split <;> simp
  | c :: cs, i, st, qs => by
    rw [runs_cons]
    split
    · exact runs_err P bs ds kdf gd cs (i + 1) _ _
    · exact stp_err P bs ds kdf gd c i st qs
theorem ans_err (P : Plane) (s : ByteArray) (bl : List Bx) (dl : List Dc) (kdf : Nat → Int) (gd : Nat → Bool) : 0 ≤ (ans P s bl dl kdf gd).1 ∧ (ans P s bl dl kdf gd).1 ≤ 5 := by
  unfold ans
  split
  · simp
  · exact runs_err P _ _ kdf gd _ _ _ _
theorem ans_asked (P : Plane) (s : ByteArray) (bl : List Bx) (dl : List Dc) (kdf : Nat → Int) (gd : Nat → Bool) : ∀ q ∈ (ans P s bl dl kdf gd).2.2.2, ∃ j : Nat, q.2 = j ∧ (byts s)[j]? = some q.1 := by
  unfold ans
  split
  · simp
  · exact runs_asked P _ _ kdf gd (byts s) (byts s) 0 [] [] rfl (by simp)
theorem asked_len (P : Plane) (bs ds : List St) (kdf : Nat → Int) (gd : Nat → Bool) : ∀ (cs : List Int) (i : Int) (st : List St) (qs : List (Int × Int)), (runs P bs ds kdf gd cs i st qs).2.2.2.length ≤ cs.length + qs.length
  | [], i, st, qs => by rw [runs_nil]; simp
  | c :: cs, i, st, qs => by
    have h := (stp_len P bs ds kdf gd c i st qs).2
    rw [runs_cons]
    split
    · have := asked_len P bs ds kdf gd cs (i + 1) (stp P bs ds kdf gd c i st qs).2.1 (stp P bs ds kdf gd c i st qs).2.2
      simp only [List.length_cons]; omega
    · show (stp P bs ds kdf gd c i st qs).2.2.length ≤ _
      simp only [List.length_cons]; omega
theorem ans_len (P : Plane) (s : ByteArray) (bl : List Bx) (dl : List Dc) (kdf : Nat → Int) (gd : Nat → Bool) : (ans P s bl dl kdf gd).2.2.2.length ≤ 60 := by
  unfold ans
  split
  · simp
  · rename_i h
    have := asked_len P (bl.map St.box) (dl.map St.disc) kdf gd (byts s) 0 [] []
    rw [byts_len] at this
    simp at this
    omega
/-- The forms of what Eval answers. -/
theorem val_forms {v : Value} (h : (∃ z : St, v = z.val) ∨ v = V0) : ∃ k a b c d e f g, v = .agg #[.int .i64 k, .float .f64 a, .float .f64 b, .float .f64 c, .float .f64 d, .complex .f64 e f, .float .f64 g] := by
  rcases h with ⟨z, rfl⟩ | rfl
  · rcases St.forms z with ⟨z, rfl⟩ | ⟨z, rfl⟩
    · exact ⟨_, _, _, _, _, _, _, _, rfl⟩
    · exact ⟨_, _, _, _, _, _, _, _, rfl⟩
  · exact ⟨_, _, _, _, _, _, _, _, rfl⟩
theorem bxf_ok {w : World} {v : Value} {f : Nat → Nat} (h : Lst w v f) (n : Nat) : ∀ x ∈ (List.range n).map (bxf f), x.ok := by
  intro x hx
  obtain ⟨i, _, rfl⟩ := List.mem_map.mp hx
  exact ⟨h.lt _, h.lt _, h.lt _, h.lt _⟩
theorem dcf_ok {w : World} {v : Value} {f : Nat → Nat} (h : Lst w v f) (n : Nat) : ∀ x ∈ (List.range n).map (dcf f), x.ok := by
  intro x hx
  obtain ⟨i, _, rfl⟩ := List.mem_map.mp hx
  exact ⟨h.lt _, h.lt _, h.lt _⟩
theorem flat_at {l : List (Int × Int)} {j : Nat} {q : Int × Int} (h : l[j]? = some q) : (flat l)[j * 2]? = some (.int .u8 q.1) ∧ (flat l)[j * 2 + 1]? = some (.int .i64 q.2) := by
  induction l generalizing j with
  | nil => simp at h
  | cons y l ih =>
    have e : flat (y :: l) = .int .u8 y.1 :: .int .i64 y.2 :: flat l := rfl
    cases j with
    | zero => simp at h; subst h; rw [e]; simp
    | succ j =>
      simp at h
      rw [e]
      have := ih h
      exact ⟨by rw [show (j + 1) * 2 = j * 2 + 1 + 1 by omega]; simpa using this.1, by rw [show (j + 1) * 2 + 1 = j * 2 + 1 + 1 + 1 by omega]; simpa using this.2⟩
theorem byts_at {s : ByteArray} {j : Nat} {c : Int} (h : (byts s)[j]? = some c) : ∃ hj : j < s.size, c = ((s[j]'hj).toNat : Int) := by
  obtain ⟨h1, h2⟩ := List.getElem?_eq_some_iff.mp h
  rw [byts_len] at h1
  refine ⟨h1, ?_⟩
  rw [← h2]
  simp [byts]; rfl
theorem asked_at {w : World} {b1 b2 : Nat} {s : ByteArray} {qs : List (Int × Int)} {xo wo : Option Addr} {xc wc : Nat} (oA : w.ownsRow b1 62 2 (.slice xo qs.length xc) qs.length (flat qs)) (oW : w.ownsRow b2 3 1 (.slice wo qs.length wc) qs.length (kvs (qs.map Prod.snd))) (hq : ∀ q ∈ qs, ∃ j : Nat, q.2 = j ∧ (byts s)[j]? = some q.1) {k : Nat} (hk : k < qs.length) :
    ∃ gA gB j, ∃ hj : j < s.size, xo = some ⟨gA, 0, none⟩ ∧ wo = some ⟨gB, 0, none⟩ ∧ w.cell? ⟨gA, k * 2, none⟩ = some (.int .u8 ((s[j]'hj).toNat : Int)) ∧ w.cell? ⟨gA, k * 2 + 1, none⟩ = some (.int .i64 (j : Int)) ∧ w.cell? ⟨gB, k, none⟩ = some (.int .i64 (j : Int)) := by
  obtain ⟨q, hqk⟩ : ∃ q, qs[k]? = some q := ⟨qs[k], by simp [hk]⟩
  obtain ⟨j, h1, h2⟩ := hq q (List.mem_of_getElem? hqk)
  obtain ⟨hj, h3⟩ := byts_at h2
  have sh : ∀ {b : Nat} {t : TypeId} {sz c : Nat} {o : Option Addr} {xs : List Value}, w.ownsRow b t sz (.slice o qs.length c) qs.length xs → ∃ g, o = some ⟨g, 0, none⟩ := fun h => by
    rcases h.2 with ⟨e, _⟩ | ⟨g, cap, cur, e, _⟩
    · injection e with _ e2 _; omega
    · injection e with e1 _ _; exact ⟨g, e1⟩
  obtain ⟨gA, rfl⟩ := sh oA
  obtain ⟨gB, rfl⟩ := sh oW
  have f1 := flat_at hqk
  refine ⟨gA, gB, j, hj, rfl, rfl, ?_, ?_, ?_⟩
  · rw [← h3]; exact own_at oA rfl f1.1
  · rw [← h1]; exact own_at oA rfl f1.2
  · rw [← h1]; exact own_at oW rfl (by simp [kvs, hqk])
set_option maxRecDepth 100000 in
set_option maxHeartbeats 4000000 in
theorem faults_any (P : Plane) (s : ByteArray) (nb nd : Int) (vl : Value) (f : Nat → Nat) (vk : Value) (ks : List Int) (w : World) (hl : Lst w vl f) (hk : LInt w vk ks) (hs : s.size ≤ 9223372036854775807) (hkl : ks.length ≤ 9223372036854775807) (hg : w.cell? ⟨0, 0, none⟩ = some (.iface 169 (.agg #[.pointer (some ⟨2, 46, none⟩)]))) :
    Calls Tryz.prog 3 #[.string s, .int .i64 nb, .int .i64 nd, vl, vk] w fun e w' => e = .returned (.bool true) ∧ Below w.heap.size w w' := by
  obtain ⟨ao, n, c, hvl, hn, _⟩ := id hl
  obtain ⟨bo, d, hvk⟩ := hk.sh
  by_cases hlong : 1048576 < s.size ∨ 1048576 < n ∨ 1048576 < ks.length
  · subst hvl hvk
    exact faults_long s nb nd ao bo n c ks.length d w hlong hs hn hkl
  have h1 : ¬ (1048576 : Int) < s.size := by omega
  have h2 : ¬ (1048576 : Int) < n := by omega
  have h3 : ¬ (1048576 : Int) < ks.length := by omega
  have HL : Hid (Lst w vl f) := hl
  have HK : Hid (LInt w vk ks) := hk
  clear hl hk hlong
  subst hvl hvk
  go_enter Tryz.func3, Tryz.ntmps3
  go_wp2_with (first
    | (go_at_call 7; refine (boxes_any nb _ f _ HL.out).mono ?_; rintro e w1 ⟨vb, rfl, hb1, hB1⟩; have HB1 : Hid (SrcB w1 vb ((List.range (cnt nb)).map (bxf f))) := hb1; clear hb1)
    | (go_at_call 8; refine (discs_any nd _ f _ (HL.out.below hB1)).mono ?_; rintro e w2 ⟨vd, rfl, hd2, hB2⟩; have HD2 : Hid (SrcD w2 vd ((List.range (cnt nd)).map (dcf f))) := hd2; clear hd2; have hB2' := hB1.trans (hB2.mono hB1.size))
    | (go_at_call 9; refine (listed_any _ ks _ (HK.out.below hB2') (by omega)).mono ?_; rintro e w3 ⟨rfl, vp, hM3⟩; have HM3 : Hid (LM w2 ks vp ks.length w3) := hM3; clear hM3)
    | (go_at_call 10; refine (policy_w _ _).mono ?_; rintro e w4 ⟨rfl, hB4⟩))
  have z1 := hB1.size
  have z2 := hB2.size
  have z3 := HM3.out.bl.size
  have z4 := hB4.size
  obtain ⟨W4, hW4⟩ : ∃ v, v = w4.alloc (.cells #[.func (.func 33) #[.pointer (some ⟨w2.heap.size, 0, none⟩)] #[]] 32) := ⟨_, rfl⟩
  rw [← hW4]
  have hB5 : Below w3.heap.size w3 W4 := by rw [hW4]; exact hB4.trans (bl_alloc (Below.refl _ _) |>.mono z4)
  have z5 := hB5.size
  have hBD : Below w2.heap.size w2 W4 := HM3.out.bl.trans (hB5.mono z3)
  have hBB : Below w1.heap.size w1 W4 := hB2.trans (hBD.mono z2)
  have hBW : Below w.heap.size w W4 := hB1.trans (hBB.mono z1)
  clear hW4
  have hP := listed_pol w3.heap.size w2.heap.size ks vp (by omega)
  have hpi := hP.keep HM3.out.pl (Only.of_below (S := fun _ => False) hB5) (fun _ _ c => c)
  have hev := ieval_t P hP s vb vd _ _ _ W4 (HB1.out.below hBB) (HD2.out.below hBD) hpi (bxf_ok HL.out _) (dcf_ok HL.out _) (by omega) (by simp [cnt]; omega) (by simp [cnt]; omega)
  have hS0 : ∀ k, (k = w2.heap.size ∨ (Value.slice none 0 0).ownBlock = some k ∨ vp.ownBlock = some k) → w.heap.size ≤ k := by
    rintro k (c | c | c)
    · omega
    · cases c
    · have := (HM3.out.ow.lt k c).1; omega
  have hck : Hid (∀ u, Below w.heap.size w u → Calls Tryz.prog 13 #[.string s, .int .i64 ((List.range (cnt nb)).map (bxf f)).length, .int .i64 ((List.range (cnt nd)).map (dcf f)).length, .slice bo ks.length d] u (Vdt u (verd (ans P s ((List.range (cnt nb)).map (bxf f)) ((List.range (cnt nd)).map (dcf f)) (lkd ks) (lgd ks))))) := fun u hu => check_t P s _ _ _ ks u (HK.out.below hu) (by omega)
  have her := ans_err P s ((List.range (cnt nb)).map (bxf f)) ((List.range (cnt nd)).map (dcf f)) (lkd ks) (lgd ks)
  have hqs : Hid (∀ q ∈ (ans P s ((List.range (cnt nb)).map (bxf f)) ((List.range (cnt nd)).map (dcf f)) (lkd ks) (lgd ks)).2.2.2, ∃ j : Nat, q.2 = j ∧ (byts s)[j]? = some q.1) := ans_asked P s _ _ _ _
  have hql : Hid ((ans P s ((List.range (cnt nb)).map (bxf f)) ((List.range (cnt nd)).map (dcf f)) (lkd ks) (lgd ks)).2.2.2.length ≤ 60) := ans_len P s _ _ _ _
  generalize ans P s ((List.range (cnt nb)).map (bxf f)) ((List.range (cnt nd)).map (dcf f)) (lkd ks) (lgd ks) = r at *
  obtain ⟨bo', bc, rfl⟩ := HB1.out.sh
  obtain ⟨do', dc, rfl⟩ := HD2.out.sh
  simp only [List.length_map, List.length_range] at *
  go_at_call 11
  refine hev.mono ?_
  rintro e w5 ⟨S, pi5, s5, fr5, v, x, rfl, hv⟩
  have hw5 := below_only hBW fr5 (by omega) hS0
  have z6 := fr5.size
  obtain ⟨va, LI5, hS⟩ := pi5
  clear hS s5 hev hS0 hP hpi
  have hg5 := bkeep2 hw5 hg
  have hT : Hid (∀ u, Below w5.heap.size w5 u → Calls Tryz.prog 12 #[x] u fun e w' => e = .returned (.tuple #[.int .i64 r.1, .int .i64 (verd r).2.1]) ∧ Below u.heap.size u w') := fun u hu => by
    rcases hv with ⟨h1, z, _, _, _, rfl⟩ | ⟨h1, _, h2⟩
    · have : (verd r).2.1 = 0 := by unfold verd; simp [h1]
      rw [h1, this]
      exact tell_nil u
    · have : (verd r).2.1 = r.2.1 := by unfold verd; simp [h1]
      rw [this]
      exact tell_any (h2.below hu) (bkeep2 hu hg5)
  have hZ : Hid (∀ u, Calls Tryz.prog 14 #[v] u fun e w' => ∃ b, e = .returned (.bool b) ∧ (r.1 = 0 ∨ b = true) ∧ Below u.heap.size u w') := fun u => by
    rcases hv with ⟨h1, z, _, _, rfl, _⟩ | ⟨h1, rfl, h2⟩
    · refine (zero_any z u).mono ?_
      rintro e w' ⟨⟨b, rfl⟩, hb⟩
      exact ⟨b, rfl, .inl h1, hb⟩
    · refine (zero_w u).mono ?_
      rintro e w' ⟨rfl, hb⟩
      exact ⟨true, rfl, .inr rfl, hb⟩
  obtain ⟨k0, a0, b0, c0, d0, e1, e2, g0, rfl⟩ := val_forms (v := v) (by
    rcases hv with ⟨_, z, _, _, h, _⟩ | ⟨_, h, _⟩
    · exact .inl ⟨z, h⟩
    · exact .inr h)
  clear hv
  have HLI : Hid (LI w5 w3.heap.size w2.heap.size ks vp va r.2.2.2) := LI5
  clear LI5 fr5
  go_wp2_with fail
  obtain ⟨W5, hW5⟩ : ∃ v, v = w5.alloc (.cells #[.int .i64 k0, .float .f64 a0, .float .f64 b0, .float .f64 c0, .float .f64 d0, .complex .f64 e1 e2, .float .f64 g0] 44) := ⟨_, rfl⟩
  rw [← hW5]
  have hB5' : Below w5.heap.size w5 W5 := by rw [hW5]; exact bl_alloc (Below.refl _ _)
  have y0 : W5.cell? ⟨w5.heap.size, 0, none⟩ = some (.int .i64 k0) := by rw [hW5]; simp [go_sem]
  have y1 : W5.cell? ⟨w5.heap.size, 1, none⟩ = some (.float .f64 a0) := by rw [hW5]; simp [go_sem]
  have y2 : W5.cell? ⟨w5.heap.size, 2, none⟩ = some (.float .f64 b0) := by rw [hW5]; simp [go_sem]
  have y3 : W5.cell? ⟨w5.heap.size, 3, none⟩ = some (.float .f64 c0) := by rw [hW5]; simp [go_sem]
  have y4 : W5.cell? ⟨w5.heap.size, 4, none⟩ = some (.float .f64 d0) := by rw [hW5]; simp [go_sem]
  have y5 : W5.cell? ⟨w5.heap.size, 5, none⟩ = some (.complex .f64 e1 e2) := by rw [hW5]; simp [go_sem]
  have y6 : W5.cell? ⟨w5.heap.size, 6, none⟩ = some (.float .f64 g0) := by rw [hW5]; simp [go_sem]
  clear hW5
  go_at_call 12
  refine (hT.out W5 hB5').mono ?_
  rintro e w6 ⟨rfl, hb6⟩
  replace y0 := bkeep2 hb6 y0
  replace y1 := bkeep2 hb6 y1
  replace y2 := bkeep2 hb6 y2
  replace y3 := bkeep2 hb6 y3
  replace y4 := bkeep2 hb6 y4
  replace y5 := bkeep2 hb6 y5
  replace y6 := bkeep2 hb6 y6
  have hB6 : Below w5.heap.size w5 w6 := bl_next hB5' hb6
  clear hb6 hB5'
  go_wp2_with fail
  go_at_call 13
  refine (hck.out w6 (bl_next hw5 hB6)).mono ?_
  rintro e w7 ⟨vw, rfl, ow7, hb7⟩
  replace y0 := bkeep2 hb7 y0
  replace y1 := bkeep2 hb7 y1
  replace y2 := bkeep2 hb7 y2
  replace y3 := bkeep2 hb7 y3
  replace y4 := bkeep2 hb7 y4
  replace y5 := bkeep2 hb7 y5
  replace y6 := bkeep2 hb7 y6
  have hB7 : Below w5.heap.size w5 w7 := bl_next hB6 hb7
  have z7 := hB6.size
  have ow7' : w7.ownsRow w6.heap.size 3 1 vw r.2.2.2.length (kvs (r.2.2.2.map Prod.snd)) := by simpa [verd] using ow7
  obtain ⟨wo, wc, rfl, _, _, _⟩ := own_shape ow7'
  have OW7 : Hid (w7.ownsRow w6.heap.size 3 1 (.slice wo r.2.2.2.length wc) r.2.2.2.length (kvs (r.2.2.2.map Prod.snd))) := ow7'
  clear hb7 hB6 ow7 ow7'
  have l5 : w5.heap.size < w7.heap.size := cell_lt y0
  go_wp2_with fail
  obtain ⟨W7, hW7⟩ : ∃ v, v = w7.alloc (.cells #[.int .i64 (verd r).1, .int .i64 (verd r).2.1, .slice wo r.2.2.2.length wc] 53) := ⟨_, rfl⟩
  rw [← hW7]
  have hB8 : Below w7.heap.size w7 W7 := by rw [hW7]; exact bl_alloc (Below.refl _ _)
  have v0 : W7.cell? ⟨w7.heap.size, 0, none⟩ = some (.int .i64 (verd r).1) := by rw [hW7]; simp [go_sem]
  have v1 : W7.cell? ⟨w7.heap.size, 1, none⟩ = some (.int .i64 (verd r).2.1) := by rw [hW7]; simp [go_sem]
  have v2 : W7.cell? ⟨w7.heap.size, 2, none⟩ = some (.slice wo r.2.2.2.length wc) := by rw [hW7]; simp [go_sem]
  clear hW7 y0 y1 y2 y3 y4 y5 y6
  rw [show (verd r).1 = r.1 from rfl] at v0
  go_at_call 14
  refine (hZ.out W7).mono ?_
  rintro e w8 ⟨bz, rfl, hbz, hb8⟩
  replace v0 := bkeep2 hb8 v0
  replace v1 := bkeep2 hb8 v1
  replace v2 := bkeep2 hb8 v2
  have hB9 : Below w7.heap.size w7 w8 := bl_next hB8 hb8
  have hB10 : Below w5.heap.size w5 w8 := bl_next hB7 hB9
  have a1 := bkeep2 hB10 HLI.out.l1
  obtain ⟨xo, xc, rfl, _, _, _⟩ := own_shape HLI.out.ha
  have OA : Hid (w8.ownsRow w3.heap.size 62 2 (.slice xo r.2.2.2.length xc) r.2.2.2.length (flat r.2.2.2)) := keep_own HLI.out.ha hB10
  have OW : Hid (w8.ownsRow w6.heap.size 3 1 (.slice wo r.2.2.2.length wc) r.2.2.2.length (kvs (r.2.2.2.map Prod.snd))) := keep_own OW7.out hB9
  have hBF : Below w.heap.size w w8 := bl_next hw5 hB10
  clear hb8 hB8 hB9 hB10 OW7 HLI hB7 hT hZ hck HB1 HD2 HM3
  generalize (verd r).2.1 = pl at *
  generalize r.2.2.2 = qs at *
  generalize r.1 = r1 at *
  by_cases h0 : r1 = 0
  · subst h0
    go_wp2_with fail
    go_quiet ((go_at_call 15; exact Calls.quiet_of_same (num_w _ (by omega) (by omega) _)))
    go_wp2_with fail
    go_loopw [21] (fun i wr => ∃ k : Nat, k ≤ qs.length ∧ i = .int .i64 k ∧ ∃ m, wr = w8.drewN m) (fun i _ => qs.length - (intOf i).toNat)
    case atStart => exact ⟨0, Nat.zero_le _, rfl, _, rfl⟩
    case round =>
      rename World => wr
      obtain ⟨k, hk, rfl, m, rfl⟩ := hrel
      by_cases hlt : k < qs.length
      · have hltI : (k : Int) < (qs.length : Int) := by omega
        obtain ⟨gA, gB, j, hj, eA, eB, cA, cB, cC⟩ := asked_at OA.out OW.out hqs.out hlt
        cases eA
        cases eB
        have hjI : (j : Int) < (s.size : Int) := by omega
        have hql' := hql.out
        go_wp2_with fail
        go_quiet (fail)
        go_wp2_with fail
        go_roundw
        case rel => exact ⟨k + 1, by omega, by go_num, _, rfl⟩
        case measure => simp [intOf]; omega
      · have hkn : k = qs.length := by omega
        subst hkn
        go_wp2_with fail
        go_ret
        exact ⟨rfl, bl_drewN hBF _⟩
  · have hz : bz = true := hbz.resolve_left h0
    subst hz
    have h0' : (r1 != 0) = true := by simp [h0]
    go_wp2_with fail
    go_quiet ((go_at_call 15; exact Calls.quiet_of_same (num_w _ (by omega) (by omega) _)))
    go_wp2_with fail
    go_loopw [21] (fun i wr => ∃ k : Nat, k ≤ qs.length ∧ i = .int .i64 k ∧ ∃ m, wr = w8.drewN m) (fun i _ => qs.length - (intOf i).toNat)
    case atStart => exact ⟨0, Nat.zero_le _, rfl, _, rfl⟩
    case round =>
      rename World => wr
      obtain ⟨k, hk, rfl, m, rfl⟩ := hrel
      by_cases hlt : k < qs.length
      · have hltI : (k : Int) < (qs.length : Int) := by omega
        obtain ⟨gA, gB, j, hj, eA, eB, cA, cB, cC⟩ := asked_at OA.out OW.out hqs.out hlt
        cases eA
        cases eB
        have hjI : (j : Int) < (s.size : Int) := by omega
        have hql' := hql.out
        go_wp2_with fail
        go_quiet (fail)
        go_wp2_with fail
        go_roundw
        case rel => exact ⟨k + 1, by omega, by go_num, _, rfl⟩
        case measure => simp [intOf]; omega
      · have hkn : k = qs.length := by omega
        subst hkn
        go_wp2_with fail
        go_ret
        exact ⟨rfl, bl_drewN hBF _⟩
end Go.Proofs.YtacnclofbnafiabGreatDoor
