import Derived.Test.YtacnclofbnafiabGreatDoorER
import Derived.Test.YtacnclofbnafiabGreatDoorEG
import Derived.Test.YtacnclofbnafiabGreatDoorAD
namespace Go.Proofs.YtacnclofbnafiabGreatDoor
open Go.RowKit Fl

theorem tmod64 (x : Int) : -63 ≤ x.tmod 64 ∧ x.tmod 64 ≤ 63 := by
  have := Int.tmod_lt_of_pos x (show (0 : Int) < 64 by omega)
  have := Int.lt_tmod_of_pos x (show (0 : Int) < 64 by omega)
  omega
theorem and1_is (n : Int) : bits .and .i64 n 1 = n % 2 := by
  have h1 : (BitVec.ofInt 64 1).toNat = 2 ^ 1 - 1 := by decide
  have key : (BitVec.ofInt 64 n &&& BitVec.ofInt 64 1).toNat = (n % ((2 ^ 64 : Nat) : Int)).toNat % 2 ^ 1 := by
    rw [BitVec.toNat_and, BitVec.toNat_ofInt, h1, Nat.and_two_pow_sub_one_eq_mod]
  show IntKind.i64.wrap ((BitVec.ofInt 64 n &&& BitVec.ofInt 64 1).toNat : Nat) = n % 2
  rw [key, IntKind.wrap_i64]
  omega
/-- The last bit of a pick. -/
def bit1 (x : Int) : Int := bits .and .i64 x 1
theorem lgd_bits {ks kk : List Int} (h : ks.map bit1 = kk) (n : Nat) : lgd kk n = true := by
  have : kk.getD n 0 = 0 ∨ kk.getD n 0 = 1 := by
    subst h
    rw [List.getD, List.getElem?_map]
    cases ks[n]? with
    | none => exact .inl rfl
    | some x =>
      show bit1 x = 0 ∨ bit1 x = 1
      unfold bit1
      rw [and1_is]
      omega
  unfold lgd
  rcases this with e | e <;> rw [e] <;> rfl
set_option maxRecDepth 100000 in
set_option maxHeartbeats 4000000 in
theorem enclosed_long (s : ByteArray) (a1 a2 a4 : Option Addr) (n c n2 c2 m d : Nat) (vl : Value) (w : World) (h : 60 < s.size ∨ 1048576 < n ∨ 1048576 < m) (_hs : s.size ≤ 9223372036854775807) (_hn : n ≤ 9223372036854775807) (_hm : m ≤ 9223372036854775807) :
    Calls Tryz.prog 5 #[.string s, .slice a1 n c, .slice a2 n2 c2, vl, .slice a4 m d] w fun e w' => e = .returned (.bool true) ∧ Below w.heap.size w w' := by
  by_cases h1 : (60 : Int) < s.size
  · go_enter Tryz.func5, Tryz.ntmps5
    go_wp2
    go_ret
    exact ⟨rfl, Below.refl _ _⟩
  by_cases h2 : (1048576 : Int) < n
  · go_enter Tryz.func5, Tryz.ntmps5
    go_wp2
    go_ret
    exact ⟨rfl, Below.refl _ _⟩
  have h3 : (1048576 : Int) < m := by omega
  go_enter Tryz.func5, Tryz.ntmps5
  go_wp2
  go_ret
  exact ⟨rfl, Below.refl _ _⟩
set_option maxRecDepth 100000 in
set_option maxHeartbeats 32000000 in
theorem enclosed_any (F : Ops) (P : Plane) (s : ByteArray) (v1 : Value) (re : List Int) (v2 : Value) (im : List Int) (vl : Value) (f : Nat → Nat) (vk : Value) (ks : List Int) (w : World) (h1 : LInt w v1 re) (h2 : LInt w v2 im) (hl : Lst w vl f) (hk : LInt w vk ks) (hs : s.size ≤ 9223372036854775807) (m1 : re.length ≤ 9223372036854775807) (_m2 : im.length ≤ 9223372036854775807) (m3 : ks.length ≤ 9223372036854775807) (hg : w.cell? ⟨0, 0, none⟩ = some (.iface 169 (.agg #[.pointer (some ⟨2, 46, none⟩)]))) :
    Calls Tryz.prog 5 #[.string s, v1, v2, vl, vk] w fun e w' => e = .returned (.bool true) ∧ Below w.heap.size w w' := by
  obtain ⟨a1, c1, rfl⟩ := h1.sh
  obtain ⟨a2, c2, rfl⟩ := h2.sh
  obtain ⟨a4, c4, rfl⟩ := hk.sh
  by_cases hlong : 60 < s.size ∨ 1048576 < re.length ∨ 1048576 < ks.length
  · exact enclosed_long s a1 a2 a4 _ c1 _ c2 _ c4 vl w hlong hs m1 m3
  have g1 : ¬ (60 : Int) < s.size := by omega
  have g2 : ¬ (1048576 : Int) < re.length := by omega
  have g3 : ¬ (1048576 : Int) < ks.length := by omega
  have H1 : Hid (LInt w (.slice a1 re.length c1) re) := h1
  have H2 : Hid (LInt w (.slice a2 im.length c2) im) := h2
  have HL : Hid (Lst w vl f) := hl
  have HK : Hid (LInt w (.slice a4 ks.length c4) ks) := hk
  clear h1 h2 hl hk hlong
  obtain ⟨ib, hib, zb0, zb1, zb2⟩ := info_parts infoBx
  obtain ⟨id_, hid, zd0, zd1, zd2⟩ := info_parts infoDc
  obtain ⟨ii, hii, zi0, zi1, zi2⟩ := info_parts infoIn
  go_enter Tryz.func5, Tryz.ntmps5
  go_wp2_with fail
  go_loopw [11, 12, 13, 14, 15] (fun vb vd vx vy i wr => ∃ (k : Nat) (bl : List Bx) (dl : List Dc) (X Y : List Int), k ≤ 8 ∧ i = .int .i64 k ∧ Hid (R4 w.heap.size wr vb vd vx vy bl dl X Y ∧ Made k bl dl X Y ∧ Below w.heap.size w wr)) (fun _ _ _ _ i _ => 8 - (intOf i).toNat)
  case atStart =>
    have ap : Apart (.slice none 0 0) (.slice none 0 0) := fun k h => by cases h
    exact ⟨0, [], [], [], [], by omega, rfl, ⟨World.ownsRow_nil _ _ _ _, World.ownsRow_nil _ _ _ _, World.ownsRow_nil _ _ _ _, World.ownsRow_nil _ _ _ _, ap, ap, ap, ap, ap, ap⟩, made_nil, Below.refl _ _⟩
  case round =>
    rename World => wr
    obtain ⟨k, bl, dl, X, Y, hk, rfl, hH⟩ := hrel
    obtain ⟨hR', hM', hB'⟩ := hH.out
    clear hH
    obtain ⟨ob, cb, eb, _, _, _⟩ := own_shape hR'.ob
    obtain ⟨od, cd, ed, _, _, _⟩ := own_shape hR'.od
    obtain ⟨ox, cx, ex, _, _, _⟩ := own_shape hR'.ox
    obtain ⟨oy, cy, ey, _, _, _⟩ := own_shape hR'.oy
    subst eb ed ex ey
    have HR : Hid (R4 w.heap.size wr _ _ _ _ bl dl X Y) := hR'
    have HM : Hid (Made k bl dl X Y) := hM'
    have HB : Hid (Below w.heap.size w wr) := hB'
    clear hR' hM' hB'
    by_cases hlt : k < 8
    · skip
      have hltI : (k : Int) < 8 := by omega
      go_upto_if 54 with fail
      go_cut [16] (fun s5 wx => ∃ p : Int, s5 = .int .i64 p ∧ (-63 ≤ p ∧ p ≤ 63) ∧ wr = wx)
      case first =>
        by_cases c : k < re.length
        · obtain ⟨x, hx⟩ : ∃ x, re[k]? = some x := ⟨re[k], by simp [c]⟩
          obtain ⟨b1, off, c', e1, e2, cx⟩ := H1.out.ce k x hx
          cases e1
          have cx0 := bkeep2 HB.out cx
          have cI : (k : Int) < (re.length : Int) := by omega
          have tm := tmod64 x
          clear cx hx
          go_wp2_with fail
          go_meet
          case rel => exact ⟨_, rfl, tm, rfl⟩
        · have cI : ¬ (k : Int) < (re.length : Int) := by omega
          go_wp2_with fail
          go_meet
          case rel => exact ⟨0, rfl, by omega, rfl⟩
      obtain ⟨p, rfl, hp, rfl⟩ := hcut
      go_upto_if 63 with fail
      go_cut [17] (fun s5 wx => ∃ p : Int, s5 = .int .i64 p ∧ (-63 ≤ p ∧ p ≤ 63) ∧ wr = wx)
      case first =>
        by_cases c : k < im.length
        · obtain ⟨x, hx⟩ : ∃ x, im[k]? = some x := ⟨im[k], by simp [c]⟩
          obtain ⟨b1, off, c', e1, e2, cx⟩ := H2.out.ce k x hx
          cases e1
          have cx0 := bkeep2 HB.out cx
          have cI : (k : Int) < (im.length : Int) := by omega
          have tm := tmod64 x
          clear cx hx
          go_wp2_with fail
          go_meet
          case rel => exact ⟨_, rfl, tm, rfl⟩
        · have cI : ¬ (k : Int) < (im.length : Int) := by omega
          go_wp2_with fail
          go_meet
          case rel => exact ⟨0, rfl, by omega, rfl⟩
      obtain ⟨q, rfl, hq, rfl⟩ := hcut
      have lX : X.length ≤ 8 := by have := HM.out.lx; omega
      have lY : Y.length ≤ 8 := by have := HM.out.ly; omega
      have z0 := HB.out.size
      go_wp2_with (at_builtin; refine wpList_append_at _ rfl (.tmp 69) (.tmp 71) 23 rfl w.heap.size 3 ii (.int .i64 0) 1 8 Tryz.underlying23 hii zi0 zi1 zi2 rfl (by decide) _ _ _ rfl ((HR.out.ox).alloc _) ⟨wr.heap.size, 0, none⟩ 1 1 [.int .i64 p] rfl rfl (cell_one (by simp [go_sem])) (by intro x hx; simp at hx; subst hx; rfl) (by unfold maxLen; omega) (by omega) (by simp; omega) (by decide) ?_)
      intro vx' w1 o1 g1 nw1
      have R1 : Hid (R4 w.heap.size w1 _ _ vx' _ bl dl (X ++ [p]) Y) := HR.out.pushX o1 g1 nw1
      have B1 : Hid (Below w.heap.size w w1) := own_below HB.out HR.out.ox g1
      have z1 := B1.out.size
      clear o1 g1 nw1
      go_wp2_with (at_builtin; refine wpList_append_at _ rfl (.tmp 73) (.tmp 75) 23 rfl w.heap.size 3 ii (.int .i64 0) 1 8 Tryz.underlying23 hii zi0 zi1 zi2 rfl (by decide) _ _ _ rfl ((R1.out.oy).alloc _) ⟨w1.heap.size, 0, none⟩ 1 1 [.int .i64 q] rfl rfl (cell_one (by simp [go_sem])) (by intro x hx; simp at hx; subst hx; rfl) (by unfold maxLen; omega) (by omega) (by simp; omega) (by decide) ?_)
      intro vy' w2 o2 g2 nw2
      have R2 : Hid (R4 w.heap.size w2 _ _ vx' vy' bl dl (X ++ [p]) (Y ++ [q])) := R1.out.pushY o2 g2 nw2
      have B2 : Hid (Below w.heap.size w w2) := own_below B1.out R1.out.oy g2
      have z2 := B2.out.size
      clear o2 g2 nw2
      have hat : Hid (∀ u, Below w2.heap.size w2 u → ∀ j : Nat, j ≤ 64 → Calls Tryz.prog 20 #[vl, .int .i64 (j : Int)] u fun e w' => e = .returned (.float .f64 (f j)) ∧ w' = u) := fun u hu j hj => at_any (HL.out.below (bl_next B2.out hu)) j (by omega)
      have q4 : IntKind.i64.wrap (4 * (k : Int)) = ((4 * k : Nat) : Int) := by rw [IntKind.wrap_i64]; omega
      have q5 : IntKind.i64.wrap (((4 * k : Nat) : Int) + 1) = ((4 * k + 1 : Nat) : Int) := by rw [IntKind.wrap_i64]; omega
      have q6 : IntKind.i64.wrap (((4 * k : Nat) : Int) + 2) = ((4 * k + 2 : Nat) : Int) := by rw [IntKind.wrap_i64]; omega
      have q7 : IntKind.i64.wrap (((4 * k : Nat) : Int) + 3) = ((4 * k + 3 : Nat) : Int) := by rw [IntKind.wrap_i64]; omega
      obtain ⟨Pw, kP, eP, nP⟩ := num_f p (by omega)
      obtain ⟨Qw, kQ, eQ, nQ⟩ := num_f q (by omega)
      by_cases k4 : k < 4
      · have k4I : (k : Int) < 4 := by omega
        obtain ⟨A1, A2, a1', a2', ia, ia1, ia2, ca⟩ := around_any nP.key nP.lo nP.hi (HL.out.lt (4 * k)) (HL.out.lt (4 * k + 1))
        obtain ⟨C1, C2, b1', b2', ic, ic1, ic2, cb⟩ := around_any nQ.key nQ.lo nQ.hi (HL.out.lt (4 * k + 2)) (HL.out.lt (4 * k + 3))
        have G : Hid (Good (.box ⟨A1, A2, C1, C2⟩, p, q)) := ⟨⟨ia.x.lt, ia.y.lt, ic.x.lt, ic.y.lt⟩, by unfold Sm; simp; omega, by unfold Sm; simp; omega, ⟨_, _, _, _, _, _, ia, ic, ⟨nP.at, ia1, ia2⟩, ⟨nQ.at, ic1, ic2⟩⟩⟩
        clear ia ic ia1 ia2 ic1 ic2
        go_wp2_with fail
        go_at_call 20
        refine (hat.out _ (Below.refl _ _) (4 * k) (by omega)).mono ?_
        rintro e w' ⟨rfl, hw'⟩
        obtain rfl : w2 = w' := hw'.symm
        go_wp2_with fail
        go_at_call 20
        refine (hat.out _ (Below.refl _ _) (4 * k + 1) (by omega)).mono ?_
        rintro e w' ⟨rfl, hw'⟩
        obtain rfl : w2 = w' := hw'.symm
        go_wp2_with fail
        go_at_call 19
        refine (ca _).mono ?_
        rintro e w3 ⟨rfl, hb3⟩
        go_wp2_with fail
        obtain ⟨W3, hW3⟩ : ∃ v, v = w3.alloc (.cells #[.float .f64 A1, .float .f64 A2] 37) := ⟨_, rfl⟩
        rw [← hW3]
        have r0 : W3.cell? ⟨w3.heap.size, 0, none⟩ = some (.float .f64 A1) := by rw [hW3]; simp [go_sem]
        have r1 : W3.cell? ⟨w3.heap.size, 1, none⟩ = some (.float .f64 A2) := by rw [hW3]; simp [go_sem]
        have hB3 : Below w2.heap.size w2 W3 := by rw [hW3]; exact bl_alloc hb3
        clear hW3
        go_wp2_with fail
        go_at_call 20
        refine (hat.out _ hB3 (4 * k + 2) (by omega)).mono ?_
        rintro e w' ⟨rfl, hw'⟩
        obtain rfl : W3 = w' := hw'.symm
        go_wp2_with fail
        go_at_call 20
        refine (hat.out _ hB3 (4 * k + 3) (by omega)).mono ?_
        rintro e w' ⟨rfl, hw'⟩
        obtain rfl : W3 = w' := hw'.symm
        go_wp2_with fail
        go_at_call 19
        refine (cb _).mono ?_
        rintro e w4 ⟨rfl, hb4⟩
        replace r0 := bkeep2 hb4 r0
        replace r1 := bkeep2 hb4 r1
        go_upto_region 20 with fail
        obtain ⟨W4, hW4⟩ : ∃ v, v = w4.alloc (.cells #[.float .f64 C1, .float .f64 C2] 37) := ⟨_, rfl⟩
        rw [← hW4]
        have t0 : W4.cell? ⟨w4.heap.size, 0, none⟩ = some (.float .f64 C1) := by rw [hW4]; simp [go_sem]
        have t1 : W4.cell? ⟨w4.heap.size, 1, none⟩ = some (.float .f64 C2) := by rw [hW4]; simp [go_sem]
        have hBn : Below w4.heap.size w4 W4 := by rw [hW4]; exact bl_alloc (Below.refl _ _)
        have l3 := cell_lt r0
        have hB4 : Below w2.heap.size w2 W4 := bl_next (bl_next hB3 hb4) hBn
        replace r0 := bkeep2 hBn r0
        replace r1 := bkeep2 hBn r1
        clear hW4
        have R4' : Hid (R4 w.heap.size W4 _ _ _ _ bl dl (X ++ [p]) (Y ++ [q])) := R2.out.below hB4
        have z4 := hB4.size
        have lbl : bl.length ≤ 8 := by have := HM.out.lb; omega
        go_wp2_with (at_builtin; refine wpList_append_at _ rfl (.tmp 104) (.tmp 108) 24 rfl w.heap.size 39 ib (.agg #[.float .f64 0, .float .f64 0, .float .f64 0, .float .f64 0]) 4 32 Tryz.underlying24 hib zb0 zb1 zb2 rfl (by decide) _ _ _ rfl ((R4'.out.ob).alloc _) ⟨W4.heap.size, 0, none⟩ 1 1 [.float .f64 A1, .float .f64 A2, .float .f64 C1, .float .f64 C2] rfl rfl (four_cells (by simp [go_sem]) (by simp [go_sem]) (by simp [go_sem]) (by simp [go_sem])) (by intro x hx; simp at hx; rcases hx with rfl | rfl | rfl | rfl <;> rfl) (by unfold maxLen; omega) (by omega) (by simp; omega) (by decide) ?_)
        intro vb' w5 o5 g5 nw5
        have R5 : Hid (R4 w.heap.size w5 vb' _ _ _ (bl ++ [⟨A1, A2, C1, C2⟩]) dl (X ++ [p]) (Y ++ [q])) := R4'.out.pushB (z := ⟨A1, A2, C1, C2⟩) o5 g5 nw5
        have B5 : Hid (Below w.heap.size w w5) := own_below (bl_next B2.out hB4) R4'.out.ob g5
        clear o5 g5 nw5
        go_wp2
        go_roundw
        case rel => exact ⟨k + 1, bl ++ [⟨A1, A2, C1, C2⟩], dl, X ++ [p], Y ++ [q], by omega, by go_num, R5.out, HM.out.box k4 G.out, B5.out⟩
        case measure => simp [intOf]; omega
      · have k4I : ¬ (k : Int) < 4 := by omega
        go_wp2_with fail
        go_at_call 20
        refine (hat.out _ (Below.refl _ _) (4 * k) (by omega)).mono ?_
        rintro e w' ⟨rfl, hw'⟩
        obtain rfl : w2 = w' := hw'.symm
        go_wp2_with fail
        go_at_call 20
        refine (hat.out _ (Below.refl _ _) (4 * k + 1) (by omega)).mono ?_
        rintro e w' ⟨rfl, hw'⟩
        obtain rfl : w2 = w' := hw'.symm
        go_wp2_with fail
        go_at_call 20
        refine (hat.out _ (Below.refl _ _) (4 * k + 2) (by omega)).mono ?_
        rintro e w' ⟨rfl, hw'⟩
        obtain rfl : w2 = w' := hw'.symm
        go_wp2_with fail
        go_at_call 21
        refine (about_any _ _ _ _ _ (HL.out.lt _) (HL.out.lt _) (HL.out.lt _) _).mono ?_
        rintro e w3 ⟨⟨x, y, z, rfl, k1, k2, k3⟩, hb3⟩
        go_wp2_with fail
        obtain ⟨W3, hW3⟩ : ∃ v, v = w3.alloc (.cells #[.complex .f64 x y, .float .f64 z] 42) := ⟨_, rfl⟩
        rw [← hW3]
        have r0 : W3.cell? ⟨w3.heap.size, 0, none⟩ = some (.complex .f64 x y) := by rw [hW3]; simp [go_sem]
        have r1 : W3.cell? ⟨w3.heap.size, 1, none⟩ = some (.float .f64 z) := by rw [hW3]; simp [go_sem]
        have hB3 : Below w2.heap.size w2 W3 := by rw [hW3]; exact bl_alloc hb3
        clear hW3
        obtain ⟨bv, hbv, cv⟩ := rinDisc_any nP.key ⟨nP.lo, nP.hi⟩ nQ.key ⟨nQ.lo, nQ.hi⟩ k1 k2 k3
        go_at_call 22
        refine (cv _).mono ?_
        rintro e w4 ⟨rfl, hb4⟩
        replace r0 := bkeep2 hb4 r0
        replace r1 := bkeep2 hb4 r1
        have l3 := cell_lt r0
        have hB4 : Below w2.heap.size w2 w4 := bl_next hB3 hb4
        cases bv with
        | false =>
          go_wp2_with fail
          go_ret
          exact ⟨rfl, bl_next B2.out hB4⟩
        | true =>
          have G : Hid (Good (.disc ⟨x, y, z⟩, p, q)) := by
            refine ⟨⟨k1, k2, k3⟩, by unfold Sm; simp; omega, by unfold Sm; simp; omega, ?_⟩
            rcases hbv rfl with h | ⟨X', Y', T', D, h⟩
            · exact .inl h
            · refine .inr ⟨X', Y', T', D, ?_⟩
              unfold inD at h
              rw [nP.val, nQ.val] at h
              exact h
          have R4' : Hid (R4 w.heap.size w4 _ _ _ _ bl dl (X ++ [p]) (Y ++ [q])) := R2.out.below hB4
          have z4 := hB4.size
          have ldl : dl.length ≤ 8 := by have := HM.out.ld; omega
          go_wp2_with (at_builtin; refine wpList_append_at _ rfl (.tmp 137) (.tmp 139) 26 rfl w.heap.size 42 id_ (.agg #[.complex .f64 0 0, .float .f64 0]) 2 24 Tryz.underlying26 hid zd0 zd1 zd2 rfl (by decide) _ _ _ rfl ((R4'.out.od).alloc _) ⟨w4.heap.size, 0, none⟩ 1 1 [.complex .f64 x y, .float .f64 z] rfl rfl (two_cells (by simp [go_sem]) (by simp [go_sem])) (by intro x hx; simp at hx; rcases hx with rfl | rfl <;> rfl) (by unfold maxLen; omega) (by omega) (by simp; omega) (by decide) ?_)
          intro vd' w5 o5 g5 nw5
          have R5 : Hid (R4 w.heap.size w5 _ vd' _ _ bl (dl ++ [⟨x, y, z⟩]) (X ++ [p]) (Y ++ [q])) := R4'.out.pushD (z := ⟨x, y, z⟩) o5 g5 nw5
          have B5 : Hid (Below w.heap.size w w5) := own_below (bl_next B2.out hB4) R4'.out.od g5
          clear o5 g5 nw5
          go_wp2
          go_roundw
          case rel => exact ⟨k + 1, bl, dl ++ [⟨x, y, z⟩], X ++ [p], Y ++ [q], by omega, by go_num, R5.out, HM.out.disc (by omega) G.out, B5.out⟩
          case measure => simp [intOf]; omega
    · have hk8 : k = 8 := by omega
      have HM8 : Hid (Made 8 bl dl X Y) := by rw [← hk8]; exact HM.out
      have e8 : (k : Int) = 8 := by omega
      rw [e8]
      clear hlt hk HM e8
      clear hk8
      have HM : Hid (Made 8 bl dl X Y) := HM8.out
      clear HM8
      go_wp2_with fail
      go_loopw [22, 23] (fun v i wz => ∃ j : Nat, j ≤ ks.length ∧ i = .int .i64 j ∧ Hid (wz.ownsRow wr.heap.size 3 1 v j (kvs ((ks.map bit1).take j)) ∧ Below wr.heap.size wr wz)) (fun _ i _ => ks.length - (intOf i).toNat)
      case atStart => exact ⟨0, Nat.zero_le _, rfl, World.ownsRow_nil _ _ _ _, Below.refl _ _⟩
      case round =>
        rename World => wz
        obtain ⟨j, hj, rfl, HJ⟩ := hrel
        by_cases hjl : j < ks.length
        · skip
          obtain ⟨x, hx⟩ : ∃ x, ks[j]? = some x := ⟨ks[j], by simp [hjl]⟩
          obtain ⟨b1, off, c', e1, e2, cx⟩ := HK.out.ce j x hx
          cases e1
          have cx0 := bkeep2 (bl_next HB.out (HJ.out.2)) cx
          have jI : (j : Int) < (ks.length : Int) := by omega
          have NX : Hid (kvs ((ks.map bit1).take (j + 1)) = kvs ((ks.map bit1).take j) ++ [.int .i64 (bits .and .i64 x 1)]) := kvs_next (by rw [List.getElem?_map, hx]; rfl)
          obtain ⟨so, sc, rfl, _, _, _⟩ := own_shape HJ.out.1
          have zj := HJ.out.2.size
          clear hx cx
          go_wp2_with (at_builtin; refine wpList_append_at _ rfl (.tmp 147) (.tmp 153) 23 rfl wr.heap.size 3 ii (.int .i64 0) 1 8 Tryz.underlying23 hii zi0 zi1 zi2 rfl (by decide) _ _ _ rfl ((HJ.out.1).alloc _) ⟨wz.heap.size, 0, none⟩ 1 1 [.int .i64 (bits .and .i64 x 1)] rfl rfl (cell_one (by simp [go_sem])) (by intro x hx; simp at hx; subst hx; rfl) (by unfold maxLen; omega) (by omega) (by simp; omega) (by decide) ?_)
          intro v' w1 o1 g1 nw1
          have N : Hid (w1.ownsRow wr.heap.size 3 1 v' (j + 1) (kvs ((ks.map bit1).take (j + 1))) ∧ Below wr.heap.size wr w1) := ⟨by rw [NX.out]; exact o1, own_below HJ.out.2 HJ.out.1 g1⟩
          clear o1 g1 nw1
          go_wp2
          go_roundw
          case rel => exact ⟨j + 1, by omega, by go_num, N.out⟩
          case measure => simp [intOf]; omega
        · skip
          have hjn : j = ks.length := by omega
          subst hjn
          obtain ⟨so, sc, rfl, _, _, _⟩ := own_shape HJ.out.1
          have lk : (ks.map bit1).length = ks.length := by simp
          have LK : Hid (LInt wz (.slice so ks.length sc) (ks.map bit1)) := by
            have := HJ.out.1
            rw [List.take_of_length_le (by rw [lk]; exact Nat.le_refl _), ← lk] at this
            rw [← lk]
            exact LInt.own this
          have hBz : Below w.heap.size w wz := bl_next HB.out HJ.out.2
          have SB : Hid (SrcB wz (.slice ob bl.length cb) bl) := (SrcB.own HR.out.ob).below HJ.out.2
          have SD : Hid (SrcD wz (.slice od dl.length cd) dl) := (SrcD.own HR.out.od).below HJ.out.2
          have LX : Hid (LInt wz (.slice ox X.length cx) X) := (LInt.own HR.out.ox).below HJ.out.2
          have LY : Hid (LInt wz (.slice oy Y.length cy) Y) := (LInt.own HR.out.oy).below HJ.out.2
          generalize hkk : ks.map bit1 = kk at *
          have Hkk : Hid (ks.map bit1 = kk) := hkk
          clear hkk hjl HJ
          go_wp2_with fail
          go_at_call 9
          refine (listed_any _ kk _ LK.out (by rw [lk]; omega)).mono ?_
          rintro e w3 ⟨rfl, vp, hM3⟩
          have HM3 : Hid (LM wz kk vp kk.length w3) := hM3
          clear hM3
          go_wp2_with fail
          go_at_call 10
          refine (policy_w _ _).mono ?_
          rintro e w4 ⟨rfl, hB4⟩
          go_wp2_with fail
          have z3 := HM3.out.bl.size
          have z4 := hB4.size
          obtain ⟨W4, hW4⟩ : ∃ v, v = w4.alloc (.cells #[.func (.func 33) #[.pointer (some ⟨wz.heap.size, 0, none⟩)] #[]] 32) := ⟨_, rfl⟩
          rw [← hW4]
          have hB5 : Below w3.heap.size w3 W4 := by rw [hW4]; exact hB4.trans (bl_alloc (Below.refl _ _) |>.mono z4)
          have z5 := hB5.size
          clear hW4
          have hBD : Below wz.heap.size wz W4 := HM3.out.bl.trans (hB5.mono z3)
          have hBW : Below w.heap.size w W4 := bl_next hBz hBD
          have zz := hBz.size
          have hP := listed_pol w3.heap.size wz.heap.size kk vp (by omega)
          have hpi := hP.keep HM3.out.pl (Only.of_below (S := fun _ => False) hB5) (fun _ _ c => c)
          have okb : ∀ x ∈ bl, x.ok := fun x hx => by
            obtain ⟨j, hj, rfl⟩ := List.getElem_of_mem hx
            exact (HM.out.gb j _ (by simp)).ok
          have okd : ∀ x ∈ dl, x.ok := fun x hx => by
            obtain ⟨j, hj, rfl⟩ := List.getElem_of_mem hx
            exact (HM.out.gd j _ (by simp)).ok
          have lb4 : bl.length = 4 := HM.out.lb
          have ld4 : dl.length = 4 := HM.out.ld
          have hev := ieval_t P hP s _ _ _ _ _ W4 (SB.out.below hBD) (SD.out.below hBD) hpi okb okd (by omega) (by omega) (by omega)
          have hS0 : ∀ k, (k = wz.heap.size ∨ (Value.slice none 0 0).ownBlock = some k ∨ vp.ownBlock = some k) → wz.heap.size ≤ k := by
            rintro k (c | c | c)
            · omega
            · cases c
            · have := (HM3.out.ow.lt k c).1; omega
          have hA : ∀ {p q : Int}, pts X Y (byts s) [] [] = some (p, q) → ∃ z, (ans P s bl dl (lkd kk) (lgd kk)).1 = 0 ∧ (ans P s bl dl (lkd kk) (lgd kk)).2.2.1 = [z] ∧ Good (z, p, q) := fun {p q} hp => by
            unfold ans
            rw [if_neg (by omega)]
            exact runs_pts F P w (fun n => lgd_bits Hkk.out n) HM.out.inputs (byts s) 0 [] [] (by simp) hp
          have HA : Hid (∀ {p q : Int}, pts X Y (byts s) [] [] = some (p, q) → ∃ z, (ans P s bl dl (lkd kk) (lgd kk)).1 = 0 ∧ (ans P s bl dl (lkd kk) (lgd kk)).2.2.1 = [z] ∧ Good (z, p, q)) := hA
          clear hA
          generalize ans P s bl dl (lkd kk) (lgd kk) = r at *
          go_at_call 11
          refine hev.mono ?_
          rintro e w5 ⟨S, pi5, s5, fr5, v, x, rfl, hv⟩
          have hw5 := below_only hBW fr5 (by omega) (fun k c => by have := hS0 k c; omega)
          have z6 := fr5.size
          have kx : ∀ {b j : Nat} {u : Value}, wz.cell? ⟨b, j, none⟩ = some u → w5.cell? ⟨b, j, none⟩ = some u := fun {b j u} h => fr5.cell (bkeep2 hBD h) (fun c => by have := hS0 b c; have h2 : b < wz.heap.size := cell_lt h; omega)
          have LX5 : Hid (LInt w5 (.slice ox X.length cx) X) := ⟨LX.out.sh, fun j x e => by
            obtain ⟨b, off, c, h1, h2, h3⟩ := LX.out.ce j x e
            exact ⟨b, off, c, h1, by omega, kx h3⟩⟩
          have LY5 : Hid (LInt w5 (.slice oy Y.length cy) Y) := ⟨LY.out.sh, fun j x e => by
            obtain ⟨b, off, c, h1, h2, h3⟩ := LY.out.ce j x e
            exact ⟨b, off, c, h1, by omega, kx h3⟩⟩
          clear pi5 s5 hev hS0 hP hpi kx fr5
          have hg5 := bkeep2 hw5 hg
          obtain ⟨er, her⟩ : ∃ er, er = r.1 := ⟨_, rfl⟩
          have hT : Hid (∀ u, Below w5.heap.size w5 u → Calls Tryz.prog 12 #[x] u fun e w' => (∃ at_, e = .returned (.tuple #[.int .i64 er, .int .i64 at_])) ∧ Below u.heap.size u w') := fun u hu => by
            rcases hv with ⟨h1, z, _, _, _, rfl⟩ | ⟨h1, _, h2⟩
            · rw [her, h1]
              refine (tell_nil u).mono ?_
              rintro e w' ⟨rfl, hb⟩
              exact ⟨⟨0, rfl⟩, hb⟩
            · rw [her]
              refine (tell_any (h2.below hu) (bkeep2 hu hg5)).mono ?_
              rintro e w' ⟨rfl, hb⟩
              exact ⟨⟨_, rfl⟩, hb⟩
          have HH : Hid (∀ {p q : Int}, pts X Y (byts s) [] [] = some (p, q) → er = 0 ∧ ∀ u, Calls Tryz.prog 24 #[v, .int .i64 p, .int .i64 q] u fun e w' => e = .returned (.bool true) ∧ Below u.heap.size u w') := fun {p q} hp => by
            obtain ⟨z, h1, h2, G⟩ := HA.out hp
            rcases hv with ⟨_, z', h3, _, rfl, _⟩ | ⟨h0, _⟩
            · rw [h2] at h3
              injection h3 with h3 _
              subst h3
              exact ⟨by rw [her, h1], has_good G⟩
            · exact absurd h1 h0
          obtain ⟨k0, a0, b0, c0, d0, e1, e2, g0, rfl⟩ := val_forms (v := v) (by
            rcases hv with ⟨_, z, _, _, h, _⟩ | ⟨_, h, _⟩
            · exact .inl ⟨z, h⟩
            · exact .inr h)
          clear hv HA her
          go_wp2_with fail
          obtain ⟨W5, hW5⟩ : ∃ v, v = w5.alloc (.cells #[.int .i64 k0, .float .f64 a0, .float .f64 b0, .float .f64 c0, .float .f64 d0, .complex .f64 e1 e2, .float .f64 g0] 44) := ⟨_, rfl⟩
          rw [← hW5]
          have hB5' : Below w5.heap.size w5 W5 := by rw [hW5]; exact bl_alloc (Below.refl _ _)
          have y0 : W5.cell? ⟨w5.heap.size, 0, none⟩ = some (.int .i64 k0) := by rw [hW5]; simp [go_sem]
          have y1 : W5.cell? ⟨w5.heap.size, 1, none⟩ = some (.float .f64 a0) := by rw [hW5]; simp [go_sem]
          have y2 : W5.cell? ⟨w5.heap.size, 2, none⟩ = some (.float .f64 b0) := by rw [hW5]; simp [go_sem]
          have y3 : W5.cell? ⟨w5.heap.size, 3, none⟩ = some (.float .f64 c0) := by rw [hW5]; simp [go_sem]
          have y4 : W5.cell? ⟨w5.heap.size, 4, none⟩ = some (.float .f64 d0) := by rw [hW5]; simp [go_sem]
          have y5 : W5.cell? ⟨w5.heap.size, 5, none⟩ = some (.complex .f64 e1 e2) := by rw [hW5]; simp [go_sem]
          have y6 : W5.cell? ⟨w5.heap.size, 6, none⟩ = some (.float .f64 g0) := by rw [hW5]; simp [go_sem]
          clear hW5
          go_at_call 12
          refine (hT.out W5 hB5').mono ?_
          rintro e w6 ⟨⟨at_, rfl⟩, hb6⟩
          have hB6 : Below w5.heap.size w5 w6 := bl_next hB5' hb6
          go_wp2_with fail
          go_at_call 23
          refine (point_any s _ _ X Y _ (LX5.out.below hB6) (LY5.out.below hB6) HM.out.lx HM.out.ly HM.out.sx HM.out.sy (by omega)).mono ?_
          rintro e w7 ⟨⟨p, q, ok, rfl, hok⟩, hb7⟩
          cases ok with
          | false =>
            go_wp2_with fail
            go_ret
            exact ⟨rfl, bl_next (bl_next hw5 hB6) hb7⟩
          | true =>
            obtain ⟨rfl, hh⟩ := HH.out (hok rfl)
            replace y0 := bkeep2 hb7 (bkeep2 hb6 y0)
            replace y1 := bkeep2 hb7 (bkeep2 hb6 y1)
            replace y2 := bkeep2 hb7 (bkeep2 hb6 y2)
            replace y3 := bkeep2 hb7 (bkeep2 hb6 y3)
            replace y4 := bkeep2 hb7 (bkeep2 hb6 y4)
            replace y5 := bkeep2 hb7 (bkeep2 hb6 y5)
            replace y6 := bkeep2 hb7 (bkeep2 hb6 y6)
            clear hok
            go_wp2_with fail
            go_at_call 24
            refine (hh _).mono ?_
            rintro e w8 ⟨rfl, hb8⟩
            go_wp2_with fail
            go_at_call 15
            refine (num_w 0 (by omega) (by omega) _).mono ?_
            rintro e w9 ⟨rfl, rfl⟩
            go_wp2_with fail
            go_ret
            exact ⟨rfl, bl_next (bl_next (bl_next hw5 hB6) hb7) hb8⟩
end Go.Proofs.YtacnclofbnafiabGreatDoor
