import Derived.Test.YtacnclofbnafiabGreatDoorEG
namespace Go.Proofs.YtacnclofbnafiabGreatDoor
open Go.RowKit Fl

theorem op_or (c : Int) : c = 43 ∨ c = 45 ∨ c = 42 ∨ c = 126 ∨ c = 94 ∨ (¬ c = 43 ∧ ¬ c = 45 ∧ ¬ c = 42 ∧ ¬ c = 126 ∧ ¬ c = 94) := by omega
theorem pst_in {re im : List Int} {c : Int} {A B : List Int} (h : 0 ≤ putI c) : pst re im c A B = some (A ++ [re.getD (putI c).toNat 0], B ++ [im.getD (putI c).toNat 0]) := by unfold pst; rw [if_pos h]
theorem pts_op {re im : List Int} {c : Int} {cs A B : List Int} {R : Option (Int × Int)} (h : pts re im (c :: cs) A B = R) (h0 : ¬ 0 ≤ putI c) (h1 : idx c ≠ -1) (h2 : tk c ≤ A.length) (h3 : Sm (opx c A B) ∧ Sm (opy c A B)) : pts re im cs (A.take (A.length - tk c) ++ [opx c A B]) (B.take (A.length - tk c) ++ [opy c A B]) = R := by
  rw [pts_cons] at h
  unfold pst at h
  rw [if_neg h0, if_neg (fun c => c.elim h1 (by omega)), if_pos h3] at h
  exact h
/-- The n-th of a list. -/
def nth : List Value → Nat → Value
  | [], _ => undef
  | x :: _, 0 => x
  | _ :: l, n + 1 => nth l n
-- The frame of the law's point.
set_option maxRecDepth 100000 in
def pfr (s : ByteArray) (vx vy v9 v10 v11 v12 v13 v14 v15 : Value) (g : Nat → Value) : Act := ⟨List.toArray (.string s :: vx :: vy :: undef :: undef :: undef :: g 6 :: g 7 :: g 8 :: v9 :: v10 :: v11 :: v12 :: v13 :: v14 :: v15 :: g 16 :: g 17 :: g 18 :: g 19 :: g 20 :: g 21 :: g 22 :: g 23 :: g 24 :: g 25 :: g 26 :: g 27 :: g 28 :: g 29 :: g 30 :: g 31 :: g 32 :: g 33 :: g 34 :: g 35 :: g 36 :: g 37 :: g 38 :: g 39 :: g 40 :: g 41 :: g 42 :: g 43 :: g 44 :: g 45 :: g 46 :: g 47 :: g 48 :: g 49 :: g 50 :: g 51 :: g 52 :: g 53 :: g 54 :: g 55 :: g 56 :: g 57 :: g 58 :: g 59 :: g 60 :: g 61 :: g 62 :: g 63 :: g 64 :: g 65 :: g 66 :: g 67 :: g 68 :: g 69 :: g 70 :: g 71 :: g 72 :: g 73 :: g 74 :: g 75 :: g 76 :: g 77 :: g 78 :: g 79 :: g 80 :: g 81 :: g 82 :: g 83 :: g 84 :: g 85 :: g 86 :: g 87 :: g 88 :: g 89 :: g 90 :: g 91 :: g 92 :: g 93 :: g 94 :: g 95 :: g 96 :: g 97 :: g 98 :: g 99 :: g 100 :: g 101 :: g 102 :: g 103 :: g 104 :: g 105 :: g 106 :: g 107 :: g 108 :: g 109 :: g 110 :: g 111 :: g 112 :: g 113 :: g 114 :: g 115 :: g 116 :: g 117 :: g 118 :: g 119 :: g 120 :: g 121 :: g 122 :: g 123 :: g 124 :: g 125 :: g 126 :: g 127 :: g 128 :: g 129 :: g 130 :: g 131 :: g 132 :: g 133 :: g 134 :: g 135 :: g 136 :: g 137 :: g 138 :: g 139 :: g 140 :: g 141 :: g 142 :: g 143 :: g 144 :: g 145 :: g 146 :: g 147 :: g 148 :: g 149 :: g 150 :: g 151 :: g 152 :: g 153 :: g 154 :: g 155 :: g 156 :: g 157 :: g 158 :: g 159 :: g 160 :: g 161 :: g 162 :: g 163 :: g 164 :: g 165 :: g 166 :: g 167 :: g 168 :: g 169 :: g 170 :: g 171 :: g 172 :: g 173 :: g 174 :: g 175 :: g 176 :: g 177 :: g 178 :: g 179 :: g 180 :: g 181 :: g 182 :: g 183 :: g 184 :: g 185 :: g 186 :: g 187 :: g 188 :: g 189 :: g 190 :: g 191 :: g 192 :: g 193 :: g 194 :: g 195 :: g 196 :: g 197 :: g 198 :: g 199 :: g 200 :: g 201 :: g 202 :: g 203 :: g 204 :: g 205 :: g 206 :: g 207 :: g 208 :: g 209 :: g 210 :: g 211 :: g 212 :: g 213 :: g 214 :: g 215 :: g 216 :: g 217 :: g 218 :: g 219 :: g 220 :: g 221 :: g 222 :: g 223 :: g 224 :: g 225 :: g 226 :: g 227 :: g 228 :: g 229 :: g 230 :: g 231 :: g 232 :: g 233 :: g 234 :: g 235 :: g 236 :: g 237 :: g 238 :: g 239 :: g 240 :: g 241 :: g 242 :: g 243 :: g 244 :: g 245 :: g 246 :: g 247 :: g 248 :: g 249 :: g 250 :: g 251 :: g 252 :: g 253 :: g 254 :: g 255 :: g 256 :: g 257 :: g 258 :: g 259 :: g 260 :: g 261 :: g 262 :: g 263 :: []), []⟩
/-- What the loop keeps. -/
def LInv (X Y : List Int) (s : ByteArray) (R : Option (Int × Int)) (w0 w : World) (u v i : Value) : Prop := ∃ (k : Nat) (A B : List Int), k ≤ s.size ∧ i = .int .i64 k ∧ Two w0.heap.size w u v A B ∧ A.length = B.length ∧ A.length ≤ k ∧ Below w0.heap.size w0 w ∧ (∀ x ∈ A, Sm x) ∧ (∀ x ∈ B, Sm x) ∧ pts X Y ((byts s).drop k) A B = R
def PInv (X Y : List Int) (s : ByteArray) (R : Option (Int × Int)) (w0 : World) (vx vy : Value) (a : Act) (w : World) : Prop := ∃ (u v i : Value) (g : Nat → Value), a = pfr s vx vy u v i (g 12) (g 13) (g 14) (g 15) g ∧ LInv X Y s R w0 w u v i
theorem PInv.intro {X Y : List Int} {s : ByteArray} {R : Option (Int × Int)} {w0 : World} {vx vy : Value} {a : Act} {w : World} (h : a = pfr s vx vy (nth a.tmps.toList 9) (nth a.tmps.toList 10) (nth a.tmps.toList 11) (nth a.tmps.toList 12) (nth a.tmps.toList 13) (nth a.tmps.toList 14) (nth a.tmps.toList 15) (nth a.tmps.toList)) (hl : LInv X Y s R w0 w (nth a.tmps.toList 9) (nth a.tmps.toList 10) (nth a.tmps.toList 11)) : PInv X Y s R w0 vx vy a w := ⟨_, _, _, nth a.tmps.toList, h, hl⟩
def pmu (s : ByteArray) (a : Act) : Nat := s.size - (intOf (nth a.tmps.toList 11)).toNat
def PCut (s : ByteArray) (vx vy v9 v10 v11 v12 v13 : Value) (rel : Value → Value → World → Prop) (a : Act) (w : World) : Prop := ∃ (v14 v15 : Value) (g : Nat → Value), a = pfr s vx vy v9 v10 v11 v12 v13 v14 v15 g ∧ rel v14 v15 w
theorem PCut.intro {s : ByteArray} {vx vy v9 v10 v11 v12 v13 : Value} {rel : Value → Value → World → Prop} {a : Act} {w : World} (h : a = pfr s vx vy v9 v10 v11 v12 v13 (nth a.tmps.toList 14) (nth a.tmps.toList 15) (nth a.tmps.toList)) (hr : rel (nth a.tmps.toList 14) (nth a.tmps.toList 15) w) : PCut s vx vy v9 v10 v11 v12 v13 rel a w := ⟨_, _, nth a.tmps.toList, h, hr⟩
set_option maxRecDepth 100000 in
set_option maxHeartbeats 16000000 in
theorem point_any (s : ByteArray) (vx vy : Value) (X Y : List Int) (w : World) (hx : LInt w vx X) (hy : LInt w vy Y) (lx : X.length = 8) (ly : Y.length = 8) (smx : ∀ x ∈ X, Sm x) (smy : ∀ x ∈ Y, Sm x) (hs : s.size ≤ 60) :
    Calls Tryz.prog 23 #[.string s, vx, vy] w fun e w' => (∃ (p q : Int) (ok : Bool), e = .returned (.tuple #[.int .i64 p, .int .i64 q, .bool ok]) ∧ (ok = true → pts X Y (byts s) [] [] = some (p, q))) ∧ Below w.heap.size w w' := by
  obtain ⟨i0, hi, hz0, hz1, hz2⟩ := info_parts infoIn
  obtain ⟨ax, cx, rfl⟩ := hx.sh
  obtain ⟨ay, cy, rfl⟩ := hy.sh
  rw [lx] at hx
  rw [ly] at hy
  rw [lx, ly]
  have HX : Hid (LInt8 w (.slice ax 8 cx) X) := LInt8.of hx lx
  have HY : Hid (LInt8 w (.slice ay 8 cy) Y) := LInt8.of hy ly
  clear hx hy
  generalize hR : pts X Y (byts s) [] [] = R
  go_enter Tryz.func23, Tryz.ntmps23
  go_wp2_with fail
  refine wp_loop (PInv X Y s R w (.slice ax 8 cx) (.slice ay 8 cy)) (fun a _ => pmu s a) ?_ ?_
  · exact PInv.intro (by kernel_rfl) ⟨0, [], [], Nat.zero_le _, rfl, ⟨World.ownsRow_nil _ _ _ _, World.ownsRow_nil _ _ _ _, by intro k h; cases h⟩, rfl, by simp, Below.refl _ _, by simp, by simp, hR⟩
  · intro a wr hI
    obtain ⟨u, v, i, g, rfl, hI⟩ := hI
    obtain ⟨k, A, B, hk, rfl, hT', hAB', hLe', hB', sA', sB', hrn'⟩ := hI
    unfold pfr
    obtain ⟨su, sc, rfl, _, _, _⟩ := own_shape hT'.oa
    obtain ⟨sv, sd, rfl, _, _, _⟩ := own_shape hT'.ob
    obtain ⟨n, hn⟩ : ∃ n, n = A.length := ⟨_, rfl⟩
    have HN : Hid (n = A.length) := hn
    have hAB : Hid (A.length = B.length) := hAB'
    rw [← hAB', ← hn]
    have oA : Hid (wr.ownsRow w.heap.size 3 1 (.slice su n sc) n (kvs A)) := by have := hT'.oa; rw [← hn] at this; exact this
    have oB : Hid (wr.ownsRow w.heap.size 3 1 (.slice sv n sd) n (kvs B)) := by have := hT'.ob; rw [← hAB', ← hn] at this; exact this
    rw [← hAB', ← hn] at hT'
    rw [← hn] at hLe'
    have hT : Hid (Two w.heap.size wr (.slice su n sc) (.slice sv n sd) A B) := hT'
    have hLe : Hid (n ≤ k) := hLe'
    have hB : Hid (Below w.heap.size w wr) := hB'
    have sA : Hid (∀ x ∈ A, Sm x) := sA'
    have sB : Hid (∀ x ∈ B, Sm x) := sB'
    have hnk : n ≤ k := hLe'
    clear hT' hAB' hLe' hB' sA' sB' hn
    by_cases hlt : k < s.size
    · have hltI : (k : Int) < s.size := by omega
      rw [byts_drop s hlt] at hrn'
      obtain ⟨c, hc⟩ : ∃ c : Int, ((s[k]'hlt).toNat : Int) = c := ⟨_, rfl⟩
      have c0 : 0 ≤ c := by omega
      have c1 : c < 256 := by have := (s[k]'hlt).toNat_lt; omega
      rw [hc] at hrn'
      have hrn : Hid (pts X Y (c :: (byts s).drop (k + 1)) A B = R) := hrn'
      clear hrn'
      go_wp2_with fail
      clear hc
      go_at_call 49
      refine (put_ch c c0 c1 _).mono ?_
      rintro e w' ⟨rfl, hw'⟩
      obtain rfl : wr = w' := hw'.symm
      by_cases hp : 0 ≤ putI c
      · skip
        obtain ⟨j, hj⟩ : ∃ j : Nat, putI c = j := ⟨(putI c).toNat, by omega⟩
        have hj8 : j < 8 := by rcases putI_nn hp with ⟨_, _, e⟩ | ⟨_, _, e⟩ <;> omega
        obtain ⟨x, hx1⟩ : ∃ x, X[j]? = some x := ⟨X[j]'(by omega), by simp⟩
        obtain ⟨y, hy1⟩ : ∃ y, Y[j]? = some y := ⟨Y[j]'(by omega), by simp⟩
        obtain ⟨bx, fx, cx', e1, lx1, gx⟩ := HX.out.ce j x hx1
        obtain ⟨by_, fy, cy', e2, ly1, gy⟩ := HY.out.ce j y hy1
        cases e1
        cases e2
        have NX : Hid (pts X Y ((byts s).drop (k + 1)) (A ++ [x]) (B ++ [y]) = R) := by
          have e := hrn.out
          rw [pts_cons, pst_in hp, hj] at e
          simp only [Int.toNat_natCast, List.getD, hx1, hy1, Option.getD_some] at e
          exact e
        have sx := smx x (List.mem_of_getElem? hx1)
        have sy := smy y (List.mem_of_getElem? hy1)
        have gx0 := bkeep2 hB.out gx
        have gy0 := bkeep2 hB.out gy
        have hjX : (j : Int) < (8 : Int) := by omega
        have z1 := hB.out.size
        have hn60 : n ≤ 60 := by omega
        rw [hj]
        clear hx1 hy1 gx gy hp hj hrn
        go_wp2_with (at_builtin; refine wpList_append_at _ rfl (.tmp 32) (.tmp 37) 23 rfl w.heap.size 3 i0 (.int .i64 0) 1 8 Tryz.underlying23 hi hz0 hz1 hz2 rfl (by decide) _ _ _ rfl ((oA.out).alloc _) ⟨wr.heap.size, 0, none⟩ 1 1 [.int .i64 x] rfl rfl (cell_one (by simp [go_sem])) (by intro x hx; simp at hx; subst hx; rfl) (by unfold maxLen; omega) (by omega) (by simp; omega) (by decide) ?_)
        intro u' w1 o1 g1 nw
        have T1 : Hid (Two w.heap.size w1 u' (.slice sv n sd) (A ++ [x]) B) := hT.out.push (A0 := A) rfl (by rw [← HN.out]; exact o1) g1 nw
        have hB1 : Hid (Below w.heap.size w w1) := push_below hB.out oA.out g1
        have ob1 : Hid (w1.ownsRow w.heap.size 3 1 (.slice sv n sd) n (kvs B)) := by
          have := T1.out.ob
          rw [← hAB.out, ← HN.out] at this
          exact this
        have gy1 : w1.cell? ⟨by_, fy + j, none⟩ = some (.int .i64 y) := g1.cell (bkeep (bl_alloc (Below.refl _ _)) gy0 (show by_ < wr.heap.size by omega)) (fun c => by have h := (oA.out.lt by_ c.symm).1; omega)
        have z3 := hB1.out.size
        clear o1 g1 nw
        go_wp2_with (at_builtin; refine wpList_append_at _ rfl (.tmp 39) (.tmp 44) 23 rfl w.heap.size 3 i0 (.int .i64 0) 1 8 Tryz.underlying23 hi hz0 hz1 hz2 rfl (by decide) _ _ _ rfl ((ob1.out).alloc _) ⟨w1.heap.size, 0, none⟩ 1 1 [.int .i64 y] rfl rfl (cell_one (by simp [go_sem])) (by intro x hx; simp at hx; subst hx; rfl) (by unfold maxLen; omega) (by omega) (by simp; omega) (by decide) ?_)
        intro v' w2 o2 g2 nw2
        have T2 : Hid (Two w.heap.size w2 u' v' (A ++ [x]) (B ++ [y])) := (T1.out.symm.push (A0 := B) rfl (by rw [← hAB.out, ← HN.out]; exact o2) g2 nw2).symm
        have hB2 : Hid (Below w.heap.size w w2) := push_below hB1.out ob1.out g2
        clear o2 g2 nw2
        go_wp2
        refine ⟨PInv.intro (by kernel_rfl) ?_, by simp [pmu, nth, intOf]; omega⟩
        exact ⟨k + 1, A ++ [x], B ++ [y], by omega, by (show Value.int .i64 _ = _; go_num), T2.out, by (have := hAB.out; simp; omega), by (have := hLe.out; have := HN.out; simp; omega), hB2.out, sm_app sA.out sx, sm_app sB.out sy, NX.out⟩
      · have hp' : putI c < 0 := by omega
        have HP : Hid (0 ≤ putI c → False) := hp
        clear hp
        go_upto_region 13 with fail
        go_cut [59] from 46 to 59 (fun s59 wx => s59 = .bool (decide (n < 1 ∨ n < 2 ∧ c ≠ 126 ∧ c ≠ 94)) ∧ wr = wx)
        case first =>
          by_cases a1 : n < 1
          · have a1' : (n : Int) < 1 := by omega
            go_wp2_with fail
            go_meet
            case rel => exact ⟨congrArg Value.bool (decide_eq_true (.inl a1)).symm, rfl⟩
          · have a1' : ¬ (n : Int) < 1 := by omega
            by_cases a2 : n < 2
            · have a2' : (n : Int) < 2 := by omega
              by_cases a3 : c = 126
              · subst a3
                go_wp2_with fail
                go_meet
                case rel => exact ⟨congrArg Value.bool (decide_eq_false (by omega)).symm, rfl⟩
              · by_cases a4 : c = 94
                · subst a4
                  go_wp2_with fail
                  go_meet
                  case rel => exact ⟨congrArg Value.bool (decide_eq_false (by omega)).symm, rfl⟩
                · go_wp2_with fail
                  go_meet
                  case rel => exact ⟨congrArg Value.bool (by simp [a1, a2, a3, a4]), rfl⟩
            · have a2' : ¬ (n : Int) < 2 := by omega
              go_wp2_with fail
              go_meet
              case rel => exact ⟨congrArg Value.bool (decide_eq_false (by omega)).symm, rfl⟩
        obtain ⟨rfl, rfl⟩ := hcut
        by_cases hn1 : n < 1 ∨ n < 2 ∧ c ≠ 126 ∧ c ≠ 94
        · rw [decide_eq_true hn1]
          go_wp2_with fail
          exact bodyPost_ret (v := .tuple #[.int .i64 0, .int .i64 0, .bool false]) (by simp [results, Tryz.results23, go_sem]) rfl ⟨⟨0, 0, false, rfl, fun c => by cases c⟩, hB.out⟩
        rw [decide_eq_false hn1]
        go_upto_block 2 with fail
        refine wp_cut (PCut s (.slice ax 8 cx) (.slice ay 8 cy) (.slice su n sc) (.slice sv n sd) (.int .i64 k) (.int .u8 c) (.int .i64 n) (fun s14 s15 wx => s14 = .int .i64 (opx c A B) ∧ s15 = .int .i64 (opy c A B) ∧ idx c ≠ -1 ∧ Below wr.heap.size wr wx)) ?rest2 ?first2
        case first2 =>
          intro _ _ _ _
          rcases op_or c with hcc | hcc | hcc | hcc | hcc | hcc
          · subst hcc
            obtain ⟨A0, p, p2, rfl⟩ := splitL2 (l := A) (by have := HN.out; omega)
            obtain ⟨B0, q, q2, rfl⟩ := splitL2 (l := B) (by have := HN.out; have := hAB.out; omega)
            have hn2 : n = A0.length + 2 := by rw [HN.out]; simp
            have hm2 : B0.length = A0.length := by have := hAB.out; simp at this; omega
            obtain ⟨g, cap, e9, _⟩ := row_int oA.out (by omega)
            obtain ⟨h, cap2, e10, _⟩ := row_int oB.out (by omega)
            cases e9
            cases e10
            have p0 := own_at oA.out rfl (kvs_at (show (A0 ++ [p, p2])[A0.length]? = some p by simp))
            have p1 := own_at oA.out rfl (kvs_at (show (A0 ++ [p, p2])[A0.length + 1]? = some p2 by simp))
            have q0 := own_at oB.out rfl (kvs_at (show (B0 ++ [q, q2])[A0.length]? = some q by rw [← hm2]; simp))
            have q1 := own_at oB.out rfl (kvs_at (show (B0 ++ [q, q2])[A0.length + 1]? = some q2 by rw [← hm2]; simp))
            have s1 := sA.out p (by simp)
            have s2 := sA.out p2 (by simp)
            have s3 := sB.out q (by simp)
            have s4 := sB.out q2 (by simp)
            obtain ⟨m, hm⟩ : ∃ m, m = A0.length := ⟨_, rfl⟩
            obtain ⟨m1, hm1⟩ : ∃ m, m = A0.length + 1 := ⟨_, rfl⟩
            rw [← hm] at p0 q0
            rw [← hm1] at p1 q1
            have hwr2 : IntKind.i64.wrap ((n : Int) - 2) = (m : Int) := by rw [show (n : Int) - 2 = (m : Int) by omega]; exact wrap_nat m (by omega)
            have hwr1 : IntKind.i64.wrap ((n : Int) - 1) = (m1 : Int) := by rw [show (n : Int) - 1 = (m1 : Int) by omega]; exact wrap_nat m1 (by omega)
            have hmn1 : (m1 : Int) < (n : Int) := by omega
            have hmn : (m : Int) < (n : Int) := by omega
            have lg := cell_lt p0
            have lh := cell_lt q0
            have ex : Hid (opx 43 (A0 ++ [p, p2]) (B0 ++ [q, q2]) = p + p2) := by show _ = _; first | (simp [opx]; done) | simp [opx, hm2]
            have ey : Hid (opy 43 (A0 ++ [p, p2]) (B0 ++ [q, q2]) = q + q2) := by show _ = _; first | (simp [opy]; done) | simp [opy, hm2]
            have w1 : IntKind.i64.wrap (p + p2) = p + p2 := by rw [IntKind.wrap_i64]; unfold Sm at *; omega
            have w2 : IntKind.i64.wrap (q + q2) = q + q2 := by rw [IntKind.wrap_i64]; unfold Sm at *; omega
            clear hm hm2 hn2 hm1
            go_wp2_with fail
            go_still mixed
            go_wp2_with fail
            obtain ⟨wd, hwd⟩ : ∃ v : World, v = { heap := wr.heap, tape := wr.tape, drawn := wr.drawn + 1, os := wr.os, output := wr.output } := ⟨_, rfl⟩
            rw [← hwd]
            replace p0 : wd.cell? ⟨g, m, none⟩ = some (.int .i64 p) := by rw [hwd]; exact p0
            replace p1 : wd.cell? ⟨g, m1, none⟩ = some (.int .i64 p2) := by rw [hwd]; exact p1
            replace q0 : wd.cell? ⟨h, m, none⟩ = some (.int .i64 q) := by rw [hwd]; exact q0
            replace q1 : wd.cell? ⟨h, m1, none⟩ = some (.int .i64 q2) := by rw [hwd]; exact q1
            have hbd : Below wr.heap.size wr wd := by rw [hwd]; exact (Below.refl _ _).drew
            clear hwd
            go_still mixed
            go_wp2_with fail
            refine Met.intro ?_
            go_step
            exact PCut.intro (by kernel_rfl) ⟨congrArg (Value.int .i64) ex.out.symm, congrArg (Value.int .i64) ey.out.symm, by decide, hbd.drew⟩
          · subst hcc
            obtain ⟨A0, p, p2, rfl⟩ := splitL2 (l := A) (by have := HN.out; omega)
            obtain ⟨B0, q, q2, rfl⟩ := splitL2 (l := B) (by have := HN.out; have := hAB.out; omega)
            have hn2 : n = A0.length + 2 := by rw [HN.out]; simp
            have hm2 : B0.length = A0.length := by have := hAB.out; simp at this; omega
            obtain ⟨g, cap, e9, _⟩ := row_int oA.out (by omega)
            obtain ⟨h, cap2, e10, _⟩ := row_int oB.out (by omega)
            cases e9
            cases e10
            have p0 := own_at oA.out rfl (kvs_at (show (A0 ++ [p, p2])[A0.length]? = some p by simp))
            have p1 := own_at oA.out rfl (kvs_at (show (A0 ++ [p, p2])[A0.length + 1]? = some p2 by simp))
            have q0 := own_at oB.out rfl (kvs_at (show (B0 ++ [q, q2])[A0.length]? = some q by rw [← hm2]; simp))
            have q1 := own_at oB.out rfl (kvs_at (show (B0 ++ [q, q2])[A0.length + 1]? = some q2 by rw [← hm2]; simp))
            have s1 := sA.out p (by simp)
            have s2 := sA.out p2 (by simp)
            have s3 := sB.out q (by simp)
            have s4 := sB.out q2 (by simp)
            obtain ⟨m, hm⟩ : ∃ m, m = A0.length := ⟨_, rfl⟩
            obtain ⟨m1, hm1⟩ : ∃ m, m = A0.length + 1 := ⟨_, rfl⟩
            rw [← hm] at p0 q0
            rw [← hm1] at p1 q1
            have hwr2 : IntKind.i64.wrap ((n : Int) - 2) = (m : Int) := by rw [show (n : Int) - 2 = (m : Int) by omega]; exact wrap_nat m (by omega)
            have hwr1 : IntKind.i64.wrap ((n : Int) - 1) = (m1 : Int) := by rw [show (n : Int) - 1 = (m1 : Int) by omega]; exact wrap_nat m1 (by omega)
            have hmn1 : (m1 : Int) < (n : Int) := by omega
            have hmn : (m : Int) < (n : Int) := by omega
            have lg := cell_lt p0
            have lh := cell_lt q0
            have ex : Hid (opx 45 (A0 ++ [p, p2]) (B0 ++ [q, q2]) = p - p2) := by show _ = _; first | (simp [opx]; done) | simp [opx, hm2]
            have ey : Hid (opy 45 (A0 ++ [p, p2]) (B0 ++ [q, q2]) = q - q2) := by show _ = _; first | (simp [opy]; done) | simp [opy, hm2]
            have w1 : IntKind.i64.wrap (p - p2) = p - p2 := by rw [IntKind.wrap_i64]; unfold Sm at *; omega
            have w2 : IntKind.i64.wrap (q - q2) = q - q2 := by rw [IntKind.wrap_i64]; unfold Sm at *; omega
            clear hm hm2 hn2 hm1
            go_wp2_with fail
            go_still mixed
            go_wp2_with fail
            obtain ⟨wd, hwd⟩ : ∃ v : World, v = { heap := wr.heap, tape := wr.tape, drawn := wr.drawn + 1, os := wr.os, output := wr.output } := ⟨_, rfl⟩
            rw [← hwd]
            replace p0 : wd.cell? ⟨g, m, none⟩ = some (.int .i64 p) := by rw [hwd]; exact p0
            replace p1 : wd.cell? ⟨g, m1, none⟩ = some (.int .i64 p2) := by rw [hwd]; exact p1
            replace q0 : wd.cell? ⟨h, m, none⟩ = some (.int .i64 q) := by rw [hwd]; exact q0
            replace q1 : wd.cell? ⟨h, m1, none⟩ = some (.int .i64 q2) := by rw [hwd]; exact q1
            have hbd : Below wr.heap.size wr wd := by rw [hwd]; exact (Below.refl _ _).drew
            clear hwd
            go_still mixed
            go_wp2_with fail
            refine Met.intro ?_
            go_step
            exact PCut.intro (by kernel_rfl) ⟨congrArg (Value.int .i64) ex.out.symm, congrArg (Value.int .i64) ey.out.symm, by decide, hbd.drew⟩
          · subst hcc
            obtain ⟨A0, p, p2, rfl⟩ := splitL2 (l := A) (by have := HN.out; omega)
            obtain ⟨B0, q, q2, rfl⟩ := splitL2 (l := B) (by have := HN.out; have := hAB.out; omega)
            have hn2 : n = A0.length + 2 := by rw [HN.out]; simp
            have hm2 : B0.length = A0.length := by have := hAB.out; simp at this; omega
            obtain ⟨g, cap, e9, _⟩ := row_int oA.out (by omega)
            obtain ⟨h, cap2, e10, _⟩ := row_int oB.out (by omega)
            cases e9
            cases e10
            have p0 := own_at oA.out rfl (kvs_at (show (A0 ++ [p, p2])[A0.length]? = some p by simp))
            have p1 := own_at oA.out rfl (kvs_at (show (A0 ++ [p, p2])[A0.length + 1]? = some p2 by simp))
            have q0 := own_at oB.out rfl (kvs_at (show (B0 ++ [q, q2])[A0.length]? = some q by rw [← hm2]; simp))
            have q1 := own_at oB.out rfl (kvs_at (show (B0 ++ [q, q2])[A0.length + 1]? = some q2 by rw [← hm2]; simp))
            have s1 := sA.out p (by simp)
            have s2 := sA.out p2 (by simp)
            have s3 := sB.out q (by simp)
            have s4 := sB.out q2 (by simp)
            obtain ⟨m, hm⟩ : ∃ m, m = A0.length := ⟨_, rfl⟩
            obtain ⟨m1, hm1⟩ : ∃ m, m = A0.length + 1 := ⟨_, rfl⟩
            rw [← hm] at p0 q0
            rw [← hm1] at p1 q1
            have hwr2 : IntKind.i64.wrap ((n : Int) - 2) = (m : Int) := by rw [show (n : Int) - 2 = (m : Int) by omega]; exact wrap_nat m (by omega)
            have hwr1 : IntKind.i64.wrap ((n : Int) - 1) = (m1 : Int) := by rw [show (n : Int) - 1 = (m1 : Int) by omega]; exact wrap_nat m1 (by omega)
            have hmn1 : (m1 : Int) < (n : Int) := by omega
            have hmn : (m : Int) < (n : Int) := by omega
            have lg := cell_lt p0
            have lh := cell_lt q0
            have ex : Hid (opx 42 (A0 ++ [p, p2]) (B0 ++ [q, q2]) = p * p2 - q * q2) := by show _ = _; first | (simp [opx]; done) | simp [opx, hm2]
            have ey : Hid (opy 42 (A0 ++ [p, p2]) (B0 ++ [q, q2]) = p * q2 + q * p2) := by show _ = _; first | (simp [opy]; done) | simp [opy, hm2]
            have w1 : IntKind.i64.wrap (p * p2) = p * p2 := by have := s1.mul s2; rw [IntKind.wrap_i64]; omega
            have w2 : IntKind.i64.wrap (q * q2) = q * q2 := by have := s3.mul s4; rw [IntKind.wrap_i64]; omega
            have w3 : IntKind.i64.wrap (p * q2) = p * q2 := by have := s1.mul s4; rw [IntKind.wrap_i64]; omega
            have w4 : IntKind.i64.wrap (q * p2) = q * p2 := by have := s3.mul s2; rw [IntKind.wrap_i64]; omega
            have w5 : IntKind.i64.wrap (p * p2 - q * q2) = p * p2 - q * q2 := by have := s1.mul s2; have := s3.mul s4; rw [IntKind.wrap_i64]; omega
            have w6 : IntKind.i64.wrap (p * q2 + q * p2) = p * q2 + q * p2 := by have := s1.mul s4; have := s3.mul s2; rw [IntKind.wrap_i64]; omega
            clear hm hm2 hn2 hm1
            go_wp2_with fail
            go_still mixed
            go_wp2_with fail
            obtain ⟨wd, hwd⟩ : ∃ v : World, v = { heap := wr.heap, tape := wr.tape, drawn := wr.drawn + 1, os := wr.os, output := wr.output } := ⟨_, rfl⟩
            rw [← hwd]
            replace p0 : wd.cell? ⟨g, m, none⟩ = some (.int .i64 p) := by rw [hwd]; exact p0
            replace p1 : wd.cell? ⟨g, m1, none⟩ = some (.int .i64 p2) := by rw [hwd]; exact p1
            replace q0 : wd.cell? ⟨h, m, none⟩ = some (.int .i64 q) := by rw [hwd]; exact q0
            replace q1 : wd.cell? ⟨h, m1, none⟩ = some (.int .i64 q2) := by rw [hwd]; exact q1
            have hbd : Below wr.heap.size wr wd := by rw [hwd]; exact (Below.refl _ _).drew
            clear hwd
            go_still mixed
            go_wp2_with fail
            refine Met.intro ?_
            go_step
            exact PCut.intro (by kernel_rfl) ⟨congrArg (Value.int .i64) ex.out.symm, congrArg (Value.int .i64) ey.out.symm, by decide, hbd.drew⟩
          · subst hcc
            obtain ⟨A0, p, rfl⟩ := splitL1 (l := A) (by have := HN.out; omega)
            obtain ⟨B0, q, rfl⟩ := splitL1 (l := B) (by have := HN.out; have := hAB.out; omega)
            have hn2 : n = A0.length + 1 := by rw [HN.out]; simp
            have hm2 : B0.length = A0.length := by have := hAB.out; simp at this; omega
            obtain ⟨g, cap, e9, _⟩ := row_int oA.out (by omega)
            obtain ⟨h, cap2, e10, _⟩ := row_int oB.out (by omega)
            cases e9
            cases e10
            have p0 := own_at oA.out rfl (kvs_at (show (A0 ++ [p])[A0.length]? = some p by simp))
            have q0 := own_at oB.out rfl (kvs_at (show (B0 ++ [q])[A0.length]? = some q by rw [← hm2]; simp))
            have s1 := sA.out p (by simp)
            have s3 := sB.out q (by simp)
            obtain ⟨m, hm⟩ : ∃ m, m = A0.length := ⟨_, rfl⟩
            rw [← hm] at p0 q0
            have hwr1 : IntKind.i64.wrap ((n : Int) - 1) = (m : Int) := by rw [show (n : Int) - 1 = (m : Int) by omega]; exact wrap_nat m (by omega)
            have hmn : (m : Int) < (n : Int) := by omega
            have lg := cell_lt p0
            have lh := cell_lt q0
            have ex : Hid (opx 126 (A0 ++ [p]) (B0 ++ [q]) = p) := by show _ = _; first | (simp [opx]; done) | simp [opx, hm2]
            have ey : Hid (opy 126 (A0 ++ [p]) (B0 ++ [q]) = -q) := by show _ = _; first | (simp [opy]; done) | simp [opy, hm2]
            have w1 : IntKind.i64.wrap (-q) = -q := by rw [IntKind.wrap_i64]; unfold Sm at *; omega
            clear hm hm2 hn2 
            go_wp2_with fail
            refine Met.intro ?_
            go_step
            exact PCut.intro (by kernel_rfl) ⟨congrArg (Value.int .i64) ex.out.symm, congrArg (Value.int .i64) ey.out.symm, by decide, Below.refl _ _⟩
          · subst hcc
            obtain ⟨A0, p, rfl⟩ := splitL1 (l := A) (by have := HN.out; omega)
            obtain ⟨B0, q, rfl⟩ := splitL1 (l := B) (by have := HN.out; have := hAB.out; omega)
            have hn2 : n = A0.length + 1 := by rw [HN.out]; simp
            have hm2 : B0.length = A0.length := by have := hAB.out; simp at this; omega
            obtain ⟨g, cap, e9, _⟩ := row_int oA.out (by omega)
            obtain ⟨h, cap2, e10, _⟩ := row_int oB.out (by omega)
            cases e9
            cases e10
            have p0 := own_at oA.out rfl (kvs_at (show (A0 ++ [p])[A0.length]? = some p by simp))
            have q0 := own_at oB.out rfl (kvs_at (show (B0 ++ [q])[A0.length]? = some q by rw [← hm2]; simp))
            have s1 := sA.out p (by simp)
            have s3 := sB.out q (by simp)
            obtain ⟨m, hm⟩ : ∃ m, m = A0.length := ⟨_, rfl⟩
            rw [← hm] at p0 q0
            have hwr1 : IntKind.i64.wrap ((n : Int) - 1) = (m : Int) := by rw [show (n : Int) - 1 = (m : Int) by omega]; exact wrap_nat m (by omega)
            have hmn : (m : Int) < (n : Int) := by omega
            have lg := cell_lt p0
            have lh := cell_lt q0
            have ex : Hid (opx 94 (A0 ++ [p]) (B0 ++ [q]) = p * p - q * q) := by show _ = _; first | (simp [opx]; done) | simp [opx, hm2]
            have ey : Hid (opy 94 (A0 ++ [p]) (B0 ++ [q]) = 2 * p * q) := by show _ = _; first | (simp [opy]; done) | simp [opy, hm2]
            have w1 : IntKind.i64.wrap (p * p) = p * p := by have := s1.mul s1; rw [IntKind.wrap_i64]; omega
            have w2 : IntKind.i64.wrap (q * q) = q * q := by have := s3.mul s3; rw [IntKind.wrap_i64]; omega
            have w3 : IntKind.i64.wrap (2 * p) = 2 * p := by rw [IntKind.wrap_i64]; unfold Sm at *; omega
            have w4 : IntKind.i64.wrap (p * p - q * q) = p * p - q * q := by have := s1.mul s1; have := s3.mul s3; rw [IntKind.wrap_i64]; omega
            have w5 : IntKind.i64.wrap (2 * p * q) = 2 * p * q := by have := s1.mul s3; rw [Int.mul_assoc, IntKind.wrap_i64]; omega
            clear hm hm2 hn2 
            go_wp2_with fail
            go_still mixed
            go_wp2_with fail
            obtain ⟨wd, hwd⟩ : ∃ v : World, v = { heap := wr.heap, tape := wr.tape, drawn := wr.drawn + 1, os := wr.os, output := wr.output } := ⟨_, rfl⟩
            rw [← hwd]
            replace p0 : wd.cell? ⟨g, m, none⟩ = some (.int .i64 p) := by rw [hwd]; exact p0
            replace q0 : wd.cell? ⟨h, m, none⟩ = some (.int .i64 q) := by rw [hwd]; exact q0
            have hbd : Below wr.heap.size wr wd := by rw [hwd]; exact (Below.refl _ _).drew
            clear hwd
            go_still mixed
            go_wp2_with fail
            refine Met.intro ?_
            go_step
            exact PCut.intro (by kernel_rfl) ⟨congrArg (Value.int .i64) ex.out.symm, congrArg (Value.int .i64) ey.out.symm, by decide, hbd.drew⟩
          · go_wp2_with fail
            exact bodyPost_ret (v := .tuple #[.int .i64 0, .int .i64 0, .bool false]) (by simp [results, Tryz.results23, go_sem]) rfl ⟨⟨0, 0, false, rfl, fun c => by cases c⟩, hB.out⟩
        intro a1 wc hcut
        obtain ⟨v14, v15, g1, rfl, rfl, rfl, hid', hb2'⟩ := hcut
        unfold pfr
        have hid : Hid (idx c ≠ -1) := hid'
        have hb2 : Hid (Below wr.heap.size wr wc) := hb2'
        clear hid' hb2'
        obtain ⟨x, hx⟩ : ∃ x, x = opx c A B := ⟨_, rfl⟩
        obtain ⟨y, hy⟩ : ∃ y, y = opy c A B := ⟨_, rfl⟩
        rw [← hx, ← hy]
        have HXY : Hid (x = opx c A B ∧ y = opy c A B) := ⟨hx, hy⟩
        clear hx hy
        go_upto_region 32 with fail
        go_cut [220] from 207 to 220 (fun s220 wx => s220 = .bool (decide (¬ (Sm x ∧ Sm y))) ∧ wc = wx)
        case first =>
          by_cases a1 : 67108864 < x
          · go_wp2_with fail
            go_meet
            case rel => exact ⟨congrArg Value.bool (decide_eq_true (by unfold Sm; omega)).symm, rfl⟩
          by_cases a2 : x < -67108864
          · go_wp2_with fail
            go_meet
            case rel => exact ⟨congrArg Value.bool (decide_eq_true (by unfold Sm; omega)).symm, rfl⟩
          by_cases a3 : 67108864 < y
          · go_wp2_with fail
            go_meet
            case rel => exact ⟨congrArg Value.bool (decide_eq_true (by unfold Sm; omega)).symm, rfl⟩
          by_cases a4 : y < -67108864
          · go_wp2_with fail
            go_meet
            case rel => exact ⟨congrArg Value.bool (decide_eq_true (by unfold Sm; omega)).symm, rfl⟩
          go_wp2_with fail
          go_meet
          case rel => exact ⟨congrArg Value.bool (decide_eq_false (by unfold Sm; omega)).symm, rfl⟩
        obtain ⟨rfl, rfl⟩ := hcut
        by_cases hsm' : ¬ (Sm x ∧ Sm y)
        · rw [decide_eq_true hsm']
          go_wp2_with fail
          exact bodyPost_ret (v := .tuple #[.int .i64 0, .int .i64 0, .bool false]) (by simp [results, Tryz.results23, go_sem]) rfl ⟨⟨0, 0, false, rfl, fun c => by cases c⟩, bl_next hB.out hb2.out⟩
        rw [decide_eq_false hsm']
        have hsm : Sm x ∧ Sm y := Classical.byContradiction hsm'
        clear hsm'
        have hop : Hid (pts X Y ((byts s).drop (k + 1)) (A.take (A.length - tk c) ++ [x]) (B.take (A.length - tk c) ++ [y]) = R) := by
          have h2 : tk c ≤ A.length := by
            have := HN.out
            unfold tk
            split <;> omega
          have := pts_op hrn.out HP.out hid.out h2 (by rw [← HXY.out.1, ← HXY.out.2]; exact hsm)
          rw [← HXY.out.1, ← HXY.out.2] at this
          exact this
        clear hrn
        by_cases t1 : c = 126
        · subst t1
          replace hop : Hid (pts X Y ((byts s).drop (k + 1)) (A.take (A.length - 1) ++ [x]) (B.take (A.length - 1) ++ [y]) = R) := hop.out
          obtain ⟨g, cap, e9, hca⟩ := row_int oA.out (by omega)
          obtain ⟨h, cap2, e10, hcb⟩ := row_int oB.out (by omega)
          cases e9
          cases e10
          obtain ⟨m, hm⟩ : ∃ m, m = n - 1 := ⟨_, rfl⟩
          have hwr : IntKind.i64.wrap ((n : Int) - 1) = (m : Int) := by rw [show (n : Int) - 1 = (m : Int) by omega]; exact wrap_nat m (by omega)
          have hmc : (m : Int) ≤ (sc : Int) := by omega
          have hmc2 : (m : Int) ≤ (sd : Int) := by omega
          have TA : Hid (wc.ownsRow w.heap.size 3 1 (.slice (some ⟨g, 0, none⟩) m sc) m (kvs (A.take m))) := own_takeI (keep_own oA.out hb2.out) (by omega)
          have TB : Hid (wc.ownsRow w.heap.size 3 1 (.slice (some ⟨h, 0, none⟩) m sd) m (kvs (B.take m))) := own_takeI (keep_own oB.out hb2.out) (by omega)
          have lA : (A.take m).length = m := by rw [List.length_take, ← HN.out]; omega
          have lB : (B.take m).length = m := by rw [List.length_take, ← hAB.out, ← HN.out]; omega
          have hm60 : m ≤ 60 := by omega
          have HM : Hid (m = n - 1) := hm
          have z2 := (bl_next hB.out hb2.out).size
          clear hm
          go_wp2_with (at_builtin; refine wpList_append_at _ rfl (.tmp 230) (.tmp 232) 23 rfl w.heap.size 3 i0 (.int .i64 0) 1 8 Tryz.underlying23 hi hz0 hz1 hz2 rfl (by decide) _ _ _ rfl ((TA.out).alloc _) ⟨wc.heap.size, 0, none⟩ 1 1 [.int .i64 x] rfl rfl (cell_one (by simp [go_sem])) (by intro x hx; simp at hx; subst hx; rfl) (by unfold maxLen; omega) (by omega) (by simp; omega) (by decide) ?_)
          intro u' w1 o1 g1 nw
          have T1 : Hid (Two w.heap.size w1 u' (.slice (some ⟨h, 0, none⟩) n sd) (A.take m ++ [x]) B) := (hT.out.below hb2.out).push (A0 := A.take m) rfl (by rw [lA]; exact o1) g1 nw
          have hB1 : Hid (Below w.heap.size w w1) := push_below (bl_next hB.out hb2.out) TA.out g1
          have TB1 : Hid (w1.ownsRow w.heap.size 3 1 (.slice (some ⟨h, 0, none⟩) m sd) m (kvs (B.take m))) := grown_own g1 (TB.out.alloc _) (fun k hk c => hT.out.ne k c hk)
          have z3 := hB1.out.size
          clear o1 g1 nw
          go_wp2_with (at_builtin; refine wpList_append_at _ rfl (.tmp 237) (.tmp 239) 23 rfl w.heap.size 3 i0 (.int .i64 0) 1 8 Tryz.underlying23 hi hz0 hz1 hz2 rfl (by decide) _ _ _ rfl ((TB1.out).alloc _) ⟨w1.heap.size, 0, none⟩ 1 1 [.int .i64 y] rfl rfl (cell_one (by simp [go_sem])) (by intro x hx; simp at hx; subst hx; rfl) (by unfold maxLen; omega) (by omega) (by simp; omega) (by decide) ?_)
          intro v' w2 o2 g2 nw2
          have T2 : Hid (Two w.heap.size w2 u' v' (A.take m ++ [x]) (B.take m ++ [y])) := (T1.out.symm.push (A0 := B.take m) rfl (by rw [lB]; exact o2) g2 nw2).symm
          have hB2 : Hid (Below w.heap.size w w2) := push_below hB1.out TB1.out g2
          clear o2 g2 nw2
          go_wp2
          refine ⟨PInv.intro (by kernel_rfl) ?_, by simp [pmu, nth, intOf]; omega⟩
          exact ⟨k + 1, A.take m ++ [x], B.take m ++ [y], by omega, by (show Value.int .i64 _ = _; go_num), T2.out, by simp [lA, lB], by (have := HM.out; have := hLe.out; rw [List.length_append, lA]; simp; omega), hB2.out, sm_app (fun z hz => sA.out z (List.mem_of_mem_take hz)) hsm.1, sm_app (fun z hz => sB.out z (List.mem_of_mem_take hz)) hsm.2, by rw [HM.out, HN.out]; exact hop.out⟩
        by_cases t2 : c = 94
        · subst t2
          replace hop : Hid (pts X Y ((byts s).drop (k + 1)) (A.take (A.length - 1) ++ [x]) (B.take (A.length - 1) ++ [y]) = R) := hop.out
          obtain ⟨g, cap, e9, hca⟩ := row_int oA.out (by omega)
          obtain ⟨h, cap2, e10, hcb⟩ := row_int oB.out (by omega)
          cases e9
          cases e10
          obtain ⟨m, hm⟩ : ∃ m, m = n - 1 := ⟨_, rfl⟩
          have hwr : IntKind.i64.wrap ((n : Int) - 1) = (m : Int) := by rw [show (n : Int) - 1 = (m : Int) by omega]; exact wrap_nat m (by omega)
          have hmc : (m : Int) ≤ (sc : Int) := by omega
          have hmc2 : (m : Int) ≤ (sd : Int) := by omega
          have TA : Hid (wc.ownsRow w.heap.size 3 1 (.slice (some ⟨g, 0, none⟩) m sc) m (kvs (A.take m))) := own_takeI (keep_own oA.out hb2.out) (by omega)
          have TB : Hid (wc.ownsRow w.heap.size 3 1 (.slice (some ⟨h, 0, none⟩) m sd) m (kvs (B.take m))) := own_takeI (keep_own oB.out hb2.out) (by omega)
          have lA : (A.take m).length = m := by rw [List.length_take, ← HN.out]; omega
          have lB : (B.take m).length = m := by rw [List.length_take, ← hAB.out, ← HN.out]; omega
          have hm60 : m ≤ 60 := by omega
          have HM : Hid (m = n - 1) := hm
          have z2 := (bl_next hB.out hb2.out).size
          clear hm
          go_wp2_with (at_builtin; refine wpList_append_at _ rfl (.tmp 230) (.tmp 232) 23 rfl w.heap.size 3 i0 (.int .i64 0) 1 8 Tryz.underlying23 hi hz0 hz1 hz2 rfl (by decide) _ _ _ rfl ((TA.out).alloc _) ⟨wc.heap.size, 0, none⟩ 1 1 [.int .i64 x] rfl rfl (cell_one (by simp [go_sem])) (by intro x hx; simp at hx; subst hx; rfl) (by unfold maxLen; omega) (by omega) (by simp; omega) (by decide) ?_)
          intro u' w1 o1 g1 nw
          have T1 : Hid (Two w.heap.size w1 u' (.slice (some ⟨h, 0, none⟩) n sd) (A.take m ++ [x]) B) := (hT.out.below hb2.out).push (A0 := A.take m) rfl (by rw [lA]; exact o1) g1 nw
          have hB1 : Hid (Below w.heap.size w w1) := push_below (bl_next hB.out hb2.out) TA.out g1
          have TB1 : Hid (w1.ownsRow w.heap.size 3 1 (.slice (some ⟨h, 0, none⟩) m sd) m (kvs (B.take m))) := grown_own g1 (TB.out.alloc _) (fun k hk c => hT.out.ne k c hk)
          have z3 := hB1.out.size
          clear o1 g1 nw
          go_wp2_with (at_builtin; refine wpList_append_at _ rfl (.tmp 237) (.tmp 239) 23 rfl w.heap.size 3 i0 (.int .i64 0) 1 8 Tryz.underlying23 hi hz0 hz1 hz2 rfl (by decide) _ _ _ rfl ((TB1.out).alloc _) ⟨w1.heap.size, 0, none⟩ 1 1 [.int .i64 y] rfl rfl (cell_one (by simp [go_sem])) (by intro x hx; simp at hx; subst hx; rfl) (by unfold maxLen; omega) (by omega) (by simp; omega) (by decide) ?_)
          intro v' w2 o2 g2 nw2
          have T2 : Hid (Two w.heap.size w2 u' v' (A.take m ++ [x]) (B.take m ++ [y])) := (T1.out.symm.push (A0 := B.take m) rfl (by rw [lB]; exact o2) g2 nw2).symm
          have hB2 : Hid (Below w.heap.size w w2) := push_below hB1.out TB1.out g2
          clear o2 g2 nw2
          go_wp2
          refine ⟨PInv.intro (by kernel_rfl) ?_, by simp [pmu, nth, intOf]; omega⟩
          exact ⟨k + 1, A.take m ++ [x], B.take m ++ [y], by omega, by (show Value.int .i64 _ = _; go_num), T2.out, by simp [lA, lB], by (have := HM.out; have := hLe.out; rw [List.length_append, lA]; simp; omega), hB2.out, sm_app (fun z hz => sA.out z (List.mem_of_mem_take hz)) hsm.1, sm_app (fun z hz => sB.out z (List.mem_of_mem_take hz)) hsm.2, by rw [HM.out, HN.out]; exact hop.out⟩
        · replace hop : Hid (pts X Y ((byts s).drop (k + 1)) (A.take (A.length - 2) ++ [x]) (B.take (A.length - 2) ++ [y]) = R) := by
            have e : tk c = 2 := by unfold tk; rw [if_neg (by omega)]
            have := hop.out
            rw [e] at this
            exact this
          have cb1 : (c == 126) = false := by simp [t1]
          have cb2 : (c == 94) = false := by simp [t2]
          have cb : (c == 126 || c == 94) = false := by rw [cb1, cb2]; rfl
          obtain ⟨g, cap, e9, hca⟩ := row_int oA.out (by omega)
          obtain ⟨h, cap2, e10, hcb⟩ := row_int oB.out (by omega)
          cases e9
          cases e10
          obtain ⟨m, hm⟩ : ∃ m, m = n - 2 := ⟨_, rfl⟩
          have hwr : IntKind.i64.wrap ((n : Int) - 2) = (m : Int) := by rw [show (n : Int) - 2 = (m : Int) by omega]; exact wrap_nat m (by omega)
          have hmc : (m : Int) ≤ (sc : Int) := by omega
          have hmc2 : (m : Int) ≤ (sd : Int) := by omega
          have TA : Hid (wc.ownsRow w.heap.size 3 1 (.slice (some ⟨g, 0, none⟩) m sc) m (kvs (A.take m))) := own_takeI (keep_own oA.out hb2.out) (by omega)
          have TB : Hid (wc.ownsRow w.heap.size 3 1 (.slice (some ⟨h, 0, none⟩) m sd) m (kvs (B.take m))) := own_takeI (keep_own oB.out hb2.out) (by omega)
          have lA : (A.take m).length = m := by rw [List.length_take, ← HN.out]; omega
          have lB : (B.take m).length = m := by rw [List.length_take, ← hAB.out, ← HN.out]; omega
          have hm60 : m ≤ 60 := by omega
          have HM : Hid (m = n - 2) := hm
          have z2 := (bl_next hB.out hb2.out).size
          clear hm
          go_wp2_with (at_builtin; refine wpList_append_at _ rfl (.tmp 244) (.tmp 246) 23 rfl w.heap.size 3 i0 (.int .i64 0) 1 8 Tryz.underlying23 hi hz0 hz1 hz2 rfl (by decide) _ _ _ rfl ((TA.out).alloc _) ⟨wc.heap.size, 0, none⟩ 1 1 [.int .i64 x] rfl rfl (cell_one (by simp [go_sem])) (by intro x hx; simp at hx; subst hx; rfl) (by unfold maxLen; omega) (by omega) (by simp; omega) (by decide) ?_)
          intro u' w1 o1 g1 nw
          have T1 : Hid (Two w.heap.size w1 u' (.slice (some ⟨h, 0, none⟩) n sd) (A.take m ++ [x]) B) := (hT.out.below hb2.out).push (A0 := A.take m) rfl (by rw [lA]; exact o1) g1 nw
          have hB1 : Hid (Below w.heap.size w w1) := push_below (bl_next hB.out hb2.out) TA.out g1
          have TB1 : Hid (w1.ownsRow w.heap.size 3 1 (.slice (some ⟨h, 0, none⟩) m sd) m (kvs (B.take m))) := grown_own g1 (TB.out.alloc _) (fun k hk c => hT.out.ne k c hk)
          have z3 := hB1.out.size
          clear o1 g1 nw
          go_wp2_with (at_builtin; refine wpList_append_at _ rfl (.tmp 251) (.tmp 253) 23 rfl w.heap.size 3 i0 (.int .i64 0) 1 8 Tryz.underlying23 hi hz0 hz1 hz2 rfl (by decide) _ _ _ rfl ((TB1.out).alloc _) ⟨w1.heap.size, 0, none⟩ 1 1 [.int .i64 y] rfl rfl (cell_one (by simp [go_sem])) (by intro x hx; simp at hx; subst hx; rfl) (by unfold maxLen; omega) (by omega) (by simp; omega) (by decide) ?_)
          intro v' w2 o2 g2 nw2
          have T2 : Hid (Two w.heap.size w2 u' v' (A.take m ++ [x]) (B.take m ++ [y])) := (T1.out.symm.push (A0 := B.take m) rfl (by rw [lB]; exact o2) g2 nw2).symm
          have hB2 : Hid (Below w.heap.size w w2) := push_below hB1.out TB1.out g2
          clear o2 g2 nw2
          go_wp2
          refine ⟨PInv.intro (by kernel_rfl) ?_, by simp [pmu, nth, intOf]; omega⟩
          exact ⟨k + 1, A.take m ++ [x], B.take m ++ [y], by omega, by (show Value.int .i64 _ = _; go_num), T2.out, by simp [lA, lB], by (have := HM.out; have := hLe.out; rw [List.length_append, lA]; simp; omega), hB2.out, sm_app (fun z hz => sA.out z (List.mem_of_mem_take hz)) hsm.1, sm_app (fun z hz => sB.out z (List.mem_of_mem_take hz)) hsm.2, by rw [HM.out, HN.out]; exact hop.out⟩
    · have hkn : k = s.size := by omega
      subst hkn
      rw [List.drop_eq_nil_of_le (by rw [byts_len]; exact Nat.le_refl _)] at hrn'
      by_cases h1 : n = 1
      · subst h1
        obtain ⟨p, rfl⟩ := List.length_eq_one_iff.mp HN.out.symm
        obtain ⟨q, rfl⟩ := List.length_eq_one_iff.mp (hAB.out.symm.trans HN.out.symm)
        obtain ⟨g, cap, e9, _⟩ := row_int oA.out (by omega)
        obtain ⟨h, cap2, e10, _⟩ := row_int oB.out (by omega)
        cases e9
        cases e10
        have p0 := own_at oA.out rfl (kvs_at (show [p][0]? = some p by rfl))
        have q0 := own_at oB.out rfl (kvs_at (show [q][0]? = some q by rfl))
        have HR : Hid (R = some (p, q)) := by
          show _ = _
          rw [← hrn', pts]
          rfl
        clear hrn'
        go_wp2_with fail
        go_still mixed
        go_wp2_with fail
        exact bodyPost_ret (v := .tuple #[.int .i64 p, .int .i64 q, .bool true]) (by simp [results, Tryz.results23, go_sem]) rfl ⟨⟨p, q, true, rfl, fun _ => HR.out⟩, hB.out.drew⟩
      · have h1' : ¬ (n : Int) = 1 := by omega
        clear hrn'
        go_wp2_with fail
        exact bodyPost_ret (v := .tuple #[.int .i64 0, .int .i64 0, .bool false]) (by simp [results, Tryz.results23, go_sem]) rfl ⟨⟨0, 0, false, rfl, fun c => by cases c⟩, hB.out⟩
end Go.Proofs.YtacnclofbnafiabGreatDoor
