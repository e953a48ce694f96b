import Derived.Test.YtacnclofbnafiabGreatDoorBZ
import Derived.Test.YtacnclofbnafiabGreatDoorAD
namespace Go.Proofs.YtacnclofbnafiabGreatDoor
open Go.RowKit Fl

theorem own_take4 {w : World} {base : Nat} {e : TypeId} {sz g n cap : Nat} {xs : List Value} (h : w.ownsRow base e sz (.slice (some ⟨g, 0, none⟩) n cap) n xs) {r : Nat} (hr : r ≤ n) : w.ownsRow base e sz (.slice (some ⟨g, 0, none⟩) r cap) r (xs.take (r * sz)) := by
  have h1 := h.1
  have hm : r * sz ≤ n * sz := Nat.mul_le_mul_right _ hr
  rcases h.2 with ⟨h0, _⟩ | ⟨g', cap', cur, e1, e2, e3, e4, e5, e6, e7⟩
  · cases h0
  · cases e1
    refine ⟨by rw [List.length_take]; omega, .inr ⟨g, cap, cur, rfl, e2, e3, by omega, e5, e6, ?_⟩⟩
    rw [← e7, List.take_take, Nat.min_eq_left hm]
theorem bfl_len (l : List Bx) : (bfl l).length = l.length * 4 := by
  induction l with
  | nil => rfl
  | cons x l ih => show (x.cs ++ bfl l).length = _; rw [List.length_append, ih]; simp [Bx.cs]; omega
theorem bfl_app (l k : List Bx) : bfl (l ++ k) = bfl l ++ bfl k := by simp [bfl]
theorem bfl_take (l : List Bx) (r : Nat) (h : r ≤ l.length) : (bfl l).take (r * 4) = bfl (l.take r) := by
  have e : l = l.take r ++ l.drop r := (List.take_append_drop r l).symm
  rw [e, bfl_app, List.take_append_of_le_length (by rw [bfl_len, List.length_take]; omega), List.take_of_length_le (by rw [bfl_len, List.length_take]; omega)]
  simp
theorem split1 {l : List Bx} (h : 1 ≤ l.length) : ∃ st x, l = st ++ [x] := ⟨l.dropLast, l.getLast (by intro c; subst c; simp at h), (List.dropLast_concat_getLast _).symm⟩
theorem split2 {l : List Bx} (h : 2 ≤ l.length) : ∃ st x y, l = st ++ [x, y] := by
  obtain ⟨l1, y, rfl⟩ := split1 (show 1 ≤ l.length by omega)
  rw [List.length_append] at h
  obtain ⟨st, x, rfl⟩ := split1 (l := l1) (by simp at h; omega)
  exact ⟨st, x, y, by simp⟩
theorem getD_at {l : List St} {k : Nat} {x : St} (h : l[k]? = some x) : l.getD k default = x := by rw [List.getD, h]; rfl
theorem after2 (P : Plane) (c : Int) (ht : tk c = 2) (st : List Bx) (x y : Bx) : after P c 0 ((st ++ [x, y]).map St.box) = (st.map St.box) ++ [P.op2 c 0 (.box x) (.box y)] := by
  unfold after
  rw [if_neg (by omega)]
  have hl : ((st ++ [x, y]).map St.box).length = st.length + 2 := by simp
  rw [hl, getD_at (x := .box x) (by simp), getD_at (x := .box y) (by simp)]
  simp
theorem after1 (P : Plane) (c : Int) (ht : tk c = 1) (st : List Bx) (x : Bx) : after P c 0 ((st ++ [x]).map St.box) = (st.map St.box) ++ [P.op1 c 0 (.box x)] := by
  unfold after
  rw [if_pos ht]
  have hl : ((st ++ [x]).map St.box).length = st.length + 1 := by simp
  rw [hl, getD_at (x := .box x) (by simp)]
  simp
/-- A byte over boxes alone. -/
theorem stp_boxes (P : Plane) (bl : List Bx) (c i : Int) (st : List Bx) (qs : List (Int × Int)) (h : (stp P (bl.map St.box) [] (fun _ => 0) (fun _ => true) c i (st.map St.box) qs).1 = 0) :
    (48 ≤ c ∧ c < 52 ∧ ∃ x, bl[(c - 48).toNat]? = some x ∧ stp P (bl.map St.box) [] (fun _ => 0) (fun _ => true) c i (st.map St.box) qs = (0, (st ++ [x]).map St.box, qs)) ∨
    (∃ st0 x y, st = st0 ++ [x, y] ∧ ((c = 43 ∧ stp P (bl.map St.box) [] (fun _ => 0) (fun _ => true) c i (st.map St.box) qs = (0, (st0 ++ [P.badd x y]).map St.box, qs ++ [(c, i)])) ∨ (c = 45 ∧ stp P (bl.map St.box) [] (fun _ => 0) (fun _ => true) c i (st.map St.box) qs = (0, (st0 ++ [P.bsub x y]).map St.box, qs ++ [(c, i)])) ∨ (c = 42 ∧ stp P (bl.map St.box) [] (fun _ => 0) (fun _ => true) c i (st.map St.box) qs = (0, (st0 ++ [P.bmul x y]).map St.box, qs ++ [(c, i)])))) ∨
    (∃ st0 x, st = st0 ++ [x] ∧ ((c = 126 ∧ stp P (bl.map St.box) [] (fun _ => 0) (fun _ => true) c i (st.map St.box) qs = (0, (st0 ++ [P.bconj x]).map St.box, qs ++ [(c, i)])) ∨ (c = 94 ∧ stp P (bl.map St.box) [] (fun _ => 0) (fun _ => true) c i (st.map St.box) qs = (0, (st0 ++ [P.bmul x x]).map St.box, qs ++ [(c, i)])))) := by
  have e : stp P (bl.map St.box) [] (fun _ => 0) (fun _ => true) c i (st.map St.box) qs = stp P (bl.map St.box) [] (fun _ => 0) (fun _ => true) c i (st.map St.box) qs := rfl
  conv at e => rhs; unfold stp
  by_cases h1 : 48 ≤ c ∧ c < 52
  · rw [if_pos h1] at e
    cases hb : (bl.map St.box)[(c - 48).toNat]? with
    | none => rw [hb] at e; rw [e] at h; simp at h
    | some x =>
      rw [hb] at e
      rw [List.getElem?_map] at hb
      obtain ⟨y, hy, rfl⟩ := Option.map_eq_some_iff.mp hb
      exact .inl ⟨h1.1, h1.2, y, hy, by rw [e]; simp⟩
  rw [if_neg h1] at e
  by_cases h2 : 97 ≤ c ∧ c < 101
  · rw [if_pos h2] at e; rw [e] at h; simp at h
  rw [if_neg h2] at e
  by_cases h3 : idx c = -1
  · rw [if_pos h3] at e; rw [e] at h; simp at h
  rw [if_neg h3] at e
  by_cases h4 : (st.map St.box).length < tk c
  · rw [if_pos h4] at e; rw [e] at h; simp at h
  rw [if_neg h4, if_pos rfl] at e
  rw [List.length_map] at h4
  have c4 : c = 43 ∨ c = 45 ∨ c = 42 ∨ c = 126 ∨ c = 94 := by
    unfold idx at h3
    repeat' split at h3
    all_goals omega
  refine .inr ?_
  rcases c4 with rfl | rfl | rfl | rfl | rfl
  · obtain ⟨st0, x, y, rfl⟩ := split2 (l := st) (by have : tk 43 = 2 := rfl; omega)
    exact .inl ⟨st0, x, y, rfl, .inl ⟨rfl, by rw [e, after2 P 43 rfl]; simp [Plane.op2, Plane.asB]⟩⟩
  · obtain ⟨st0, x, y, rfl⟩ := split2 (l := st) (by have : tk 45 = 2 := rfl; omega)
    exact .inl ⟨st0, x, y, rfl, .inr (.inl ⟨rfl, by rw [e, after2 P 45 rfl]; simp [Plane.op2, Plane.asB]⟩)⟩
  · obtain ⟨st0, x, y, rfl⟩ := split2 (l := st) (by have : tk 42 = 2 := rfl; omega)
    exact .inl ⟨st0, x, y, rfl, .inr (.inr ⟨rfl, by rw [e, after2 P 42 rfl]; simp [Plane.op2, Plane.asB]⟩)⟩
  · obtain ⟨st0, x, rfl⟩ := split1 (l := st) (by have : tk 126 = 1 := rfl; omega)
    exact .inr ⟨st0, x, rfl, .inl ⟨rfl, by rw [e, after1 P 126 rfl]; simp [Plane.op1, Plane.asB]⟩⟩
  · obtain ⟨st0, x, rfl⟩ := split1 (l := st) (by have : tk 94 = 1 := rfl; omega)
    exact .inr ⟨st0, x, rfl, .inr ⟨rfl, by rw [e, after1 P 94 rfl]; simp [Plane.op1, Plane.asB]⟩⟩
theorem runs_step {P : Plane} {bs ds : List St} {kdf : Nat → Int} {gd : Nat → Bool} {c : Int} {cs : List Int} {i : Int} {st : List St} {qs : List (Int × Int)} {R : Int × Int × List St × List (Int × Int)} (h : runs P bs ds kdf gd (c :: cs) i st qs = R) (h0 : R.1 = 0) : (stp P bs ds kdf gd c i st qs).1 = 0 ∧ runs P bs ds kdf gd cs (i + 1) (stp P bs ds kdf gd c i st qs).2.1 (stp P bs ds kdf gd c i st qs).2.2 = R := by
  rw [runs_cons] at h
  by_cases c0 : (stp P bs ds kdf gd c i st qs).1 = 0
  · rw [if_pos c0] at h; exact ⟨c0, h⟩
  · rw [if_neg c0] at h; rw [← h] at h0; exact absurd h0 c0
theorem row_box {w : World} {base : Nat} {u : Value} {st : List Bx} {n : Nat} (h : w.ownsRow base 39 4 u n (bfl st)) (hn : 0 < n) : ∃ g cap, u = .slice (some ⟨g, 0, none⟩) n cap := by
  rcases h.2 with ⟨_, e⟩ | ⟨g, cap, cur, e, _⟩
  · omega
  · exact ⟨g, cap, e⟩
theorem box_cells {w : World} {base : Nat} {st : List Bx} {n g cap : Nat} (h : w.ownsRow base 39 4 (.slice (some ⟨g, 0, none⟩) n cap) n (bfl st)) {j : Nat} {x : Bx} (hx : st[j]? = some x) : w.cell? ⟨g, j * 4, none⟩ = some (.float .f64 x.a) ∧ w.cell? ⟨g, j * 4 + 1, none⟩ = some (.float .f64 x.b) ∧ w.cell? ⟨g, j * 4 + 2, none⟩ = some (.float .f64 x.c) ∧ w.cell? ⟨g, j * 4 + 3, none⟩ = some (.float .f64 x.d) :=
  ⟨own_at h rfl (by rw [show j * 4 = j * 4 + 0 by omega, bfl_at hx 0 (by omega)]; rfl), own_at h rfl (by rw [bfl_at hx 1 (by omega)]; rfl), own_at h rfl (by rw [bfl_at hx 2 (by omega)]; rfl), own_at h rfl (by rw [bfl_at hx 3 (by omega)]; rfl)⟩
/-- A block of four cells that may be written. -/
structure Four (b : Nat) (w : World) : Prop where
  c0 : ∃ v, w.cell? ⟨b, 0, none⟩ = some v ∧ w.frozen? ⟨b, 0, none⟩ = false
  c1 : ∃ v, w.cell? ⟨b, 1, none⟩ = some v ∧ w.frozen? ⟨b, 1, none⟩ = false
  c2 : ∃ v, w.cell? ⟨b, 2, none⟩ = some v ∧ w.frozen? ⟨b, 2, none⟩ = false
  c3 : ∃ v, w.cell? ⟨b, 3, none⟩ = some v ∧ w.frozen? ⟨b, 3, none⟩ = false
theorem Four.below {b : Nat} {w w' : World} (h : Four b w) (hB : Below w.heap.size w w') : Four b w' := by
  have k : ∀ {j : Nat}, (∃ v, w.cell? ⟨b, j, none⟩ = some v ∧ w.frozen? ⟨b, j, none⟩ = false) → ∃ v, w'.cell? ⟨b, j, none⟩ = some v ∧ w'.frozen? ⟨b, j, none⟩ = false := fun ⟨v, h1, h2⟩ => ⟨v, bkeep2 hB h1, bfroz2 hB h1 h2⟩
  exact ⟨k h.c0, k h.c1, k h.c2, k h.c3⟩
theorem bnew4 {u w' : World} {a b c d : Value} {t : TypeId} (hb : Below (u.alloc (.cells #[a, b, c, d] t)).heap.size (u.alloc (.cells #[a, b, c, d] t)) w') :
    w'.cell? ⟨u.heap.size, 0, none⟩ = some a ∧ w'.cell? ⟨u.heap.size, 1, none⟩ = some b ∧ w'.cell? ⟨u.heap.size, 2, none⟩ = some c ∧ w'.cell? ⟨u.heap.size, 3, none⟩ = some d ∧ w'.frozen? ⟨u.heap.size, 0, none⟩ = false ∧ w'.frozen? ⟨u.heap.size, 1, none⟩ = false ∧ w'.frozen? ⟨u.heap.size, 2, none⟩ = false ∧ w'.frozen? ⟨u.heap.size, 3, none⟩ = false :=
  ⟨bkeep hb (by simp) (by simp), bkeep hb (by simp) (by simp), bkeep hb (by simp) (by simp), bkeep hb (by simp) (by simp), bfroz hb (by simp) (by simp), bfroz hb (by simp) (by simp), bfroz hb (by simp) (by simp), bfroz hb (by simp) (by simp)⟩
theorem bnewD4 {u w' : World} {a b c d : Value} {t : TypeId} (hb : Below (u.alloc (.cells #[a, b, c, d] t)).drew.heap.size (u.alloc (.cells #[a, b, c, d] t)).drew w') :
    w'.cell? ⟨u.heap.size, 0, none⟩ = some a ∧ w'.cell? ⟨u.heap.size, 1, none⟩ = some b ∧ w'.cell? ⟨u.heap.size, 2, none⟩ = some c ∧ w'.cell? ⟨u.heap.size, 3, none⟩ = some d ∧ w'.frozen? ⟨u.heap.size, 0, none⟩ = false ∧ w'.frozen? ⟨u.heap.size, 1, none⟩ = false ∧ w'.frozen? ⟨u.heap.size, 2, none⟩ = false ∧ w'.frozen? ⟨u.heap.size, 3, none⟩ = false :=
  ⟨bkeep hb (by simp) (by simp), bkeep hb (by simp) (by simp), bkeep hb (by simp) (by simp), bkeep hb (by simp) (by simp), bfroz hb (by simp) (by simp), bfroz hb (by simp) (by simp), bfroz hb (by simp) (by simp), bfroz hb (by simp) (by simp)⟩
theorem Four.put {b : Nat} {w W : World} (h : Four b w) (v0 v1 v2 v3 : Value) (hW : W = (((w.setCell ⟨b, 0, none⟩ v0).setCell ⟨b, 1, none⟩ v1).setCell ⟨b, 2, none⟩ v2).setCell ⟨b, 3, none⟩ v3) :
    W.cell? ⟨b, 0, none⟩ = some v0 ∧ W.cell? ⟨b, 1, none⟩ = some v1 ∧ W.cell? ⟨b, 2, none⟩ = some v2 ∧ W.cell? ⟨b, 3, none⟩ = some v3 := by
  obtain ⟨⟨x0, h0, _⟩, ⟨x1, h1, _⟩, ⟨x2, h2, _⟩, ⟨x3, h3, _⟩⟩ := h
  have ot : ∀ {w : World} {i j : Nat} {u v : Value}, i ≠ j → w.cell? ⟨b, i, none⟩ = some u → (w.setCell ⟨b, j, none⟩ v).cell? ⟨b, i, none⟩ = some u := fun {w i j u v} c e => by
    rw [World.cell?_setCell_other _ _ _ _ (by simp)]; exact e
  subst hW
  exact ⟨ot (by decide) (ot (by decide) (ot (by decide) (World.cell?_setCell_same _ _ _ h0))), ot (by decide) (ot (by decide) (World.cell?_setCell_same _ _ _ (ot (by decide) h1))), ot (by decide) (World.cell?_setCell_same _ _ _ (ot (by decide) (ot (by decide) h2))), World.cell?_setCell_same _ _ _ (ot (by decide) (ot (by decide) (ot (by decide) h3)))⟩
theorem all_ok {l : List Bx} {z : Bx} (h : ∀ x ∈ l, x.ok) (hz : z.ok) : ∀ x ∈ l ++ [z], x.ok := by
  intro x hx
  rcases List.mem_append.mp hx with c | c
  · exact h x c
  · rw [List.mem_singleton] at c; subst c; exact hz
theorem boxes_next {w0 wr wc w1 : World} {u : Value} {m : Nat} {st0 : List Bx} {z : Bx} {v' : Value} {o : Obj} (hB : Below w0.heap.size w0 wr) (hb5 : Below wr.heap.size wr wc) (T : wc.ownsRow w0.heap.size 39 4 u m (bfl st0)) (hm : m = st0.length) (o1 : w1.ownsRow w0.heap.size 39 4 v' (m + 1) (bfl st0 ++ [.float .f64 z.a, .float .f64 z.b, .float .f64 z.c, .float .f64 z.d])) (g1 : (wc.alloc o).grownBy w1 u.ownBlock) :
    w1.ownsRow w0.heap.size 39 4 v' (st0 ++ [z]).length (bfl (st0 ++ [z])) ∧ Below w0.heap.size w0 w1 := by
  refine ⟨?_, ?_⟩
  · rw [bfl_app, List.length_append, ← hm]
    exact o1
  · have hc : Below w0.heap.size w0 wc := bl_next hB hb5
    exact Below.grown (bl_alloc hc) g1 (by have := hc.size; simp; omega) fun j hj => (T.lt j hj).1
set_option maxRecDepth 100000 in
set_option maxHeartbeats 16000000 in
theorem boxes_ref (F : Ops) (P : Plane) (s : ByteArray) (v : Value) (bl : List Bx) (z : Bx) (w : World) (h : SrcB w v bl) (ob : ∀ x ∈ bl, x.ok) (hs : s.size ≤ 60) (hr : (runs P (bl.map St.box) [] (fun _ => 0) (fun _ => true) (byts s) 0 [] []).1 = 0) (hz : (runs P (bl.map St.box) [] (fun _ => 0) (fun _ => true) (byts s) 0 [] []).2.2.1 = [St.box z]) :
    Calls Tryz.prog 16 #[.string s, v] w fun e w' => e = .returned z.v ∧ Below w.heap.size w w' := by
  obtain ⟨i0, hi, hz0, hz1, hz2⟩ := info_parts infoBx
  obtain ⟨ao, c, rfl⟩ := h.sh
  have HS : Hid (SrcB w (.slice ao bl.length c) bl) := h
  clear h
  generalize hR : runs P (bl.map St.box) [] (fun _ => 0) (fun _ => true) (byts s) 0 [] [] = R at hr hz
  obtain ⟨w0, hw0⟩ : ∃ v, v = w.alloc (.cells #[.float .f64 0, .float .f64 0, .float .f64 0, .float .f64 0] 39) := ⟨_, rfl⟩
  have hB0 : Below w.heap.size w w0 := by rw [hw0]; exact bl_alloc (Below.refl _ _)
  have H0 : Hid (Four w.heap.size w0) := by rw [hw0]; constructor <;> exact ⟨_, by simp [go_sem]; rfl, by simp [go_sem]⟩
  go_enter Tryz.func16, Tryz.ntmps16
  go_wp2_with fail
  rw [← hw0]
  clear hw0
  go_loopw [5, 6] (fun u i wr => ∃ (k : Nat) (st : List Bx) (qs : List (Int × Int)), k ≤ s.size ∧ i = .int .i64 k ∧ Hid (wr.ownsRow w0.heap.size 39 4 u st.length (bfl st) ∧ Below w0.heap.size w0 wr ∧ (∀ x ∈ st, x.ok) ∧ st.length ≤ k ∧ runs P (bl.map St.box) [] (fun _ => 0) (fun _ => true) ((byts s).drop k) k (st.map St.box) qs = R)) (fun _ i _ => s.size - (intOf i).toNat)
  case atStart => exact ⟨0, [], [], Nat.zero_le _, rfl, World.ownsRow_nil _ _ _ _, Below.refl _ _, by simp, by simp, hR⟩
  case round =>
    rename World => wr
    obtain ⟨k, st, qs, hk, rfl, hH⟩ := hrel
    obtain ⟨hown, hB, hok, hlen, hrn⟩ := hH.out
    by_cases hlt : k < s.size
    · have hltI : (k : Int) < s.size := by omega
      rw [byts_drop s hlt] at hrn
      obtain ⟨hs0, hnx⟩ := runs_step hrn hr
      have hsz := hB.size
      clear hH hrn hR
      rcases stp_boxes P bl _ _ st qs hs0 with ⟨c1, c2, x, hx, he⟩ | ⟨st0, x, y, rfl, hc⟩ | ⟨st0, x, rfl, hc⟩
      · rw [he] at hnx
        obtain ⟨j, hj⟩ : ∃ j : Nat, ((s[k]'hlt).toNat : Int) - 48 = j := ⟨(((s[k]'hlt).toNat : Int) - 48).toNat, by omega⟩
        rw [hj, show ((j : Int)).toNat = j by omega] at hx
        obtain ⟨b1, c', e1, x0, x1, x2, x3⟩ := HS.out.ce j x hx
        cases e1
        have okz := ob x (List.mem_of_getElem? hx)
        have hBw : Below w.heap.size w wr := bl_next hB0 hB
        replace x0 := bkeep2 hBw x0
        replace x1 := bkeep2 hBw x1
        replace x2 := bkeep2 hBw x2
        replace x3 := bkeep2 hBw x3
        have hjl : j < bl.length := by
          rcases Nat.lt_or_ge j bl.length with c | c
          · exact c
          · rw [List.getElem?_eq_none c] at hx; cases hx
        have hjI : (j : Int) < (bl.length : Int) := by omega
        have n1 : ¬ ((s[k]'hlt).toNat : Int) = 43 := by omega
        have n2 : ¬ ((s[k]'hlt).toNat : Int) = 45 := by omega
        have n3 : ¬ ((s[k]'hlt).toNat : Int) = 42 := by omega
        have n4 : ¬ ((s[k]'hlt).toNat : Int) = 94 := by omega
        have n5 : ¬ ((s[k]'hlt).toNat : Int) = 126 := by omega
        have hwr : IntKind.u8.wrap (((s[k]'hlt).toNat : Int) - 48) = (j : Int) := by rw [IntKind.wrap_u8]; omega
        have hwr2 : IntKind.i64.wrap (j : Int) = (j : Int) := by rw [IntKind.wrap_i64]; omega
        have lb : b1 < wr.heap.size := cell_lt x0
        obtain ⟨so, sc, rfl, _, _, _⟩ := own_shape hown
        have hL : st.length ≤ 60 := by omega
        have HN : Hid (∃ qs', runs P (bl.map St.box) [] (fun _ => 0) (fun _ => true) ((byts s).drop (k + 1)) ((k : Int) + 1) ((st ++ [x]).map St.box) qs' = R) := ⟨_, hnx⟩
        have hok0 : Hid (∀ x ∈ st, x.ok) := hok
        have hlk : Hid (st.length ≤ k) := hlen
        clear hnx he hs0 hj hx hok hlen c1 c2
        go_wp2_with (at_builtin; refine wpList_append_at _ rfl (.tmp 26) (.tmp 33) 24 rfl w0.heap.size 39 i0 (.agg #[.float .f64 0, .float .f64 0, .float .f64 0, .float .f64 0]) 4 32 Tryz.underlying24 hi hz0 hz1 hz2 rfl (by decide) _ _ _ rfl (hown.alloc _) ⟨wr.heap.size, 0, none⟩ 1 1 [.float .f64 x.a, .float .f64 x.b, .float .f64 x.c, .float .f64 x.d] rfl rfl (four_cells (by simp [go_sem]) (by simp [go_sem]) (by simp [go_sem]) (by simp [go_sem])) (by intro x hx; simp at hx; rcases hx with rfl | rfl | rfl | rfl <;> rfl) (by unfold maxLen; omega) (by omega) (by simp; omega) (by decide) ?_)
        intro v' w1 o1 g1 nw
        have N := boxes_next hB (Below.refl _ _) hown rfl o1 g1
        have NH : Hid _ := N
        clear o1 g1 nw N
        go_wp2
        go_roundw
        case rel => exact ⟨k + 1, st ++ [x], HN.out.choose, by omega, by go_num, NH.out.1, NH.out.2, all_ok hok0.out okz, by (have := hlk.out; simp; omega), HN.out.choose_spec⟩
        case measure => simp [intOf]; omega
      · rcases hc with ⟨hc, he⟩ | ⟨hc, he⟩ | ⟨hc, he⟩
        · rw [he] at hnx
          obtain ⟨g, cap, rfl⟩ := row_box hown (by simp)
          have hl2 : (st0 ++ [x, y]).length = st0.length + 2 := by simp
          rw [hl2] at hown hlen
          obtain ⟨p0, p1, p2, p3⟩ := box_cells hown (j := st0.length) (x := x) (by simp)
          obtain ⟨q0, q1, q2, q3⟩ := box_cells hown (j := st0.length + 1) (x := y) (by simp)
          have oky := hok y (by simp)
          have okx := hok x (by simp)
          have ref := badd_ref F P w okx oky
          have okz := (P.hbadd x y okx oky).1
          have lg : g < wr.heap.size := cell_lt p0
          rw [hl2]
          obtain ⟨m, hm⟩ : ∃ m, m = st0.length := ⟨_, rfl⟩
          obtain ⟨m1, hm1⟩ : ∃ m, m = st0.length + 1 := ⟨_, rfl⟩
          obtain ⟨n, hn⟩ : ∃ m, m = st0.length + 2 := ⟨_, rfl⟩
          have T0 := own_take4 hown (r := st0.length) (by omega)
          rw [bfl_take _ _ (by simp), List.take_left, ← hm] at T0
          rw [← hm] at p0 p1 p2 p3
          rw [← hm1] at q0 q1 q2 q3
          rw [← hn] at hown ⊢
          have HM : Hid (m = st0.length ∧ m1 = st0.length + 1 ∧ n = st0.length + 2 ∧ n ≤ k) := ⟨hm, hm1, hn, by omega⟩
          have hwr2 : IntKind.i64.wrap ((n : Int) - 2) = (m : Int) := by rw [show (n : Int) - 2 = (m : Int) by omega]; exact wrap_nat m (by omega)
          have hwr1 : IntKind.i64.wrap ((n : Int) - 1) = (m1 : Int) := by rw [show (n : Int) - 1 = (m1 : Int) by omega]; exact wrap_nat m1 (by omega)
          have hmn1 : (m1 : Int) < (n : Int) := by omega
          have hmn : (m : Int) < (n : Int) := by omega
          have hnc : n ≤ cap := by
            rcases hown.2 with ⟨e, _⟩ | ⟨g', cap', cur, e1, _, _, e4, _⟩
            · cases e
            · cases e1; exact e4
          have hmc : (m : Int) ≤ (cap : Int) := by omega
          clear hm hm1 hn hlen hl2 hown
          have hok0 : Hid (∀ x ∈ st0, x.ok) := fun q hq => hok q (List.mem_append_left _ hq)
          clear hok
          generalize P.badd x y = Z at *
          have r1 := ref.1
          unfold Ret Bx.v at r1
          have HN : Hid (∃ qs', runs P (bl.map St.box) [] (fun _ => 0) (fun _ => true) ((byts s).drop (k + 1)) ((k : Int) + 1) ((st0 ++ [Z]).map St.box) qs' = R) := ⟨_, hnx⟩
          have HT : Hid (wr.ownsRow w0.heap.size 39 4 (.slice (some ⟨g, 0, none⟩) m cap) m (bfl st0)) := T0
          clear hnx he hs0 T0
          go_wp2_with fail
          go_cut [9] (fun s5 wx => ∃ b : Nat, s5 = .pointer (some ⟨b, 0, none⟩) ∧ wx.cell? ⟨b, 0, none⟩ = some (.float .f64 Z.a) ∧ wx.cell? ⟨b, 1, none⟩ = some (.float .f64 Z.b) ∧ wx.cell? ⟨b, 2, none⟩ = some (.float .f64 Z.c) ∧ wx.cell? ⟨b, 3, none⟩ = some (.float .f64 Z.d) ∧ wr.heap.size ≤ b ∧ Below wr.heap.size wr wx)
          case first =>
            go_region_held3 (fun w' => w'.cell? ⟨g, m * 4, none⟩ = some (.float .f64 x.a) ∧ w'.cell? ⟨g, m * 4 + 1, none⟩ = some (.float .f64 x.b) ∧ w'.cell? ⟨g, m * 4 + 2, none⟩ = some (.float .f64 x.c) ∧ w'.cell? ⟨g, m * 4 + 3, none⟩ = some (.float .f64 x.d) ∧ w'.cell? ⟨g, m1 * 4, none⟩ = some (.float .f64 y.a) ∧ w'.cell? ⟨g, m1 * 4 + 1, none⟩ = some (.float .f64 y.b) ∧ w'.cell? ⟨g, m1 * 4 + 2, none⟩ = some (.float .f64 y.c) ∧ w'.cell? ⟨g, m1 * 4 + 3, none⟩ = some (.float .f64 y.d)) (((try dsimp only); (repeat' apply And.intro) <;> first | (with_reducible assumption) | exact bkeep (W := wr) (n := wr.heap.size) (by repeat (with_reducible first | exact Below.refl _ _ | assumption | refine Below.drew ?_ | refine bl_drewN ?_ _ | refine bl_alloc ?_ | refine bl_next ?_ (by assumption) | refine bl_set ?_ (by first | omega | (simp; done) | (simp; omega) | exact Below.size (B := wr.heap.size) (by repeat (with_reducible first | exact Below.refl _ _ | assumption | refine Below.drew ?_ | refine bl_drewN ?_ _ | refine bl_alloc ?_ | refine bl_next ?_ (by assumption) | refine bl_set ?_ (by first | omega | (simp; done) | (simp; omega))))))) (by with_reducible assumption) (by first | omega | (simp; done) | (simp; omega)))) (first | (go_at_call 39; with_reducible refine (r1 _).mono ?_; rintro e w' ⟨rfl, hb⟩; (try have z := bnew4 hb); (try have z := bnewD4 hb); (try simp only [World.size_drew] at z)))
            all_goals (go_wp2_with fail; go_meet; (case rel => exact ⟨_, rfl, (by first | (simp [go_sem]; done) | (simp [*]; done) | simp [go_sem, *]), (by first | (simp [go_sem]; done) | (simp [*]; done) | simp [go_sem, *]), (by first | (simp [go_sem]; done) | (simp [*]; done) | simp [go_sem, *]), (by first | (simp [go_sem]; done) | (simp [*]; done) | simp [go_sem, *]), (by first | omega | (simp; done) | exact Below.size (B := wr.heap.size) (by repeat (with_reducible first | exact Below.refl _ _ | assumption | refine Below.drew ?_ | refine bl_drewN ?_ _ | refine bl_alloc ?_ | refine bl_next ?_ (by assumption) | refine bl_set ?_ (by first | omega | (simp; done) | (simp; omega))))), (by repeat (with_reducible first | exact Below.refl _ _ | assumption | refine Below.drew ?_ | refine bl_drewN ?_ _ | refine bl_alloc ?_ | refine bl_next ?_ (by assumption) | refine bl_set ?_ (by first | omega | (simp; done) | (simp; omega) | exact Below.size (B := wr.heap.size) (by repeat (with_reducible first | exact Below.refl _ _ | assumption | refine Below.drew ?_ | refine bl_drewN ?_ _ | refine bl_alloc ?_ | refine bl_next ?_ (by assumption) | refine bl_set ?_ (by first | omega | (simp; done) | (simp; omega)))))))⟩))
          case rest =>
            obtain ⟨b5, rfl, m0, m1', m2, m3, le5, hb5⟩ := hcut
            have hs5 := keep_own HT.out hb5
            have z5 := hb5.size
            have hm60 : m ≤ 60 := by have := HM.out; omega
            clear p0 p1 p2 p3 q0 q1 q2 q3
            go_wp2_with fail
            go_region_law (refine step_append_at rfl (.tmp 51) (.tmp 53) 24 rfl w0.heap.size 39 i0 (.agg #[.float .f64 0, .float .f64 0, .float .f64 0, .float .f64 0]) 4 32 Tryz.underlying24 hi hz0 hz1 hz2 rfl (by decide) _ _ _ (by simp [Act.eval]) (hs5.drew.alloc _) ⟨wc.heap.size, 0, none⟩ 1 1 [.float .f64 Z.a, .float .f64 Z.b, .float .f64 Z.c, .float .f64 Z.d] (by simp [Act.eval]) rfl (four_cells (by simp [go_sem]) (by simp [go_sem]) (by simp [go_sem]) (by simp [go_sem])) (by intro x hx; simp at hx; rcases hx with rfl | rfl | rfl | rfl <;> rfl) (by unfold maxLen; omega) (by omega) (by simp; omega) (by decide) ?_; intro v' w1 o1 g1 nw)
            all_goals (try go_wp2)
            all_goals
              have N := boxes_next hB hb5 hs5 HM.out.1 o1 (grown_undrew g1)
              have NH : Hid _ := N
              clear o1 g1 nw N
              go_roundw
              case rel => exact ⟨k + 1, st0 ++ [Z], HN.out.choose, by omega, by go_num, NH.out.1, NH.out.2, all_ok hok0.out okz, by (have := HM.out; simp; omega), HN.out.choose_spec⟩
              case measure => simp [intOf]; omega
        · rw [he] at hnx
          obtain ⟨g, cap, rfl⟩ := row_box hown (by simp)
          have hl2 : (st0 ++ [x, y]).length = st0.length + 2 := by simp
          rw [hl2] at hown hlen
          obtain ⟨p0, p1, p2, p3⟩ := box_cells hown (j := st0.length) (x := x) (by simp)
          obtain ⟨q0, q1, q2, q3⟩ := box_cells hown (j := st0.length + 1) (x := y) (by simp)
          have oky := hok y (by simp)
          have okx := hok x (by simp)
          have ref := bsub_ref F P w okx oky
          have okz := (P.hbsub x y okx oky).1
          have lg : g < wr.heap.size := cell_lt p0
          rw [hl2]
          obtain ⟨m, hm⟩ : ∃ m, m = st0.length := ⟨_, rfl⟩
          obtain ⟨m1, hm1⟩ : ∃ m, m = st0.length + 1 := ⟨_, rfl⟩
          obtain ⟨n, hn⟩ : ∃ m, m = st0.length + 2 := ⟨_, rfl⟩
          have T0 := own_take4 hown (r := st0.length) (by omega)
          rw [bfl_take _ _ (by simp), List.take_left, ← hm] at T0
          rw [← hm] at p0 p1 p2 p3
          rw [← hm1] at q0 q1 q2 q3
          rw [← hn] at hown ⊢
          have HM : Hid (m = st0.length ∧ m1 = st0.length + 1 ∧ n = st0.length + 2 ∧ n ≤ k) := ⟨hm, hm1, hn, by omega⟩
          have hwr2 : IntKind.i64.wrap ((n : Int) - 2) = (m : Int) := by rw [show (n : Int) - 2 = (m : Int) by omega]; exact wrap_nat m (by omega)
          have hwr1 : IntKind.i64.wrap ((n : Int) - 1) = (m1 : Int) := by rw [show (n : Int) - 1 = (m1 : Int) by omega]; exact wrap_nat m1 (by omega)
          have hmn1 : (m1 : Int) < (n : Int) := by omega
          have hmn : (m : Int) < (n : Int) := by omega
          have hnc : n ≤ cap := by
            rcases hown.2 with ⟨e, _⟩ | ⟨g', cap', cur, e1, _, _, e4, _⟩
            · cases e
            · cases e1; exact e4
          have hmc : (m : Int) ≤ (cap : Int) := by omega
          clear hm hm1 hn hlen hl2 hown
          have hok0 : Hid (∀ x ∈ st0, x.ok) := fun q hq => hok q (List.mem_append_left _ hq)
          clear hok
          generalize P.bsub x y = Z at *
          have r1 := ref.1
          unfold Ret Bx.v at r1
          have HN : Hid (∃ qs', runs P (bl.map St.box) [] (fun _ => 0) (fun _ => true) ((byts s).drop (k + 1)) ((k : Int) + 1) ((st0 ++ [Z]).map St.box) qs' = R) := ⟨_, hnx⟩
          have HT : Hid (wr.ownsRow w0.heap.size 39 4 (.slice (some ⟨g, 0, none⟩) m cap) m (bfl st0)) := T0
          clear hnx he hs0 T0
          go_wp2_with fail
          go_cut [10] (fun s5 wx => ∃ b : Nat, s5 = .pointer (some ⟨b, 0, none⟩) ∧ wx.cell? ⟨b, 0, none⟩ = some (.float .f64 Z.a) ∧ wx.cell? ⟨b, 1, none⟩ = some (.float .f64 Z.b) ∧ wx.cell? ⟨b, 2, none⟩ = some (.float .f64 Z.c) ∧ wx.cell? ⟨b, 3, none⟩ = some (.float .f64 Z.d) ∧ wr.heap.size ≤ b ∧ Below wr.heap.size wr wx)
          case first =>
            go_region_held3 (fun w' => w'.cell? ⟨g, m * 4, none⟩ = some (.float .f64 x.a) ∧ w'.cell? ⟨g, m * 4 + 1, none⟩ = some (.float .f64 x.b) ∧ w'.cell? ⟨g, m * 4 + 2, none⟩ = some (.float .f64 x.c) ∧ w'.cell? ⟨g, m * 4 + 3, none⟩ = some (.float .f64 x.d) ∧ w'.cell? ⟨g, m1 * 4, none⟩ = some (.float .f64 y.a) ∧ w'.cell? ⟨g, m1 * 4 + 1, none⟩ = some (.float .f64 y.b) ∧ w'.cell? ⟨g, m1 * 4 + 2, none⟩ = some (.float .f64 y.c) ∧ w'.cell? ⟨g, m1 * 4 + 3, none⟩ = some (.float .f64 y.d)) (((try dsimp only); (repeat' apply And.intro) <;> first | (with_reducible assumption) | exact bkeep (W := wr) (n := wr.heap.size) (by repeat (with_reducible first | exact Below.refl _ _ | assumption | refine Below.drew ?_ | refine bl_drewN ?_ _ | refine bl_alloc ?_ | refine bl_next ?_ (by assumption) | refine bl_set ?_ (by first | omega | (simp; done) | (simp; omega) | exact Below.size (B := wr.heap.size) (by repeat (with_reducible first | exact Below.refl _ _ | assumption | refine Below.drew ?_ | refine bl_drewN ?_ _ | refine bl_alloc ?_ | refine bl_next ?_ (by assumption) | refine bl_set ?_ (by first | omega | (simp; done) | (simp; omega))))))) (by with_reducible assumption) (by first | omega | (simp; done) | (simp; omega)))) (first | (go_at_call 39; with_reducible refine (r1 _).mono ?_; rintro e w' ⟨rfl, hb⟩; (try have z := bnew4 hb); (try have z := bnewD4 hb); (try simp only [World.size_drew] at z)))
            all_goals (go_wp2_with fail; go_meet; (case rel => exact ⟨_, rfl, (by first | (simp [go_sem]; done) | (simp [*]; done) | simp [go_sem, *]), (by first | (simp [go_sem]; done) | (simp [*]; done) | simp [go_sem, *]), (by first | (simp [go_sem]; done) | (simp [*]; done) | simp [go_sem, *]), (by first | (simp [go_sem]; done) | (simp [*]; done) | simp [go_sem, *]), (by first | omega | (simp; done) | exact Below.size (B := wr.heap.size) (by repeat (with_reducible first | exact Below.refl _ _ | assumption | refine Below.drew ?_ | refine bl_drewN ?_ _ | refine bl_alloc ?_ | refine bl_next ?_ (by assumption) | refine bl_set ?_ (by first | omega | (simp; done) | (simp; omega))))), (by repeat (with_reducible first | exact Below.refl _ _ | assumption | refine Below.drew ?_ | refine bl_drewN ?_ _ | refine bl_alloc ?_ | refine bl_next ?_ (by assumption) | refine bl_set ?_ (by first | omega | (simp; done) | (simp; omega) | exact Below.size (B := wr.heap.size) (by repeat (with_reducible first | exact Below.refl _ _ | assumption | refine Below.drew ?_ | refine bl_drewN ?_ _ | refine bl_alloc ?_ | refine bl_next ?_ (by assumption) | refine bl_set ?_ (by first | omega | (simp; done) | (simp; omega)))))))⟩))
          case rest =>
            obtain ⟨b5, rfl, m0, m1', m2, m3, le5, hb5⟩ := hcut
            have hs5 := keep_own HT.out hb5
            have z5 := hb5.size
            have hm60 : m ≤ 60 := by have := HM.out; omega
            clear p0 p1 p2 p3 q0 q1 q2 q3
            go_wp2_with fail
            go_region_law (refine step_append_at rfl (.tmp 71) (.tmp 73) 24 rfl w0.heap.size 39 i0 (.agg #[.float .f64 0, .float .f64 0, .float .f64 0, .float .f64 0]) 4 32 Tryz.underlying24 hi hz0 hz1 hz2 rfl (by decide) _ _ _ (by simp [Act.eval]) (hs5.drew.alloc _) ⟨wc.heap.size, 0, none⟩ 1 1 [.float .f64 Z.a, .float .f64 Z.b, .float .f64 Z.c, .float .f64 Z.d] (by simp [Act.eval]) rfl (four_cells (by simp [go_sem]) (by simp [go_sem]) (by simp [go_sem]) (by simp [go_sem])) (by intro x hx; simp at hx; rcases hx with rfl | rfl | rfl | rfl <;> rfl) (by unfold maxLen; omega) (by omega) (by simp; omega) (by decide) ?_; intro v' w1 o1 g1 nw)
            all_goals (try go_wp2)
            all_goals
              have N := boxes_next hB hb5 hs5 HM.out.1 o1 (grown_undrew g1)
              have NH : Hid _ := N
              clear o1 g1 nw N
              go_roundw
              case rel => exact ⟨k + 1, st0 ++ [Z], HN.out.choose, by omega, by go_num, NH.out.1, NH.out.2, all_ok hok0.out okz, by (have := HM.out; simp; omega), HN.out.choose_spec⟩
              case measure => simp [intOf]; omega
        · rw [he] at hnx
          obtain ⟨g, cap, rfl⟩ := row_box hown (by simp)
          have hl2 : (st0 ++ [x, y]).length = st0.length + 2 := by simp
          rw [hl2] at hown hlen
          obtain ⟨p0, p1, p2, p3⟩ := box_cells hown (j := st0.length) (x := x) (by simp)
          obtain ⟨q0, q1, q2, q3⟩ := box_cells hown (j := st0.length + 1) (x := y) (by simp)
          have oky := hok y (by simp)
          have okx := hok x (by simp)
          have ref := bmul_ref F P w okx oky
          have okz := (P.hbmul x y okx oky).1
          have lg : g < wr.heap.size := cell_lt p0
          rw [hl2]
          obtain ⟨m, hm⟩ : ∃ m, m = st0.length := ⟨_, rfl⟩
          obtain ⟨m1, hm1⟩ : ∃ m, m = st0.length + 1 := ⟨_, rfl⟩
          obtain ⟨n, hn⟩ : ∃ m, m = st0.length + 2 := ⟨_, rfl⟩
          have T0 := own_take4 hown (r := st0.length) (by omega)
          rw [bfl_take _ _ (by simp), List.take_left, ← hm] at T0
          rw [← hm] at p0 p1 p2 p3
          rw [← hm1] at q0 q1 q2 q3
          rw [← hn] at hown ⊢
          have HM : Hid (m = st0.length ∧ m1 = st0.length + 1 ∧ n = st0.length + 2 ∧ n ≤ k) := ⟨hm, hm1, hn, by omega⟩
          have hwr2 : IntKind.i64.wrap ((n : Int) - 2) = (m : Int) := by rw [show (n : Int) - 2 = (m : Int) by omega]; exact wrap_nat m (by omega)
          have hwr1 : IntKind.i64.wrap ((n : Int) - 1) = (m1 : Int) := by rw [show (n : Int) - 1 = (m1 : Int) by omega]; exact wrap_nat m1 (by omega)
          have hmn1 : (m1 : Int) < (n : Int) := by omega
          have hmn : (m : Int) < (n : Int) := by omega
          have hnc : n ≤ cap := by
            rcases hown.2 with ⟨e, _⟩ | ⟨g', cap', cur, e1, _, _, e4, _⟩
            · cases e
            · cases e1; exact e4
          have hmc : (m : Int) ≤ (cap : Int) := by omega
          clear hm hm1 hn hlen hl2 hown
          have hok0 : Hid (∀ x ∈ st0, x.ok) := fun q hq => hok q (List.mem_append_left _ hq)
          clear hok
          generalize P.bmul x y = Z at *
          have r1 := ref.1
          unfold Ret Bx.v at r1
          have HN : Hid (∃ qs', runs P (bl.map St.box) [] (fun _ => 0) (fun _ => true) ((byts s).drop (k + 1)) ((k : Int) + 1) ((st0 ++ [Z]).map St.box) qs' = R) := ⟨_, hnx⟩
          have HT : Hid (wr.ownsRow w0.heap.size 39 4 (.slice (some ⟨g, 0, none⟩) m cap) m (bfl st0)) := T0
          clear hnx he hs0 T0
          go_wp2_with fail
          go_cut [11] (fun s5 wx => ∃ b : Nat, s5 = .pointer (some ⟨b, 0, none⟩) ∧ wx.cell? ⟨b, 0, none⟩ = some (.float .f64 Z.a) ∧ wx.cell? ⟨b, 1, none⟩ = some (.float .f64 Z.b) ∧ wx.cell? ⟨b, 2, none⟩ = some (.float .f64 Z.c) ∧ wx.cell? ⟨b, 3, none⟩ = some (.float .f64 Z.d) ∧ wr.heap.size ≤ b ∧ Below wr.heap.size wr wx)
          case first =>
            go_region_held3 (fun w' => w'.cell? ⟨g, m * 4, none⟩ = some (.float .f64 x.a) ∧ w'.cell? ⟨g, m * 4 + 1, none⟩ = some (.float .f64 x.b) ∧ w'.cell? ⟨g, m * 4 + 2, none⟩ = some (.float .f64 x.c) ∧ w'.cell? ⟨g, m * 4 + 3, none⟩ = some (.float .f64 x.d) ∧ w'.cell? ⟨g, m1 * 4, none⟩ = some (.float .f64 y.a) ∧ w'.cell? ⟨g, m1 * 4 + 1, none⟩ = some (.float .f64 y.b) ∧ w'.cell? ⟨g, m1 * 4 + 2, none⟩ = some (.float .f64 y.c) ∧ w'.cell? ⟨g, m1 * 4 + 3, none⟩ = some (.float .f64 y.d)) (((try dsimp only); (repeat' apply And.intro) <;> first | (with_reducible assumption) | exact bkeep (W := wr) (n := wr.heap.size) (by repeat (with_reducible first | exact Below.refl _ _ | assumption | refine Below.drew ?_ | refine bl_drewN ?_ _ | refine bl_alloc ?_ | refine bl_next ?_ (by assumption) | refine bl_set ?_ (by first | omega | (simp; done) | (simp; omega) | exact Below.size (B := wr.heap.size) (by repeat (with_reducible first | exact Below.refl _ _ | assumption | refine Below.drew ?_ | refine bl_drewN ?_ _ | refine bl_alloc ?_ | refine bl_next ?_ (by assumption) | refine bl_set ?_ (by first | omega | (simp; done) | (simp; omega))))))) (by with_reducible assumption) (by first | omega | (simp; done) | (simp; omega)))) (first | (go_at_call 40; with_reducible refine (r1 _).mono ?_; rintro e w' ⟨rfl, hb⟩; (try have z := bnew4 hb); (try have z := bnewD4 hb); (try simp only [World.size_drew] at z)))
            all_goals (go_wp2_with fail; go_meet; (case rel => exact ⟨_, rfl, (by first | (simp [go_sem]; done) | (simp [*]; done) | simp [go_sem, *]), (by first | (simp [go_sem]; done) | (simp [*]; done) | simp [go_sem, *]), (by first | (simp [go_sem]; done) | (simp [*]; done) | simp [go_sem, *]), (by first | (simp [go_sem]; done) | (simp [*]; done) | simp [go_sem, *]), (by first | omega | (simp; done) | exact Below.size (B := wr.heap.size) (by repeat (with_reducible first | exact Below.refl _ _ | assumption | refine Below.drew ?_ | refine bl_drewN ?_ _ | refine bl_alloc ?_ | refine bl_next ?_ (by assumption) | refine bl_set ?_ (by first | omega | (simp; done) | (simp; omega))))), (by repeat (with_reducible first | exact Below.refl _ _ | assumption | refine Below.drew ?_ | refine bl_drewN ?_ _ | refine bl_alloc ?_ | refine bl_next ?_ (by assumption) | refine bl_set ?_ (by first | omega | (simp; done) | (simp; omega) | exact Below.size (B := wr.heap.size) (by repeat (with_reducible first | exact Below.refl _ _ | assumption | refine Below.drew ?_ | refine bl_drewN ?_ _ | refine bl_alloc ?_ | refine bl_next ?_ (by assumption) | refine bl_set ?_ (by first | omega | (simp; done) | (simp; omega)))))))⟩))
          case rest =>
            obtain ⟨b5, rfl, m0, m1', m2, m3, le5, hb5⟩ := hcut
            have hs5 := keep_own HT.out hb5
            have z5 := hb5.size
            have hm60 : m ≤ 60 := by have := HM.out; omega
            clear p0 p1 p2 p3 q0 q1 q2 q3
            go_wp2_with fail
            go_region_law (refine step_append_at rfl (.tmp 91) (.tmp 93) 24 rfl w0.heap.size 39 i0 (.agg #[.float .f64 0, .float .f64 0, .float .f64 0, .float .f64 0]) 4 32 Tryz.underlying24 hi hz0 hz1 hz2 rfl (by decide) _ _ _ (by simp [Act.eval]) (hs5.drew.alloc _) ⟨wc.heap.size, 0, none⟩ 1 1 [.float .f64 Z.a, .float .f64 Z.b, .float .f64 Z.c, .float .f64 Z.d] (by simp [Act.eval]) rfl (four_cells (by simp [go_sem]) (by simp [go_sem]) (by simp [go_sem]) (by simp [go_sem])) (by intro x hx; simp at hx; rcases hx with rfl | rfl | rfl | rfl <;> rfl) (by unfold maxLen; omega) (by omega) (by simp; omega) (by decide) ?_; intro v' w1 o1 g1 nw)
            all_goals (try go_wp2)
            all_goals
              have N := boxes_next hB hb5 hs5 HM.out.1 o1 (grown_undrew g1)
              have NH : Hid _ := N
              clear o1 g1 nw N
              go_roundw
              case rel => exact ⟨k + 1, st0 ++ [Z], HN.out.choose, by omega, by go_num, NH.out.1, NH.out.2, all_ok hok0.out okz, by (have := HM.out; simp; omega), HN.out.choose_spec⟩
              case measure => simp [intOf]; omega
      · rcases hc with ⟨hc, he⟩ | ⟨hc, he⟩
        · rw [he] at hnx
          obtain ⟨g, cap, rfl⟩ := row_box hown (by simp)
          have hl2 : (st0 ++ [x]).length = st0.length + 1 := by simp
          rw [hl2] at hown hlen
          obtain ⟨p0, p1, p2, p3⟩ := box_cells hown (j := st0.length) (x := x) (by simp)
          have okx := hok x (by simp)
          have ref := bconj_ref P w okx
          have okz := (P.hbconj x okx).1
          have lg : g < wr.heap.size := cell_lt p0
          rw [hl2]
          obtain ⟨m, hm⟩ : ∃ m, m = st0.length := ⟨_, rfl⟩
          obtain ⟨m1, hm1⟩ : ∃ m, m = st0.length + 1 := ⟨_, rfl⟩
          obtain ⟨n, hn⟩ : ∃ m, m = st0.length + 1 := ⟨_, rfl⟩
          have T0 := own_take4 hown (r := st0.length) (by omega)
          rw [bfl_take _ _ (by simp), List.take_left, ← hm] at T0
          rw [← hm] at p0 p1 p2 p3
          rw [← hn] at hown ⊢
          have HM : Hid (m = st0.length ∧ m1 = st0.length + 1 ∧ n = st0.length + 1 ∧ n ≤ k) := ⟨hm, hm1, hn, by omega⟩
          have hwr1 : IntKind.i64.wrap ((n : Int) - 1) = (m : Int) := by rw [show (n : Int) - 1 = (m : Int) by omega]; exact wrap_nat m (by omega)
          have hmn : (m : Int) < (n : Int) := by omega
          have hnc : n ≤ cap := by
            rcases hown.2 with ⟨e, _⟩ | ⟨g', cap', cur, e1, _, _, e4, _⟩
            · cases e
            · cases e1; exact e4
          have hmc : (m : Int) ≤ (cap : Int) := by omega
          clear hm hm1 hn hlen hl2 hown
          have hok0 : Hid (∀ x ∈ st0, x.ok) := fun q hq => hok q (List.mem_append_left _ hq)
          clear hok
          generalize P.bconj x = Z at *
          have r1 := ref.1
          unfold Ret Bx.v at r1
          have HN : Hid (∃ qs', runs P (bl.map St.box) [] (fun _ => 0) (fun _ => true) ((byts s).drop (k + 1)) ((k : Int) + 1) ((st0 ++ [Z]).map St.box) qs' = R) := ⟨_, hnx⟩
          have HT : Hid (wr.ownsRow w0.heap.size 39 4 (.slice (some ⟨g, 0, none⟩) m cap) m (bfl st0)) := T0
          clear hnx he hs0 T0
          go_wp2_with fail
          go_at_call 41
          refine (r1 _).mono ?_
          rintro e w2 ⟨rfl, hb2⟩
          go_wp2_with fail
          obtain ⟨wc, hwc⟩ : ∃ v, v = w2.alloc (.cells #[.float .f64 Z.a, .float .f64 Z.b, .float .f64 Z.c, .float .f64 Z.d] 39) := ⟨_, rfl⟩
          rw [← hwc]
          have m0 : wc.cell? ⟨w2.heap.size, 0, none⟩ = some (.float .f64 Z.a) := by rw [hwc]; simp [go_sem]
          have m1' : wc.cell? ⟨w2.heap.size, 1, none⟩ = some (.float .f64 Z.b) := by rw [hwc]; simp [go_sem]
          have m2 : wc.cell? ⟨w2.heap.size, 2, none⟩ = some (.float .f64 Z.c) := by rw [hwc]; simp [go_sem]
          have m3 : wc.cell? ⟨w2.heap.size, 3, none⟩ = some (.float .f64 Z.d) := by rw [hwc]; simp [go_sem]
          have hb5 : Below wr.heap.size wr wc := by rw [hwc]; exact bl_alloc hb2
          clear hwc
          have hs5 := keep_own HT.out hb5
          have z5 := hb5.size
          have hm60 : m ≤ 60 := by have := HM.out; omega
          clear p0 p1 p2 p3
          go_wp2_with fail
          go_region_law (refine step_append_at rfl (.tmp 126) (.tmp 128) 24 rfl w0.heap.size 39 i0 (.agg #[.float .f64 0, .float .f64 0, .float .f64 0, .float .f64 0]) 4 32 Tryz.underlying24 hi hz0 hz1 hz2 rfl (by decide) _ _ _ (by simp [Act.eval]) (hs5.drew.alloc _) ⟨wc.heap.size, 0, none⟩ 1 1 [.float .f64 Z.a, .float .f64 Z.b, .float .f64 Z.c, .float .f64 Z.d] (by simp [Act.eval]) rfl (four_cells (by simp [go_sem]) (by simp [go_sem]) (by simp [go_sem]) (by simp [go_sem])) (by intro x hx; simp at hx; rcases hx with rfl | rfl | rfl | rfl <;> rfl) (by unfold maxLen; omega) (by omega) (by simp; omega) (by decide) ?_; intro v' w1 o1 g1 nw)
          all_goals (try go_wp2)
          all_goals
            have N := boxes_next hB hb5 hs5 HM.out.1 o1 (grown_undrew g1)
            have NH : Hid _ := N
            clear o1 g1 nw N
            go_roundw
            case rel => exact ⟨k + 1, st0 ++ [Z], HN.out.choose, by omega, by go_num, NH.out.1, NH.out.2, all_ok hok0.out okz, by (have := HM.out; simp; omega), HN.out.choose_spec⟩
            case measure => simp [intOf]; omega
        · rw [he] at hnx
          obtain ⟨g, cap, rfl⟩ := row_box hown (by simp)
          have hl2 : (st0 ++ [x]).length = st0.length + 1 := by simp
          rw [hl2] at hown hlen
          obtain ⟨p0, p1, p2, p3⟩ := box_cells hown (j := st0.length) (x := x) (by simp)
          have okx := hok x (by simp)
          have ref := bmul_ref F P w okx okx
          have okz := (P.hbmul x x okx okx).1
          have lg : g < wr.heap.size := cell_lt p0
          rw [hl2]
          obtain ⟨m, hm⟩ : ∃ m, m = st0.length := ⟨_, rfl⟩
          obtain ⟨m1, hm1⟩ : ∃ m, m = st0.length + 1 := ⟨_, rfl⟩
          obtain ⟨n, hn⟩ : ∃ m, m = st0.length + 1 := ⟨_, rfl⟩
          have T0 := own_take4 hown (r := st0.length) (by omega)
          rw [bfl_take _ _ (by simp), List.take_left, ← hm] at T0
          rw [← hm] at p0 p1 p2 p3
          rw [← hn] at hown ⊢
          have HM : Hid (m = st0.length ∧ m1 = st0.length + 1 ∧ n = st0.length + 1 ∧ n ≤ k) := ⟨hm, hm1, hn, by omega⟩
          have hwr1 : IntKind.i64.wrap ((n : Int) - 1) = (m : Int) := by rw [show (n : Int) - 1 = (m : Int) by omega]; exact wrap_nat m (by omega)
          have hmn : (m : Int) < (n : Int) := by omega
          have hnc : n ≤ cap := by
            rcases hown.2 with ⟨e, _⟩ | ⟨g', cap', cur, e1, _, _, e4, _⟩
            · cases e
            · cases e1; exact e4
          have hmc : (m : Int) ≤ (cap : Int) := by omega
          clear hm hm1 hn hlen hl2 hown
          have hok0 : Hid (∀ x ∈ st0, x.ok) := fun q hq => hok q (List.mem_append_left _ hq)
          clear hok
          generalize P.bmul x x = Z at *
          have r1 := ref.1
          unfold Ret Bx.v at r1
          have HN : Hid (∃ qs', runs P (bl.map St.box) [] (fun _ => 0) (fun _ => true) ((byts s).drop (k + 1)) ((k : Int) + 1) ((st0 ++ [Z]).map St.box) qs' = R) := ⟨_, hnx⟩
          have HT : Hid (wr.ownsRow w0.heap.size 39 4 (.slice (some ⟨g, 0, none⟩) m cap) m (bfl st0)) := T0
          clear hnx he hs0 T0
          go_wp2_with fail
          go_cut [12] (fun s5 wx => ∃ b : Nat, s5 = .pointer (some ⟨b, 0, none⟩) ∧ wx.cell? ⟨b, 0, none⟩ = some (.float .f64 Z.a) ∧ wx.cell? ⟨b, 1, none⟩ = some (.float .f64 Z.b) ∧ wx.cell? ⟨b, 2, none⟩ = some (.float .f64 Z.c) ∧ wx.cell? ⟨b, 3, none⟩ = some (.float .f64 Z.d) ∧ wr.heap.size ≤ b ∧ Below wr.heap.size wr wx)
          case first =>
            go_region_held3 (fun w' => w'.cell? ⟨g, m * 4, none⟩ = some (.float .f64 x.a) ∧ w'.cell? ⟨g, m * 4 + 1, none⟩ = some (.float .f64 x.b) ∧ w'.cell? ⟨g, m * 4 + 2, none⟩ = some (.float .f64 x.c) ∧ w'.cell? ⟨g, m * 4 + 3, none⟩ = some (.float .f64 x.d)) (((try dsimp only); (repeat' apply And.intro) <;> first | (with_reducible assumption) | exact bkeep (W := wr) (n := wr.heap.size) (by repeat (with_reducible first | exact Below.refl _ _ | assumption | refine Below.drew ?_ | refine bl_drewN ?_ _ | refine bl_alloc ?_ | refine bl_next ?_ (by assumption) | refine bl_set ?_ (by first | omega | (simp; done) | (simp; omega) | exact Below.size (B := wr.heap.size) (by repeat (with_reducible first | exact Below.refl _ _ | assumption | refine Below.drew ?_ | refine bl_drewN ?_ _ | refine bl_alloc ?_ | refine bl_next ?_ (by assumption) | refine bl_set ?_ (by first | omega | (simp; done) | (simp; omega))))))) (by with_reducible assumption) (by first | omega | (simp; done) | (simp; omega)))) (first | (go_at_call 40; with_reducible refine (r1 _).mono ?_; rintro e w' ⟨rfl, hb⟩; (try have z := bnew4 hb); (try have z := bnewD4 hb); (try simp only [World.size_drew] at z)))
            all_goals (go_wp2_with fail; go_meet; (case rel => exact ⟨_, rfl, (by first | (simp [go_sem]; done) | (simp [*]; done) | simp [go_sem, *]), (by first | (simp [go_sem]; done) | (simp [*]; done) | simp [go_sem, *]), (by first | (simp [go_sem]; done) | (simp [*]; done) | simp [go_sem, *]), (by first | (simp [go_sem]; done) | (simp [*]; done) | simp [go_sem, *]), (by first | omega | (simp; done) | exact Below.size (B := wr.heap.size) (by repeat (with_reducible first | exact Below.refl _ _ | assumption | refine Below.drew ?_ | refine bl_drewN ?_ _ | refine bl_alloc ?_ | refine bl_next ?_ (by assumption) | refine bl_set ?_ (by first | omega | (simp; done) | (simp; omega))))), (by repeat (with_reducible first | exact Below.refl _ _ | assumption | refine Below.drew ?_ | refine bl_drewN ?_ _ | refine bl_alloc ?_ | refine bl_next ?_ (by assumption) | refine bl_set ?_ (by first | omega | (simp; done) | (simp; omega) | exact Below.size (B := wr.heap.size) (by repeat (with_reducible first | exact Below.refl _ _ | assumption | refine Below.drew ?_ | refine bl_drewN ?_ _ | refine bl_alloc ?_ | refine bl_next ?_ (by assumption) | refine bl_set ?_ (by first | omega | (simp; done) | (simp; omega)))))))⟩))
          case rest =>
            obtain ⟨b5, rfl, m0, m1', m2, m3, le5, hb5⟩ := hcut
            have hs5 := keep_own HT.out hb5
            have z5 := hb5.size
            have hm60 : m ≤ 60 := by have := HM.out; omega
            clear p0 p1 p2 p3
            go_wp2_with fail
            go_region_law (refine step_append_at rfl (.tmp 111) (.tmp 113) 24 rfl w0.heap.size 39 i0 (.agg #[.float .f64 0, .float .f64 0, .float .f64 0, .float .f64 0]) 4 32 Tryz.underlying24 hi hz0 hz1 hz2 rfl (by decide) _ _ _ (by simp [Act.eval]) (hs5.drew.alloc _) ⟨wc.heap.size, 0, none⟩ 1 1 [.float .f64 Z.a, .float .f64 Z.b, .float .f64 Z.c, .float .f64 Z.d] (by simp [Act.eval]) rfl (four_cells (by simp [go_sem]) (by simp [go_sem]) (by simp [go_sem]) (by simp [go_sem])) (by intro x hx; simp at hx; rcases hx with rfl | rfl | rfl | rfl <;> rfl) (by unfold maxLen; omega) (by omega) (by simp; omega) (by decide) ?_; intro v' w1 o1 g1 nw)
            all_goals (try go_wp2)
            all_goals
              have N := boxes_next hB hb5 hs5 HM.out.1 o1 (grown_undrew g1)
              have NH : Hid _ := N
              clear o1 g1 nw N
              go_roundw
              case rel => exact ⟨k + 1, st0 ++ [Z], HN.out.choose, by omega, by go_num, NH.out.1, NH.out.2, all_ok hok0.out okz, by (have := HM.out; simp; omega), HN.out.choose_spec⟩
              case measure => simp [intOf]; omega
    · have hkn : k = s.size := by omega
      subst hkn
      rw [List.drop_eq_nil_of_le (by rw [byts_len]; exact Nat.le_refl _), runs_nil] at hrn
      have hst : st.map St.box = [St.box z] := by rw [← hz, ← hrn]
      obtain ⟨z', rfl⟩ : ∃ z', st = [z'] := by
        have := congrArg List.length hst
        rw [List.length_map] at this
        exact List.length_eq_one_iff.mp this
      have hzz : z' = z := by simpa using hst
      subst hzz
      obtain ⟨g, cap, rfl⟩ := row_box hown (by simp)
      obtain ⟨p0, p1, p2, p3⟩ := box_cells hown (j := 0) (x := z') (by simp)
      simp only [Nat.zero_mul, Nat.zero_add] at p0 p1 p2 p3
      have h4 := H0.out.below hB
      have h44 := h4
      obtain ⟨⟨x0, y0, f0⟩, ⟨x1, y1, f1⟩, ⟨x2, y2, f2⟩, ⟨x3, y3, f3⟩⟩ := h44
      have hBw : Below w.heap.size w wr := bl_next hB0 hB
      clear hH hrn hst hown hok hlen hR hz
      go_wp2_with fail
      obtain ⟨W, hW⟩ : ∃ v, v = (((wr.setCell ⟨w.heap.size, 0, none⟩ (.float .f64 z'.a)).setCell ⟨w.heap.size, 1, none⟩ (.float .f64 z'.b)).setCell ⟨w.heap.size, 2, none⟩ (.float .f64 z'.c)).setCell ⟨w.heap.size, 3, none⟩ (.float .f64 z'.d) := ⟨_, rfl⟩
      rw [← hW]
      have hBW : Below w.heap.size w W := by rw [hW]; exact Below.setCell (Below.setCell (Below.setCell (Below.setCell hBw (by simp) _) (by simp) _) (by simp) _) (by simp) _
      obtain ⟨g0, g1, g2, g3⟩ := h4.put _ _ _ _ hW
      exact bodyPost_ret (v := z'.v) (by simp [results, Tryz.results16, go_sem, Bx.v, *]) rfl ⟨rfl, hBW⟩
end Go.Proofs.YtacnclofbnafiabGreatDoor
