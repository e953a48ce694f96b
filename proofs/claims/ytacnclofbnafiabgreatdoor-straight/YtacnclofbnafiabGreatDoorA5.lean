import Derived.Test.YtacnclofbnafiabGreatDoorAA
namespace Go.Proofs.YtacnclofbnafiabGreatDoor
open Go.RowKit Fl

/-- Is the input of a byte there? -/
def thr (c nb nd : Int) : Bool := if 97 ≤ c then decide (c - 97 < nd) else decide (c - 48 < nb)
theorem rtk_le (c : Int) : rtk c ≤ 2 := by
  unfold rtk
  repeat' split
  all_goals omega
/-- The reference's verdict of a program from its byte i on: the error, its place, where the policy is asked. -/
def chk (nb nd : Int) (ks : List Int) : List Int → Int → Int → List Int → Int × Int × List Int
  | [], i, h, aa => if h = 1 then (0, 0, aa) else (4, i, aa)
  | c :: cs, i, h, aa =>
    if rtk c < 0 then (2, i, aa)
    else if rtk c = 0 then (if thr c nb nd = true then chk nb nd ks cs (i + 1) (h + 1) aa else (3, i, aa))
    else if h < rtk c then (4, i, aa)
    else if lgd ks aa.length = true then chk nb nd ks cs (i + 1) (h - rtk c + 1) (aa ++ [i])
    else (5, i, aa ++ [i])
/-- The reference under way. -/
structure CI (w : World) (aa : List Int) (er at_ : Int) (va : Value) (wr : World) : Prop where
  e0 : wr.cell? ⟨w.heap.size + 1, 0, none⟩ = some (.int .i64 er)
  e1 : wr.cell? ⟨w.heap.size + 1, 1, none⟩ = some (.int .i64 at_)
  e2 : wr.cell? ⟨w.heap.size + 1, 2, none⟩ = some va
  f0 : wr.frozen? ⟨w.heap.size + 1, 0, none⟩ = false
  f1 : wr.frozen? ⟨w.heap.size + 1, 1, none⟩ = false
  f2 : wr.frozen? ⟨w.heap.size + 1, 2, none⟩ = false
  r0 : ∃ v, wr.cell? ⟨w.heap.size, 0, none⟩ = some v
  r1 : ∃ v, wr.cell? ⟨w.heap.size, 1, none⟩ = some v
  r2 : ∃ v, wr.cell? ⟨w.heap.size, 2, none⟩ = some v
  g0 : wr.frozen? ⟨w.heap.size, 0, none⟩ = false
  g1 : wr.frozen? ⟨w.heap.size, 1, none⟩ = false
  g2 : wr.frozen? ⟨w.heap.size, 2, none⟩ = false
  ow : wr.ownsRow (w.heap.size + 2) 3 1 va aa.length (kvs aa)
  bl : Below w.heap.size w wr
  lt : w.heap.size + 2 ≤ wr.heap.size
theorem CI.sets {w wr : World} {aa : List Int} {er at_ : Int} {va : Value} (h : CI w aa er at_ va wr) {er' at' : Int} {j : Nat} {x : Value} (h0 : (wr.setCell ⟨w.heap.size + 1, j, none⟩ x).cell? ⟨w.heap.size + 1, 0, none⟩ = some (.int .i64 er')) (h1 : (wr.setCell ⟨w.heap.size + 1, j, none⟩ x).cell? ⟨w.heap.size + 1, 1, none⟩ = some (.int .i64 at')) (h2 : (wr.setCell ⟨w.heap.size + 1, j, none⟩ x).cell? ⟨w.heap.size + 1, 2, none⟩ = some va) : CI w aa er' at' va (wr.setCell ⟨w.heap.size + 1, j, none⟩ x) := by
  have ot : ∀ {i : Nat}, (∃ v, wr.cell? ⟨w.heap.size, i, none⟩ = some v) → ∃ v, (wr.setCell ⟨w.heap.size + 1, j, none⟩ x).cell? ⟨w.heap.size, i, none⟩ = some v := fun {i} ⟨v, e⟩ => ⟨v, by rw [World.cell?_setCell_other _ _ _ _ (by simp)]; exact e⟩
  refine ⟨h0, h1, h2, ?_, ?_, ?_, ot h.r0, ot h.r1, ot h.r2, ?_, ?_, ?_, ?_, Below.setCell h.bl (by simp) _, by simp; exact h.lt⟩
  · rw [World.frozen?_setCell]; exact h.f0
  · rw [World.frozen?_setCell]; exact h.f1
  · rw [World.frozen?_setCell]; exact h.f2
  · rw [World.frozen?_setCell]; exact h.g0
  · rw [World.frozen?_setCell]; exact h.g1
  · rw [World.frozen?_setCell]; exact h.g2
  · exact ownsRow_setCell_other h.ow (fun c => by have : w.heap.size + 2 ≤ w.heap.size + 1 := (h.ow.lt _ c).1; omega) _
theorem CI.setAt {w wr : World} {aa : List Int} {er at_ : Int} {va : Value} (h : CI w aa er at_ va wr) (i : Int) : CI w aa er i va (wr.setCell ⟨w.heap.size + 1, 1, none⟩ (.int .i64 i)) :=
  h.sets (by rw [World.cell?_setCell_other _ _ _ _ (by simp)]; exact h.e0) (World.cell?_setCell_same _ _ _ h.e1) (by rw [World.cell?_setCell_other _ _ _ _ (by simp)]; exact h.e2)
theorem CI.setEr {w wr : World} {aa : List Int} {er at_ : Int} {va : Value} (h : CI w aa er at_ va wr) (i : Int) : CI w aa i at_ va (wr.setCell ⟨w.heap.size + 1, 0, none⟩ (.int .i64 i)) :=
  h.sets (World.cell?_setCell_same _ _ _ h.e0) (by rw [World.cell?_setCell_other _ _ _ _ (by simp)]; exact h.e1) (by rw [World.cell?_setCell_other _ _ _ _ (by simp)]; exact h.e2)
theorem CI.app {w wr w1 : World} {aa : List Int} {er at_ : Int} {va v' : Value} {x : Int} {o : Obj} (h : CI w aa er at_ va wr) (o1 : w1.ownsRow (w.heap.size + 2) 3 1 v' (aa.length + 1) (kvs aa ++ [.int .i64 x])) (g1 : (wr.alloc o).grownBy w1 va.ownBlock) : CI w (aa ++ [x]) er at_ v' (w1.setCell ⟨w.heap.size + 1, 2, none⟩ v') := by
  have lt := h.lt
  have ne : ∀ b, b < w.heap.size + 2 → some b ≠ va.ownBlock := fun b hb e => by have := (h.ow.lt _ e.symm).1; omega
  have kp : ∀ {b j : Nat} {v : Value}, b < w.heap.size + 2 → wr.cell? ⟨b, j, none⟩ = some v → w1.cell? ⟨b, j, none⟩ = some v := fun {b j v} hb e => g1.cell (bkeep (bl_alloc (Below.refl _ _)) e (by show b < _; omega)) (ne b hb)
  have kf : ∀ {b j : Nat} {v : Value}, b < w.heap.size + 2 → wr.cell? ⟨b, j, none⟩ = some v → wr.frozen? ⟨b, j, none⟩ = false → w1.frozen? ⟨b, j, none⟩ = false := fun {b j v} hb e f => grown_frozen g1 (bkeep (bl_alloc (Below.refl _ _)) e (by show b < _; omega)) (bfroz (bl_alloc (Below.refl _ _)) f (by show b < _; omega)) (ne b hb)
  have sz := g1.size
  simp at sz
  have hB1 : Below w.heap.size w w1 := Below.grown (Below.alloc h.bl (by omega) o) g1 (by simp; omega) fun j hj => by
    have := (h.ow.lt j hj).1
    omega
  obtain ⟨x0, r0⟩ := h.r0
  obtain ⟨x1, r1⟩ := h.r1
  obtain ⟨x2, r2⟩ := h.r2
  have ot : ∀ {b j : Nat} {v : Value}, (⟨b, j, none⟩ : Addr) ≠ ⟨w.heap.size + 1, 2, none⟩ → w1.cell? ⟨b, j, none⟩ = some v → (w1.setCell ⟨w.heap.size + 1, 2, none⟩ v').cell? ⟨b, j, none⟩ = some v := fun {b j v} hn e => by
    rw [World.cell?_setCell_other _ _ _ _ hn.symm]; exact e
  refine ⟨ot (by simp) (kp (by omega) h.e0), ot (by simp) (kp (by omega) h.e1), World.cell?_setCell_same _ _ _ (kp (by omega) h.e2), ?_, ?_, ?_, ⟨_, ot (by simp) (kp (by omega) r0)⟩, ⟨_, ot (by simp) (kp (by omega) r1)⟩, ⟨_, ot (by simp) (kp (by omega) r2)⟩, ?_, ?_, ?_, ?_, Below.setCell hB1 (by simp) _, by simp; omega⟩
  · rw [World.frozen?_setCell]; exact kf (by omega) h.e0 h.f0
  · rw [World.frozen?_setCell]; exact kf (by omega) h.e1 h.f1
  · rw [World.frozen?_setCell]; exact kf (by omega) h.e2 h.f2
  · rw [World.frozen?_setCell]; exact kf (by omega) r0 h.g0
  · rw [World.frozen?_setCell]; exact kf (by omega) r1 h.g1
  · rw [World.frozen?_setCell]; exact kf (by omega) r2 h.g2
  · have e : kvs (aa ++ [x]) = kvs aa ++ [.int .i64 x] := by simp [kvs]
    rw [List.length_append, e]
    exact ownsRow_setCell_other o1 (fun c => by have : w.heap.size + 2 ≤ w.heap.size + 1 := (o1.lt _ c).1; omega) _
theorem CI.kp {w wr w1 : World} {aa : List Int} {er at_ : Int} {va : Value} {o : Obj} (h : CI w aa er at_ va wr) (g1 : (wr.alloc o).grownBy w1 va.ownBlock) {b j : Nat} {v : Value} (hb : b < w.heap.size + 2) (e : wr.cell? ⟨b, j, none⟩ = some v) : w1.cell? ⟨b, j, none⟩ = some v := by
  have lt := h.lt
  exact g1.cell (bkeep (bl_alloc (Below.refl _ _)) e (by show b < _; omega)) (fun e => by have := (h.ow.lt _ e.symm).1; simp at this; omega)
theorem CI.kf {w wr w1 : World} {aa : List Int} {er at_ : Int} {va : Value} {o : Obj} (h : CI w aa er at_ va wr) (g1 : (wr.alloc o).grownBy w1 va.ownBlock) {b j : Nat} {v : Value} (hb : b < w.heap.size + 2) (e : wr.cell? ⟨b, j, none⟩ = some v) (f : wr.frozen? ⟨b, j, none⟩ = false) : w1.frozen? ⟨b, j, none⟩ = false := by
  have lt := h.lt
  exact grown_frozen g1 (bkeep (bl_alloc (Below.refl _ _)) e (by show b < _; omega)) (bfroz (bl_alloc (Below.refl _ _)) f (by show b < _; omega)) (fun e => by have := (h.ow.lt _ e.symm).1; simp at this; omega)
/-- What the reference answers, in memory. -/
def Vdt (w : World) (r : Int × Int × List Int) (e : Ending) (w' : World) : Prop := ∃ va, e = .returned (.agg #[.int .i64 r.1, .int .i64 r.2.1, va]) ∧ w'.ownsRow w.heap.size 3 1 va r.2.2.length (kvs r.2.2) ∧ Below w.heap.size w w'
theorem CI.ret {w wr W : World} {aa : List Int} {er at_ : Int} {va : Value} (h : CI w aa er at_ va wr) (u0 u1 u2 : Value) (hW : W = ((wr.setCell ⟨w.heap.size, 0, none⟩ u0).setCell ⟨w.heap.size, 1, none⟩ u1).setCell ⟨w.heap.size, 2, none⟩ u2) :
    W.cell? ⟨w.heap.size, 0, none⟩ = some u0 ∧ W.cell? ⟨w.heap.size, 1, none⟩ = some u1 ∧ W.cell? ⟨w.heap.size, 2, none⟩ = some u2 ∧ W.ownsRow w.heap.size 3 1 va aa.length (kvs aa) ∧ Below w.heap.size w W := by
  subst hW
  obtain ⟨x0, r0⟩ := h.r0
  obtain ⟨x1, r1⟩ := h.r1
  obtain ⟨x2, r2⟩ := h.r2
  have ot : ∀ {u : World} {i j : Nat} {v x : Value}, i ≠ j → u.cell? ⟨w.heap.size, i, none⟩ = some v → (u.setCell ⟨w.heap.size, j, none⟩ x).cell? ⟨w.heap.size, i, none⟩ = some v := fun {u i j v x} c e => by
    rw [World.cell?_setCell_other _ _ _ _ (by simp)]; exact e
  have nb : va.ownBlock ≠ some w.heap.size := fun c => by have := (h.ow.lt _ c).1; omega
  have o3 := ownsRow_setCell_other (ownsRow_setCell_other (ownsRow_setCell_other h.ow (a := ⟨w.heap.size, 0, none⟩) nb u0) (a := ⟨w.heap.size, 1, none⟩) nb u1) (a := ⟨w.heap.size, 2, none⟩) nb u2
  refine ⟨ot (by decide) (ot (by decide) (World.cell?_setCell_same _ _ _ r0)), ot (by decide) (World.cell?_setCell_same _ _ _ (ot (by decide) r1)), World.cell?_setCell_same _ _ _ (ot (by decide) (ot (by decide) r2)), ?_, Below.setCell (Below.setCell (Below.setCell h.bl (by simp) _) (by simp) _) (by simp) _⟩
  refine ⟨o3.1, ?_⟩
  rcases o3.2 with h | ⟨g, cap, cur, e1, e2, r⟩
  · exact .inl h
  · exact .inr ⟨g, cap, cur, e1, by omega, r⟩
set_option maxRecDepth 100000 in
set_option maxHeartbeats 4000000 in
theorem check_any (s : ByteArray) (nb nd : Int) (v : Value) (ks : List Int) (w : World) (h : LInt w v ks) (hks : ks.length ≤ 1048576) (hs : s.size ≤ 60) (hb : nb ≤ 4) (hd : nd ≤ 4) :
    Calls Tryz.prog 13 #[.string s, .int .i64 nb, .int .i64 nd, v] w (Vdt w (chk nb nd ks (byts s) 0 0 [])) := by
  obtain ⟨i0, hi, hz0, hz1, hz2⟩ := info_parts infoIn
  obtain ⟨ao, c, rfl⟩ := h.sh
  have HS : Hid (LInt w (.slice ao ks.length c) ks) := h
  clear h
  have h1 : ¬ (60 : Int) < s.size := by omega
  have h2 : ¬ (4 : Int) < nb := by omega
  have h3 : ¬ (4 : Int) < nd := by omega
  go_enter Tryz.func13, Tryz.ntmps13
  go_wp2_with fail
  clear h1 h2 h3
  go_loopw [10, 11] (fun h i wr => ∃ (k : Nat) (hg at_ : Int) (aa : List Int) (va : Value), k ≤ s.size ∧ i = .int .i64 k ∧ h = .int .i64 hg ∧ Hid (CI w aa 0 at_ va wr ∧ chk nb nd ks ((byts s).drop k) k hg aa = chk nb nd ks (byts s) 0 0 [] ∧ aa.length ≤ k ∧ 0 ≤ hg ∧ hg ≤ k)) (fun _ i _ => s.size - (intOf i).toNat)
  case atStart => exact ⟨0, 0, 0, [], .slice none 0 0, Nat.zero_le _, rfl, rfl, ⟨by simp [go_sem], by simp [go_sem], by simp [go_sem], by simp [go_sem], by simp [go_sem], by simp [go_sem], ⟨_, by simp [go_sem]; rfl⟩, ⟨_, by simp [go_sem]; rfl⟩, ⟨_, by simp [go_sem]; rfl⟩, by simp [go_sem], by simp [go_sem], by simp [go_sem], World.ownsRow_nil _ _ _ _, bl_alloc (bl_alloc (Below.refl _ _)), by simp⟩, by simp, by simp, by simp, by simp⟩
  case round =>
    rename World => wr
    obtain ⟨k, hg, at_, aa, va, hk, rfl, rfl, hH⟩ := hrel
    by_cases hlt : k < s.size
    · have hltI : (k : Int) < s.size := by omega
      have e1 := hH.out.1.e1
      have f1 := hH.out.1.f1
      have hrn := hH.out.2.1
      rw [byts_drop s hlt] at hrn
      obtain ⟨u, hu⟩ : ∃ v, v = wr.setCell ⟨w.heap.size + 1, 1, none⟩ (.int .i64 k) := ⟨_, rfl⟩
      have hC : Hid (CI w aa 0 k va u) := by rw [hu]; exact hH.out.1.setAt k
      have hL : Hid (aa.length ≤ k ∧ 0 ≤ hg ∧ hg ≤ k) := hH.out.2.2
      have hb0 : 0 ≤ ((s[k]'hlt).toNat : Int) ∧ ((s[k]'hlt).toNat : Int) < 256 := by
        have := (s[k]'hlt).toNat_lt
        omega
      obtain ⟨va0, vac, hva, _⟩ := own_shape hC.out.ow
      subst hva
      go_wp2_with fail
      rw [← hu]
      clear hu e1 f1 hH
      go_at_call 37
      refine (takes_w _ _).mono ?_
      rintro e w' ⟨rfl, rfl⟩
      have hrc : Hid (chk nb nd ks (((s[k]'hlt).toNat : Int) :: (byts s).drop (k + 1)) k hg aa = chk nb nd ks (byts s) 0 0 []) := hrn
      clear hrn
      have e0 := hC.out.e0
      have e1 := hC.out.e1
      have e2 := hC.out.e2
      have f0 := hC.out.f0
      have f1 := hC.out.f1
      have f2 := hC.out.f2
      obtain ⟨x0, r0⟩ := hC.out.r0
      obtain ⟨x1, r1⟩ := hC.out.r1
      obtain ⟨x2, r2⟩ := hC.out.r2
      have g0 := hC.out.g0
      have g1 := hC.out.g1
      have g2 := hC.out.g2
      by_cases t1 : rtk ((s[k]'hlt).toNat : Int) < 0
      · go_wp2_with fail
        obtain ⟨W, hW⟩ : ∃ v, v = (((w'.setCell ⟨w.heap.size + 1, 0, none⟩ (.int .i64 2)).setCell ⟨w.heap.size, 0, none⟩ (.int .i64 2)).setCell ⟨w.heap.size, 1, none⟩ (.int .i64 k)).setCell ⟨w.heap.size, 2, none⟩ (.slice va0 aa.length vac) := ⟨_, rfl⟩
        rw [← hW]
        obtain ⟨q0, q1, q2, qo, qb⟩ := (hC.out.setEr 2).ret _ _ _ hW
        refine bodyPost_ret (v := .agg #[.int .i64 2, .int .i64 k, (.slice va0 aa.length vac)]) (by simp [results, Tryz.results13, go_sem, *]) rfl ?_
        rw [← hrc.out]
        rw [chk, if_pos t1]
        exact ⟨_, rfl, qo, qb⟩
      have t1' : 0 ≤ rtk ((s[k]'hlt).toNat : Int) := by omega
      by_cases t2 : rtk ((s[k]'hlt).toNat : Int) = 0
      · obtain ⟨tb, htb, hth⟩ : ∃ tb : Bool, thr ((s[k]'hlt).toNat : Int) nb nd = tb ∧ ∀ w, Calls Tryz.prog 38 #[.int .u8 ((s[k]'hlt).toNat : Int), .int .i64 nb, .int .i64 nd] w fun e w' => e = .returned (.bool tb) ∧ w' = w := by
          have hr : (48 ≤ ((s[k]'hlt).toNat : Int) ∧ ((s[k]'hlt).toNat : Int) ≤ 51) ∨ (97 ≤ ((s[k]'hlt).toNat : Int) ∧ ((s[k]'hlt).toNat : Int) ≤ 100) := by
            unfold rtk at t2
            repeat' split at t2
            all_goals omega
          rcases hr with hr | hr
          · exact ⟨_, by unfold thr; rw [if_neg (by omega)], fun w => there_b _ _ _ w hr.1 hr.2⟩
          · exact ⟨_, by unfold thr; rw [if_pos (by omega)], fun w => there_d _ _ _ w hr.1 hr.2⟩
        cases tb with
        | true =>
          have ht : Hid (thr ((s[k]'hlt).toNat : Int) nb nd = true) := htb
          have hN : Hid (CI w aa 0 k (.slice va0 aa.length vac) w' ∧ chk nb nd ks ((byts s).drop (k + 1)) ((k + 1 : Nat) : Int) (hg + 1) aa = chk nb nd ks (byts s) 0 0 [] ∧ aa.length ≤ k + 1 ∧ 0 ≤ hg + 1 ∧ hg + 1 ≤ ((k + 1 : Nat) : Int)) := by
            refine ⟨hC.out, ?_, ?_, ?_, ?_⟩
            · rw [← hrc.out, chk, if_neg (Int.not_lt.mpr t1'), if_pos t2, if_pos ht.out]; rfl
            · have := hL.out.1; omega
            · have := hL.out.2.1; omega
            · have := hL.out.2.2; omega
          have hgb : 0 ≤ hg ∧ hg ≤ 60 := by have := hL.out; omega
          clear htb
          go_wp2_with (go_at_call 38; refine (hth _).mono ?_; rintro e w9 ⟨rfl, rfl⟩)
          go_roundw
          case rel => exact ⟨k + 1, hg + 1, k, aa, _, by omega, by go_num, by go_num, hN⟩
          case measure => simp [intOf]; omega
        | false =>
          have ht : Hid (¬ thr ((s[k]'hlt).toNat : Int) nb nd = true) := by show ¬ _; rw [htb]; decide
          clear htb
          go_wp2_with (go_at_call 38; refine (hth _).mono ?_; rintro e w9 ⟨rfl, rfl⟩)
          obtain ⟨W, hW⟩ : ∃ v, v = (((w9.setCell ⟨w.heap.size + 1, 0, none⟩ (.int .i64 3)).setCell ⟨w.heap.size, 0, none⟩ (.int .i64 3)).setCell ⟨w.heap.size, 1, none⟩ (.int .i64 k)).setCell ⟨w.heap.size, 2, none⟩ (.slice va0 aa.length vac) := ⟨_, rfl⟩
          rw [← hW]
          obtain ⟨q0, q1, q2, qo, qb⟩ := (hC.out.setEr 3).ret _ _ _ hW
          refine bodyPost_ret (v := .agg #[.int .i64 3, .int .i64 k, (.slice va0 aa.length vac)]) (by simp [results, Tryz.results13, go_sem, *]) rfl ?_
          rw [← hrc.out]
          rw [chk, if_neg (Int.not_lt.mpr t1'), if_pos t2, if_neg ht.out]
          exact ⟨_, rfl, qo, qb⟩
      have t3 : 0 < rtk ((s[k]'hlt).toNat : Int) := by omega
      by_cases t4 : hg < rtk ((s[k]'hlt).toNat : Int)
      · go_wp2_with fail
        obtain ⟨W, hW⟩ : ∃ v, v = (((w'.setCell ⟨w.heap.size + 1, 0, none⟩ (.int .i64 4)).setCell ⟨w.heap.size, 0, none⟩ (.int .i64 4)).setCell ⟨w.heap.size, 1, none⟩ (.int .i64 k)).setCell ⟨w.heap.size, 2, none⟩ (.slice va0 aa.length vac) := ⟨_, rfl⟩
        rw [← hW]
        obtain ⟨q0, q1, q2, qo, qb⟩ := (hC.out.setEr 4).ret _ _ _ hW
        refine bodyPost_ret (v := .agg #[.int .i64 4, .int .i64 k, (.slice va0 aa.length vac)]) (by simp [results, Tryz.results13, go_sem, *]) rfl ?_
        rw [← hrc.out]
        rw [chk, if_neg (Int.not_lt.mpr t1'), if_neg t2, if_pos t4]
        exact ⟨_, rfl, qo, qb⟩
      have hgb : 0 ≤ hg ∧ hg ≤ 60 := by have := hL.out; omega
      have t5 : rtk ((s[k]'hlt).toNat : Int) ≤ 2 := rtk_le _
      have NX : Hid (lgd ks aa.length = true → chk nb nd ks ((byts s).drop (k + 1)) ((k + 1 : Nat) : Int) (hg - rtk ((s[k]'hlt).toNat : Int) + 1) (aa ++ [(k : Int)]) = chk nb nd ks (byts s) 0 0 [] ∧ (aa ++ [(k : Int)]).length ≤ k + 1 ∧ 0 ≤ hg - rtk ((s[k]'hlt).toNat : Int) + 1 ∧ hg - rtk ((s[k]'hlt).toNat : Int) + 1 ≤ ((k + 1 : Nat) : Int)) := fun hgd => by
        refine ⟨?_, ?_, by omega, ?_⟩
        · rw [← hrc.out, chk, if_neg (Int.not_lt.mpr t1'), if_neg t2, if_neg t4, if_pos hgd]; rfl
        · have := hL.out.1; simp; omega
        · have := hL.out.2.2; omega
      rcases Nat.lt_or_ge aa.length ks.length with p1 | p1
      · obtain ⟨x, hx⟩ : ∃ x, ks[aa.length]? = some x := ⟨ks[aa.length], by simp [p1]⟩
        obtain ⟨b1, off, c', q1, q2, cx⟩ := HS.out.ce _ x hx
        cases q1
        have cx0 : w'.cell? ⟨b1, off + aa.length, none⟩ = some (.int .i64 x) := bkeep2 hC.out.bl cx
        have p1I : (aa.length : Int) < (ks.length : Int) := by omega
        have hgx : Hid (ks.getD aa.length 0 = x) := by show ks.getD aa.length 0 = x; rw [List.getD, hx]; rfl
        have qb1 : b1 < w.heap.size := q2
        clear hx cx
        by_cases x0c : x = 0
        · subst x0c
          replace NX := NX.out (by unfold lgd; rw [hgx.out]; rfl)
          have NX : Hid _ := NX
          clear hgx
          go_wp2_with (at_builtin; refine wpList_append_at _ rfl (.tmp 67) (.tmp 69) 23 rfl (w.heap.size + 2) 3 i0 (.int .i64 0) 1 8 Tryz.underlying23 hi hz0 hz1 hz2 rfl (by decide) _ _ _ rfl (hC.out.ow.alloc _) ⟨w'.heap.size, 0, none⟩ 1 1 [.int .i64 k] rfl rfl (cell_one (by simp [go_sem])) (by intro x hx; simp at hx; subst hx; rfl) (by unfold maxLen; have := hL.out.1; omega) (by have := hL.out.1; omega) (by have := hC.out.lt; simp; omega) (by decide) ?_)
          intro v' w1 o1 gr nw
          obtain ⟨ao', ca', rfl, _, _, _⟩ := own_shape o1
          have N : Hid (CI w (aa ++ [(k : Int)]) 0 k (.slice ao' (aa.length + 1) ca') (w1.setCell ⟨w.heap.size + 1, 2, none⟩ (.slice ao' (aa.length + 1) ca'))) := hC.out.app o1 gr
          replace f0 := hC.out.kf gr (by omega) e0 f0
          replace f1 := hC.out.kf gr (by omega) e1 f1
          replace f2 := hC.out.kf gr (by omega) e2 f2
          replace g0 := hC.out.kf gr (by omega) r0 g0
          replace g1 := hC.out.kf gr (by omega) r1 g1
          replace g2 := hC.out.kf gr (by omega) r2 g2
          replace e0 := hC.out.kp gr (by omega) e0
          replace e1 := hC.out.kp gr (by omega) e1
          replace e2 := hC.out.kp gr (by omega) e2
          replace r0 := hC.out.kp gr (by omega) r0
          replace r1 := hC.out.kp gr (by omega) r1
          replace r2 := hC.out.kp gr (by omega) r2
          replace cx0 := hC.out.kp gr (by omega) cx0
          clear o1 gr nw
          go_wp2_with fail
          go_roundw
          case rel => exact ⟨k + 1, hg - rtk ((s[k]'hlt).toNat : Int) + 1, k, aa ++ [(k : Int)], _, by omega, by go_num, by go_num, N.out, NX.out⟩
          case measure => simp [intOf]; omega
        by_cases x1c : x = 1
        · subst x1c
          replace NX := NX.out (by unfold lgd; rw [hgx.out]; rfl)
          have NX : Hid _ := NX
          clear hgx
          go_wp2_with (at_builtin; refine wpList_append_at _ rfl (.tmp 67) (.tmp 69) 23 rfl (w.heap.size + 2) 3 i0 (.int .i64 0) 1 8 Tryz.underlying23 hi hz0 hz1 hz2 rfl (by decide) _ _ _ rfl (hC.out.ow.alloc _) ⟨w'.heap.size, 0, none⟩ 1 1 [.int .i64 k] rfl rfl (cell_one (by simp [go_sem])) (by intro x hx; simp at hx; subst hx; rfl) (by unfold maxLen; have := hL.out.1; omega) (by have := hL.out.1; omega) (by have := hC.out.lt; simp; omega) (by decide) ?_)
          intro v' w1 o1 gr nw
          obtain ⟨ao', ca', rfl, _, _, _⟩ := own_shape o1
          have N : Hid (CI w (aa ++ [(k : Int)]) 0 k (.slice ao' (aa.length + 1) ca') (w1.setCell ⟨w.heap.size + 1, 2, none⟩ (.slice ao' (aa.length + 1) ca'))) := hC.out.app o1 gr
          replace f0 := hC.out.kf gr (by omega) e0 f0
          replace f1 := hC.out.kf gr (by omega) e1 f1
          replace f2 := hC.out.kf gr (by omega) e2 f2
          replace g0 := hC.out.kf gr (by omega) r0 g0
          replace g1 := hC.out.kf gr (by omega) r1 g1
          replace g2 := hC.out.kf gr (by omega) r2 g2
          replace e0 := hC.out.kp gr (by omega) e0
          replace e1 := hC.out.kp gr (by omega) e1
          replace e2 := hC.out.kp gr (by omega) e2
          replace r0 := hC.out.kp gr (by omega) r0
          replace r1 := hC.out.kp gr (by omega) r1
          replace r2 := hC.out.kp gr (by omega) r2
          replace cx0 := hC.out.kp gr (by omega) cx0
          clear o1 gr nw
          go_wp2_with fail
          go_roundw
          case rel => exact ⟨k + 1, hg - rtk ((s[k]'hlt).toNat : Int) + 1, k, aa ++ [(k : Int)], _, by omega, by go_num, by go_num, N.out, NX.out⟩
          case measure => simp [intOf]; omega
        · have hgd : Hid (¬ lgd ks aa.length = true) := by
            show ¬ lgd ks aa.length = true
            unfold lgd; rw [hgx.out]; simp [x0c, x1c]
          have bx0 : (x != 0) = true := by simp [x0c]
          have bx1 : (x != 1) = true := by simp [x1c]
          clear hgx NX
          go_wp2_with (at_builtin; refine wpList_append_at _ rfl (.tmp 67) (.tmp 69) 23 rfl (w.heap.size + 2) 3 i0 (.int .i64 0) 1 8 Tryz.underlying23 hi hz0 hz1 hz2 rfl (by decide) _ _ _ rfl (hC.out.ow.alloc _) ⟨w'.heap.size, 0, none⟩ 1 1 [.int .i64 k] rfl rfl (cell_one (by simp [go_sem])) (by intro x hx; simp at hx; subst hx; rfl) (by unfold maxLen; have := hL.out.1; omega) (by have := hL.out.1; omega) (by have := hC.out.lt; simp; omega) (by decide) ?_)
          intro v' w1 o1 gr nw
          obtain ⟨ao', ca', rfl, _, _, _⟩ := own_shape o1
          have N : Hid (CI w (aa ++ [(k : Int)]) 0 k (.slice ao' (aa.length + 1) ca') (w1.setCell ⟨w.heap.size + 1, 2, none⟩ (.slice ao' (aa.length + 1) ca'))) := hC.out.app o1 gr
          replace f0 := hC.out.kf gr (by omega) e0 f0
          replace f1 := hC.out.kf gr (by omega) e1 f1
          replace f2 := hC.out.kf gr (by omega) e2 f2
          replace g0 := hC.out.kf gr (by omega) r0 g0
          replace g1 := hC.out.kf gr (by omega) r1 g1
          replace g2 := hC.out.kf gr (by omega) r2 g2
          replace e0 := hC.out.kp gr (by omega) e0
          replace e1 := hC.out.kp gr (by omega) e1
          replace e2 := hC.out.kp gr (by omega) e2
          replace r0 := hC.out.kp gr (by omega) r0
          replace r1 := hC.out.kp gr (by omega) r1
          replace r2 := hC.out.kp gr (by omega) r2
          replace cx0 := hC.out.kp gr (by omega) cx0
          clear o1 gr nw
          go_wp2_with fail
          obtain ⟨W, hW⟩ : ∃ v, v = ((((w1.setCell ⟨w.heap.size + 1, 2, none⟩ (.slice ao' (aa.length + 1) ca')).setCell ⟨w.heap.size + 1, 0, none⟩ (.int .i64 5)).setCell ⟨w.heap.size, 0, none⟩ (.int .i64 5)).setCell ⟨w.heap.size, 1, none⟩ (.int .i64 k)).setCell ⟨w.heap.size, 2, none⟩ (.slice ao' (aa.length + 1) ca') := ⟨_, rfl⟩
          rw [← hW]
          obtain ⟨q0, q1, q2, qo, qb⟩ := (N.out.setEr 5).ret _ _ _ hW
          refine bodyPost_ret (v := .agg #[.int .i64 5, .int .i64 k, (.slice ao' (aa.length + 1) ca')]) (by simp [results, Tryz.results13, go_sem, *]) rfl ?_
          rw [← hrc.out]
          rw [chk, if_neg (Int.not_lt.mpr t1'), if_neg t2, if_neg (by omega), if_neg hgd.out]
          exact ⟨_, rfl, qo, qb⟩
      · replace NX := NX.out (by unfold lgd; rw [List.getD, List.getElem?_eq_none p1]; rfl)
        have NX : Hid _ := NX
        have p1I : ¬ (aa.length : Int) < (ks.length : Int) := by omega
        go_wp2_with (at_builtin; refine wpList_append_at _ rfl (.tmp 67) (.tmp 69) 23 rfl (w.heap.size + 2) 3 i0 (.int .i64 0) 1 8 Tryz.underlying23 hi hz0 hz1 hz2 rfl (by decide) _ _ _ rfl (hC.out.ow.alloc _) ⟨w'.heap.size, 0, none⟩ 1 1 [.int .i64 k] rfl rfl (cell_one (by simp [go_sem])) (by intro x hx; simp at hx; subst hx; rfl) (by unfold maxLen; have := hL.out.1; omega) (by have := hL.out.1; omega) (by have := hC.out.lt; simp; omega) (by decide) ?_)
        intro v' w1 o1 gr nw
        obtain ⟨ao', ca', rfl, _, _, _⟩ := own_shape o1
        have N : Hid (CI w (aa ++ [(k : Int)]) 0 k (.slice ao' (aa.length + 1) ca') (w1.setCell ⟨w.heap.size + 1, 2, none⟩ (.slice ao' (aa.length + 1) ca'))) := hC.out.app o1 gr
        replace f0 := hC.out.kf gr (by omega) e0 f0
        replace f1 := hC.out.kf gr (by omega) e1 f1
        replace f2 := hC.out.kf gr (by omega) e2 f2
        replace g0 := hC.out.kf gr (by omega) r0 g0
        replace g1 := hC.out.kf gr (by omega) r1 g1
        replace g2 := hC.out.kf gr (by omega) r2 g2
        replace e0 := hC.out.kp gr (by omega) e0
        replace e1 := hC.out.kp gr (by omega) e1
        replace e2 := hC.out.kp gr (by omega) e2
        replace r0 := hC.out.kp gr (by omega) r0
        replace r1 := hC.out.kp gr (by omega) r1
        replace r2 := hC.out.kp gr (by omega) r2
        clear o1 gr nw
        go_wp2_with fail
        go_roundw
        case rel => exact ⟨k + 1, hg - rtk ((s[k]'hlt).toNat : Int) + 1, k, aa ++ [(k : Int)], _, by omega, by go_num, by go_num, N.out, NX.out⟩
        case measure => simp [intOf]; omega
    · have hkn : k = s.size := by omega
      subst hkn
      have hrn := hH.out.2.1
      rw [List.drop_eq_nil_of_le (by rw [byts_len]; exact Nat.le_refl _), chk] at hrn
      obtain ⟨va0, vac, hva, _⟩ := own_shape hH.out.1.ow
      subst hva
      have hrc : Hid ((if hg = 1 then (0, 0, aa) else (4, (s.size : Int), aa)) = chk nb nd ks (byts s) 0 0 []) := hrn
      clear hrn
      have hC := hH.out.1
      have e0 := hC.e0
      have e1 := hC.e1
      have e2 := hC.e2
      have f0 := hC.f0
      have f1 := hC.f1
      have f2 := hC.f2
      obtain ⟨x0, r0⟩ := hC.r0
      obtain ⟨x1, r1⟩ := hC.r1
      obtain ⟨x2, r2⟩ := hC.r2
      have g0 := hC.g0
      have g1 := hC.g1
      have g2 := hC.g2
      have HC : Hid (CI w aa 0 at_ (.slice va0 aa.length vac) wr) := hC
      clear hC
      by_cases h1 : hg = 1
      · subst h1
        go_wp2_with fail
        obtain ⟨W, hW⟩ : ∃ v, v = (((wr.setCell ⟨w.heap.size + 1, 1, none⟩ (.int .i64 0)).setCell ⟨w.heap.size, 0, none⟩ (.int .i64 0)).setCell ⟨w.heap.size, 1, none⟩ (.int .i64 0)).setCell ⟨w.heap.size, 2, none⟩ (.slice va0 aa.length vac) := ⟨_, rfl⟩
        rw [← hW]
        obtain ⟨q0, q1, q2, qo, qb⟩ := (HC.out.setAt 0).ret _ _ _ hW
        refine bodyPost_ret (v := .agg #[.int .i64 0, .int .i64 0, (.slice va0 aa.length vac)]) (by simp [results, Tryz.results13, go_sem, *]) rfl ?_
        rw [← hrc.out]
        rw [if_pos (by trivial)]
        exact ⟨_, rfl, qo, qb⟩
      · go_wp2_with fail
        obtain ⟨W, hW⟩ : ∃ v, v = (((((wr.setCell ⟨w.heap.size + 1, 1, none⟩ (.int .i64 0)).setCell ⟨w.heap.size + 1, 0, none⟩ (.int .i64 4)).setCell ⟨w.heap.size + 1, 1, none⟩ (.int .i64 s.size)).setCell ⟨w.heap.size, 0, none⟩ (.int .i64 4)).setCell ⟨w.heap.size, 1, none⟩ (.int .i64 s.size)).setCell ⟨w.heap.size, 2, none⟩ (.slice va0 aa.length vac) := ⟨_, rfl⟩
        rw [← hW]
        obtain ⟨q0, q1, q2, qo, qb⟩ := (((HC.out.setAt 0).setEr 4).setAt s.size).ret _ _ _ hW
        refine bodyPost_ret (v := .agg #[.int .i64 4, .int .i64 s.size, (.slice va0 aa.length vac)]) (by simp [results, Tryz.results13, go_sem, *]) rfl ?_
        rw [← hrc.out]
        rw [if_neg h1]
        exact ⟨_, rfl, qo, qb⟩
set_option maxRecDepth 100000 in
set_option maxHeartbeats 4000000 in
theorem check_long (s : ByteArray) (nb nd : Int) (ao : Option Addr) (n c : Nat) (w : World) (h : (60 : Int) < s.size ∨ 4 < nb ∨ 4 < nd) :
    Calls Tryz.prog 13 #[.string s, .int .i64 nb, .int .i64 nd, .slice ao n c] w (Vdt w (1, 0, [])) := by
  by_cases h1 : (60 : Int) < s.size
  · go_enter Tryz.func13, Tryz.ntmps13
    go_wp2
    refine bodyPost_ret (v := .agg #[.int .i64 1, .int .i64 0, .slice none 0 0]) (by simp [results, Tryz.results13, go_sem]) rfl ⟨.slice none 0 0, rfl, World.ownsRow_nil _ _ _ _, ?_⟩
    repeat (first | exact Below.refl _ _ | refine bl_alloc ?_ | refine bl_drewN ?_ _)
  by_cases h2 : (4 : Int) < nb
  · go_enter Tryz.func13, Tryz.ntmps13
    go_wp2
    refine bodyPost_ret (v := .agg #[.int .i64 1, .int .i64 0, .slice none 0 0]) (by simp [results, Tryz.results13, go_sem]) rfl ⟨.slice none 0 0, rfl, World.ownsRow_nil _ _ _ _, ?_⟩
    repeat (first | exact Below.refl _ _ | refine bl_alloc ?_ | refine bl_drewN ?_ _)
  have h3 : (4 : Int) < nd := by omega
  go_enter Tryz.func13, Tryz.ntmps13
  go_wp2
  refine bodyPost_ret (v := .agg #[.int .i64 1, .int .i64 0, .slice none 0 0]) (by simp [results, Tryz.results13, go_sem]) rfl ⟨.slice none 0 0, rfl, World.ownsRow_nil _ _ _ _, ?_⟩
  repeat (first | exact Below.refl _ _ | refine bl_alloc ?_ | refine bl_drewN ?_ _)
/-- The program's run and the reference's verdict go together. -/
theorem rtk_tk {c : Int} (h : 0 < rtk c) : rtk c = (tk c : Int) := by
  unfold rtk at h ⊢
  unfold tk
  repeat' split at h
  all_goals (repeat' split)
  all_goals first | rfl | omega
theorem rtk_idx (c : Int) : idx c = -1 ∧ ¬ (48 ≤ c ∧ c < 52) ∧ ¬ (97 ≤ c ∧ c < 101) ↔ rtk c < 0 := by
  unfold rtk idx
  repeat' split
  all_goals (constructor <;> intro h)
  all_goals omega
theorem rtk_zero (c : Int) : ((48 ≤ c ∧ c < 52) ∨ (97 ≤ c ∧ c < 101)) ↔ rtk c = 0 := by
  unfold rtk
  repeat' split
  all_goals (constructor <;> intro h)
  all_goals omega
theorem chk_runs (P : Plane) (bs ds : List St) (ks : List Int) : ∀ (cs : List Int) (i : Int) (st : List St) (qs : List (Int × Int)),
    chk bs.length ds.length ks cs i st.length (qs.map Prod.snd) = ((runs P bs ds (lkd ks) (lgd ks) cs i st qs).1, if (runs P bs ds (lkd ks) (lgd ks) cs i st qs).1 = 0 then 0 else (runs P bs ds (lkd ks) (lgd ks) cs i st qs).2.1, (runs P bs ds (lkd ks) (lgd ks) cs i st qs).2.2.2.map Prod.snd)
  | [], i, st, qs => by
    rw [runs_nil, chk]
    by_cases h : st.length = 1
    · rw [if_pos (by omega), if_pos h]; simp
    · rw [if_neg (by omega), if_neg h]; simp
  | c :: cs, i, st, qs => by
    rw [runs_cons, chk]
    by_cases h1 : 48 ≤ c ∧ c < 52
    · have r0 := (rtk_zero c).mp (.inl h1)
      have e : stp P bs ds (lkd ks) (lgd ks) c i st qs = (match bs[(c - 48).toNat]? with | some x => (0, st ++ [x], qs) | none => (3, st, qs)) := by unfold stp; rw [if_pos h1]; rfl
      rw [if_neg (by omega), if_pos r0, e]
      have ht : thr c bs.length ds.length = decide (c - 48 < bs.length) := by unfold thr; rw [if_neg (by omega)]
      rw [ht]
      cases hb : bs[(c - 48).toNat]? with
      | none =>
        have := List.getElem?_eq_none_iff.mp hb
        rw [if_neg (by simp; omega)]; simp
      | some x =>
        obtain ⟨hl, _⟩ := List.getElem?_eq_some_iff.mp hb
        rw [if_pos (by simp; omega), if_pos rfl]
        have := chk_runs P bs ds ks cs (i + 1) (st ++ [x]) qs
        rw [← this]; simp
    by_cases h2 : 97 ≤ c ∧ c < 101
    · have r0 := (rtk_zero c).mp (.inr h2)
      have e : stp P bs ds (lkd ks) (lgd ks) c i st qs = (match ds[(c - 97).toNat]? with | some x => (0, st ++ [x], qs) | none => (3, st, qs)) := by unfold stp; rw [if_neg h1, if_pos h2]; rfl
      rw [if_neg (by omega), if_pos r0, e]
      have ht : thr c bs.length ds.length = decide (c - 97 < ds.length) := by unfold thr; rw [if_pos (by omega)]
      rw [ht]
      cases hb : ds[(c - 97).toNat]? with
      | none =>
        have := List.getElem?_eq_none_iff.mp hb
        rw [if_neg (by simp; omega)]; simp
      | some x =>
        obtain ⟨hl, _⟩ := List.getElem?_eq_some_iff.mp hb
        rw [if_pos (by simp; omega), if_pos rfl]
        have := chk_runs P bs ds ks cs (i + 1) (st ++ [x]) qs
        rw [← this]; simp
    by_cases h3 : idx c = -1
    · have r0 := (rtk_idx c).mp ⟨h3, h1, h2⟩
      have e : stp P bs ds (lkd ks) (lgd ks) c i st qs = (2, st, qs) := by unfold stp; rw [if_neg h1, if_neg h2, if_pos h3]
      rw [if_pos r0, e]; simp
    · have r0 : 0 < rtk c := by
        have a := mt (rtk_idx c).mpr (fun h => h3 h.1)
        have b := mt (rtk_zero c).mpr (by omega)
        omega
      have rk := rtk_tk r0
      rw [if_neg (by omega), if_neg (by omega)]
      by_cases h4 : st.length < tk c
      · have e : stp P bs ds (lkd ks) (lgd ks) c i st qs = (4, st, qs) := by unfold stp; rw [if_neg h1, if_neg h2, if_neg h3, if_pos h4]
        rw [if_pos (by omega), e]; simp
      · rw [if_neg (by omega)]
        by_cases h5 : lgd ks qs.length = true
        · have e : stp P bs ds (lkd ks) (lgd ks) c i st qs = (0, after P c (lkd ks qs.length) st, qs ++ [(c, i)]) := by unfold stp; rw [if_neg h1, if_neg h2, if_neg h3, if_neg h4, if_pos h5]
          rw [if_pos (by rw [List.length_map]; exact h5), e, if_pos rfl]
          have := chk_runs P bs ds ks cs (i + 1) (after P c (lkd ks qs.length) st) (qs ++ [(c, i)])
          rw [← this]
          have ht : tk c = 1 ∨ tk c = 2 := by unfold tk; split <;> simp
          have hl : (((after P c (lkd ks qs.length) st).length : Nat) : Int) = st.length - rtk c + 1 := by
            rw [rk]
            unfold after
            rcases ht with h | h
            · rw [if_pos h, h]; simp; omega
            · rw [if_neg (by omega), h]; simp; omega
          rw [hl]; simp
        · have e : stp P bs ds (lkd ks) (lgd ks) c i st qs = (5, st, qs ++ [(c, i)]) := by unfold stp; rw [if_neg h1, if_neg h2, if_neg h3, if_neg h4, if_neg h5]
          rw [if_neg (by rw [List.length_map]; exact h5), e]; simp
end Go.Proofs.YtacnclofbnafiabGreatDoor
