import Derived.Test.YtacnclofbnafiabGreatDoorPG
import Derived.Test.YtacnclofbnafiabGreatDoorS0r
import Derived.Test.YtacnclofbnafiabGreatDoorX3
import Derived.Test.YtacnclofbnafiabGreatDoorK9s
import Derived.Test.YtacnclofbnafiabGreatDoorK15
import Derived.Test.YtacnclofbnafiabGreatDoorB1r
import Derived.Test.YtacnclofbnafiabGreatDoorB1q
import Derived.Test.YtacnclofbnafiabGreatDoorB2b
namespace Go.Proofs.YtacnclofbnafiabGreatDoor
open Go.RowKit Fl

theorem rplain {x y : Nat} {k l : Int} (hx : Key x k) (hy : Key y l) : ∀ w, Calls Tryz.prog 79 #[.float .f64 x, .float .f64 y] w fun e w' => e = .returned (.agg #[.float .f64 (B k), .float .f64 (B l)]) ∧ Below w.heap.size w w' := rplain_w x y _ _ hx.plus0 hy.plus0
theorem rneg_ok {X1 X2 : Nat} {k l : Int} (h : Iv X1 X2 k l) : ∀ w, Calls Tryz.prog 80 #[.agg #[.float .f64 X1, .float .f64 X2]] w fun e w' => e = .returned (.agg #[.float .f64 (B (-l)), .float .f64 (B (-k))]) ∧ Below w.heap.size w w' :=
  rneg_ok_w X1 X2 _ _ _ _ (rnone_no h) h.y.minus h.x.minus (rplain (Key.at (neg_pl h.y.pl)) (Key.at (neg_pl h.x.pl)))
theorem alike_any {a b : Int} (ha : Pl a) (hb : Pl b) : ∀ w, Calls Tryz.prog 43 #[.agg #[.float .f64 (B a), .float .f64 (B b)], .agg #[.float .f64 (B a), .float .f64 (B b)]] w fun e w' => e = .returned (.bool true) ∧ Below w.heap.size w w' := alike_w _ _ (same_any _ (Key.at ha).self) (same_any _ (Key.at hb).self)
theorem aD_pl (F : Ops) {k l : Int} (hk : Pl k) (hl : Pl l) : Pl (F.aD k l) ∧ Pl (F.aU k l) := by
  have := (F.add hk hl).bd
  unfold Pl; omega
theorem rsum_ok (F : Ops) {X1 X2 Y1 Y2 : Nat} {k l k' l' : Int} (h : Iv X1 X2 k l) (h' : Iv Y1 Y2 k' l') : ∀ w, Calls Tryz.prog 77 #[.agg #[.float .f64 X1, .float .f64 X2], .agg #[.float .f64 Y1, .float .f64 Y2]] w fun e w' => e = .returned (.agg #[.float .f64 (B (F.aD k k')), .float .f64 (B (F.aU l l'))]) ∧ Below w.heap.size w w' :=
  rsum_ok_w X1 X2 Y1 Y2 _ _ _ _ (rnone_no h) (rnone_no h') (F.add_d h.x h'.x) (F.add_u h.y h'.y) (rplain (Key.at (aD_pl F h.x.pl h'.x.pl).1) (Key.at (aD_pl F h.y.pl h'.y.pl).2))
theorem rdiff_ok (F : Ops) {X1 X2 Y1 Y2 : Nat} {k l k' l' : Int} (h : Iv X1 X2 k l) (h' : Iv Y1 Y2 k' l') : ∀ w, Calls Tryz.prog 76 #[.agg #[.float .f64 X1, .float .f64 X2], .agg #[.float .f64 Y1, .float .f64 Y2]] w fun e w' => e = .returned (.agg #[.float .f64 (B (F.aD k (-l'))), .float .f64 (B (F.aU l (-k')))]) ∧ Below w.heap.size w w' :=
  rdiff_w X1 X2 Y1 Y2 _ _ _ _ (rneg_ok h') (rsum_ok F h h'.neg)
def fourI (a b c d : Int) (k : Nat) : Int := if k = 0 then a else if k = 1 then b else if k = 2 then c else d
theorem fourI_pl {a b c d : Int} (ha : Pl a) (hb : Pl b) (hc : Pl c) (hd : Pl d) (k : Nat) : Pl (fourI a b c d k) := by
  unfold fourI; split
  · exact ha
  · split
    · exact hb
    · split
      · exact hc
      · exact hd
theorem mn_four (a b c d : Int) : mn (fourI a b c d) 4 = min (min a b) (min c d) := by
  show min (min (min a b) c) d = min (min a b) (min c d)
  omega
theorem mx_four (a b c d : Int) : mx (fourI a b c d) 4 = max (max a b) (max c d) := by
  show max (max (max a b) c) d = max (max a b) (max c d)
  omega
theorem rprod_ok (F : Ops) {X1 X2 Y1 Y2 : Nat} {k l k' l' : Int} (h : Iv X1 X2 k l) (h' : Iv Y1 Y2 k' l') : ∀ w, Calls Tryz.prog 78 #[.agg #[.float .f64 X1, .float .f64 X2], .agg #[.float .f64 Y1, .float .f64 Y2]] w fun e w' => e = .returned (.agg #[.float .f64 (B (F.pLo k l k' l')), .float .f64 (B (F.pHi k l k' l'))]) ∧ Below w.heap.size w w' := by
  have a1 := F.mul_pl h.x.pl h'.x.pl
  have a2 := F.mul_pl h.x.pl h'.y.pl
  have a3 := F.mul_pl h.y.pl h'.x.pl
  have a4 := F.mul_pl h.y.pl h'.y.pl
  have hdn := fourI_pl a1.1 a2.1 a3.1 a4.1
  have hup := fourI_pl a1.2 a2.2 a3.2 a4.2
  have cs : ∀ j, j < 4 → j = 0 ∨ j = 1 ∨ j = 2 ∨ j = 3 := fun j hj => by omega
  have p := rplain (Key.at (mn_pl hdn 4)) (Key.at (mx_pl hup 4))
  rw [mn_four, mx_four] at p
  refine rprod_ok_w X1 X2 Y1 Y2 _ _ (fourI (F.mD k k') (F.mD k l') (F.mD l k') (F.mD l l')) (fourI (F.mU k k') (F.mU k l') (F.mU l k') (F.mU l l')) hdn hup (rnone_no h) (rnone_no h') (fun j hj => ?_) (fun j hj => ?_) ?_
  · rcases cs j hj with rfl | rfl | rfl | rfl
    · exact F.mul_d h.x h'.x
    · exact F.mul_d h.x h'.y
    · exact F.mul_d h.y h'.x
    · exact F.mul_d h.y h'.y
  · rcases cs j hj with rfl | rfl | rfl | rfl
    · exact F.mul_u h.x h'.x
    · exact F.mul_u h.x h'.y
    · exact F.mul_u h.y h'.x
    · exact F.mul_u h.y h'.y
  · rw [mn_four, mx_four]; exact p
theorem rnoBox : ∀ w, Calls Tryz.prog 75 #[] w fun e w' => e = .returned (.agg #[.float .f64 (B INF), .float .f64 (B (-INF)), .float .f64 (B INF), .float .f64 (B (-INF))]) ∧ Below w.heap.size w w' := rnoBox_w _ _ rempty
theorem rboxAdd_ok (F : Ops) {X1 X2 X3 X4 Y1 Y2 Y3 Y4 : Nat} {k l m n k' l' m' n' : Int} (g : Iv X1 X2 k l) (g2 : Iv X3 X4 m n) (g' : Iv Y1 Y2 k' l') (g2' : Iv Y3 Y4 m' n') : ∀ w, Calls Tryz.prog 39 #[.agg #[.float .f64 X1, .float .f64 X2, .float .f64 X3, .float .f64 X4], .agg #[.float .f64 Y1, .float .f64 Y2, .float .f64 Y3, .float .f64 Y4], .bool false] w fun e w' => e = .returned (.agg #[.float .f64 (B (F.aD k k')), .float .f64 (B (F.aU l l')), .float .f64 (B (F.aD m m')), .float .f64 (B (F.aU n n'))]) ∧ Below w.heap.size w w' :=
  rboxSum_f_w _ _ _ _ _ _ _ _ _ _ _ _ (rbare_no g g2) (rbare_no g' g2') (rsum_ok F g g') (rsum_ok F g2 g2')
theorem rboxSub_ok (F : Ops) {X1 X2 X3 X4 Y1 Y2 Y3 Y4 : Nat} {k l m n k' l' m' n' : Int} (g : Iv X1 X2 k l) (g2 : Iv X3 X4 m n) (g' : Iv Y1 Y2 k' l') (g2' : Iv Y3 Y4 m' n') : ∀ w, Calls Tryz.prog 39 #[.agg #[.float .f64 X1, .float .f64 X2, .float .f64 X3, .float .f64 X4], .agg #[.float .f64 Y1, .float .f64 Y2, .float .f64 Y3, .float .f64 Y4], .bool true] w fun e w' => e = .returned (.agg #[.float .f64 (B (F.aD k (-l'))), .float .f64 (B (F.aU l (-k'))), .float .f64 (B (F.aD m (-n'))), .float .f64 (B (F.aU n (-m')))]) ∧ Below w.heap.size w w' :=
  rboxSum_t_w _ _ _ _ _ _ _ _ _ _ _ _ (rbare_no g g2) (rbare_no g' g2') (rdiff_ok F g g') (rdiff_ok F g2 g2')
theorem rboxMul_ok (F : Ops) {X1 X2 X3 X4 Y1 Y2 Y3 Y4 : Nat} {k l m n k' l' m' n' : Int} (g : Iv X1 X2 k l) (g2 : Iv X3 X4 m n) (g' : Iv Y1 Y2 k' l') (g2' : Iv Y3 Y4 m' n') : ∀ w, Calls Tryz.prog 40 #[.agg #[.float .f64 X1, .float .f64 X2, .float .f64 X3, .float .f64 X4], .agg #[.float .f64 Y1, .float .f64 Y2, .float .f64 Y3, .float .f64 Y4]] w fun e w' => e = .returned (.agg #[.float .f64 (B (F.aD (F.pLo k l k' l') (-(F.pHi m n m' n')))), .float .f64 (B (F.aU (F.pHi k l k' l') (-(F.pLo m n m' n')))), .float .f64 (B (F.aD (F.pLo k l m' n') (F.pLo m n k' l'))), .float .f64 (B (F.aU (F.pHi k l m' n') (F.pHi m n k' l')))]) ∧ Below w.heap.size w w' :=
  rboxProduct_w _ _ _ _ _ _ _ _ _ _ _ _ _ _ _ _ _ _ _ _ (rbare_no g g2) (rbare_no g' g2') (rprod_ok F g g') (rprod_ok F g2 g2') (rprod_ok F g g2') (rprod_ok F g2 g') (rdiff_ok F (pmul_iv F g g') (pmul_iv F g2 g2')) (rsum_ok F (pmul_iv F g g2') (pmul_iv F g2 g'))
theorem rboxAdd_no {X1 X2 X3 X4 Y1 Y2 Y3 Y4 : Nat} (hX1 : X1 < 18446744073709551616) (hX2 : X2 < 18446744073709551616) (hX3 : X3 < 18446744073709551616) (hX4 : X4 < 18446744073709551616) (hY1 : Y1 < 18446744073709551616) (hY2 : Y2 < 18446744073709551616) (hY3 : Y3 < 18446744073709551616) (hY4 : Y4 < 18446744073709551616) (h : NoBx X1 X2 X3 X4 ∨ NoBx Y1 Y2 Y3 Y4) : ∀ w, Calls Tryz.prog 39 #[.agg #[.float .f64 X1, .float .f64 X2, .float .f64 X3, .float .f64 X4], .agg #[.float .f64 Y1, .float .f64 Y2, .float .f64 Y3, .float .f64 Y4], .bool false] w fun e w' => e = .returned (.agg #[.float .f64 (B INF), .float .f64 (B (-INF)), .float .f64 (B INF), .float .f64 (B (-INF))]) ∧ Below w.heap.size w w' := by
  rcases Bx.or X1 X2 X3 X4 with ⟨k, l, m, n, g, g2⟩ | g
  · rcases h with h | h
    · rcases h with h | h
      · exact absurd g (h _ _)
      · exact absurd g2 (h _ _)
    · exact rboxSum_noy_f_w X1 X2 X3 X4 Y1 Y2 Y3 Y4 _ _ _ _ (rbare_no g g2) (rbare_yes hY1 hY2 hY3 hY4 h) rnoBox
  · rcases Bx.or Y1 Y2 Y3 Y4 with ⟨k, l, m, n, g', g2'⟩ | g'
    · exact rboxSum_nox_f_w X1 X2 X3 X4 Y1 Y2 Y3 Y4 _ _ _ _ false (rbare_yes hX1 hX2 hX3 hX4 g) (rbare_no g' g2') rnoBox
    · exact rboxSum_nox_f_w X1 X2 X3 X4 Y1 Y2 Y3 Y4 _ _ _ _ true (rbare_yes hX1 hX2 hX3 hX4 g) (rbare_yes hY1 hY2 hY3 hY4 g') rnoBox
theorem rboxSub_no {X1 X2 X3 X4 Y1 Y2 Y3 Y4 : Nat} (hX1 : X1 < 18446744073709551616) (hX2 : X2 < 18446744073709551616) (hX3 : X3 < 18446744073709551616) (hX4 : X4 < 18446744073709551616) (hY1 : Y1 < 18446744073709551616) (hY2 : Y2 < 18446744073709551616) (hY3 : Y3 < 18446744073709551616) (hY4 : Y4 < 18446744073709551616) (h : NoBx X1 X2 X3 X4 ∨ NoBx Y1 Y2 Y3 Y4) : ∀ w, Calls Tryz.prog 39 #[.agg #[.float .f64 X1, .float .f64 X2, .float .f64 X3, .float .f64 X4], .agg #[.float .f64 Y1, .float .f64 Y2, .float .f64 Y3, .float .f64 Y4], .bool true] w fun e w' => e = .returned (.agg #[.float .f64 (B INF), .float .f64 (B (-INF)), .float .f64 (B INF), .float .f64 (B (-INF))]) ∧ Below w.heap.size w w' := by
  rcases Bx.or X1 X2 X3 X4 with ⟨k, l, m, n, g, g2⟩ | g
  · rcases h with h | h
    · rcases h with h | h
      · exact absurd g (h _ _)
      · exact absurd g2 (h _ _)
    · exact rboxSum_noy_t_w X1 X2 X3 X4 Y1 Y2 Y3 Y4 _ _ _ _ (rbare_no g g2) (rbare_yes hY1 hY2 hY3 hY4 h) rnoBox
  · rcases Bx.or Y1 Y2 Y3 Y4 with ⟨k, l, m, n, g', g2'⟩ | g'
    · exact rboxSum_nox_t_w X1 X2 X3 X4 Y1 Y2 Y3 Y4 _ _ _ _ false (rbare_yes hX1 hX2 hX3 hX4 g) (rbare_no g' g2') rnoBox
    · exact rboxSum_nox_t_w X1 X2 X3 X4 Y1 Y2 Y3 Y4 _ _ _ _ true (rbare_yes hX1 hX2 hX3 hX4 g) (rbare_yes hY1 hY2 hY3 hY4 g') rnoBox
theorem rboxMul_no {X1 X2 X3 X4 Y1 Y2 Y3 Y4 : Nat} (hX1 : X1 < 18446744073709551616) (hX2 : X2 < 18446744073709551616) (hX3 : X3 < 18446744073709551616) (hX4 : X4 < 18446744073709551616) (hY1 : Y1 < 18446744073709551616) (hY2 : Y2 < 18446744073709551616) (hY3 : Y3 < 18446744073709551616) (hY4 : Y4 < 18446744073709551616) (h : NoBx X1 X2 X3 X4 ∨ NoBx Y1 Y2 Y3 Y4) : ∀ w, Calls Tryz.prog 40 #[.agg #[.float .f64 X1, .float .f64 X2, .float .f64 X3, .float .f64 X4], .agg #[.float .f64 Y1, .float .f64 Y2, .float .f64 Y3, .float .f64 Y4]] w fun e w' => e = .returned (.agg #[.float .f64 (B INF), .float .f64 (B (-INF)), .float .f64 (B INF), .float .f64 (B (-INF))]) ∧ Below w.heap.size w w' := by
  rcases Bx.or X1 X2 X3 X4 with ⟨k, l, m, n, g, g2⟩ | g
  · rcases h with h | h
    · rcases h with h | h
      · exact absurd g (h _ _)
      · exact absurd g2 (h _ _)
    · exact rboxProduct_noy_w X1 X2 X3 X4 Y1 Y2 Y3 Y4 _ _ _ _ (rbare_no g g2) (rbare_yes hY1 hY2 hY3 hY4 h) rnoBox
  · rcases Bx.or Y1 Y2 Y3 Y4 with ⟨k, l, m, n, g', g2'⟩ | g'
    · exact rboxProduct_nox_w X1 X2 X3 X4 Y1 Y2 Y3 Y4 _ _ _ _ false (rbare_yes hX1 hX2 hX3 hX4 g) (rbare_no g' g2') rnoBox
    · exact rboxProduct_nox_w X1 X2 X3 X4 Y1 Y2 Y3 Y4 _ _ _ _ true (rbare_yes hX1 hX2 hX3 hX4 g) (rbare_yes hY1 hY2 hY3 hY4 g') rnoBox
theorem alikeBox_any {a b c d : Int} (ha : Pl a) (hb : Pl b) (hc : Pl c) (hd : Pl d) : ∀ w, Calls Tryz.prog 18 #[.agg #[.float .f64 (B a), .float .f64 (B b), .float .f64 (B c), .float .f64 (B d)], .agg #[.float .f64 (B a), .float .f64 (B b), .float .f64 (B c), .float .f64 (B d)]] w fun e w' => e = .returned (.bool true) ∧ Below w.heap.size w w' :=
  alikeBox_w _ _ _ _ (alike_any ha hb) (alike_any hc hd)
end Go.Proofs.YtacnclofbnafiabGreatDoor
