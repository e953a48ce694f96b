import Derived.Test.YtacnclofbnafiaaS0
import Derived.Test.YtacnclofbnafiaaM1
import Derived.Test.YtacnclofbnafiaaK7
import Derived.Test.YtacnclofbnafiaaK8
import Derived.Test.YtacnclofbnafiaaK15
namespace Go.Proofs.Ytacnclofbnafiaa
open Go.RowKit Fl

theorem pcorner (F : Ops) {x y : Nat} {k l : Int} (hx : Key x k) (hy : Key y l) : ∀ w, Calls Try.prog 140 #[.float .f64 x, .float .f64 y] w fun e w' => e = .returned (.agg #[.float .f64 (B (F.mD k l)), .float .f64 (B (F.mU k l))]) ∧ Below w.heap.size w w' := corner_w x y _ _ (F.mul_p hx hy)
theorem pcover {a b c q : Int} (ha : Pl a) (hb : Pl b) (hc : Pl c) (hq : Pl q) : ∀ w, Calls Try.prog 139 #[.agg #[.float .f64 (B a), .float .f64 (B b)], .agg #[.float .f64 (B c), .float .f64 (B q)]] w fun e w' => e = .returned (.agg #[.float .f64 (B (min a c)), .float .f64 (B (max b q))]) ∧ Below w.heap.size w w' := cover_w (B a) (B b) (B c) (B q) _ _ (min_B ha hc) (max_B hb hq)
theorem pmul_ok (F : Ops) {X1 X2 Y1 Y2 : Nat} {k l k' l' : Int} (h : Iv X1 X2 k l) (h' : Iv Y1 Y2 k' l') : ∀ w, Calls Try.prog 102 #[.agg #[.float .f64 X1, .float .f64 X2], .agg #[.float .f64 Y1, .float .f64 Y2]] w fun e w' => e = .returned (.agg #[.float .f64 (B (F.pLo k l k' l')), .float .f64 (B (F.pHi k l k' l'))]) ∧ Below w.heap.size w w' := by
  have a1 := F.mul_pl h.x.pl h'.x.pl
  have a2 := F.mul_pl h.x.pl h'.y.pl
  have a3 := F.mul_pl h.y.pl h'.x.pl
  have a4 := F.mul_pl h.y.pl h'.y.pl
  exact mul_ok_w X1 X2 Y1 Y2 _ _ _ _ _ _ _ _ _ _ _ _ _ _ (none_no h) (none_no h') (pcorner F h.x h'.x) (pcorner F h.x h'.y) (pcorner F h.y h'.x) (pcorner F h.y h'.y)
    (pcover a1.1 a1.2 a2.1 a2.2) (pcover a3.1 a3.2 a4.1 a4.2) (pcover (pl_min a1.1 a2.1) (pl_max a1.2 a2.2) (pl_min a3.1 a4.1) (pl_max a3.2 a4.2))
theorem pmul_no {X1 X2 Y1 Y2 : Nat} (hX1 : X1 < 18446744073709551616) (hX2 : X2 < 18446744073709551616) (hY1 : Y1 < 18446744073709551616) (hY2 : Y2 < 18446744073709551616) (h : NoIv X1 X2 ∨ NoIv Y1 Y2) : ∀ w, Calls Try.prog 102 #[.agg #[.float .f64 X1, .float .f64 X2], .agg #[.float .f64 Y1, .float .f64 Y2]] w fun e w' => e = .returned (.agg #[.float .f64 (B INF), .float .f64 (B (-INF))]) ∧ Below w.heap.size w w' := by
  rcases Iv.or X1 X2 with ⟨k, l, g⟩ | g
  · rcases h with h | h
    · exact absurd g (h k l)
    · exact mul_noy_w X1 X2 Y1 Y2 _ _ (none_no g) (none_yes h hY1 hY2) pempty
  · exact mul_nox_w X1 X2 Y1 Y2 _ _ (none_yes g hX1 hX2) pempty
def fourI (a b c d : Int) (k : Nat) : Int := if k = 0 then a else if k = 1 then b else if k = 2 then c else d
theorem fourI_pl {a b c d : Int} (ha : Pl a) (hb : Pl b) (hc : Pl c) (hd : Pl d) (k : Nat) : Pl (fourI a b c d k) := by
  unfold fourI; split
  · exact ha
  · split
    · exact hb
    · split
      · exact hc
      · exact hd
theorem mn_four (a b c d : Int) : mn (fourI a b c d) 4 = min (min a b) (min c d) := by
  show min (min (min a b) c) d = min (min a b) (min c d)
  omega
theorem mx_four (a b c d : Int) : mx (fourI a b c d) 4 = max (max a b) (max c d) := by
  show max (max (max a b) c) d = max (max a b) (max c d)
  omega
theorem rprod_ok (F : Ops) {X1 X2 Y1 Y2 : Nat} {k l k' l' : Int} (h : Iv X1 X2 k l) (h' : Iv Y1 Y2 k' l') : ∀ w, Calls Try.prog 39 #[.agg #[.float .f64 X1, .float .f64 X2], .agg #[.float .f64 Y1, .float .f64 Y2]] w fun e w' => e = .returned (.agg #[.float .f64 (B (F.pLo k l k' l')), .float .f64 (B (F.pHi k l k' l'))]) ∧ Below w.heap.size w w' := by
  have a1 := F.mul_pl h.x.pl h'.x.pl
  have a2 := F.mul_pl h.x.pl h'.y.pl
  have a3 := F.mul_pl h.y.pl h'.x.pl
  have a4 := F.mul_pl h.y.pl h'.y.pl
  have hdn := fourI_pl a1.1 a2.1 a3.1 a4.1
  have hup := fourI_pl a1.2 a2.2 a3.2 a4.2
  have cs : ∀ j, j < 4 → j = 0 ∨ j = 1 ∨ j = 2 ∨ j = 3 := fun j hj => by omega
  have p := rplain (Key.at (mn_pl hdn 4)) (Key.at (mx_pl hup 4))
  rw [mn_four, mx_four] at p
  refine rprod_ok_w X1 X2 Y1 Y2 _ _ (fourI (F.mD k k') (F.mD k l') (F.mD l k') (F.mD l l')) (fourI (F.mU k k') (F.mU k l') (F.mU l k') (F.mU l l')) hdn hup (rnone_no h) (rnone_no h') (fun j hj => ?_) (fun j hj => ?_) ?_
  · rcases cs j hj with rfl | rfl | rfl | rfl
    · exact F.mul_d h.x h'.x
    · exact F.mul_d h.x h'.y
    · exact F.mul_d h.y h'.x
    · exact F.mul_d h.y h'.y
  · rcases cs j hj with rfl | rfl | rfl | rfl
    · exact F.mul_u h.x h'.x
    · exact F.mul_u h.x h'.y
    · exact F.mul_u h.y h'.x
    · exact F.mul_u h.y h'.y
  · rw [mn_four, mx_four]; exact p
theorem rprod_no {X1 X2 Y1 Y2 : Nat} (hX1 : X1 < 18446744073709551616) (hX2 : X2 < 18446744073709551616) (hY1 : Y1 < 18446744073709551616) (hY2 : Y2 < 18446744073709551616) (h : NoIv X1 X2 ∨ NoIv Y1 Y2) : ∀ w, Calls Try.prog 39 #[.agg #[.float .f64 X1, .float .f64 X2], .agg #[.float .f64 Y1, .float .f64 Y2]] w fun e w' => e = .returned (.agg #[.float .f64 (B INF), .float .f64 (B (-INF))]) ∧ Below w.heap.size w w' := by
  rcases Iv.or X1 X2 with ⟨k, l, g⟩ | g
  · rcases h with h | h
    · exact absurd g (h k l)
    · exact rprod_noy_w X1 X2 Y1 Y2 _ _ (rnone_no g) (rnone_yes h hY1 hY2) rempty
  · rcases Iv.or Y1 Y2 with ⟨k, l, g'⟩ | g'
    · exact rprod_nox_w X1 X2 Y1 Y2 _ _ false (rnone_yes g hX1 hX2) (rnone_no g') rempty
    · exact rprod_nox_w X1 X2 Y1 Y2 _ _ true (rnone_yes g hX1 hX2) (rnone_yes g' hY1 hY2) rempty
end Go.Proofs.Ytacnclofbnafiaa
