/- R7 in one. -/
import Derived.Test.YtllhcpkpbipjlaaDoorKx
import Derived.Deep.DeepCutAuto
namespace Go.Proofs.YtllhcpkpbipjlaaDoor
set_option linter.unusedVariables false
set_option linter.unusedSimpArgs false
open Go.ChangeShapes Go.WideShapes Go.ChangeAt Go.RowKit
open Cal (dg)

theorem row_keep {B n : Nat} {w w' : World} {v : Value} {xs : List Value} (h : w.ownsRow B 9 1 v n xs) (b : Below w.heap.size w w') : w'.ownsRow B 9 1 v n xs := by
  obtain ⟨h1, h2⟩ := h
  refine ⟨h1, ?_⟩
  rcases h2 with h2 | ⟨g, cap, cur, e1, e2, e3, e4⟩
  · exact .inl h2
  · have lt : g < w.heap.size := by
      by_cases c : g < w.heap.size
      · exact c
      · rw [Array.getElem?_eq_none (by omega)] at e3; cases e3
    exact .inr ⟨g, cap, cur, e1, e2, by rw [b.block g lt]; exact e3, e4⟩
theorem three_below {w v7 v8 v9 : World} (H7 : Hid (Below w.heap.size w v7)) (H8 : Hid (Below v7.heap.size v7 v8)) (H9 : Hid (Below v8.heap.size v8 v9)) (o : Obj) : Below w.heap.size w (v9.alloc o) := by
  have z1 : Below w.heap.size w v9 := (H7.out.trans (H8.out.mono H7.out.size)).trans (H9.out.mono (Nat.le_trans H7.out.size H8.out.size))
  exact z1.alloc z1.size o
theorem rowed2 {B n : Nat} {w v7 v8 v9 : World} {v : Value} {xs : List Value} (h : Hid (w.ownsRow B 9 1 v n xs)) (H7 : Hid (Below w.heap.size w v7)) (H8 : Hid (Below v7.heap.size v7 v8)) (H9 : Hid (Below v8.heap.size v8 v9)) (o : Obj) : (v9.alloc o).ownsRow B 9 1 v n xs := row_keep h.out (three_below H7 H8 H9 o)
theorem size2 {w0 w v7 v8 v9 : World} (h : Hid (Below w0.heap.size w0 w)) (H7 : Hid (Below w.heap.size w v7)) (H8 : Hid (Below v7.heap.size v7 v8)) (H9 : Hid (Below v8.heap.size v8 v9)) (o : Obj) : w0.heap.size ≤ (v9.alloc o).heap.size := Nat.le_trans h.out.size (three_below H7 H8 H9 o).size
theorem below2 {w0 w v7 v8 v9 w10 : World} {v : Value} {n B : Nat} {xs : List Value} (h : Hid (Below w0.heap.size w0 w)) (HO : Hid (w.ownsRow B 9 1 v n xs)) (hB : w0.heap.size = B) (H7 : Hid (Below w.heap.size w v7)) (H8 : Hid (Below v7.heap.size v7 v8)) (H9 : Hid (Below v8.heap.size v8 v9)) (o : Obj) (hg : World.grownBy (v9.alloc o) w10 v.ownBlock) : Below w0.heap.size w0 w10 :=
  (h.out.trans ((three_below H7 H8 H9 o).mono h.out.size)).grown hg (size2 h H7 H8 H9 o) (fun q hq => by rw [hB]; exact (HO.out.lt q hq).1)
theorem texts_info : ∃ i0, Tryd.prog.info? 9 = some i0 ∧ i0.zero = some (.string ByteArray.empty) ∧ i0.size = 1 ∧ i0.bytes = 16 := by
  have h := info9
  cases hq : Tryd.prog.info? 9 with
  | none => rw [hq] at h; cases h
  | some i => rw [hq] at h; simp at h; exact ⟨i, rfl, h.1, h.2.1, h.2.2⟩

set_option maxRecDepth 100000 in
set_option maxHeartbeats 4000000 in
theorem rtexts_three_4_4 (n y z : Int) (p p2 : ByteArray) (hp : p.size = 4) (hp2 : p2.size = 4) (m d k u e : Nat) (hu : u < 100) (he : e < 10) (hm : m < 100) (hd : d < 100) (hk : k < 1000)
    (Y : Hid (∀ w, Calls Tryd.prog 72 #[.int .i64 y] w fun e w' => e = .returned (.string p) ∧ Below w.heap.size w w'))
    (D : Hid (∀ w, Calls Tryd.prog 71 #[.int .i64 n] w fun e w' => e = .returned (.tuple #[.int .i64 y, .int .i64 m, .int .i64 d, .int .i64 0]) ∧ w = w'))
    (N : Hid (∀ w, Calls Tryd.prog 74 #[.int .i64 n] w fun e w' => e = .returned (.tuple #[.int .i64 y, .int .i64 k, .int .i64 0]) ∧ w = w'))
    (W : Hid (∀ w, Calls Tryd.prog 75 #[.int .i64 n] w fun e' w' => e' = .returned (.tuple #[.int .i64 z, .int .i64 u, .int .i64 e, .int .i64 0]) ∧ w = w'))
    (Y2 : Hid (∀ w, Calls Tryd.prog 72 #[.int .i64 z] w fun e w' => e = .returned (.string p2) ∧ Below w.heap.size w w')) (w : World) :
    Calls Tryd.prog 68 #[.int .i64 n] w fun e' w' => ∃ v, e' = .returned v ∧ w'.ownsRow w.heap.size 9 1 v 3 [.string (p ++ ⟨#[45]⟩ ++ ⟨#[dg (m / 10 % 10), dg (m % 10)]⟩ ++ ⟨#[45]⟩ ++ ⟨#[dg (d / 10 % 10), dg (d % 10)]⟩), .string (p ++ ⟨#[45]⟩ ++ ⟨#[dg (k / 100 % 10), dg (k / 10 % 10), dg (k % 10)]⟩), .string (p2 ++ ⟨#[45, 87]⟩ ++ ⟨#[dg (u / 10 % 10), dg (u % 10)]⟩ ++ ⟨#[45]⟩ ++ ⟨#[dg (e % 10)]⟩)] ∧ Below w.heap.size w w' := by
  have M := Lib.hid (fun w => digits_2 m w (by omega))
  have DD := Lib.hid (fun w => digits_2 d w (by omega))
  have K := Lib.hid (fun w => digits_3 k w (by omega))
  have U := Lib.hid (fun w => digits_2 u w (by omega))
  have E := Lib.hid (fun w => digits_1 e w (by omega))
  clear hm hd hk hu he
  obtain ⟨i0, hi, hz0, hz1, hz2⟩ := texts_info
  have HI := Lib.hid hi
  have HZ0 := Lib.hid hz0
  have HZ1 := Lib.hid hz1
  have HZ2 := Lib.hid hz2
  clear hi hz0 hz1 hz2
  go_enter Tryd.func68, Tryd.ntmps68
  go_upto_region 6 with (first
    | (go_at_call 71; (with_reducible refine (D.out _).mono ?_); rintro e w' ⟨rfl, rfl⟩)
    | (go_at_call 72; (with_reducible refine (Y.out _).mono ?_); rintro e v1 ⟨rfl, b1⟩; have H1 := Lib.hid b1; clear b1)
    | (go_at_call 73; (with_reducible refine (M.out _).mono ?_); rintro e v2 ⟨rfl, b2⟩; have H2 := Lib.hid b2; clear b2)
    | (go_at_call 73; (with_reducible refine (DD.out _).mono ?_); rintro e v3 ⟨rfl, b3⟩; have H3 := Lib.hid b3; clear b3)
    | (go_at_call 74; (with_reducible refine (N.out _).mono ?_); rintro e w' ⟨rfl, rfl⟩))
  go_cut [7] (fun v wx => Hid (wx.ownsRow w.heap.size 9 1 v 2 [.string (p ++ ⟨#[45]⟩ ++ ⟨#[dg (m / 10 % 10), dg (m % 10)]⟩ ++ ⟨#[45]⟩ ++ ⟨#[dg (d / 10 % 10), dg (d % 10)]⟩), .string (p ++ ⟨#[45]⟩ ++ ⟨#[dg (k / 100 % 10), dg (k / 10 % 10), dg (k % 10)]⟩)]) ∧ Hid (Below w.heap.size w wx))
  case first =>
    go_wp2_with (first
      | (go_at_call 72; (with_reducible refine (Y.out _).mono ?_); rintro e v4 ⟨rfl, b4⟩; have H4 := Lib.hid b4; clear b4)
      | (go_at_call 73; (with_reducible refine (K.out _).mono ?_); rintro e v5 ⟨rfl, b5⟩; have H5 := Lib.hid b5; clear b5)
      | (at_builtin; refine wpList_append_own _ rfl _ _ 35 rfl w.heap.size 9 i0 (.string ByteArray.empty) 1 16 Tryd.underlying35 HI.out HZ0.out HZ1.out HZ2.out rfl (by decide) _ _ _ rfl (rowed H1 H2 H3 H4 H5 _).1 ⟨v5.heap.size, 0, none⟩ 1 1 [.string (p ++ ⟨#[45]⟩ ++ ⟨#[dg (k / 100 % 10), dg (k / 10 % 10), dg (k % 10)]⟩)] rfl rfl (cell_one_new _ _ _) (fun x hx => by simp at hx; subst hx; rfl) (by unfold maxLen; omega) (by omega) ((rowed H1 H2 H3 H4 H5 _).2.1.size) ?_; intro v' w6 hown' hgro hnil; have HO := Lib.hid hown'; have HG : Hid (World.grownBy (v5.alloc (.cells #[.string (p ++ ⟨#[45]⟩ ++ ⟨#[dg (k / 100 % 10), dg (k / 10 % 10), dg (k % 10)]⟩)] 9)) w6 (some v3.heap.size)) := Lib.hid hgro; clear hown' hgro hnil))
    go_meet
    exact ⟨HO, Lib.hid ((rowed H1 H2 H3 H4 H5 _).2.1.grown HG.out (rowed H1 H2 H3 H4 H5 _).2.1.size (fun q hq => by cases hq; exact (rowed H1 H2 H3 H4 H5 (.cells #[.string (p ++ ⟨#[45]⟩ ++ ⟨#[dg (k / 100 % 10), dg (k / 10 % 10), dg (k % 10)]⟩)] 9)).2.2))⟩
  case rest =>
  obtain ⟨HO, HBW⟩ := hcut
  clear H1 H2 H3
  go_wp2_with (first
    | (go_at_call 75; (with_reducible refine (W.out _).mono ?_); rintro e w' ⟨rfl, rfl⟩)
    | (go_at_call 72; (with_reducible refine (Y2.out _).mono ?_); rintro e' v7 ⟨rfl, b7⟩; have H7 := Lib.hid b7; clear b7)
    | (go_at_call 73; (with_reducible refine (U.out _).mono ?_); rintro e' v8 ⟨rfl, b8⟩; have H8 := Lib.hid b8; clear b8)
    | (go_at_call 73; (with_reducible refine (E.out _).mono ?_); rintro e' v9 ⟨rfl, b9⟩; have H9 := Lib.hid b9; clear b9)
    | (at_builtin; refine wpList_append_own _ rfl _ _ 35 rfl w.heap.size 9 i0 (.string ByteArray.empty) 1 16 Tryd.underlying35 HI.out HZ0.out HZ1.out HZ2.out rfl (by decide) u7 2 _ (by rfl) (rowed2 HO H7 H8 H9 _) ⟨v9.heap.size, 0, none⟩ 1 1 [.string (p2 ++ ⟨#[45, 87]⟩ ++ ⟨#[dg (u / 10 % 10), dg (u % 10)]⟩ ++ ⟨#[45]⟩ ++ ⟨#[dg (e % 10)]⟩)] (by rfl) rfl ?hc (fun x hx => by simp at hx; subst hx; rfl) (by unfold maxLen; omega) (by omega) (size2 HBW H7 H8 H9 _) ?_; (case hc => exact cell_one_new _ _ _); intro v'' w10 hown' hgro hnil; have HO2 := Lib.hid hown'; have HG2 := Lib.hid (below2 HBW HO rfl H7 H8 H9 _ hgro); clear hown' hgro hnil))
  go_returns
  exact ⟨_, rfl, HO2.out, HG2.out⟩
end Go.Proofs.YtllhcpkpbipjlaaDoor
