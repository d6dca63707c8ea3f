/- R6 in one. -/
import Derived.Test.YtllhcpkpbipjlaaDoorKv
import Derived.Test.YtllhcpkpbipjlaaDoorKw
import Derived.Laws.AppendOwn
import Derived.OwnWalk
import Derived.Maps.AppendAt
namespace Go.Proofs.YtllhcpkpbipjlaaDoor
set_option linter.unusedVariables false
set_option linter.unusedSimpArgs false
open Go.ChangeShapes Go.WideShapes Go.ChangeAt Go.RowKit
open Cal (dg)

theorem info9 : (Tryd.prog.info? 9).map (fun i => (i.zero, i.size, i.bytes)) = some (some (.string ByteArray.empty), 1, 16) := by kernel_rfl
/-- A row of one text, made ahead of what was called since. -/
theorem one_row {B : Nat} {w w' : World} {s : ByteArray} (hB : B ≤ w.heap.size) (b : Below (w.alloc (.cells #[.string s] 9)).heap.size (w.alloc (.cells #[.string s] 9)) w') :
    w'.ownsRow B 9 1 (.slice (some ⟨w.heap.size, 0, none⟩) 1 1) 1 [.string s] := by
  refine ⟨rfl, .inr ⟨w.heap.size, 1, #[.string s], rfl, hB, ?_, Nat.le_refl _, by unfold maxLen; omega, rfl, rfl⟩⟩
  rw [b.block w.heap.size (by simp)]
  show (w.heap.push _)[w.heap.size]? = _
  simp

theorem rowed {w v1 v2 v3 v4 v5 : World} {s : ByteArray} (H1 : Hid (Below w.heap.size w v1)) (H2 : Hid (Below v1.heap.size v1 v2)) (H3 : Hid (Below v2.heap.size v2 v3))
    (H4 : Hid (Below (v3.alloc (.cells #[.string s] 9)).heap.size (v3.alloc (.cells #[.string s] 9)) v4)) (H5 : Hid (Below v4.heap.size v4 v5)) (o : Obj) :
    (v5.alloc o).ownsRow w.heap.size 9 1 (.slice (some ⟨v3.heap.size, 0, none⟩) 1 1) 1 [.string s] ∧ Below w.heap.size w (v5.alloc o) ∧ w.heap.size ≤ v3.heap.size := by
  have z1 : Below w.heap.size w v3 := (H1.out.trans (H2.out.mono H1.out.size)).trans (H3.out.mono (Nat.le_trans H1.out.size H2.out.size))
  have z2 : Below (v3.alloc (.cells #[.string s] 9)).heap.size (v3.alloc (.cells #[.string s] 9)) v5 := H4.out.trans (H5.out.mono H4.out.size)
  have z3 : Below w.heap.size w (v3.alloc (.cells #[.string s] 9)) := z1.alloc z1.size _
  have z4 : Below w.heap.size w v5 := z3.trans (z2.mono z3.size)
  exact ⟨one_row z1.size (z2.alloc z2.size o), z4.alloc z4.size o, z1.size⟩

theorem ryear_pre (y : Int) (h1 : -9999 ≤ y) (h2 : y ≤ 9999) (w : World) :
    Calls Tryd.prog 72 #[.int .i64 y] w fun e w' => e = .returned (.string ⟨(pre y).toArray⟩) ∧ Below w.heap.size w w' := by
  unfold pre
  by_cases c : 0 ≤ y
  · rw [if_pos c]
    have h := ryear_pos y.toNat w (by omega)
    rw [show ((y.toNat : Nat) : Int) = y by omega] at h
    exact h
  · rw [if_neg c]
    exact ryear_neg y (-y).toNat (by omega) w (by omega) (by omega)

set_option maxRecDepth 100000 in
set_option maxHeartbeats 4000000 in
theorem rtexts_two (n y : Int) (p : ByteArray) (hp : p.size = 4) (m d k : Nat) (hm : m < 100) (hd : d < 100) (hk : k < 1000)
    (Y : Hid (∀ w, Calls Tryd.prog 72 #[.int .i64 y] w fun e w' => e = .returned (.string p) ∧ Below w.heap.size w w'))
    (D : Hid (∀ w, Calls Tryd.prog 71 #[.int .i64 n] w fun e w' => e = .returned (.tuple #[.int .i64 y, .int .i64 m, .int .i64 d, .int .i64 0]) ∧ w = w'))
    (N : Hid (∀ w, Calls Tryd.prog 74 #[.int .i64 n] w fun e w' => e = .returned (.tuple #[.int .i64 y, .int .i64 k, .int .i64 0]) ∧ w = w'))
    (W : Hid (∀ w, Calls Tryd.prog 75 #[.int .i64 n] w fun e w' => e = .returned (.tuple #[.int .i64 0, .int .i64 0, .int .i64 0, .int .i64 30]) ∧ w = w')) (w : World) :
    Calls Tryd.prog 68 #[.int .i64 n] w fun e w' => ∃ v, e = .returned v ∧ w'.ownsRow w.heap.size 9 1 v 2 [.string (p ++ ⟨#[45]⟩ ++ ⟨#[dg (m / 10 % 10), dg (m % 10)]⟩ ++ ⟨#[45]⟩ ++ ⟨#[dg (d / 10 % 10), dg (d % 10)]⟩), .string (p ++ ⟨#[45]⟩ ++ ⟨#[dg (k / 100 % 10), dg (k / 10 % 10), dg (k % 10)]⟩)] ∧ Below w.heap.size w w' := by
  have M := Lib.hid (fun w => digits_2 m w (by omega))
  have DD := Lib.hid (fun w => digits_2 d w (by omega))
  have K := Lib.hid (fun w => digits_3 k w (by omega))
  clear hm hd hk
  obtain ⟨i0, hi, hz0, hz1, hz2⟩ : ∃ i0, Tryd.prog.info? 9 = some i0 ∧ i0.zero = some (.string ByteArray.empty) ∧ i0.size = 1 ∧ i0.bytes = 16 := by
    have h := info9
    cases hq : Tryd.prog.info? 9 with
    | none => rw [hq] at h; cases h
    | some i => rw [hq] at h; simp at h; exact ⟨i, rfl, h.1, h.2.1, h.2.2⟩
  have HI := Lib.hid hi
  have HZ0 := Lib.hid hz0
  have HZ1 := Lib.hid hz1
  have HZ2 := Lib.hid hz2
  clear hi hz0 hz1 hz2
  go_enter Tryd.func68, Tryd.ntmps68
  go_wp2_with (first
    | (go_at_call 71; (with_reducible refine (D.out _).mono ?_); rintro e w' ⟨rfl, rfl⟩)
    | (go_at_call 72; (fail_if_success (have := H3)); (with_reducible refine (Y.out _).mono ?_); rintro e v1 ⟨rfl, b1⟩; have H1 := Lib.hid b1; clear b1)
    | (go_at_call 72; (with_reducible refine (Y.out _).mono ?_); rintro e v4 ⟨rfl, b4⟩; have H4 := Lib.hid b4; clear b4)
    | (go_at_call 73; (with_reducible refine (M.out _).mono ?_); rintro e v2 ⟨rfl, b2⟩; have H2 := Lib.hid b2; clear b2)
    | (go_at_call 73; (with_reducible refine (DD.out _).mono ?_); rintro e v3 ⟨rfl, b3⟩; have H3 := Lib.hid b3; clear b3)
    | (go_at_call 73; (with_reducible refine (K.out _).mono ?_); rintro e v5 ⟨rfl, b5⟩; have H5 := Lib.hid b5; clear b5)
    | (at_builtin; refine wpList_append_own _ rfl _ _ 35 rfl w.heap.size 9 i0 (.string ByteArray.empty) 1 16 Tryd.underlying35 HI.out HZ0.out HZ1.out HZ2.out rfl (by decide) _ _ _ rfl (rowed H1 H2 H3 H4 H5 _).1 ⟨v5.heap.size, 0, none⟩ 1 1 [.string (p ++ ⟨#[45]⟩ ++ ⟨#[dg (k / 100 % 10), dg (k / 10 % 10), dg (k % 10)]⟩)] rfl rfl (cell_one_new _ _ _) (fun x hx => by simp at hx; subst hx; rfl) (by unfold maxLen; omega) (by omega) ((rowed H1 H2 H3 H4 H5 _).2.1.size) ?_; intro v' w6 hown' hgro hnil; have HO := Lib.hid hown'; have HG : Hid (World.grownBy (v5.alloc (.cells #[.string (p ++ ⟨#[45]⟩ ++ ⟨#[dg (k / 100 % 10), dg (k / 10 % 10), dg (k % 10)]⟩)] 9)) w6 (some v3.heap.size)) := Lib.hid hgro; clear hown' hgro hnil)
    | (go_at_call 75; (with_reducible refine (W.out _).mono ?_); rintro e w' ⟨rfl, rfl⟩)
    | (go_at_call 74; (with_reducible refine (N.out _).mono ?_); rintro e w' ⟨rfl, rfl⟩))
  go_returns
  exact ⟨_, rfl, HO.out, (rowed H1 H2 H3 H4 H5 _).2.1.grown HG.out (rowed H1 H2 H3 H4 H5 _).2.1.size (fun q hq => by cases hq; exact (rowed H1 H2 H3 H4 H5 (.cells #[.string (p ++ ⟨#[45]⟩ ++ ⟨#[dg (k / 100 % 10), dg (k / 10 % 10), dg (k % 10)]⟩)] 9)).2.2)⟩
end Go.Proofs.YtllhcpkpbipjlaaDoor
