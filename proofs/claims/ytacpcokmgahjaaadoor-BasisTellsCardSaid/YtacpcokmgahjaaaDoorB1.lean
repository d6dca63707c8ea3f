/- sync.Once: doSlow, Do, of a closure of three captured cells. -/
import Derived.Test.YtacpcokmgahjaaaDoorB0
import Derived.Laws.NewBlocks
namespace Go.Proofs.YtacpcokmgahjaaaDoor
set_option linter.unusedVariables false
set_option linter.unusedSimpArgs false
open Go.ChangeShapes Go.WideShapes Go.ChangeAt Go.RowKit
/-- What the closure leaves of the Once. -/
structure OnceIn (b off : Nat) (w : World) : Prop where
  c0 : w.cell? ⟨b, off, none⟩ = some (.int .u32 0)
  f0 : w.frozen? ⟨b, off, none⟩ = false
  c1 : w.cell? ⟨b, off + 1, none⟩ = some (.int .i32 1)
  f1 : w.frozen? ⟨b, off + 1, none⟩ = false
theorem bool_load (a : Addr) (d : Int) (r : Bool) (w : World) (h0 : w.cell? a = some (.int .u32 d)) (hd : (d != 0) = r) :
    Calls Tryd.prog 81 #[.pointer (some a)] w fun e w' => e = .returned (.bool r) ∧ w' = w := by
  have hl := run_call_load (P := Tryd.prog) Tryd.func103 (by kernel_rfl) (by kernel_rfl) (by kernel_rfl) .u32 (by kernel_rfl) h0
  go_enter Tryd.func81, Tryd.ntmps81
  go_wp2
  go_returns
  exact ⟨rfl, rfl⟩
set_option maxRecDepth 100000 in
set_option maxHeartbeats 1600000 in
theorem slow_any (b off : Nat) (caps : Array Value) (R : World → Prop) (w : World)
    (h0 : w.cell? ⟨b, off, none⟩ = some (.int .u32 0)) (h1 : w.cell? ⟨b, off + 1, none⟩ = some (.int .i32 0))
    (f0 : w.frozen? ⟨b, off, none⟩ = false) (f1 : w.frozen? ⟨b, off + 1, none⟩ = false)
    (hf : Calls Tryd.prog 45 caps (w.setCell ⟨b, off + 1, none⟩ (.int .i32 1)) fun e w' => e = .returned (.tuple #[]) ∧ Hid (OnceIn b off w') ∧ Hid (R w')) :
    Calls Tryd.prog 82 #[.pointer (some ⟨b, off, none⟩), .func (.func 45) #[] caps] w fun e w' => e = .returned (.tuple #[]) ∧ ∃ wm, Hid (OnceIn b off wm) ∧ Hid (R wm) ∧ w' = (wm.drew.setCell ⟨b, off, none⟩ (.int .u32 1)).setCell ⟨b, off + 1, none⟩ (.int .i32 0) := by
  have HF := Lib.hid hf
  clear hf
  have HL := Lib.hid (bool_load ⟨b, off, none⟩ 0 false (w.setCell ⟨b, off + 1, none⟩ (.int .i32 1)) ((World.cell?_setCell_other _ ⟨b, off + 1, none⟩ ⟨b, off, none⟩ _ (by simp)).trans h0) (by simp))
  have hnot : ∀ (x : Bool) (w : World), (Op.unary .not (.bool x)).run Tryd.prog w = .ok (.bool (!x)) w := fun _ _ => rfl
  go_enter_defers Tryd.func82, Tryd.ntmps82
  go_wp2_with (go_at_call 104; refine (lock_free ⟨b, off + 1, none⟩ _ (by go_simp) (by go_simp)).mono ?_; rintro e w' ⟨rfl, rfl⟩)
  go_wp2_with fail
  (with_reducible refine HL.out.mono ?_)
  rintro e w' ⟨rfl, rfl⟩
  go_wp2_with fail
  (with_reducible refine HF.out.mono ?_)
  rintro e wm ⟨rfl, HO, HR⟩
  have c0 := HO.out.c0
  have c1 := HO.out.c1
  have f2 := HO.out.f0
  have f3 := HO.out.f1
  go_wp2
  refine leaves_cons (f := 106) (args := #[.pointer (some ⟨b, off, none⟩), .bool true]) (by simp) (by simp [go_sem]) ?_
  refine (store_deferred ⟨b, off, none⟩ (.int .u32 0) .returning _ c0 f2).mono ?_
  rintro e u' w'' ⟨rfl, rfl, rfl⟩
  refine leaves_cons (f := 105) (args := #[.pointer (some ⟨b, off + 1, none⟩)]) (by simp [settle]) (by simp [go_sem]) ?_
  refine (unlock_deferred ⟨b, off + 1, none⟩ _ _ ?_ (by simp [f3])).mono ?_
  · refine (World.cell?_setCell_other _ ⟨b, off, none⟩ ⟨b, off + 1, none⟩ _ (by simp)).trans ?_
    rw [World.cell?_drew]
    exact c1
  rintro e u' w'' ⟨rfl, rfl, rfl⟩
  simp [Leaves, settle, results, Tryd.results82]
  exact ⟨wm, HO, HR, rfl⟩
set_option maxRecDepth 100000 in
set_option maxHeartbeats 1600000 in
theorem do_first (b off : Nat) (caps : Array Value) (R : World → Prop) (w : World)
    (h0 : w.cell? ⟨b, off, none⟩ = some (.int .u32 0)) (h1 : w.cell? ⟨b, off + 1, none⟩ = some (.int .i32 0))
    (f0 : w.frozen? ⟨b, off, none⟩ = false) (f1 : w.frozen? ⟨b, off + 1, none⟩ = false)
    (hf : Calls Tryd.prog 45 caps (w.setCell ⟨b, off + 1, none⟩ (.int .i32 1)) fun e w' => e = .returned (.tuple #[]) ∧ Hid (OnceIn b off w') ∧ Hid (R w')) :
    Calls Tryd.prog 44 #[.pointer (some ⟨b, off, none⟩), .func (.func 45) #[] caps] w fun e w' => e = .returned (.tuple #[]) ∧ ∃ wm, Hid (OnceIn b off wm) ∧ Hid (R wm) ∧ w' = (wm.drew.setCell ⟨b, off, none⟩ (.int .u32 1)).setCell ⟨b, off + 1, none⟩ (.int .i32 0) := by
  have HS := Lib.hid (slow_any b off caps R w h0 h1 f0 f1 hf)
  clear hf
  have HL := Lib.hid (bool_load ⟨b, off, none⟩ 0 false w h0 (by simp))
  have hnot : ∀ (x : Bool) (w : World), (Op.unary .not (.bool x)).run Tryd.prog w = .ok (.bool (!x)) w := fun _ _ => rfl
  go_enter Tryd.func44, Tryd.ntmps44
  go_wp2_with fail
  (with_reducible refine HL.out.mono ?_)
  rintro e w' ⟨rfl, rfl⟩
  go_wp2_with fail
  (with_reducible refine HS.out.mono ?_)
  rintro e w' ⟨rfl, wm, HO, HR, rfl⟩
  go_wp2
  go_end0
  exact ⟨rfl, wm, HO, HR, rfl⟩
theorem do_done (a : Addr) (d : Int) (hd : ¬ d = 0) (fv : Value) (w : World) (h0 : w.cell? a = some (.int .u32 d)) :
    Calls Tryd.prog 44 #[.pointer (some a), fv] w fun e w' => e = .returned (.tuple #[]) ∧ w' = w := by
  have HL := Lib.hid (bool_load a d true w h0 (by simp [hd]))
  have hnot : ∀ (x : Bool) (w : World), (Op.unary .not (.bool x)).run Tryd.prog w = .ok (.bool (!x)) w := fun _ _ => rfl
  go_enter Tryd.func44, Tryd.ntmps44
  go_wp2_with fail
  (with_reducible refine HL.out.mono ?_)
  rintro e w' ⟨rfl, rfl⟩
  go_wp2
  go_end0
  exact ⟨rfl, rfl⟩
theorem made_load (a : Addr) (n : Int) (w : World) (h0 : w.cell? a = some (.int .i64 n)) :
    Calls Tryd.prog 26 #[.pointer (some a)] w fun e w' => e = .returned (.int .i64 n) ∧ w' = w := by
  have hl := run_call_load (P := Tryd.prog) Tryd.func49 (by kernel_rfl) (by kernel_rfl) (by kernel_rfl) .i64 (by kernel_rfl) h0
  go_enter Tryd.func26, Tryd.ntmps26
  go_wp2
  go_returns
  exact ⟨rfl, rfl⟩
theorem made_add (a : Addr) (n : Int) (w : World) (h0 : w.cell? a = some (.int .i64 n)) (hz : w.frozen? a = false) (n0 : 0 ≤ n) (n1 : n ≤ 1000) :
    Calls Tryd.prog 47 #[.pointer (some a), .int .i64 1] w fun e w' => e = .returned (.int .i64 (n + 1)) ∧ w' = w.setCell a (.int .i64 (n + 1)) := by
  have hadd := run_call_add (P := Tryd.prog) Tryd.func84 (by kernel_rfl) (by kernel_rfl) (by kernel_rfl) .i64 (by kernel_rfl) (y := 1) (s := n + 1) h0 hz (by simp [go_sem]; rw [IntWalk.i64_in _ (by omega)])
  go_enter Tryd.func47, Tryd.ntmps47
  go_wp2
  go_returns
  exact ⟨rfl, rfl⟩
end Go.Proofs.YtacpcokmgahjaaaDoor
