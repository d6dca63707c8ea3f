/- Contract: the walk's step, whole. -/
import Derived.Test.YtacpcokmgahjaaaDoorG14u
import Derived.Test.YtacpcokmgahjaaaDoorG14d
namespace Go.Proofs.YtacpcokmgahjaaaDoor
set_option linter.unusedVariables false
set_option linter.unusedSimpArgs false
open Go.ChangeShapes Go.WideShapes Go.ChangeAt Go.RowKit
set_option maxHeartbeats 1000000 in
theorem next_none (F : Fv) (w0 w : World) (B b : Nat) (a st ps : Int) (v : Value) (L : List Nat) (hk : Wk F w0 w B b a st ps v L) (hv : Ready F v L) (hr : ¬ F.Rep) (hp0 : 0 ≤ ps) (hp : ps ≤ 2 * F.cn) :
    Calls Tryd.prog 89 #[.pointer (some ⟨b, 0, none⟩)] w fun e w' => WkOut F w0 w B b a st e w' := by
  have HRP := Lib.hid (fun W h => repeats_any F W h false ⟨fun h => (by cases h), fun h => absurd h hr⟩)
  have HE : Hid (∀ i, cg F.cs F.P F.N i = []) := Lib.hid (fun i => by
    unfold cg
    rw [if_neg (by rw [hk.f.core.len]; exact hr)])
  have HP := Lib.hid hp
  have HV := Lib.hid hv
  have HK := Lib.hid hk
  clear hk hv hp hr
  obtain ⟨P, N, co, cn, cc, oo, on, oc, cs, os⟩ := F
  have HRP : Hid (∀ W, Fv.At ⟨P, N, co, cn, cc, oo, on, oc, cs, os⟩ W → Calls Tryd.prog 58 #[.agg #[.int .i64 P, .int .i64 N, .slice co cn cc, .slice oo on oc]] W fun e w' => e = .returned (.bool false) ∧ Below W.heap.size W w') := HRP
  have c0 : w.cell? ⟨b, 0, none⟩ = some (.int .i64 P) := HK.out.cell 0
  have c1 : w.cell? ⟨b, 1, none⟩ = some (.int .i64 N) := HK.out.cell 1
  have c2 : w.cell? ⟨b, 2, none⟩ = some (.slice co cn cc) := HK.out.cell 2
  have c3 : w.cell? ⟨b, 3, none⟩ = some (.slice oo on oc) := HK.out.cell 3
  go_enter Tryd.func89, Tryd.ntmps89
  go_wp2_with fail
  (with_reducible refine (HRP.out _ HK.out.at0).mono ?_)
  rintro e w1 ⟨rfl, q⟩
  have HG : Hid (w.grownBy w1 (some b)) := Lib.hid (grown_keep (World.grownBy.refl w _) q)
  have HK := Lib.hid (HK.out.keep q)
  clear q c0 c1 c2 c3
  go_wp2
  go_returns
  exact ⟨a, ps, v, L, HK.out, HV.out, .inr ⟨rfl, rfl, HE.out⟩, hp0, HP.out, HG.out⟩
theorem next_any (F : Fv) (w0 w : World) (B b : Nat) (a st ps : Int) (v : Value) (L : List Nat) (hst : st = 1 ∨ st = -1) (hk : Wk F w0 w B b a st ps v L) (hv : Ready F v L) (hc : F.cn ≤ 1000000) (ha1 : -2305843009213693952 ≤ a) (ha2 : a ≤ 2305843009213693952) (hp0 : 0 ≤ ps) (hp : ps ≤ 2 * F.cn) :
    Calls Tryd.prog 89 #[.pointer (some ⟨b, 0, none⟩)] w fun e w' => WkOut F w0 w B b a st e w' := by
  by_cases hr : F.Rep
  · rcases hst with rfl | rfl
    · exact next_upR F w0 w B b a ps v L hk hv hr hc ha1 ha2 hp0 hp
    · exact next_dnR F w0 w B b a ps v L hk hv hr hc ha1 ha2 hp0 hp
  · exact next_none F w0 w B b a st ps v L hk hv hr hp0 hp
end Go.Proofs.YtacpcokmgahjaaaDoor
