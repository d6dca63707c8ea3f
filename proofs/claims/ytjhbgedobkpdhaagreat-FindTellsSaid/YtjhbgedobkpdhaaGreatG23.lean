/- Contracts: Before, Behind. -/
import Derived.Test.YtjhbgedobkpdhaaGreatG22u
import Derived.Test.YtjhbgedobkpdhaaGreatG22d
namespace Go.Proofs.YtjhbgedobkpdhaaGreat
set_option linter.unusedVariables false
set_option linter.unusedSimpArgs false
open Go.ChangeShapes Go.WideShapes Go.ChangeAt Go.RowKit
/-- What Before and Behind tell. -/
def BeOut (F : Fv) (i st : Int) (e : Ending) : Prop := ∃ j ok, e = .returned (.tuple #[.int .i64 j, .bool ok]) ∧ (ok = true → Nr F i st j true ∧ InR j) ∧ (ok = false → ∀ k, i * st < k * st → InR k → gr F k = [])
set_option maxHeartbeats 1000000 in
theorem behind_any (F : Fv) (i : Int) (w : World) (hF : F.At w) (ok : F.Ok) (hi : InR i) :
    Calls Tryz.prog 34 #[F.v, .int .i64 i] w fun e w' => BeOut F i 1 e ∧ Hid (Below w.heap.size w w') := by
  obtain ⟨hi1, hi2⟩ := hi
  have HNR := Lib.hid (fun W h => near_up F i W h ok (by omega) (by omega))
  clear ok
  obtain ⟨P, N, co, cn, cc, oo, on, oc, cs, os⟩ := F
  have LC : Hid (cs.length = cn) := Lib.hid hF.core.len
  have LO : Hid (os.length = on) := Lib.hid hF.odd.len
  have hmc : cn ≤ 9223372036854775807 := Nat.le_trans hF.core.le hF.core.top
  have hmo : on ≤ 9223372036854775807 := Nat.le_trans hF.odd.le hF.odd.top
  obtain ⟨b, hb⟩ : ∃ b, w.heap.size = b := ⟨_, rfl⟩
  obtain ⟨wb, hwb⟩ : ∃ wb, w.alloc (.cells #[.int .i64 P, .int .i64 N, .slice co cn cc, .slice oo on oc] 25) = wb := ⟨_, rfl⟩
  have HBB : Hid (Fbox ⟨P, N, co, cn, cc, oo, on, oc, cs, os⟩ w wb b) := Lib.hid (by rw [← hwb, ← hb]; exact fbox_new hF)
  clear hF
  show Calls Tryz.prog 34 #[.agg #[.int .i64 P, .int .i64 N, .slice co cn cc, .slice oo on oc], .int .i64 i] w _
  go_enter Tryz.func34, Tryz.ntmps34
  go_upto_region 1 with fail
  clear hwb hb
  have e0 : wb.cell? ⟨b, 0, none⟩ = some (.int .i64 P) := HBB.out.c0
  have e1 : wb.cell? ⟨b, 1, none⟩ = some (.int .i64 N) := HBB.out.c1
  have e2 : wb.cell? ⟨b, 2, none⟩ = some (.slice co cn cc) := HBB.out.c2
  have e3 : wb.cell? ⟨b, 3, none⟩ = some (.slice oo on oc) := HBB.out.c3
  have HNR : Hid (∀ W, Fv.At ⟨P, N, co, cn, cc, oo, on, oc, cs, os⟩ W → Calls Tryz.prog 62 #[.agg #[.int .i64 P, .int .i64 N, .slice co cn cc, .slice oo on oc], .int .i64 i, .int .i64 1] W fun e w' => NearOut ⟨P, N, co, cn, cc, oo, on, oc, cs, os⟩ i 1 e ∧ Hid (Below W.heap.size W w')) := HNR
  by_cases h1 : 1099511627776 ≤ i
  · go_wp2
    go_returns
    exact ⟨⟨0, false, rfl, (fun z => by cases z), fun _ k k1 k2 => by have := k2.1; have := k2.2; omega⟩, Lib.hid HBB.out.bw⟩
  · have hmm : max i (-1099511627777) = i := by omega
    go_wp2_with fail
    (with_reducible refine (HNR.out _ HBB.out.at_).mono ?_)
    rintro e w2 ⟨⟨j, ok, rfl, hn⟩, q⟩
    have HN := Lib.hid hn
    have HBW := Lib.hid (HBB.out.bw.trans (q.out.mono HBB.out.bw.size))
    have hj1 := hn.low
    have hj2 := hn.high
    clear hn q
    cases ok
    · go_wp2
      go_returns
      exact ⟨⟨0, false, rfl, (fun z => by cases z), fun _ k k1 _ => HN.out.no rfl k k1⟩, HBW⟩
    · by_cases h2 : 1099511627776 < j
      · go_wp2
        go_returns
        exact ⟨⟨0, false, rfl, (fun z => by cases z), fun _ k k1 k2 => (HN.out.yes rfl).2.2 k k1 (by have := k2.1; have := k2.2; omega)⟩, HBW⟩
      · have HJ : Hid (InR j) := Lib.hid (by have := (HN.out.yes rfl).1; exact ⟨by omega, by omega⟩)
        go_wp2
        go_returns
        exact ⟨⟨j, true, rfl, (fun _ => ⟨HN.out, HJ.out⟩), fun z => by cases z⟩, HBW⟩
set_option maxHeartbeats 1000000 in
theorem before_any (F : Fv) (i : Int) (w : World) (hF : F.At w) (ok : F.Ok) (hi : InR i) :
    Calls Tryz.prog 38 #[F.v, .int .i64 i] w fun e w' => BeOut F i (-1 : Int) e ∧ Hid (Below w.heap.size w w') := by
  obtain ⟨hi1, hi2⟩ := hi
  have HNR := Lib.hid (fun W h => near_dn F i W h ok (by omega) (by omega))
  clear ok
  obtain ⟨P, N, co, cn, cc, oo, on, oc, cs, os⟩ := F
  have LC : Hid (cs.length = cn) := Lib.hid hF.core.len
  have LO : Hid (os.length = on) := Lib.hid hF.odd.len
  have hmc : cn ≤ 9223372036854775807 := Nat.le_trans hF.core.le hF.core.top
  have hmo : on ≤ 9223372036854775807 := Nat.le_trans hF.odd.le hF.odd.top
  obtain ⟨b, hb⟩ : ∃ b, w.heap.size = b := ⟨_, rfl⟩
  obtain ⟨wb, hwb⟩ : ∃ wb, w.alloc (.cells #[.int .i64 P, .int .i64 N, .slice co cn cc, .slice oo on oc] 25) = wb := ⟨_, rfl⟩
  have HBB : Hid (Fbox ⟨P, N, co, cn, cc, oo, on, oc, cs, os⟩ w wb b) := Lib.hid (by rw [← hwb, ← hb]; exact fbox_new hF)
  clear hF
  show Calls Tryz.prog 38 #[.agg #[.int .i64 P, .int .i64 N, .slice co cn cc, .slice oo on oc], .int .i64 i] w _
  go_enter Tryz.func38, Tryz.ntmps38
  go_upto_region 1 with fail
  clear hwb hb
  have e0 : wb.cell? ⟨b, 0, none⟩ = some (.int .i64 P) := HBB.out.c0
  have e1 : wb.cell? ⟨b, 1, none⟩ = some (.int .i64 N) := HBB.out.c1
  have e2 : wb.cell? ⟨b, 2, none⟩ = some (.slice co cn cc) := HBB.out.c2
  have e3 : wb.cell? ⟨b, 3, none⟩ = some (.slice oo on oc) := HBB.out.c3
  have HNR : Hid (∀ W, Fv.At ⟨P, N, co, cn, cc, oo, on, oc, cs, os⟩ W → Calls Tryz.prog 62 #[.agg #[.int .i64 P, .int .i64 N, .slice co cn cc, .slice oo on oc], .int .i64 i, .int .i64 (-1)] W fun e w' => NearOut ⟨P, N, co, cn, cc, oo, on, oc, cs, os⟩ i (-1 : Int) e ∧ Hid (Below W.heap.size W w')) := HNR
  by_cases h1 : i ≤ -1099511627776
  · go_wp2
    go_returns
    exact ⟨⟨0, false, rfl, (fun z => by cases z), fun _ k k1 k2 => by have := k2.1; have := k2.2; omega⟩, Lib.hid HBB.out.bw⟩
  · have hmm : min i 1099511627777 = i := by omega
    go_wp2_with fail
    (with_reducible refine (HNR.out _ HBB.out.at_).mono ?_)
    rintro e w2 ⟨⟨j, ok, rfl, hn⟩, q⟩
    have HN := Lib.hid hn
    have HBW := Lib.hid (HBB.out.bw.trans (q.out.mono HBB.out.bw.size))
    have hj1 := hn.low
    have hj2 := hn.high
    clear hn q
    cases ok
    · go_wp2
      go_returns
      exact ⟨⟨0, false, rfl, (fun z => by cases z), fun _ k k1 _ => HN.out.no rfl k k1⟩, HBW⟩
    · by_cases h2 : j < -1099511627776
      · go_wp2
        go_returns
        exact ⟨⟨0, false, rfl, (fun z => by cases z), fun _ k k1 k2 => (HN.out.yes rfl).2.2 k k1 (by have := k2.1; have := k2.2; omega)⟩, HBW⟩
      · have HJ : Hid (InR j) := Lib.hid (by have := (HN.out.yes rfl).1; exact ⟨by omega, by omega⟩)
        go_wp2
        go_returns
        exact ⟨⟨j, true, rfl, (fun _ => ⟨HN.out, HJ.out⟩), fun z => by cases z⟩, HBW⟩
end Go.Proofs.YtjhbgedobkpdhaaGreat
