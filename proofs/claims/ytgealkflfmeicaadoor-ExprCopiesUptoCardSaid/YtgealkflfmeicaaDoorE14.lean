/- The table, out of what is laid. -/
import Derived.Test.YtgealkflfmeicaaDoorE13
import Derived.Test.YtgealkflfmeicaaDoorCards
import Derived.Test.YtgealkflfmeicaaDoorTie
import Derived.Lib.LaidTab
namespace Go.Proofs.YtgealkflfmeicaaDoor
set_option linter.unusedVariables false
set_option linter.unusedSimpArgs false
open Go.ChangeShapes Go.WideShapes Go.ChangeAt Go.RowKit
open Go.ChangeShapes Go.WideShapes Go.ChangeAt Go.RowKit
theorem cells43 : Tryd.prog.cellsOf 43 = 2 := by kernel_rfl
theorem cells44 : Tryd.prog.cellsOf 44 = 26 := by kernel_rfl
theorem cells3 : Tryd.prog.cellsOf 3 = 1 := by kernel_rfl
theorem gTab : Tryd.prog.globalNamed "epact/expr.needs" = some 0 := by kernel_rfl
theorem gTabType : (Tryd.prog.globals[0]?).map (·.type) = some 44 := by kernel_rfl
theorem needs_parts : (Rows.laid_epact_expr_needs : DataW Unit) = .agg ((List.range 13).map fun i => .agg [.lit (.int .i64 (nN i)), .lit (.int .i64 (aN i))]) := rfl
theorem one_of_take {cs : List Value} {i : Nat} {v : Value} (h : (cs.drop i).take 1 = [v]) : cs[i]? = some v := by
  have : ((cs.drop i).take 1)[0]? = some v := by rw [h]; rfl
  simpa using this
theorem tab_laid {W : World} (h : laidMet Tryd.prog [("epact/expr.needs", Rows.laid_epact_expr_needs)] W) : Tabn W := by
  obtain ⟨ps, ⟨g', t', cs, fuel, p, q, hg', ht', hvar, hd, _, _⟩, _⟩ := h
  obtain rfl := Option.some.inj (gTab.symm.trans hg')
  obtain rfl := Option.some.inj (gTabType.symm.trans ht')
  obtain ⟨xs, m, rfl, hx, hc, hl, hf⟩ := DataW.trod_array Tryd.underlying44 hd
  have hx1 : xs.map (·.1) = (List.range 13).map fun i => (DataW.agg [.lit (.int .i64 (nN i)), .lit (.int .i64 (aN i))] : DataW Unit) := by
    have := congrArg Prod.fst hx
    rw [needs_parts] at this
    exact (DataW.agg.inj this).symm
  intro i hi
  have f := hf i hi
  rw [cells43] at f
  have hxi : i < xs.length := by omega
  rw [List.getElem?_eq_getElem hxi] at f
  have hxe : (xs[i]).1 = .agg [.lit (.int .i64 (nN i)), .lit (.int .i64 (aN i))] := by
    have a : (xs.map (·.1))[i]? = some (xs[i]).1 := by rw [List.getElem?_map, List.getElem?_eq_getElem hxi]; rfl
    rw [hx1] at a
    simp [hi] at a
    exact a.symm
  obtain ⟨ys, n, rfl, hy, hc2, hl2, hf2⟩ := DataW.trod_struct Tryd.underlying43 f
  match ys, hl2 with
  | [y0, y1], _ =>
    have f0 : DataW.trod _ Tryd.prog W 0 _ _ n 3 ((((cs.toList.drop (i * 2)).take 2).drop 0).take (Tryd.prog.cellsOf 3)) = some y0 := hf2 0 _ rfl
    have f1 : DataW.trod _ Tryd.prog W 0 _ _ n 3 ((((cs.toList.drop (i * 2)).take 2).drop 1).take (Tryd.prog.cellsOf 3)) = some y1 := hf2 1 _ rfl
    rw [cells3] at f0 f1
    obtain ⟨u, e0, z0, _⟩ := DataW.trod_int Tryd.underlying3 f0
    obtain ⟨v, e1, z1, _⟩ := DataW.trod_int Tryd.underlying3 f1
    rw [hy] at hxe
    simp [z0, z1] at hxe
    obtain ⟨rfl, rfl⟩ := hxe
    have a0 : cs.toList[i * 2]? = some (.int .i64 (nN i)) := one_of_take (by simpa [List.take_take] using e0)
    have a1 : cs.toList[i * 2 + 1]? = some (.int .i64 (aN i)) := one_of_take (by rw [← e1]; simp [List.drop_take, List.drop_drop, List.take_take])
    rw [Array.getElem?_toList] at a0 a1
    exact ⟨(World.var?_cell gTab hvar (i * 2)).trans a0, (World.var?_cell gTab hvar (i * 2 + 1)).trans a1⟩
end Go.Proofs.YtgealkflfmeicaaDoor
