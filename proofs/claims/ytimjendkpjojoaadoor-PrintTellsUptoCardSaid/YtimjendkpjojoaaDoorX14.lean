/- What is laid, opened: the tables that printing reads. -/
import Derived.Test.YtimjendkpjojoaaDoorX13
import Derived.Test.YtimjendkpjojoaaDoorE13
import Derived.Test.YtimjendkpjojoaaDoorCards
import Derived.Test.YtimjendkpjojoaaDoorTie
import Derived.Lib.LaidTab
namespace Go.Proofs.YtimjendkpjojoaaDoor
set_option linter.unusedVariables false
set_option linter.unusedSimpArgs false
open Go.ChangeShapes Go.WideShapes Go.ChangeAt Go.RowKit
theorem cells93 : Tryd.prog.cellsOf 93 = 2 := by kernel_rfl
theorem cells94 : Tryd.prog.cellsOf 94 = 26 := by kernel_rfl
theorem cells3 : Tryd.prog.cellsOf 3 = 1 := by kernel_rfl
theorem gTab : Tryd.prog.globalNamed "epact/expr.needs" = some 2 := by kernel_rfl
theorem gTabType : (Tryd.prog.globals[2]?).map (·.type) = some 94 := by kernel_rfl
theorem needs_parts : (Rows.laid_epact_expr_needs : DataW Unit) = .agg ((List.range 13).map fun i => .agg [.lit (.int .i64 (nN i)), .lit (.int .i64 (aN i))]) := rfl
theorem one_of_take {cs : List Value} {i : Nat} {v : Value} (h : (cs.drop i).take 1 = [v]) : cs[i]? = some v := by
  have : ((cs.drop i).take 1)[0]? = some v := by rw [h]; rfl
  simpa using this
theorem tab_laid {W : World} (h : laidMet Tryd.prog [("epact/expr.needs", Rows.laid_epact_expr_needs)] W) : Tabn W := by
  obtain ⟨ps, ⟨g', t', cs, fuel, p, q, hg', ht', hvar, hd, _, _⟩, _⟩ := h
  obtain rfl := Option.some.inj (gTab.symm.trans hg')
  obtain rfl := Option.some.inj (gTabType.symm.trans ht')
  obtain ⟨xs, m, rfl, hx, hc, hl, hf⟩ := DataW.trod_array Tryd.underlying94 hd
  have hx1 : xs.map (·.1) = (List.range 13).map fun i => (DataW.agg [.lit (.int .i64 (nN i)), .lit (.int .i64 (aN i))] : DataW Unit) := by
    have := congrArg Prod.fst hx
    rw [needs_parts] at this
    exact (DataW.agg.inj this).symm
  intro i hi
  have f := hf i hi
  rw [cells93] at f
  have hxi : i < xs.length := by omega
  rw [List.getElem?_eq_getElem hxi] at f
  have hxe : (xs[i]).1 = .agg [.lit (.int .i64 (nN i)), .lit (.int .i64 (aN i))] := by
    have a : (xs.map (·.1))[i]? = some (xs[i]).1 := by rw [List.getElem?_map, List.getElem?_eq_getElem hxi]; rfl
    rw [hx1] at a
    simp [hi] at a
    exact a.symm
  obtain ⟨ys, n, rfl, hy, hc2, hl2, hf2⟩ := DataW.trod_struct Tryd.underlying93 f
  match ys, hl2 with
  | [y0, y1], _ =>
    have f0 : DataW.trod _ Tryd.prog W 0 _ _ n 3 ((((cs.toList.drop (i * 2)).take 2).drop 0).take (Tryd.prog.cellsOf 3)) = some y0 := hf2 0 _ rfl
    have f1 : DataW.trod _ Tryd.prog W 0 _ _ n 3 ((((cs.toList.drop (i * 2)).take 2).drop 1).take (Tryd.prog.cellsOf 3)) = some y1 := hf2 1 _ rfl
    rw [cells3] at f0 f1
    obtain ⟨u, e0, z0, _⟩ := DataW.trod_int Tryd.underlying3 f0
    obtain ⟨v, e1, z1, _⟩ := DataW.trod_int Tryd.underlying3 f1
    rw [hy] at hxe
    simp [z0, z1] at hxe
    obtain ⟨rfl, rfl⟩ := hxe
    have a0 : cs.toList[i * 2]? = some (.int .i64 (nN i)) := one_of_take (by simpa [List.take_take] using e0)
    have a1 : cs.toList[i * 2 + 1]? = some (.int .i64 (aN i)) := one_of_take (by rw [← e1]; simp [List.drop_take, List.drop_drop, List.take_take])
    rw [Array.getElem?_toList] at a0 a1
    exact ⟨(World.var?_cell gTab hvar (i * 2)).trans a0, (World.var?_cell gTab hvar (i * 2 + 1)).trans a1⟩

theorem gW : Tryd.prog.globalNamed "epact/print.words" = some 0 := by kernel_rfl
theorem gWType : (Tryd.prog.globals[0]?).map (·.type) = some 66 := by kernel_rfl
theorem cells66 : Tryd.prog.cellsOf 66 = 13 := by kernel_rfl
theorem words_parts : (Rows.laid_epact_print_words : DataW Unit) = .agg ((List.range 13).map fun i => .lit (.string (opP i))) := rfl
theorem words_laid {W : World} (h : laidMet Tryd.prog [("epact/print.words", Rows.laid_epact_print_words)] W) : ∀ i, i < 13 → W.cell? ⟨0, i, none⟩ = some (.string ⟨(opP i).toArray⟩) := by
  obtain ⟨ps, ⟨g', t', cs, fuel, p, q, hg', ht', hvar, hd, _, _⟩, _⟩ := h
  obtain rfl := Option.some.inj (gW.symm.trans hg')
  obtain rfl := Option.some.inj (gWType.symm.trans ht')
  obtain ⟨xs, m, rfl, hx, hc, hl, hf⟩ := DataW.trod_array Tryd.underlying66 hd
  have hx1 : xs.map (·.1) = (List.range 13).map fun i => (DataW.lit (.string (opP i)) : DataW Unit) := by
    have := congrArg Prod.fst hx
    rw [words_parts] at this
    exact (DataW.agg.inj this).symm
  intro i hi
  have f := hf i hi
  rw [cells9] at f
  have hxi : i < xs.length := by omega
  rw [List.getElem?_eq_getElem hxi] at f
  have hxe : (xs[i]).1 = .lit (.string (opP i)) := by
    have a : (xs.map (·.1))[i]? = some (xs[i]).1 := by rw [List.getElem?_map, List.getElem?_eq_getElem hxi]; rfl
    rw [hx1] at a
    simp [hi] at a
    exact a.symm
  obtain ⟨s, e0, e1, _⟩ := DataW.trod_string Tryd.underlying9 f
  rw [e1] at hxe
  have hs : s.data.toList = opP i := by simpa using hxe
  have a0 : cs.toList[i]? = some (.string ⟨(opP i).toArray⟩) := by rw [← str_of s _ hs]; exact one_of_take (by simpa using e0)
  rw [Array.getElem?_toList] at a0
  exact (World.var?_cell gW hvar i).trans a0
theorem gPow : Tryd.prog.globalNamed "internal/strconv.uint64pow10" = some 3 := by kernel_rfl
theorem gPowType : (Tryd.prog.globals[3]?).map (·.type) = some 97 := by kernel_rfl
theorem cellsP : Tryd.prog.cellsOf 97 = 20 := by kernel_rfl
theorem cellsU : Tryd.prog.cellsOf 84 = 1 := by kernel_rfl
theorem tabs_of {W : World} {L : List (String × DataW Unit)} (h : laidMet Tryd.prog L W) (e : L = [("math/bits.deBruijn32tab", Rows.laid_math_bits_deBruijn32tab), ("math/bits.deBruijn64tab", Rows.laid_math_bits_deBruijn64tab), ("internal/strconv.uint64pow10", Rows.laid_internal_strconv_uint64pow10), ("epact/expr.needs", Rows.laid_epact_expr_needs), ("epact/print.words", Rows.laid_epact_print_words)]) : Tp W := by
  subst e
  exact ⟨tab_laid (h.filter (fun x => x.1 == "epact/expr.needs")), words_laid (h.filter (fun x => x.1 == "epact/print.words")), Lib.tabIs_of_head (rest := []) gPow gPowType Tryd.underlying97 Tryd.underlying84 cellsU cellsP (h.filter (fun x => x.1 == "internal/strconv.uint64pow10"))⟩
end Go.Proofs.YtimjendkpjojoaaDoor
