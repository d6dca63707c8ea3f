/- E33, F1 in one. -/
import Derived.Test.YtllhcpkpbipjlaaDoorKj
import Derived.Test.YtllhcpkpbipjlaaDoorKp
import Derived.Test.YtllhcpkpbipjlaaDoorCards
import Derived.Test.YtllhcpkpbipjlaaDoorTie
import Derived.Deep.Slices
import Derived.ChangeArms
import Derived.OpenShut
import Derived.SizedLaws
import Derived.Lib.LaidTab
import Derived.WalkKit
import Derived.ProofKit
namespace Go.Proofs.YtllhcpkpbipjlaaDoor
set_option linter.unusedVariables false
set_option linter.unusedSimpArgs false
open Go.ChangeShapes Go.WideShapes Go.ChangeAt Go.RowKit
/-- No part has more numbers, nor a longer name, than a bound. -/
def SmB (B : Nat) (l : List (Pt × Int)) : Prop := ∀ p ∈ l.map (fun x => x.1), p.nums.length ≤ B ∧ p.nm.size ≤ B
theorem many_bulk {H : Type} (D : Nat → DataW H) : ∀ len : Nat, len ≤ Rows.uptoBulkAll ((List.range len).map D)
  | 0 => Nat.zero_le _
  | k + 1 => by
    have ih := many_bulk D k
    have app : ∀ (a : List (DataW H)) (b : DataW H), Rows.uptoBulkAll (a ++ [b]) = Rows.uptoBulkAll a + Rows.uptoBulk b := fun a b => by
      induction a with
      | nil => simp [Rows.uptoBulkAll]
      | cons x r ih => simp only [List.cons_append, Rows.uptoBulkAll, ih]; omega
    rw [List.range_succ, List.map_append, List.map_singleton, app]
    have := bulk_one (D k)
    omega
section
variable {H : Type} {enc : TypeId × Value → H} {w : World} {base : Nat} {spare : Nat → Bool} {held : Bool}
theorem open_nums2 {fuel : Nat} {cs : List Value} {x : DataW H × List MemPlace} (h : DataW.trod enc Tryd.prog w base spare held fuel 28 cs = some x) : ∃ ao n c l, cs = [.slice ao n c] ∧ NAt w ao n c l ∧ n ≤ Rows.uptoBulk x.1 := by
  rcases Go.Deep.open_slice1 Tryd.underlying28 cells2 h with ⟨rfl, _⟩ | ⟨a, len, cap, m, n, V, Dd, Pl, rfl, hb, hl, hm, hmm, rfl, hi⟩
  · exact ⟨none, 0, 0, [], rfl, ⟨rfl, Nat.le_refl _, Nat.zero_le _, fun _ => ⟨rfl, rfl⟩, fun h => absurd h (Nat.lt_irrefl _)⟩, Nat.zero_le _⟩
  · have hcap : cap ≤ 9223372036854775807 := by unfold maxLen at hm; omega
    have lm : 0 < len → len ≤ m := fun h0 => by rw [hmm]; split <;> omega
    have each : ∀ t : Nat, ∃ U : Int, t < len → w.cell? (a.add t) = some (.int .i64 U) ∧ -9223372036854775808 ≤ U ∧ U ≤ 9223372036854775807 := by
      intro t
      by_cases ht : t < len
      · obtain ⟨e1, e2⟩ := hi t (by have := lm (by omega); omega)
        obtain ⟨u, e3, _, hw⟩ := DataW.trod_int Tryd.underlying2 e2
        have e4 : V t = .int .i64 u := by simpa using e3
        rw [e4] at e1
        exact ⟨u, fun _ => ⟨e1, bounds_i64 hw⟩⟩
      · exact ⟨0, fun h => absurd h ht⟩
    obtain ⟨U, hU⟩ := Classical.axiomOfChoice each
    refine ⟨some a, len, cap, (List.range len).map U, rfl, ⟨by simp, hl, hcap, (fun e => by cases e), fun h0 => ?_⟩, by simp only [Rows.uptoBulk]; have := many_bulk Dd len; omega⟩
    obtain ⟨bl, ol, rfl⟩ := spot_none (hU 0 h0).1 rfl
    refine ⟨bl, ol, rfl, fun i hi => ?_⟩
    have hi' : i < len := by simpa using hi
    have e : ((List.range len).map U)[i] = U i := by simp
    rw [e]
    have := hU i hi'
    rw [add_off] at this
    exact this
set_option maxRecDepth 20000 in
theorem open_expr2 : ∀ (k : Nat) (fuel : Nat) (cs : List Value) (x : DataW H × List MemPlace), Rows.uptoBulk x.1 ≤ k → DataW.trod enc Tryd.prog w base spare held fuel 31 cs = some x → ∃ (x0 x1 x2 x3 : Value) (F : Tour), cs = [x0, x1, x2, x3] ∧ ExAt w k (.agg #[x0, x1, x2, x3]) F ∧ (∀ d, (F d).length ≤ Rows.uptoBulk x.1) ∧ ∀ d, SmB (Rows.uptoBulk x.1) (F d)
  | 0, fuel, cs, x, hk, _ => absurd (bulk_one x.1) (by omega)
  | k + 1, fuel, cs, x, hk, h => by
    obtain ⟨xs, n, rfl, rfl, hc, hx, hf⟩ := DataW.trod_struct Tryd.underlying31 h
    rw [cells31] at hc
    match xs, hx with
    | [x0, x1, x2, x3], _ =>
      have f0 : DataW.trod enc Tryd.prog w base spare held n 5 ((cs.drop 0).take (Tryd.prog.cellsOf 5)) = some x0 := hf 0 _ rfl
      have f1 : DataW.trod enc Tryd.prog w base spare held n 9 ((cs.drop 1).take (Tryd.prog.cellsOf 9)) = some x1 := hf 1 _ rfl
      have f2 : DataW.trod enc Tryd.prog w base spare held n 28 ((cs.drop 2).take (Tryd.prog.cellsOf 28)) = some x2 := hf 2 _ rfl
      have f3 : DataW.trod enc Tryd.prog w base spare held n 29 ((cs.drop 3).take (Tryd.prog.cellsOf 29)) = some x3 := hf 3 _ rfl
      rw [cells5] at f0
      rw [cells9] at f1
      rw [cells28] at f2
      rw [cells29] at f3
      obtain ⟨o, e0, _, w0⟩ := DataW.trod_int Tryd.underlying5 f0
      obtain ⟨s, e1, z1, w1⟩ := DataW.trod_string Tryd.underlying9 f1
      obtain ⟨an, nn, nc, nums, e2, hn, hnb⟩ := open_nums2 f2
      have ob := bounds_u8 w0
      have hbs0 : nums.length ≤ Rows.uptoBulk (DataW.agg [x0.1, x1.1, x2.1, x3.1]) ∧ s.size ≤ Rows.uptoBulk (DataW.agg [x0.1, x1.1, x2.1, x3.1]) := by
        have hl := hn.len
        have hs : s.size ≤ Rows.uptoBulk x1.1 := by rw [z1]; simp only [Rows.uptoBulk]; show s.data.size ≤ _; simp
        simp only [Rows.uptoBulk, Rows.uptoBulkAll]
        omega
      have hb3 : Rows.uptoBulk x3.1 + 2 ≤ Rows.uptoBulk (DataW.agg [x0.1, x1.1, x2.1, x3.1]) := by
        have a := bulk_one x0.1
        have b := bulk_one x1.1
        simp only [Rows.uptoBulk, Rows.uptoBulkAll]
        omega
      have hk' : Rows.uptoBulk (DataW.agg [x0.1, x1.1, x2.1, x3.1]) ≤ k + 1 := hk
      match cs, hc with
      | [c0, c1, c2, c3], _ =>
        simp at e0 e1 e2
        subst e0 e1 e2
        rcases Go.Deep.open_slice Tryd.underlying29 f3 with ⟨e3, _⟩ | ⟨a, len, cap, m, n3, Dd, Pl, e3, hb, hl, hm, hmm, hxx, hi⟩
        · have e3 : c3 = .slice none 0 0 := by simpa using e3
          subst e3
          refine ⟨_, _, _, _, fun d => ((⟨o, s, nums, 0⟩ : Pt), d) :: flat [] (d + 1), rfl, ⟨⟨o, s, nums, 0⟩, an, nn, nc, none, 0, [], rfl, ⟨ob.1, ob.2, w1, hn, Nat.le_refl _, Nat.zero_le _, fun _ => ⟨rfl, rfl⟩⟩, rfl, rfl, fun h => absurd h (Nat.lt_irrefl _)⟩, fun d => ?_, fun d p hp => ?_⟩
          · show 1 ≤ _
            exact bulk_one _
          · obtain rfl : p = (⟨o, s, nums, 0⟩ : Pt) := by simpa [flat] using hp
            exact hbs0
        · have e3 : c3 = .slice (some a) len cap := by simpa using e3
          subst e3
          have lm : 0 < len → len ≤ m := fun h0 => by rw [hmm]; split <;> omega
          have hbs : Rows.uptoBulkAll ((List.range len).map Dd) + 1 ≤ Rows.uptoBulk x3.1 := by
            rw [hxx]; simp only [Rows.uptoBulk]; omega
          have each : ∀ t : Nat, ∃ (c : Value × Value × Value × Value) (G : Tour), t < len → w.cell? (a.add (t * 4)) = some c.1 ∧ w.cell? (a.add (t * 4 + 1)) = some c.2.1 ∧ w.cell? (a.add (t * 4 + 2)) = some c.2.2.1 ∧ w.cell? (a.add (t * 4 + 3)) = some c.2.2.2 ∧ ExAt w k (.agg #[c.1, c.2.1, c.2.2.1, c.2.2.2]) G ∧ (∀ d, (G d).length ≤ Rows.uptoBulk (Dd t)) ∧ ∀ d, SmB (Rows.uptoBulk (Dd t)) (G d) := by
            intro t
            by_cases ht : t < len
            · obtain ⟨cs', hc', ht'⟩ := hi t (by have := lm (by omega); omega)
              rw [cells31] at hc'
              obtain ⟨_, _, hat⟩ := World.cells?_some hc'
              have hle : Rows.uptoBulk (Dd t) ≤ k := by
                have := bulk_part (List.mem_map.2 ⟨t, List.mem_range.2 ht, rfl⟩ : Dd t ∈ (List.range len).map Dd)
                omega
              obtain ⟨y0, y1, y2, y3, G, rfl, hG, hGl⟩ := open_expr2 k n3 cs' (Dd t, Pl t) hle ht'
              refine ⟨⟨y0, y1, y2, y3⟩, G, fun _ => ⟨?_, ?_, ?_, ?_, hG, hGl⟩⟩
              · have := hat 0 (by simp); rw [Go.Deep.add_add] at this; exact this
              · have := hat 1 (by simp); rw [Go.Deep.add_add] at this; exact this
              · have := hat 2 (by simp); rw [Go.Deep.add_add] at this; exact this
              · have := hat 3 (by simp); rw [Go.Deep.add_add] at this; exact this
            · exact ⟨⟨.bool true, .bool true, .bool true, .bool true⟩, fun _ => [], fun h => absurd h ht⟩
          obtain ⟨C, hC⟩ := Classical.axiomOfChoice each
          obtain ⟨G, hG⟩ := Classical.axiomOfChoice hC
          refine ⟨_, _, _, _, fun d => ((⟨o, s, nums, len⟩ : Pt), d) :: flat ((List.range len).map G) (d + 1), rfl, ⟨⟨o, s, nums, len⟩, an, nn, nc, some a, cap, (List.range len).map G, rfl, ⟨ob.1, ob.2, w1, hn, hl, by unfold maxLen at hm; omega, fun e => by cases e⟩, by simp, rfl, fun h0 => ?_⟩, fun d => ?_, fun d p hp => ?_⟩
          · have h0 : 0 < len := h0
            obtain ⟨bl, ol, rfl⟩ := spot_none (hG 0 h0).1 (by omega)
            simp only [add_off] at hG
            refine ⟨bl, ol, rfl, fun i hi => ?_⟩
            have hi' : i < len := by simpa using hi
            have e : ((List.range len).map G)[i] = G i := by simp
            rw [e]
            obtain ⟨g0, g1, g2, g3, g4, _⟩ := hG i hi'
            exact ⟨_, _, _, _, g0, by rwa [← Nat.add_assoc] at g1, by rwa [← Nat.add_assoc] at g2, by rwa [← Nat.add_assoc] at g3, g4⟩
          · have := sum_len Dd G (d + 1) len (fun i hi => (hG i hi).2.2.2.2.2.1 (d + 1))
            show (flat ((List.range len).map G) (d + 1)).length + 1 ≤ Rows.uptoBulk (DataW.agg [x0.1, x1.1, x2.1, x3.1])
            omega
          · have hp : p ∈ (((⟨o, s, nums, len⟩ : Pt), d) :: flat ((List.range len).map G) (d + 1)).map (fun x => x.1) := hp
            rw [List.map_cons, List.mem_cons] at hp
            rcases hp with rfl | hp
            · exact hbs0
            · obtain ⟨y, hy, rfl⟩ := List.mem_map.1 hp
              unfold flat at hy
              obtain ⟨l, hl2, hy⟩ := List.mem_flatten.1 hy
              rw [List.map_map] at hl2
              obtain ⟨i, hi, rfl⟩ := List.mem_map.1 hl2
              have hi' : i < len := List.mem_range.1 hi
              have q := (hG i hi').2.2.2.2.2.2 (d + 1) y.1 (List.mem_map.2 ⟨y, hy, rfl⟩)
              have q2 := bulk_part (List.mem_map.2 ⟨i, hi, rfl⟩ : Dd i ∈ (List.range len).map Dd)
              have q3 : Rows.uptoBulk (Dd i) ≤ Rows.uptoBulk (DataW.agg [x0.1, x1.1, x2.1, x3.1]) := by omega
              exact ⟨Nat.le_trans q.1 q3, Nat.le_trans q.2 q3⟩
end
theorem cells47 : Tryd.prog.cellsOf 47 = 3 := by kernel_rfl
section
variable {H : Type} {enc : TypeId × Value → H} {w : World} {base : Nat} {spare : Nat → Bool} {held : Bool}
set_option maxRecDepth 8000 in
theorem open_toks {fuel : Nat} {cs : List Value} {x : DataW H × List MemPlace} (h : DataW.trod enc Tryd.prog w base spare held fuel 22 cs = some x) : ∃ ao n c l, cs = [.slice ao n c] ∧ TkAt w ao n c l ∧ Lx.TkB l := by
  rcases Go.Deep.open_slice Tryd.underlying22 h with ⟨rfl, _⟩ | ⟨a, len, cap, m, n3, Dd, Pl, rfl, hb, hl, hm, hmm, rfl, hi⟩
  · exact ⟨none, 0, 0, [], rfl, ⟨rfl, Nat.le_refl _, Nat.zero_le _, fun _ => ⟨rfl, rfl⟩, fun h => absurd h (Nat.lt_irrefl _)⟩, fun t ht => by cases ht⟩
  · have hcap : cap ≤ 9223372036854775807 := by unfold maxLen at hm; omega
    have lm : 0 < len → len ≤ m := fun h0 => by rw [hmm]; split <;> omega
    have each : ∀ t : Nat, ∃ T : Lx.Tk, t < len → (w.cell? (a.add (t * 3)) = some (.int .u8 T.1) ∧ w.cell? (a.add (t * 3 + 1)) = some (.string ⟨T.2.1.toArray⟩) ∧ w.cell? (a.add (t * 3 + 2)) = some (.int .i64 T.2.2)) ∧ (0 ≤ T.1 ∧ T.1 ≤ 255) ∧ T.2.1.length ≤ maxLen ∧ -9223372036854775808 ≤ T.2.2 ∧ T.2.2 ≤ 9223372036854775807 := by
      intro t
      by_cases ht : t < len
      · obtain ⟨cs', hc', ht'⟩ := hi t (by have := lm (by omega); omega)
        rw [cells47] at hc'
        obtain ⟨_, _, hat⟩ := World.cells?_some hc'
        obtain ⟨xs, n, h1, h2, hc, hx, hf⟩ := DataW.trod_struct Tryd.underlying47 ht'
        rw [cells47] at hc
        match xs, hx with
        | [x0, x1, x2], _ =>
          have f0 : DataW.trod enc Tryd.prog w base spare held n 5 ((cs'.drop 0).take (Tryd.prog.cellsOf 5)) = some x0 := hf 0 _ rfl
          have f1 : DataW.trod enc Tryd.prog w base spare held n 9 ((cs'.drop 1).take (Tryd.prog.cellsOf 9)) = some x1 := hf 1 _ rfl
          have f2 : DataW.trod enc Tryd.prog w base spare held n 2 ((cs'.drop 2).take (Tryd.prog.cellsOf 2)) = some x2 := hf 2 _ rfl
          rw [cells5] at f0
          rw [cells9] at f1
          rw [cells2] at f2
          obtain ⟨o, e0, _, w0⟩ := DataW.trod_int Tryd.underlying5 f0
          obtain ⟨s, e1, _, w1⟩ := DataW.trod_string Tryd.underlying9 f1
          obtain ⟨u, e2, _, w2⟩ := DataW.trod_int Tryd.underlying2 f2
          match cs', hc with
          | [c0, c1, c2], _ =>
            simp at e0 e1 e2
            subst e0 e1 e2
            refine ⟨(o, s.data.toList, u), fun _ => ⟨⟨?_, ?_, ?_⟩, bounds_u8 w0, ?_, bounds_i64 w2⟩⟩
            · have := hat 0 (by simp); rw [Go.Deep.add_add] at this; exact this
            · have := hat 1 (by simp); rw [Go.Deep.add_add] at this; exact this
            · have := hat 2 (by simp); rw [Go.Deep.add_add] at this; exact this
            · rw [← Lib.size_eq]; exact w1
      · exact ⟨(0, [], 0), fun h => absurd h ht⟩
    obtain ⟨U, hU⟩ := Classical.axiomOfChoice each
    refine ⟨some a, len, cap, (List.range len).map U, rfl, ⟨by simp, hl, hcap, (fun e => by cases e), fun h0 => ?_⟩, fun t ht => ?_⟩
    · obtain ⟨bl, ol, rfl⟩ := spot_none (hU 0 h0).1.1 rfl
      refine ⟨bl, ol, rfl, fun i hi => ?_⟩
      have hi' : i < len := by simpa using hi
      have e : ((List.range len).map U)[i] = U i := by simp
      rw [e]
      have := (hU i hi').1
      simp only [add_off, ← Nat.add_assoc] at this
      exact this
    · obtain ⟨i, hi, rfl⟩ := List.mem_map.1 ht
      exact (hU i (List.mem_range.1 hi)).2
end
theorem cells100 : Tryd.prog.cellsOf 100 = 2 := by kernel_rfl
theorem cells101 : Tryd.prog.cellsOf 101 = 26 := by kernel_rfl
theorem cells3 : Tryd.prog.cellsOf 3 = 1 := by kernel_rfl
theorem gTab : Tryd.prog.globalNamed "epact/expr.needs" = some 1 := by kernel_rfl
theorem gTabType : (Tryd.prog.globals[1]?).map (·.type) = some 101 := by kernel_rfl
theorem needs_parts : (Rows.laid_epact_expr_needs : DataW Unit) = .agg ((List.range 13).map fun i => .agg [.lit (.int .i64 (nN i)), .lit (.int .i64 (aN i))]) := rfl
theorem one_of_take {cs : List Value} {i : Nat} {v : Value} (h : (cs.drop i).take 1 = [v]) : cs[i]? = some v := by
  have : ((cs.drop i).take 1)[0]? = some v := by rw [h]; rfl
  simpa using this
theorem tab_laid {W : World} (h : laidMet Tryd.prog [("epact/expr.needs", Rows.laid_epact_expr_needs)] W) : Tabn W := by
  obtain ⟨ps, ⟨g', t', cs, fuel, p, q, hg', ht', hvar, hd, _, _⟩, _⟩ := h
  obtain rfl := Option.some.inj (gTab.symm.trans hg')
  obtain rfl := Option.some.inj (gTabType.symm.trans ht')
  obtain ⟨xs, m, rfl, hx, hc, hl, hf⟩ := DataW.trod_array Tryd.underlying101 hd
  have hx1 : xs.map (·.1) = (List.range 13).map fun i => (DataW.agg [.lit (.int .i64 (nN i)), .lit (.int .i64 (aN i))] : DataW Unit) := by
    have := congrArg Prod.fst hx
    rw [needs_parts] at this
    exact (DataW.agg.inj this).symm
  intro i hi
  have f := hf i hi
  rw [cells100] at f
  have hxi : i < xs.length := by omega
  rw [List.getElem?_eq_getElem hxi] at f
  have hxe : (xs[i]).1 = .agg [.lit (.int .i64 (nN i)), .lit (.int .i64 (aN i))] := by
    have a : (xs.map (·.1))[i]? = some (xs[i]).1 := by rw [List.getElem?_map, List.getElem?_eq_getElem hxi]; rfl
    rw [hx1] at a
    simp [hi] at a
    exact a.symm
  obtain ⟨ys, n, rfl, hy, hc2, hl2, hf2⟩ := DataW.trod_struct Tryd.underlying100 f
  match ys, hl2 with
  | [y0, y1], _ =>
    have f0 : DataW.trod _ Tryd.prog W 0 _ _ n 3 ((((cs.toList.drop (i * 2)).take 2).drop 0).take (Tryd.prog.cellsOf 3)) = some y0 := hf2 0 _ rfl
    have f1 : DataW.trod _ Tryd.prog W 0 _ _ n 3 ((((cs.toList.drop (i * 2)).take 2).drop 1).take (Tryd.prog.cellsOf 3)) = some y1 := hf2 1 _ rfl
    rw [cells3] at f0 f1
    obtain ⟨u, e0, z0, _⟩ := DataW.trod_int Tryd.underlying3 f0
    obtain ⟨v, e1, z1, _⟩ := DataW.trod_int Tryd.underlying3 f1
    rw [hy] at hxe
    simp [z0, z1] at hxe
    obtain ⟨rfl, rfl⟩ := hxe
    have a0 : cs.toList[i * 2]? = some (.int .i64 (nN i)) := one_of_take (by simpa [List.take_take] using e0)
    have a1 : cs.toList[i * 2 + 1]? = some (.int .i64 (aN i)) := one_of_take (by rw [← e1]; simp [List.drop_take, List.drop_drop, List.take_take])
    rw [Array.getElem?_toList] at a0 a1
    exact ⟨(World.var?_cell gTab hvar (i * 2)).trans a0, (World.var?_cell gTab hvar (i * 2 + 1)).trans a1⟩
theorem gW : Tryd.prog.globalNamed "epact/parse.words" = some 0 := by kernel_rfl
theorem gWType : (Tryd.prog.globals[0]?).map (·.type) = some 64 := by kernel_rfl
theorem cells64 : Tryd.prog.cellsOf 64 = 12 := by kernel_rfl
theorem words_parts : (Rows.laid_epact_parse_words : DataW Unit) = .agg ((List.range 12).map fun i => .lit (.string (opB i).data.toList)) := rfl
theorem wordsA_at (i : Nat) (h : i < 12) : wordsA[i]? = some (.string (opB i)) := by
  have : i = 0 ∨ i = 1 ∨ i = 2 ∨ i = 3 ∨ i = 4 ∨ i = 5 ∨ i = 6 ∨ i = 7 ∨ i = 8 ∨ i = 9 ∨ i = 10 ∨ i = 11 := by omega
  rcases this with rfl | rfl | rfl | rfl | rfl | rfl | rfl | rfl | rfl | rfl | rfl | rfl <;> rfl
theorem var_block {W : World} {nm : String} {g : Nat} {cs : Array Value} (hg : Tryd.prog.globalNamed nm = some g) (h : W.var? Tryd.prog nm = some cs) : ∃ t fr, W.heap[g]? = some (.cells cs t fr) := by
  simp only [World.var?, hg, Option.bind_some] at h
  split at h
  · rename_i cs' t fr e
    obtain rfl := Option.some.inj h
    exact ⟨t, fr, e⟩
  · cases h
theorem words_laid {W : World} (h : laidMet Tryd.prog [("epact/parse.words", Rows.laid_epact_parse_words)] W) : Tabw W := by
  obtain ⟨ps, ⟨g', t', cs, fuel, p, q, hg', ht', hvar, hd, _, _⟩, _⟩ := h
  obtain rfl := Option.some.inj (gW.symm.trans hg')
  obtain rfl := Option.some.inj (gWType.symm.trans ht')
  obtain ⟨xs, m, rfl, hx, hc, hl, hf⟩ := DataW.trod_array Tryd.underlying64 hd
  have hx1 : xs.map (·.1) = (List.range 12).map fun i => (DataW.lit (.string (opB i).data.toList) : DataW Unit) := by
    have := congrArg Prod.fst hx
    rw [words_parts] at this
    exact (DataW.agg.inj this).symm
  have each : ∀ i, i < 12 → cs.toList[i]? = some (.string (opB i)) := by
    intro i hi
    have f := hf i hi
    rw [cells9] at f
    have hxi : i < xs.length := by omega
    rw [List.getElem?_eq_getElem hxi] at f
    have hxe : (xs[i]).1 = .lit (.string (opB i).data.toList) := by
      have a : (xs.map (·.1))[i]? = some (xs[i]).1 := by rw [List.getElem?_map, List.getElem?_eq_getElem hxi]; rfl
      rw [hx1] at a
      simp [hi] at a
      exact a.symm
    obtain ⟨s, e0, e1, _⟩ := DataW.trod_string Tryd.underlying9 f
    rw [e1] at hxe
    have hs : s.data.toList = (opB i).data.toList := by simpa using hxe
    have hs2 : s = opB i := by rw [str_of s _ hs]
    rw [← hs2]
    exact one_of_take (by simpa using e0)
  obtain ⟨t, fr, hb⟩ := var_block gW hvar
  have : cs = wordsA := by
    apply Array.ext'
    apply List.ext_getElem?
    intro i
    by_cases hi : i < 12
    · rw [each i hi, Array.getElem?_toList, wordsA_at i hi]
    · rw [List.getElem?_eq_none (by rw [cells64] at hc; omega), List.getElem?_eq_none (by show 12 ≤ i; omega)]
  rw [this] at hb
  exact ⟨t, fr, hb⟩
theorem tabs_of {W : World} {L : List (String × DataW Unit)} (h : laidMet Tryd.prog L W) (e : L = [("epact/expr.needs", Rows.laid_epact_expr_needs), ("epact/parse.words", Rows.laid_epact_parse_words)]) : Tabn W ∧ Tabw W := by
  subst e
  exact ⟨tab_laid (h.filter (fun x => x.1 == "epact/expr.needs")), words_laid (h.filter (fun x => x.1 == "epact/parse.words"))⟩
end Go.Proofs.YtllhcpkpbipjlaaDoor
