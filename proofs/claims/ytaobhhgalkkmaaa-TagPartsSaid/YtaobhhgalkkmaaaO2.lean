/- A network, ticks, a range that came in, opened to their cells. -/
import Derived.Test.YtaobhhgalkkmaaaO1
import Derived.Test.YtaobhhgalkkmaaaV1
import Derived.ChangeArms
namespace Go.Proofs.Ytaobhhgalkkmaaa
set_option linter.unusedVariables false
set_option linter.unusedSimpArgs false
open Go.ChangeShapes Go.WideShapes Go.ChangeAt Go.RowKit
theorem ocells34 : Try.prog.cellsOf 34 = 4 := by kernel_rfl
theorem ocells42 : Try.prog.cellsOf 42 = 7 := by kernel_rfl
theorem ocells38 : Try.prog.cellsOf 38 = 3 := by kernel_rfl
theorem ocells39 : Try.prog.cellsOf 39 = 1 := by kernel_rfl
theorem ocells35 : Try.prog.cellsOf 35 = 1 := by kernel_rfl
theorem ocells36 : Try.prog.cellsOf 36 = 1 := by kernel_rfl
theorem ocells4 : Try.prog.cellsOf 4 = 1 := by kernel_rfl
theorem ocells2 : Try.prog.cellsOf 2 = 1 := by kernel_rfl
section
variable {H : Type} {enc : TypeId × Value → H} {w : World} {base : Nat} {spare : Nat → Bool} {held : Bool}
set_option maxRecDepth 10000 in
theorem open_range {fuel : Nat} {cs : List Value} {x : DataW H × List MemPlace} (h : DataW.trod enc Try.prog w base spare held fuel 34 cs = some x) : ∃ (lo hi : Int) (hl hh : Bool), cs = [.int .i64 lo, .int .i64 hi, .bool hl, .bool hh] ∧ (-9223372036854775808 ≤ lo ∧ lo ≤ 9223372036854775807) ∧ -9223372036854775808 ≤ hi ∧ hi ≤ 9223372036854775807 := by
  obtain ⟨xs, n, rfl, rfl, hc, hx, hf⟩ := DataW.trod_struct Try.underlying34 h
  rw [ocells34] at hc
  match xs, hx with
  | [x0, x1, x2, x3], _ =>
    have f0 : DataW.trod enc Try.prog w base spare held n 2 ((cs.drop 0).take (Try.prog.cellsOf 2)) = some x0 := hf 0 _ rfl
    have f1 : DataW.trod enc Try.prog w base spare held n 2 ((cs.drop 1).take (Try.prog.cellsOf 2)) = some x1 := hf 1 _ rfl
    have f2 : DataW.trod enc Try.prog w base spare held n 4 ((cs.drop 2).take (Try.prog.cellsOf 4)) = some x2 := hf 2 _ rfl
    have f3 : DataW.trod enc Try.prog w base spare held n 4 ((cs.drop 3).take (Try.prog.cellsOf 4)) = some x3 := hf 3 _ rfl
    rw [ocells2] at f0 f1
    rw [ocells4] at f2 f3
    obtain ⟨lo, e0, _, w0⟩ := DataW.trod_int Try.underlying2 f0
    obtain ⟨hi, e1, _, w1⟩ := DataW.trod_int Try.underlying2 f1
    obtain ⟨hl, e2, _⟩ := DataW.trod_bool Try.underlying4 f2
    obtain ⟨hh, e3, _⟩ := DataW.trod_bool Try.underlying4 f3
    match cs, hc with
    | [c0, c1, c2, c3], _ =>
      simp at e0 e1 e2 e3
      subst e0 e1 e2 e3
      exact ⟨lo, hi, hl, hh, rfl, bounds_i64 w0, bounds_i64 w1⟩
set_option maxRecDepth 10000 in
theorem open_con {fuel : Nat} {cs : List Value} {x : DataW H × List MemPlace} (h : DataW.trod enc Try.prog w base spare held fuel 42 cs = some x) : ∃ c : Cn, cs = c.box.toList := by
  obtain ⟨xs, n, rfl, rfl, hc, hx, hf⟩ := DataW.trod_struct Try.underlying42 h
  rw [ocells42] at hc
  match xs, hx with
  | [x0, x1, x2, x3], _ =>
    have f0 : DataW.trod enc Try.prog w base spare held n 3 ((cs.drop 0).take (Try.prog.cellsOf 3)) = some x0 := hf 0 _ rfl
    have f1 : DataW.trod enc Try.prog w base spare held n 3 ((cs.drop 1).take (Try.prog.cellsOf 3)) = some x1 := hf 1 _ rfl
    have f2 : DataW.trod enc Try.prog w base spare held n 3 ((cs.drop 2).take (Try.prog.cellsOf 3)) = some x2 := hf 2 _ rfl
    have f3 : DataW.trod enc Try.prog w base spare held n 34 ((cs.drop 3).take (Try.prog.cellsOf 34)) = some x3 := hf 3 _ rfl
    rw [cells3] at f0 f1 f2
    rw [ocells34] at f3
    obtain ⟨a, e0, _, w0⟩ := DataW.trod_int Try.underlying3 f0
    obtain ⟨b, e1, _, w1⟩ := DataW.trod_int Try.underlying3 f1
    obtain ⟨c, e2, _, w2⟩ := DataW.trod_int Try.underlying3 f2
    obtain ⟨lo, hi, hl, hh, e3, _⟩ := open_range f3
    match cs, hc with
    | [c0, c1, c2, c3, c4, c5, c6], _ =>
      simp at e0 e1 e2 e3
      obtain ⟨e3, e4, e5, e6⟩ := e3
      subst e0 e1 e2 e3 e4 e5 e6
      exact ⟨⟨a, b, c, lo, hi, hl, hh⟩, rfl⟩
theorem open_izs {fuel : Nat} {cs : List Value} {x : DataW H × List MemPlace} (h : DataW.trod enc Try.prog w base spare held fuel 39 cs = some x) : ∃ ao n c l, cs = [.slice ao n c] ∧ IzAt w ao n c l ∧ (ao = none → n = 0 ∧ c = 0) ∧ (Light 39 x.1 → n * 8 ≤ 140737488351232) := by
  rcases Go.Deep.open_slice Try.underlying39 h with ⟨rfl, _⟩ | ⟨a, len, cap, m, n, D, Pl, rfl, hb, hl, hm, hmm, rfl, hi⟩
  · exact ⟨none, 0, 0, [], rfl, ⟨rfl, Nat.le_refl _, by omega, fun h => absurd h (Nat.lt_irrefl _)⟩, fun _ => ⟨rfl, rfl⟩, fun _ => by omega⟩
  · have hcap : cap ≤ 9223372036854775807 := by unfold maxLen at hm; omega
    have lm : 0 < len → len ≤ m := fun h0 => by rw [hmm]; split <;> omega
    have each : ∀ t : Nat, ∃ U : Int, t < len → w.cell? (a.add (t * 1)) = some (.int .i64 U) := by
      intro t
      by_cases ht : t < len
      · obtain ⟨cs', hc, ht'⟩ := hi t (by have := lm (by omega); omega)
        rw [cells3] at hc
        obtain ⟨_, hln, hat⟩ := World.cells?_some hc
        obtain ⟨u, rfl, _, _⟩ := DataW.trod_int Try.underlying3 ht'
        exact ⟨u, fun _ => by have := hat 0 (by decide); rw [Go.Deep.add_add] at this; exact this⟩
      · exact ⟨0, fun h => absurd h ht⟩
    obtain ⟨U, hU⟩ := Classical.axiomOfChoice each
    refine ⟨some a, len, cap, (List.range len).map U, rfl, ⟨by simp, hl, hcap, fun h0 => ?_⟩, (fun e => by cases e), fun hL => ?_⟩
    · obtain ⟨bl, ol, rfl⟩ := spot_none (hU 0 h0) (by omega)
      simp only [add_off] at hU
      refine ⟨bl, ol, rfl, fun i hi => ?_⟩
      have hi' : i < len := by simpa using hi
      have e : ((List.range len).map U)[i] = U i := by simp
      rw [e]
      have := hU i hi'
      rwa [Nat.mul_one] at this
    · have := light_len Try.underlying39 hL
      have e8 : Try.prog.bytesOf 3 = 8 := by kernel_rfl
      rw [e8] at this
      simp only [List.length_map, List.length_range, reachBytes] at this
      omega
theorem open_cons {fuel : Nat} {cs : List Value} {x : DataW H × List MemPlace} (h : DataW.trod enc Try.prog w base spare held fuel 36 cs = some x) : ∃ ao n c l, cs = [.slice ao n c] ∧ KsAt w ao n c l ∧ (ao = none → n = 0 ∧ c = 0) := by
  rcases Go.Deep.open_slice Try.underlying36 h with ⟨rfl, _⟩ | ⟨a, len, cap, m, n, D, Pl, rfl, hb, hl, hm, hmm, rfl, hi⟩
  · exact ⟨none, 0, 0, [], rfl, ⟨rfl, Nat.le_refl _, by omega, fun h => absurd h (Nat.lt_irrefl _)⟩, fun _ => ⟨rfl, rfl⟩⟩
  · have hcap : cap ≤ 9223372036854775807 := by unfold maxLen at hm; omega
    have lm : 0 < len → len ≤ m := fun h0 => by rw [hmm]; split <;> omega
    have each : ∀ t : Nat, ∃ c : Cn, t < len → ∀ j (hj : j < 7), w.cell? (a.add (t * 7 + j)) = some (c.box[j]'hj) := by
      intro t
      by_cases ht : t < len
      · obtain ⟨cs', hc, ht'⟩ := hi t (by have := lm (by omega); omega)
        rw [ocells42] at hc
        obtain ⟨_, _, hat⟩ := World.cells?_some hc
        obtain ⟨c, rfl⟩ := open_con ht'
        refine ⟨c, fun _ j hj => ?_⟩
        have := hat j hj
        rw [Go.Deep.add_add] at this
        rw [this]
        match j, hj with
        | 0, _ => rfl
        | 1, _ => rfl
        | 2, _ => rfl
        | 3, _ => rfl
        | 4, _ => rfl
        | 5, _ => rfl
        | 6, _ => rfl
      · exact ⟨⟨0, 0, 0, 0, 0, false, false⟩, fun h => absurd h ht⟩
    obtain ⟨C, hC⟩ := Classical.axiomOfChoice each
    refine ⟨some a, len, cap, (List.range len).map C, rfl, ⟨by simp, hl, hcap, fun h0 => ?_⟩, fun e => by cases e⟩
    obtain ⟨bl, ol, rfl⟩ := spot_none (hC 0 h0 0 (by decide)) (by omega)
    simp only [add_off] at hC
    refine ⟨bl, ol, rfl, fun i hi => ?_⟩
    have hi' : i < len := by simpa using hi
    have e : ((List.range len).map C)[i] = C i := by simp
    rw [e]
    have q := hC i hi'
    simp only [← Nat.add_assoc] at q
    exact ⟨q 0 (by decide), q 1 (by decide), q 2 (by decide), q 3 (by decide), q 4 (by decide), q 5 (by decide), q 6 (by decide)⟩
theorem open_forms {fuel : Nat} {cs : List Value} {x : DataW H × List MemPlace} (h : DataW.trod enc Try.prog w base spare held fuel 35 cs = some x) (hL : Light 35 x.1) : ∃ ao n c l, cs = [.slice ao n c] ∧ FsAt w ao n c l := by
  rcases Go.Deep.open_slice Try.underlying35 h with ⟨rfl, _⟩ | ⟨a, len, cap, m, n, D, Pl, rfl, hb, hl, hm, hmm, rfl, hi⟩
  · exact ⟨none, 0, 0, [], rfl, ⟨rfl, Nat.le_refl _, by omega, (fun F h => by cases h), fun h => absurd h (Nat.lt_irrefl _)⟩⟩
  · have hcap : cap ≤ 9223372036854775807 := by unfold maxLen at hm; omega
    have lm : 0 < len → len ≤ m := fun h0 => by rw [hmm]; split <;> omega
    have each : ∀ t : Nat, ∃ F : Fv, t < len → F.At w ∧ ∀ j (hj : j < 4), w.cell? (a.add (t * 4 + j)) = some (F.box[j]'hj) := by
      intro t
      by_cases ht : t < len
      · obtain ⟨cs', hc, ht'⟩ := hi t (by have := lm (by omega); omega)
        rw [cells25] at hc
        obtain ⟨_, _, hat⟩ := World.cells?_some hc
        obtain ⟨F, rfl, hF⟩ := open_form ht' (light_elem Try.underlying35 hL (List.mem_map.2 ⟨t, List.mem_range.2 ht, rfl⟩))
        refine ⟨F, fun _ => ⟨hF, fun j hj => ?_⟩⟩
        have := hat j hj
        rw [Go.Deep.add_add] at this
        rw [this]
        match j, hj with
        | 0, _ => rfl
        | 1, _ => rfl
        | 2, _ => rfl
        | 3, _ => rfl
      · exact ⟨⟨0, 0, none, 0, 0, none, 0, 0, [], []⟩, fun h => absurd h ht⟩
    obtain ⟨C, hC⟩ := Classical.axiomOfChoice each
    refine ⟨some a, len, cap, (List.range len).map C, rfl, ⟨by simp, hl, hcap, fun F hF => ?_, fun h0 => ?_⟩⟩
    · obtain ⟨i, hi, rfl⟩ := List.mem_map.1 hF
      exact (hC i (List.mem_range.1 hi)).1
    · obtain ⟨bl, ol, rfl⟩ := spot_none ((hC 0 h0).2 0 (by decide)) (by omega)
      simp only [add_off] at hC
      refine ⟨bl, ol, rfl, fun i hi => ?_⟩
      have hi' : i < len := by simpa using hi
      have e : ((List.range len).map C)[i] = C i := by simp
      rw [e]
      have q := (hC i hi').2
      simp only [← Nat.add_assoc] at q
      exact ⟨q 0 (by decide), q 1 (by decide), q 2 (by decide), q 3 (by decide)⟩
set_option maxRecDepth 10000 in
theorem open_net {fuel : Nat} {cs : List Value} {x : DataW H × List MemPlace} (h : DataW.trod enc Try.prog w base spare held fuel 38 cs = some x) (hL : Light 38 x.1) : ∃ n : Nv, cs = n.box.toList ∧ n.At w ∧ (n.ko = none → n.kn = 0 ∧ n.kc = 0) := by
  obtain ⟨xs, n, rfl, rfl, hc, hx, hf⟩ := DataW.trod_struct Try.underlying38 h
  rw [ocells38] at hc
  match xs, hx with
  | [x0, x1, x2], _ =>
    have f0 : DataW.trod enc Try.prog w base spare held n 3 ((cs.drop 0).take (Try.prog.cellsOf 3)) = some x0 := hf 0 _ rfl
    have f1 : DataW.trod enc Try.prog w base spare held n 35 ((cs.drop 1).take (Try.prog.cellsOf 35)) = some x1 := hf 1 _ rfl
    have f2 : DataW.trod enc Try.prog w base spare held n 36 ((cs.drop 2).take (Try.prog.cellsOf 36)) = some x2 := hf 2 _ rfl
    rw [cells3] at f0
    rw [ocells35] at f1
    rw [ocells36] at f2
    obtain ⟨v, e0, _, w0⟩ := DataW.trod_int Try.underlying3 f0
    obtain ⟨fo, fn, fc, fs, e1, h1⟩ := open_forms f1 (light_part (j := 1) (u := 35) Try.underlying38 hL rfl rfl)
    obtain ⟨ko, kn, kc, ks, e2, h2, hz⟩ := open_cons f2
    match cs, hc with
    | [c0, c1, c2], _ =>
      simp at e0 e1 e2
      subst e0 e1 e2
      exact ⟨⟨v, fo, fn, fc, ko, kn, kc, fs, ks⟩, rfl, ⟨(bounds_i64 w0).1, (bounds_i64 w0).2, h1, h2⟩, hz⟩
end
end Go.Proofs.Ytaobhhgalkkmaaa
