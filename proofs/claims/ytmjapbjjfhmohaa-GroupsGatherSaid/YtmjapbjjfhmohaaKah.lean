/- O1 in one. -/
import Derived.Test.YtmjapbjjfhmohaaKa
import Derived.ChangeArms
import Derived.Deep.Slices
import Derived.OpenShut
import Derived.SizedLaws
namespace Go.Proofs.Ytmjapbjjfhmohaa
set_option linter.unusedVariables false
set_option linter.unusedSimpArgs false
open Go.ChangeShapes Go.WideShapes Go.ChangeAt Go.RowKit
theorem cells50 : Try.prog.cellsOf 50 = 2 := by kernel_rfl
theorem cells34 : Try.prog.cellsOf 34 = 1 := by kernel_rfl
theorem cells52 : Try.prog.cellsOf 52 = 2 := by kernel_rfl
theorem cells25 : Try.prog.cellsOf 25 = 4 := by kernel_rfl
theorem cells22 : Try.prog.cellsOf 22 = 1 := by kernel_rfl
theorem cells23 : Try.prog.cellsOf 23 = 1 := by kernel_rfl
theorem cells3 : Try.prog.cellsOf 3 = 1 := by kernel_rfl
theorem bytes43 : Try.prog.bytesOf 50 = 16 := by kernel_rfl
section
variable {H : Type} {enc : TypeId × Value → H} {w : World} {base : Nat} {spare : Nat → Bool} {held : Bool}
theorem weightsAll_mem {e : TypeId} : ∀ {ds : List (DataW H)} {d : DataW H}, d ∈ ds → ∀ n ∈ d.weights Try.prog e, n ∈ DataW.weightsAll Try.prog e ds
  | a :: r, d, hd, n, hn => by
    simp only [DataW.weightsAll, List.mem_append]
    rcases List.mem_cons.1 hd with rfl | h
    · exact .inl hn
    · exact .inr (weightsAll_mem h n hn)
/-- What a reading weighs is within reach. -/
def Light (t : TypeId) (d : DataW H) : Prop := ∀ n ∈ d.weights Try.prog t, n ≤ reachBytes
theorem light_elem {t e : TypeId} {elems rest : List (DataW H)} (hu : Try.prog.underlying t = some (.slice e)) (h : Light t (.slice elems rest)) {d : DataW H} (hd : d ∈ elems) : Light e d := by
  intro n hn
  refine h n ?_
  simp only [DataW.weights, hu, List.mem_cons, List.mem_append]
  exact .inr (.inl (weightsAll_mem hd n hn))
theorem light_len {t e : TypeId} {elems rest : List (DataW H)} (hu : Try.prog.underlying t = some (.slice e)) (h : Light t (.slice elems rest)) : elems.length * Try.prog.bytesOf e ≤ reachBytes := by
  have := h ((elems.length + rest.length) * Try.prog.bytesOf e) (by simp [DataW.weights, hu])
  exact Nat.le_trans (Nat.mul_le_mul_right _ (Nat.le_add_right _ _)) this
theorem light_part {t : TypeId} {fs : Array Field} {parts : List (DataW H)} (hu : Try.prog.underlying t = some (.struct fs)) (h : Light t (.agg parts)) {j : Nat} {u : TypeId} {d : DataW H} (ht : (fs.toList.map (·.type))[j]? = some u) (hd : parts[j]? = some d) : Light u d := by
  intro n hn
  refine h n ?_
  simp only [DataW.weights, hu]
  exact DataW.weights_mem_each ht hd n hn
set_option maxRecDepth 10000 in
theorem open_span {fuel : Nat} {cs : List Value} {x : DataW H × List MemPlace} (h : DataW.trod enc Try.prog w base spare held fuel 50 cs = some x) : ∃ u v : Int, cs = [.int .i64 u, .int .i64 v] := by
  obtain ⟨xs, n, rfl, rfl, hc, hx, hf⟩ := DataW.trod_struct Try.underlying50 h
  rw [cells50] at hc
  match xs, hx with
  | [x0, x1], _ =>
    have f0 : DataW.trod enc Try.prog w base spare held n 3 ((cs.drop 0).take (Try.prog.cellsOf 3)) = some x0 := hf 0 _ rfl
    have f1 : DataW.trod enc Try.prog w base spare held n 3 ((cs.drop 1).take (Try.prog.cellsOf 3)) = some x1 := hf 1 _ rfl
    rw [cells3] at f0 f1
    obtain ⟨u, e0, _, _⟩ := DataW.trod_int Try.underlying3 f0
    obtain ⟨v, e1, _, _⟩ := DataW.trod_int Try.underlying3 f1
    match cs, hc with
    | [c0, c1], _ =>
      simp at e0 e1
      subst e0
      subst e1
      exact ⟨u, v, rfl⟩
theorem spot_none {a : Addr} {k : Nat} {v : Value} (h : w.cell? (a.add k) = some v) (hk : k = 0) : ∃ b p, a = ⟨b, p, none⟩ := by
  subst hk
  obtain ⟨bl, ol, sp⟩ := a
  have := World.cell?_spot h
  have hs : sp = none := by simpa [Addr.add] using this
  exact ⟨bl, ol, by rw [hs]⟩
theorem open_spans {fuel : Nat} {cs : List Value} {x : DataW H × List MemPlace} (h : DataW.trod enc Try.prog w base spare held fuel 34 cs = some x) : ∃ ao n c l, cs = [.slice ao n c] ∧ SpAt w ao n c l ∧ (Light 34 x.1 → l.length ≤ 10000000000000) := by
  rcases Go.Deep.open_slice Try.underlying34 h with ⟨rfl, _⟩ | ⟨a, len, cap, m, n, D, Pl, rfl, hb, hl, hm, hmm, rfl, hi⟩
  · exact ⟨none, 0, 0, [], rfl, SpAt.nil w, fun _ => Nat.zero_le _⟩
  · have hcap : cap ≤ 9223372036854775807 := by unfold maxLen at hm; omega
    have lm : 0 < len → len ≤ m := fun h0 => by rw [hmm]; split <;> omega
    have each : ∀ t : Nat, ∃ U V : Int, t < len → w.cell? (a.add (t * 2)) = some (.int .i64 U) ∧ w.cell? (a.add (t * 2 + 1)) = some (.int .i64 V) := by
      intro t
      by_cases ht : t < len
      · obtain ⟨cs', hc, ht'⟩ := hi t (by have := lm (by omega); omega)
        rw [cells50] at hc
        obtain ⟨_, _, hat⟩ := World.cells?_some hc
        obtain ⟨u, v, rfl⟩ := open_span ht'
        refine ⟨u, v, fun _ => ⟨?_, ?_⟩⟩
        · have := hat 0 (by decide); rw [Go.Deep.add_add] at this; exact this
        · have := hat 1 (by decide); rw [Go.Deep.add_add] at this; exact this
      · exact ⟨0, 0, fun h => absurd h ht⟩
    obtain ⟨U, hU⟩ := Classical.axiomOfChoice each
    obtain ⟨V, hV⟩ := Classical.axiomOfChoice hU
    refine ⟨some a, len, cap, (List.range len).map (fun t => (U t, V t)), rfl, ⟨by simp, hl, hcap, (fun e => by cases e), fun h0 => ?_⟩, fun hL => ?_⟩
    · obtain ⟨bl, ol, rfl⟩ := spot_none (hV 0 h0).1 (by omega)
      simp only [add_off] at hV
      refine ⟨bl, ol, rfl, fun i hi => ?_⟩
      have hi' : i < len := by simpa using hi
      have e : ((List.range len).map (fun t => (U t, V t)))[i] = (U i, V i) := by simp
      rw [e]
      exact ⟨(hV i hi').1, by have := (hV i hi').2; rwa [← Nat.add_assoc] at this⟩
    · have := light_len Try.underlying34 hL
      rw [bytes43] at this
      simp only [List.length_map, List.length_range, reachBytes] at this ⊢
      omega
theorem open_core {fuel : Nat} {cs : List Value} {x : DataW H × List MemPlace} (h : DataW.trod enc Try.prog w base spare held fuel 22 cs = some x) : ∃ ao n c ls, cs = [.slice ao n c] ∧ CoAt w ao n c ls ∧ (Light 22 x.1 → ∀ l ∈ ls, l.length ≤ 10000000000000) := by
  rcases Go.Deep.open_slice Try.underlying22 h with ⟨rfl, _⟩ | ⟨a, len, cap, m, n, D, Pl, rfl, hb, hl, hm, hmm, rfl, hi⟩
  · exact ⟨none, 0, 0, [], rfl, ⟨rfl, Nat.le_refl _, by omega, fun _ => ⟨rfl, rfl⟩, fun h => absurd h (Nat.lt_irrefl _)⟩, fun _ l hl => by cases hl⟩
  · have hcap : cap ≤ 9223372036854775807 := by unfold maxLen at hm; omega
    have lm : 0 < len → len ≤ m := fun h0 => by rw [hmm]; split <;> omega
    have each : ∀ t : Nat, ∃ l : List Sp, t < len → (∃ o k d, w.cell? (a.add t) = some (.slice o k d) ∧ SpAt w o k d l) ∧ (Light 34 (D t) → l.length ≤ 10000000000000) := by
      intro t
      by_cases ht : t < len
      · obtain ⟨cs', hc, ht'⟩ := hi t (by have := lm (by omega); omega)
        rw [cells34] at hc
        obtain ⟨_, _, hat⟩ := World.cells?_some hc
        obtain ⟨o, k, d, l, rfl, hs, hb⟩ := open_spans ht'
        have q := hat 0 (by decide)
        rw [Go.Deep.add_add] at q
        exact ⟨l, fun _ => ⟨⟨o, k, d, by simpa using q, hs⟩, hb⟩⟩
      · exact ⟨[], fun h => absurd h ht⟩
    obtain ⟨L, hL⟩ := Classical.axiomOfChoice each
    refine ⟨some a, len, cap, (List.range len).map L, rfl, ⟨by simp, hl, hcap, (fun e => by cases e), fun h0 => ?_⟩, fun hW l hl => ?_⟩
    · obtain ⟨bl, ol, rfl⟩ : ∃ b p, a = ⟨b, p, none⟩ := by
        obtain ⟨⟨o, k, d, h1, _⟩, _⟩ := hL 0 h0
        exact spot_none h1 rfl
      simp only [add_off] at hL
      refine ⟨bl, ol, rfl, fun i hi => ?_⟩
      have hi' : i < len := by simpa using hi
      have e : ((List.range len).map L)[i] = L i := by simp
      rw [e]
      exact (hL i hi').1
    · obtain ⟨i, hi, rfl⟩ := List.mem_map.1 hl
      have hi' : i < len := by simpa using hi
      exact (hL i hi').2 (light_elem Try.underlying22 hW (List.mem_map.2 ⟨i, hi, rfl⟩))
set_option maxRecDepth 10000 in
theorem open_gran {fuel : Nat} {cs : List Value} {x : DataW H × List MemPlace} (h : DataW.trod enc Try.prog w base spare held fuel 52 cs = some x) : ∃ (u : Int) (o : Option Addr) (k d : Nat) (l : List Sp), cs = [.int .i64 u, .slice o k d] ∧ SpAt w o k d l ∧ (-9223372036854775808 ≤ u ∧ u ≤ 9223372036854775807) ∧ (Light 52 x.1 → l.length ≤ 10000000000000) := by
  obtain ⟨xs, n, rfl, rfl, hc, hx, hf⟩ := DataW.trod_struct Try.underlying52 h
  rw [cells52] at hc
  match xs, hx with
  | [x0, x1], _ =>
    have f0 : DataW.trod enc Try.prog w base spare held n 3 ((cs.drop 0).take (Try.prog.cellsOf 3)) = some x0 := hf 0 _ rfl
    have f1 : DataW.trod enc Try.prog w base spare held n 34 ((cs.drop 1).take (Try.prog.cellsOf 34)) = some x1 := hf 1 _ rfl
    rw [cells3] at f0
    rw [cells34] at f1
    obtain ⟨u, e0, _, w0⟩ := DataW.trod_int Try.underlying3 f0
    obtain ⟨o, k, d, l, e1, hs, hb⟩ := open_spans f1
    match cs, hc with
    | [c0, c1], _ =>
      simp at e0 e1
      subst e0
      subst e1
      exact ⟨u, o, k, d, l, rfl, hs, bounds_i64 w0, fun hL => hb (light_part (j := 1) (u := 34) Try.underlying52 hL rfl rfl)⟩
theorem open_odd {fuel : Nat} {cs : List Value} {x : DataW H × List MemPlace} (h : DataW.trod enc Try.prog w base spare held fuel 23 cs = some x) : ∃ ao n c os, cs = [.slice ao n c] ∧ OdAt w ao n c os ∧ (Light 23 x.1 → ∀ o ∈ os, o.2.length ≤ 10000000000000) := by
  rcases Go.Deep.open_slice Try.underlying23 h with ⟨rfl, _⟩ | ⟨a, len, cap, m, n, D, Pl, rfl, hb, hl, hm, hmm, rfl, hi⟩
  · exact ⟨none, 0, 0, [], rfl, ⟨rfl, Nat.le_refl _, by omega, fun _ => ⟨rfl, rfl⟩, fun h => absurd h (Nat.lt_irrefl _)⟩, fun _ l hl => by cases hl⟩
  · have hcap : cap ≤ 9223372036854775807 := by unfold maxLen at hm; omega
    have lm : 0 < len → len ≤ m := fun h0 => by rw [hmm]; split <;> omega
    have each : ∀ t : Nat, ∃ g : Gr, t < len → (w.cell? (a.add (t * 2)) = some (.int .i64 g.1) ∧ (∃ o k d, w.cell? (a.add (t * 2 + 1)) = some (.slice o k d) ∧ SpAt w o k d g.2) ∧ -9223372036854775808 ≤ g.1 ∧ g.1 ≤ 9223372036854775807) ∧ (Light 52 (D t) → g.2.length ≤ 10000000000000) := by
      intro t
      by_cases ht : t < len
      · obtain ⟨cs', hc, ht'⟩ := hi t (by have := lm (by omega); omega)
        rw [cells52] at hc
        obtain ⟨_, _, hat⟩ := World.cells?_some hc
        obtain ⟨u, o, k, d, l, rfl, hs, hr, hb⟩ := open_gran ht'
        have q0 := hat 0 (by decide)
        have q1 := hat 1 (by decide)
        rw [Go.Deep.add_add] at q0 q1
        exact ⟨(u, l), fun _ => ⟨⟨by simpa using q0, ⟨o, k, d, by simpa using q1, hs⟩, hr.1, hr.2⟩, hb⟩⟩
      · exact ⟨(0, []), fun h => absurd h ht⟩
    obtain ⟨L, hL⟩ := Classical.axiomOfChoice each
    refine ⟨some a, len, cap, (List.range len).map L, rfl, ⟨by simp, hl, hcap, (fun e => by cases e), fun h0 => ?_⟩, fun hW l hl => ?_⟩
    · obtain ⟨bl, ol, rfl⟩ : ∃ b p, a = ⟨b, p, none⟩ := spot_none (hL 0 h0).1.1 (by omega)
      simp only [add_off] at hL
      refine ⟨bl, ol, rfl, fun i hi => ?_⟩
      have hi' : i < len := by simpa using hi
      have e : ((List.range len).map L)[i] = L i := by simp
      rw [e]
      have q := (hL i hi').1
      rw [← Nat.add_assoc] at q
      exact q
    · obtain ⟨i, hi, rfl⟩ := List.mem_map.1 hl
      have hi' : i < len := by simpa using hi
      exact (hL i hi').2 (light_elem Try.underlying23 hW (List.mem_map.2 ⟨i, hi, rfl⟩))
set_option maxRecDepth 10000 in
theorem open_form {fuel : Nat} {cs : List Value} {x : DataW H × List MemPlace} (h : DataW.trod enc Try.prog w base spare held fuel 25 cs = some x) (hL : Light 25 x.1) : ∃ F : Fv, cs = F.box.toList ∧ F.At w := by
  obtain ⟨xs, n, rfl, rfl, hc, hx, hf⟩ := DataW.trod_struct Try.underlying25 h
  rw [cells25] at hc
  match xs, hx with
  | [x0, x1, x2, x3], _ =>
    have f0 : DataW.trod enc Try.prog w base spare held n 3 ((cs.drop 0).take (Try.prog.cellsOf 3)) = some x0 := hf 0 _ rfl
    have f1 : DataW.trod enc Try.prog w base spare held n 3 ((cs.drop 1).take (Try.prog.cellsOf 3)) = some x1 := hf 1 _ rfl
    have f2 : DataW.trod enc Try.prog w base spare held n 22 ((cs.drop 2).take (Try.prog.cellsOf 22)) = some x2 := hf 2 _ rfl
    have f3 : DataW.trod enc Try.prog w base spare held n 23 ((cs.drop 3).take (Try.prog.cellsOf 23)) = some x3 := hf 3 _ rfl
    rw [cells3] at f0 f1
    rw [cells22] at f2
    rw [cells23] at f3
    obtain ⟨P, e0, _, w0⟩ := DataW.trod_int Try.underlying3 f0
    obtain ⟨N, e1, _, w1⟩ := DataW.trod_int Try.underlying3 f1
    obtain ⟨co, cn, cc, ls, e2, h2, b2⟩ := open_core f2
    obtain ⟨oo, on, oc, os, e3, h3, b3⟩ := open_odd f3
    match cs, hc with
    | [c0, c1, c2, c3], _ =>
      simp at e0 e1 e2 e3
      subst e0
      subst e1
      subst e2
      subst e3
      exact ⟨⟨P, N, co, cn, cc, oo, on, oc, ls, os⟩, rfl, (bounds_i64 w0).1, (bounds_i64 w0).2, (bounds_i64 w1).1, (bounds_i64 w1).2, h2, h3, b2 (light_part (j := 2) (u := 22) Try.underlying25 hL rfl rfl), b3 (light_part (j := 3) (u := 23) Try.underlying25 hL rfl rfl)⟩
theorem light_arg {ts : List TypeId} {ds : List (DataW H)} (h : (DataW.weightsEach Try.prog ts ds).all (· ≤ reachBytes) = true) {j : Nat} {t : TypeId} {d : DataW H} (ht : ts[j]? = some t) (hd : ds[j]? = some d) : Light t d := by
  intro n hn
  simpa using List.all_eq_true.1 h n (DataW.weights_mem_each ht hd n hn)
end
end Go.Proofs.Ytmjapbjjfhmohaa
