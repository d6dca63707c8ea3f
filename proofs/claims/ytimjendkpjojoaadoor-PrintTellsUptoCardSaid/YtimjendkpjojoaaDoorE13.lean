/- An expression that came in, opened to its cells. -/
import Derived.Test.YtimjendkpjojoaaDoorE11
import Derived.Deep.Slices
import Derived.ChangeArms
import Derived.OpenShut
import Derived.SizedLaws
namespace Go.Proofs.YtimjendkpjojoaaDoor
set_option linter.unusedVariables false
set_option linter.unusedSimpArgs false
open Go.ChangeShapes Go.WideShapes Go.ChangeAt Go.RowKit
open Go.ChangeShapes Go.WideShapes Go.ChangeAt Go.RowKit
theorem cells25 : Tryd.prog.cellsOf 25 = 4 := by kernel_rfl
theorem cells2 : Tryd.prog.cellsOf 2 = 1 := by kernel_rfl
theorem cells5 : Tryd.prog.cellsOf 5 = 1 := by kernel_rfl
theorem cells9 : Tryd.prog.cellsOf 9 = 1 := by kernel_rfl
theorem cells22 : Tryd.prog.cellsOf 22 = 1 := by kernel_rfl
theorem cells23 : Tryd.prog.cellsOf 23 = 1 := by kernel_rfl
theorem bulk_one {H : Type} (d : DataW H) : 1 ≤ Rows.uptoBulk d := by
  cases d with
  | lit l => cases l <;> simp [Rows.uptoBulk]
  | nil => simp [Rows.uptoBulk]
  | ptr d => simp [Rows.uptoBulk]
  | slice elems spare => simp [Rows.uptoBulk]
  | agg parts => simp [Rows.uptoBulk]
  | iface t d => simp [Rows.uptoBulk]
  | map entries => simp [Rows.uptoBulk]
  | held h => simp [Rows.uptoBulk]
theorem bulk_part {H : Type} {d : DataW H} {l : List (DataW H)} (h : d ∈ l) : Rows.uptoBulk d ≤ Rows.uptoBulkAll l := by
  induction l with
  | nil => cases h
  | cons x r ih =>
    simp only [Rows.uptoBulkAll]
    rcases List.mem_cons.1 h with e | e
    · subst e; omega
    · have := ih e; omega
section
variable {H : Type} {enc : TypeId × Value → H} {w : World} {base : Nat} {spare : Nat → Bool} {held : Bool}
theorem spot_none {a : Addr} {k : Nat} {v : Value} (h : w.cell? (a.add k) = some v) (hk : k = 0) : ∃ b p, a = ⟨b, p, none⟩ := by
  subst hk
  obtain ⟨bl, ol, sp⟩ := a
  have := World.cell?_spot h
  have hs : sp = none := by simpa [Addr.add] using this
  exact ⟨bl, ol, by rw [hs]⟩
theorem add_off (b p k : Nat) : (Addr.add ⟨b, p, none⟩ k) = ⟨b, p + k, none⟩ := by
  simp only [Addr.add]; split <;> simp_all
theorem open_nums {fuel : Nat} {cs : List Value} {x : DataW H × List MemPlace} (h : DataW.trod enc Tryd.prog w base spare held fuel 22 cs = some x) : ∃ ao n c l, cs = [.slice ao n c] ∧ NAt w ao n c l := by
  rcases Go.Deep.open_slice1 Tryd.underlying22 cells2 h with ⟨rfl, _⟩ | ⟨a, len, cap, m, n, V, Dd, Pl, rfl, hb, hl, hm, hmm, rfl, hi⟩
  · exact ⟨none, 0, 0, [], rfl, ⟨rfl, Nat.le_refl _, Nat.zero_le _, fun _ => ⟨rfl, rfl⟩, fun h => absurd h (Nat.lt_irrefl _)⟩⟩
  · have hcap : cap ≤ 9223372036854775807 := by unfold maxLen at hm; omega
    have lm : 0 < len → len ≤ m := fun h0 => by rw [hmm]; split <;> omega
    have each : ∀ t : Nat, ∃ U : Int, t < len → w.cell? (a.add t) = some (.int .i64 U) ∧ -9223372036854775808 ≤ U ∧ U ≤ 9223372036854775807 := by
      intro t
      by_cases ht : t < len
      · obtain ⟨e1, e2⟩ := hi t (by have := lm (by omega); omega)
        obtain ⟨u, e3, _, hw⟩ := DataW.trod_int Tryd.underlying2 e2
        have e4 : V t = .int .i64 u := by simpa using e3
        rw [e4] at e1
        exact ⟨u, fun _ => ⟨e1, bounds_i64 hw⟩⟩
      · exact ⟨0, fun h => absurd h ht⟩
    obtain ⟨U, hU⟩ := Classical.axiomOfChoice each
    refine ⟨some a, len, cap, (List.range len).map U, rfl, ⟨by simp, hl, hcap, (fun e => by cases e), fun h0 => ?_⟩⟩
    obtain ⟨bl, ol, rfl⟩ := spot_none (hU 0 h0).1 rfl
    refine ⟨bl, ol, rfl, fun i hi => ?_⟩
    have hi' : i < len := by simpa using hi
    have e : ((List.range len).map U)[i] = U i := by simp
    rw [e]
    have := hU i hi'
    rw [add_off] at this
    exact this
theorem sum_len (D : Nat → DataW H) (G : Nat → Tour) (d : Int) : ∀ len : Nat, (∀ i, i < len → (G i d).length ≤ Rows.uptoBulk (D i)) → (flat ((List.range len).map G) d).length ≤ Rows.uptoBulkAll ((List.range len).map D)
  | 0, _ => Nat.zero_le _
  | k + 1, h => by
    have ih := sum_len D G d k (fun i hi => h i (by omega))
    have app : ∀ (a : List (DataW H)) (b : DataW H), Rows.uptoBulkAll (a ++ [b]) = Rows.uptoBulkAll a + Rows.uptoBulk b := fun a b => by
      induction a with
      | nil => simp [Rows.uptoBulkAll]
      | cons x r ih => simp only [List.cons_append, Rows.uptoBulkAll, ih]; omega
    rw [List.range_succ, List.map_append, List.map_append, List.map_singleton, List.map_singleton, flat_snoc, app, List.length_append]
    have := h k (by omega)
    omega
set_option maxRecDepth 20000 in
theorem open_expr : ∀ (k : Nat) (fuel : Nat) (cs : List Value) (x : DataW H × List MemPlace), Rows.uptoBulk x.1 ≤ k → DataW.trod enc Tryd.prog w base spare held fuel 25 cs = some x → ∃ (x0 x1 x2 x3 : Value) (F : Tour), cs = [x0, x1, x2, x3] ∧ ExAt w k (.agg #[x0, x1, x2, x3]) F ∧ ∀ d, (F d).length ≤ Rows.uptoBulk x.1
  | 0, fuel, cs, x, hk, _ => absurd (bulk_one x.1) (by omega)
  | k + 1, fuel, cs, x, hk, h => by
    obtain ⟨xs, n, rfl, rfl, hc, hx, hf⟩ := DataW.trod_struct Tryd.underlying25 h
    rw [cells25] at hc
    match xs, hx with
    | [x0, x1, x2, x3], _ =>
      have f0 : DataW.trod enc Tryd.prog w base spare held n 5 ((cs.drop 0).take (Tryd.prog.cellsOf 5)) = some x0 := hf 0 _ rfl
      have f1 : DataW.trod enc Tryd.prog w base spare held n 9 ((cs.drop 1).take (Tryd.prog.cellsOf 9)) = some x1 := hf 1 _ rfl
      have f2 : DataW.trod enc Tryd.prog w base spare held n 22 ((cs.drop 2).take (Tryd.prog.cellsOf 22)) = some x2 := hf 2 _ rfl
      have f3 : DataW.trod enc Tryd.prog w base spare held n 23 ((cs.drop 3).take (Tryd.prog.cellsOf 23)) = some x3 := hf 3 _ rfl
      rw [cells5] at f0
      rw [cells9] at f1
      rw [cells22] at f2
      rw [cells23] at f3
      obtain ⟨o, e0, _, w0⟩ := DataW.trod_int Tryd.underlying5 f0
      obtain ⟨s, e1, _, w1⟩ := DataW.trod_string Tryd.underlying9 f1
      obtain ⟨an, nn, nc, nums, e2, hn⟩ := open_nums f2
      have ob := bounds_u8 w0
      have hb3 : Rows.uptoBulk x3.1 + 2 ≤ Rows.uptoBulk (DataW.agg [x0.1, x1.1, x2.1, x3.1]) := by
        have a := bulk_one x0.1
        have b := bulk_one x1.1
        simp only [Rows.uptoBulk, Rows.uptoBulkAll]
        omega
      have hk' : Rows.uptoBulk (DataW.agg [x0.1, x1.1, x2.1, x3.1]) ≤ k + 1 := hk
      match cs, hc with
      | [c0, c1, c2, c3], _ =>
        simp at e0 e1 e2
        subst e0 e1 e2
        rcases Go.Deep.open_slice Tryd.underlying23 f3 with ⟨e3, _⟩ | ⟨a, len, cap, m, n3, Dd, Pl, e3, hb, hl, hm, hmm, hxx, hi⟩
        · have e3 : c3 = .slice none 0 0 := by simpa using e3
          subst e3
          refine ⟨_, _, _, _, fun d => ((⟨o, s, nums, 0⟩ : Pt), d) :: flat [] (d + 1), rfl, ⟨⟨o, s, nums, 0⟩, an, nn, nc, none, 0, [], rfl, ⟨ob.1, ob.2, w1, hn, Nat.le_refl _, Nat.zero_le _, fun _ => ⟨rfl, rfl⟩⟩, rfl, rfl, fun h => absurd h (Nat.lt_irrefl _)⟩, fun d => ?_⟩
          show 1 ≤ _
          exact bulk_one _
        · have e3 : c3 = .slice (some a) len cap := by simpa using e3
          subst e3
          have lm : 0 < len → len ≤ m := fun h0 => by rw [hmm]; split <;> omega
          have hbs : Rows.uptoBulkAll ((List.range len).map Dd) + 1 ≤ Rows.uptoBulk x3.1 := by
            rw [hxx]; simp only [Rows.uptoBulk]; omega
          have each : ∀ t : Nat, ∃ (c : Value × Value × Value × Value) (G : Tour), t < len → w.cell? (a.add (t * 4)) = some c.1 ∧ w.cell? (a.add (t * 4 + 1)) = some c.2.1 ∧ w.cell? (a.add (t * 4 + 2)) = some c.2.2.1 ∧ w.cell? (a.add (t * 4 + 3)) = some c.2.2.2 ∧ ExAt w k (.agg #[c.1, c.2.1, c.2.2.1, c.2.2.2]) G ∧ ∀ d, (G d).length ≤ Rows.uptoBulk (Dd t) := by
            intro t
            by_cases ht : t < len
            · obtain ⟨cs', hc', ht'⟩ := hi t (by have := lm (by omega); omega)
              rw [cells25] at hc'
              obtain ⟨_, _, hat⟩ := World.cells?_some hc'
              have hle : Rows.uptoBulk (Dd t) ≤ k := by
                have := bulk_part (List.mem_map.2 ⟨t, List.mem_range.2 ht, rfl⟩ : Dd t ∈ (List.range len).map Dd)
                omega
              obtain ⟨y0, y1, y2, y3, G, rfl, hG, hGl⟩ := open_expr k n3 cs' (Dd t, Pl t) hle ht'
              refine ⟨⟨y0, y1, y2, y3⟩, G, fun _ => ⟨?_, ?_, ?_, ?_, hG, hGl⟩⟩
              · have := hat 0 (by simp); rw [Go.Deep.add_add] at this; exact this
              · have := hat 1 (by simp); rw [Go.Deep.add_add] at this; exact this
              · have := hat 2 (by simp); rw [Go.Deep.add_add] at this; exact this
              · have := hat 3 (by simp); rw [Go.Deep.add_add] at this; exact this
            · exact ⟨⟨.bool true, .bool true, .bool true, .bool true⟩, fun _ => [], fun h => absurd h ht⟩
          obtain ⟨C, hC⟩ := Classical.axiomOfChoice each
          obtain ⟨G, hG⟩ := Classical.axiomOfChoice hC
          refine ⟨_, _, _, _, fun d => ((⟨o, s, nums, len⟩ : Pt), d) :: flat ((List.range len).map G) (d + 1), rfl, ⟨⟨o, s, nums, len⟩, an, nn, nc, some a, cap, (List.range len).map G, rfl, ⟨ob.1, ob.2, w1, hn, hl, by unfold maxLen at hm; omega, fun e => by cases e⟩, by simp, rfl, fun h0 => ?_⟩, fun d => ?_⟩
          · have h0 : 0 < len := h0
            obtain ⟨bl, ol, rfl⟩ := spot_none (hG 0 h0).1 (by omega)
            simp only [add_off] at hG
            refine ⟨bl, ol, rfl, fun i hi => ?_⟩
            have hi' : i < len := by simpa using hi
            have e : ((List.range len).map G)[i] = G i := by simp
            rw [e]
            obtain ⟨g0, g1, g2, g3, g4, _⟩ := hG i hi'
            exact ⟨_, _, _, _, g0, by rwa [← Nat.add_assoc] at g1, by rwa [← Nat.add_assoc] at g2, by rwa [← Nat.add_assoc] at g3, g4⟩
          · have := sum_len Dd G (d + 1) len (fun i hi => (hG i hi).2.2.2.2.2 (d + 1))
            show (flat ((List.range len).map G) (d + 1)).length + 1 ≤ Rows.uptoBulk (DataW.agg [x0.1, x1.1, x2.1, x3.1])
            omega
end
end Go.Proofs.YtimjendkpjojoaaDoor
