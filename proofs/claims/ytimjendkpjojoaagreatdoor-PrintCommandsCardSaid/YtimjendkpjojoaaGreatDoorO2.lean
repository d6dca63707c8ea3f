/- A command that came in, opened. -/
import Derived.Test.YtimjendkpjojoaaGreatDoorO1
import Derived.Test.YtimjendkpjojoaaGreatDoorB3
namespace Go.Proofs.YtimjendkpjojoaaGreatDoor
set_option linter.unusedVariables false
set_option linter.unusedSimpArgs false
open Go.ChangeShapes Go.WideShapes Go.ChangeAt Go.RowKit
theorem cells40 : Tryz.prog.cellsOf 40 = 4 := by kernel_rfl
theorem cells42 : Tryz.prog.cellsOf 42 = 11 := by kernel_rfl
theorem cells38 : Tryz.prog.cellsOf 38 = 1 := by kernel_rfl
theorem cells4' : Tryz.prog.cellsOf 4 = 1 := by kernel_rfl
section
variable {H : Type} {enc : TypeId × Value → H} {w : World} {base : Nat} {spare : Nat → Bool} {held : Bool}
theorem open_strs {fuel : Nat} {cs : List Value} {x : DataW H × List MemPlace} (h : DataW.trod enc Tryz.prog w base spare held fuel 38 cs = some x) : ∃ ao n c l, cs = [.slice ao n c] ∧ SAt w ao n c l ∧ ∀ s ∈ l, s.size ≤ maxLen := by
  rcases Go.Deep.open_slice1 Tryz.underlying38 cells9 h with ⟨rfl, _⟩ | ⟨a, len, cap, m, n, V, Dd, Pl, rfl, hb, hl, hm, hmm, rfl, hi⟩
  · exact ⟨none, 0, 0, [], rfl, ⟨rfl, Nat.le_refl _, Nat.zero_le _, fun h => absurd h (Nat.lt_irrefl _)⟩, fun s hs => by cases hs⟩
  · have hcap : cap ≤ 9223372036854775807 := by unfold maxLen at hm; omega
    have lm : 0 < len → len ≤ m := fun h0 => by rw [hmm]; split <;> omega
    have each : ∀ t : Nat, ∃ U : ByteArray, t < len → w.cell? (a.add t) = some (.string U) ∧ U.size ≤ maxLen := by
      intro t
      by_cases ht : t < len
      · obtain ⟨e1, e2⟩ := hi t (by have := lm (by omega); omega)
        obtain ⟨u, e3, _, hw⟩ := DataW.trod_string Tryz.underlying9 e2
        have e4 : V t = .string u := by simpa using e3
        rw [e4] at e1
        exact ⟨u, fun _ => ⟨e1, hw⟩⟩
      · exact ⟨⟨#[]⟩, fun h => absurd h ht⟩
    obtain ⟨U, hU⟩ := Classical.axiomOfChoice each
    refine ⟨some a, len, cap, (List.range len).map U, rfl, ⟨by simp, hl, hcap, fun h0 => ?_⟩, fun s hs => ?_⟩
    · obtain ⟨bl, ol, rfl⟩ := spot_none (hU 0 h0).1 rfl
      refine ⟨bl, ol, rfl, fun i hi => ?_⟩
      have hi' : i < len := by simpa using hi
      have e : ((List.range len).map U)[i] = U i := by simp
      rw [e]
      have := (hU i hi').1
      rw [add_off] at this
      exact this
    · obtain ⟨i, hi, rfl⟩ := List.mem_map.1 hs
      exact (hU i (List.mem_range.1 hi)).2
set_option maxRecDepth 20000 in
theorem open_cmd {fuel : Nat} {cs : List Value} {x : DataW H × List MemPlace} (h : DataW.trod enc Tryz.prog w base spare held fuel 42 cs = some x) : ∃ (D : Nat) (cm : Lx.Cm) (g : Cg), cs = [.string g.wb, .slice g.an g.nl g.nc, .slice g.am g.ml g.mc, .int .i64 g.lo, .int .i64 g.hi, .bool g.hl, .bool g.hh, .int .u8 g.z.p.op, .string g.z.p.nm, .slice g.z.an g.z.nn g.z.nc, .slice g.z.aa g.z.p.k g.z.ac] ∧ CG w D cm g ∧ CB cm := by
  obtain ⟨xs, n, rfl, rfl, hc, hx, hf⟩ := DataW.trod_struct Tryz.underlying42 h
  rw [cells42] at hc
  match xs, hx with
  | [x0, x1, x2, x3, x4], _ =>
    have f0 : DataW.trod enc Tryz.prog w base spare held n 9 ((cs.drop 0).take (Tryz.prog.cellsOf 9)) = some x0 := hf 0 _ rfl
    have f1 : DataW.trod enc Tryz.prog w base spare held n 38 ((cs.drop 1).take (Tryz.prog.cellsOf 38)) = some x1 := hf 1 _ rfl
    have f2 : DataW.trod enc Tryz.prog w base spare held n 22 ((cs.drop 2).take (Tryz.prog.cellsOf 22)) = some x2 := hf 2 _ rfl
    have f3 : DataW.trod enc Tryz.prog w base spare held n 40 ((cs.drop 3).take (Tryz.prog.cellsOf 40)) = some x3 := hf 3 _ rfl
    have f4 : DataW.trod enc Tryz.prog w base spare held n 25 ((cs.drop 7).take (Tryz.prog.cellsOf 25)) = some x4 := hf 4 _ rfl
    rw [cells9] at f0
    rw [cells38] at f1
    rw [cells22] at f2
    rw [cells40] at f3
    rw [cells25] at f4
    obtain ⟨wb, e0, _, w0⟩ := DataW.trod_string Tryz.underlying9 f0
    obtain ⟨an, nl, nc, ln, e1, hn, hnb⟩ := open_strs f1
    obtain ⟨am, ml, mc, lm, e2, hm⟩ := open_nums f2
    obtain ⟨ys, n3, q1, q2, hc3, hy, hf3⟩ := DataW.trod_struct Tryz.underlying40 f3
    rw [cells40] at hc3
    obtain ⟨y0, y1, y2, y3, F, e4, hE, _⟩ := open_expr (Rows.uptoBulk x4.1) n _ x4 (Nat.le_refl _) f4
    match ys, hy with
    | [z0, z1, z2, z3], _ =>
      have g0 : DataW.trod enc Tryz.prog w base spare held n3 2 ((((cs.drop 3).take 4).drop 0).take (Tryz.prog.cellsOf 2)) = some z0 := hf3 0 _ rfl
      have g1 : DataW.trod enc Tryz.prog w base spare held n3 2 ((((cs.drop 3).take 4).drop 1).take (Tryz.prog.cellsOf 2)) = some z1 := hf3 1 _ rfl
      have g2 : DataW.trod enc Tryz.prog w base spare held n3 4 ((((cs.drop 3).take 4).drop 2).take (Tryz.prog.cellsOf 4)) = some z2 := hf3 2 _ rfl
      have g3 : DataW.trod enc Tryz.prog w base spare held n3 4 ((((cs.drop 3).take 4).drop 3).take (Tryz.prog.cellsOf 4)) = some z3 := hf3 3 _ rfl
      rw [cells2] at g0 g1
      rw [cells4'] at g2 g3
      obtain ⟨lo, d0, _, v0⟩ := DataW.trod_int Tryz.underlying2 g0
      obtain ⟨hi, d1, _, v1⟩ := DataW.trod_int Tryz.underlying2 g1
      obtain ⟨hl, d2, _⟩ := DataW.trod_bool Tryz.underlying4 g2
      obtain ⟨hh, d3, _⟩ := DataW.trod_bool Tryz.underlying4 g3
      match cs, hc with
      | [c0, c1, c2, c3, c4, c5, c6, c7, c8, c9, c10], _ =>
        simp at e0 e1 e2 e4 d0 d1 d2 d3
        obtain ⟨rfl, rfl, rfl, rfl⟩ := e4
        subst e0 e1 e2 d0 d1 d2 d3
        obtain ⟨tx, rfl⟩ := tour_ex _ _ _ hE
        obtain ⟨p, an', nn', nc', aa', ac', hv, _⟩ := hE.head
        simp at hv
        obtain ⟨rfl, rfl, rfl, rfl⟩ := hv
        refine ⟨_, ⟨wb.data.toList, ln.map (fun s => s.data.toList), lm, ⟨lo, hi, hl, hh⟩, tx⟩, ⟨wb, an, nl, nc, am, ml, mc, lo, hi, hl, hh, ⟨p, an', nn', nc', aa', ac'⟩⟩, rfl, ⟨rfl, ?_, hm, rfl, hE⟩, ⟨?_, ?_, ?_, bounds_i64 v0, bounds_i64 v1⟩⟩
        · have e : (ln.map (fun s => s.data.toList)).map (fun x => (⟨x.toArray⟩ : ByteArray)) = ln := by rw [List.map_map]; exact (List.map_congr_left (fun s _ => rfl)).trans (List.map_id ln)
          rw [e]; exact hn
        · rw [← Lib.size_eq]; exact w0
        · intro s hs
          obtain ⟨u, hu, rfl⟩ := List.mem_map.1 hs
          rw [← Lib.size_eq]; exact hnb u hu
        · intro z hz
          obtain ⟨i, hi, rfl⟩ := List.getElem_of_mem hz
          have hi' : i < lm.length := hi
          obtain ⟨b', q', _, hc'⟩ := hm.here (by have := hm.len; omega)
          exact (hc' i hi').2
end
end Go.Proofs.YtimjendkpjojoaaGreatDoor
