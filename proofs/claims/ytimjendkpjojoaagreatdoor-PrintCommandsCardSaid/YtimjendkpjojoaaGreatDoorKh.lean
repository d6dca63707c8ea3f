/- E9, E10, E11, E13 in one. -/
import Derived.Test.YtimjendkpjojoaaGreatDoorKg
import Derived.Laws.AppendOwnNone
import Derived.Deep.Slices
import Derived.ChangeArms
import Derived.OpenShut
import Derived.SizedLaws
namespace Go.Proofs.YtimjendkpjojoaaGreatDoor
set_option linter.unusedVariables false
set_option linter.unusedSimpArgs false
open Go.ChangeShapes Go.WideShapes Go.ChangeAt Go.RowKit
/-- A list of texts in memory. -/
structure StAt (w : World) (ao : Option Addr) (n c : Nat) (l : List ByteArray) : Prop where
  len : l.length = n
  le : n ≤ c
  top : c ≤ 9223372036854775807
  bare : ao = none → n = 0
  here : 0 < n → ∃ b, ao = some ⟨b, 0, none⟩ ∧ ∀ i (h : i < l.length), w.cell? ⟨b, i, none⟩ = some (.string l[i])
theorem StAt.keep {w w' : World} {ao : Option Addr} {n c : Nat} {l : List ByteArray} (h : StAt w ao n c l) (k : Below w.heap.size w w') : StAt w' ao n c l :=
  ⟨h.len, h.le, h.top, h.bare, fun h0 => by
    obtain ⟨b, e, hc⟩ := h.here h0
    exact ⟨b, e, fun i hi => cell_keep (hc i hi) k⟩⟩
theorem own_st {w : World} {B : Nat} {v : Value} {l : List ByteArray} (h : w.ownsRow B 9 1 v l.length (l.map Value.string)) : ∃ ao c, v = .slice ao l.length c ∧ StAt w ao l.length c l := by
  rcases h.2 with ⟨rfl, h0⟩ | ⟨g, cap, cur, rfl, _, hg, h1, h2, h3, h4⟩
  · rw [h0]
    exact ⟨none, 0, rfl, ⟨h0, Nat.le_refl _, Nat.zero_le _, fun _ => rfl, fun h => absurd h (Nat.lt_irrefl _)⟩⟩
  · refine ⟨some ⟨g, 0, none⟩, cap, rfl, ⟨rfl, h1, by unfold maxLen at h2; omega, (fun e => by cases e), fun h0 => ⟨g, rfl, fun i hi => ?_⟩⟩⟩
    rw [cell_blk hg]
    have e : cur[i]? = (cur.toList.take (l.length * 1))[i]? := by
      rw [List.getElem?_take_of_lt (by omega)]; simp
    rw [e, h4]
    simp [hi]
set_option maxHeartbeats 1000000 in
theorem made_any (o : Int) (nu ar : Value) (w : World) (an aa : Option Addr) (nn nc na ac : Nat) (h1 : nu = .slice an nn nc) (h2 : ar = .slice aa na ac) :
    Calls Tryz.prog 18 #[.int .u8 o, nu, ar] w fun e w' => e = .returned (.agg #[.int .u8 o, .string ⟨#[]⟩, nu, ar]) ∧ Below w.heap.size w w' := by
  subst h1 h2
  go_enter Tryz.func18, Tryz.ntmps18
  go_wp2
  obtain ⟨b, hb⟩ : ∃ z, w.heap.size = z := ⟨_, rfl⟩
  obtain ⟨w1, hw1⟩ : ∃ z, w.alloc (.cells #[.int .u8 o, .string ⟨#[]⟩, .slice an nn nc, .slice aa na ac] 25) = z := ⟨_, rfl⟩
  have KA : Below w.heap.size w w1 := by rw [← hw1]; exact (Below.refl _ w).alloc (Nat.le_refl _) _
  have HX : w1.heap[b]? = some (.cells #[.int .u8 o, .string ⟨#[]⟩, .slice an nn nc, .slice aa na ac] 25 (0, 0)) := by rw [← hw1, ← hb, al_new]
  have r0 := cell_blk HX 0
  have r1 := cell_blk HX 1
  have r2 := cell_blk HX 2
  have r3 := cell_blk HX 3
  rw [hw1, hb]
  exact bodyPost_ret (v := .agg #[.int .u8 o, .string ⟨#[]⟩, .slice an nn nc, .slice aa na ac]) (by simp [results, Tryz.results18, go_sem, r0, r1, r2, r3]) rfl ⟨rfl, hb ▸ KA⟩
set_option maxHeartbeats 1000000 in
theorem named_any (s : ByteArray) (w : World) :
    Calls Tryz.prog 19 #[.string s] w fun e w' => e = .returned (.agg #[.int .u8 0, .string s, .slice none 0 0, .slice none 0 0]) ∧ Below w.heap.size w w' := by
  go_enter Tryz.func19, Tryz.ntmps19
  go_wp2
  obtain ⟨b, hb⟩ : ∃ z, w.heap.size = z := ⟨_, rfl⟩
  obtain ⟨w1, hw1⟩ : ∃ z, w.alloc (.cells #[.int .u8 0, .string s, .slice none 0 0, .slice none 0 0] 25) = z := ⟨_, rfl⟩
  have KA : Below w.heap.size w w1 := by rw [← hw1]; exact (Below.refl _ w).alloc (Nat.le_refl _) _
  have HX : w1.heap[b]? = some (.cells #[.int .u8 0, .string s, .slice none 0 0, .slice none 0 0] 25 (0, 0)) := by rw [← hw1, ← hb, al_new]
  have r0 := cell_blk HX 0
  have r1 := cell_blk HX 1
  have r2 := cell_blk HX 2
  have r3 := cell_blk HX 3
  rw [hw1, hb]
  exact bodyPost_ret (v := .agg #[.int .u8 0, .string s, .slice none 0 0, .slice none 0 0]) (by simp [results, Tryz.results19, go_sem, r0, r1, r2, r3]) rfl ⟨rfl, hb ▸ KA⟩
/-- A part without numbers of its own. -/
def pt0 (o : Int) (s : ByteArray) (nums : List Int) (k : Nat) : Pt := ⟨o, s, nums, k⟩
theorem nat_nil (w : World) : NAt w none 0 0 [] := ⟨rfl, Nat.le_refl _, Nat.zero_le _, fun _ => ⟨rfl, rfl⟩, fun h => absurd h (Nat.lt_irrefl _)⟩
/-- A name. -/
theorem ex_name (w : World) (o : Int) (s : ByteArray) (h0 : 0 ≤ o) (h1 : o ≤ 255) (hs : s.size ≤ maxLen) : ExAt w 1 (.agg #[.int .u8 o, .string s, .slice none 0 0, .slice none 0 0]) (fun d => [(pt0 o s [] 0, d)]) :=
  ⟨pt0 o s [] 0, none, 0, 0, none, 0, [], rfl, ⟨h0, h1, hs, nat_nil w, Nat.le_refl _, Nat.zero_le _, fun _ => ⟨rfl, rfl⟩⟩, rfl, rfl, fun h => absurd h (Nat.lt_irrefl _)⟩
/-- An operator over one. -/
theorem ex_one {w : World} {n : Nat} {o : Int} {an : Option Addr} {nn nc : Nat} {nums : List Int} (h0 : 0 ≤ o) (h1 : o ≤ 255) (hn : NAt w an nn nc nums) {b : Nat} {x0 x1 x2 x3 : Value} {F : Tour} (hb : w.heap[b]? = some (.cells #[x0, x1, x2, x3] 25 (0, 0))) (hx : ExAt w n (.agg #[x0, x1, x2, x3]) F) :
    ExAt w (n + 1) (.agg #[.int .u8 o, .string ⟨#[]⟩, .slice an nn nc, .slice (some ⟨b, 0, none⟩) 1 1]) (fun d => (pt0 o ⟨#[]⟩ nums 1, d) :: F (d + 1)) := by
  refine ⟨pt0 o ⟨#[]⟩ nums 1, an, nn, nc, some ⟨b, 0, none⟩, 1, [F], rfl, ⟨h0, h1, Nat.zero_le _, hn, Nat.le_refl _, by omega, fun e => by cases e⟩, rfl, funext fun d => by simp [flat], fun _ => ⟨b, 0, rfl, fun i hi => ?_⟩⟩
  have : i = 0 := by simp at hi; omega
  subst this
  exact ⟨x0, x1, x2, x3, cell_blk hb 0, cell_blk hb 1, cell_blk hb 2, cell_blk hb 3, hx⟩
/-- An operator over two. -/
theorem ex_two {w : World} {n : Nat} {o : Int} {an : Option Addr} {nn nc : Nat} {nums : List Int} (h0 : 0 ≤ o) (h1 : o ≤ 255) (hn : NAt w an nn nc nums) {b : Nat} {x0 x1 x2 x3 y0 y1 y2 y3 : Value} {F G : Tour} (hb : w.heap[b]? = some (.cells #[x0, x1, x2, x3, y0, y1, y2, y3] 25 (0, 0))) (hx : ExAt w n (.agg #[x0, x1, x2, x3]) F) (hy : ExAt w n (.agg #[y0, y1, y2, y3]) G) :
    ExAt w (n + 1) (.agg #[.int .u8 o, .string ⟨#[]⟩, .slice an nn nc, .slice (some ⟨b, 0, none⟩) 2 2]) (fun d => (pt0 o ⟨#[]⟩ nums 2, d) :: (F (d + 1) ++ G (d + 1))) := by
  refine ⟨pt0 o ⟨#[]⟩ nums 2, an, nn, nc, some ⟨b, 0, none⟩, 2, [F, G], rfl, ⟨h0, h1, Nat.zero_le _, hn, Nat.le_refl _, by omega, fun e => by cases e⟩, rfl, funext fun d => by simp [flat], fun _ => ⟨b, 0, rfl, fun i hi => ?_⟩⟩
  have : i = 0 ∨ i = 1 := by simp at hi; omega
  rcases this with rfl | rfl
  · exact ⟨x0, x1, x2, x3, cell_blk hb 0, cell_blk hb 1, cell_blk hb 2, cell_blk hb 3, hx⟩
  · exact ⟨y0, y1, y2, y3, cell_blk hb 4, cell_blk hb 5, cell_blk hb 6, cell_blk hb 7, hy⟩
theorem day_right : RName ⟨#[100, 97, 121]⟩ := by
  refine ⟨by decide, by decide, by decide, fun i hi => ?_⟩
  have : i = 0 ∨ i = 1 ∨ i = 2 := by have : i < 3 := hi; omega
  rcases this with rfl | rfl | rfl
  · exact .inr (.inr (.inl ⟨by show (97 : Int) ≤ ((100 : UInt8).toNat : Int); decide, by show ((100 : UInt8).toNat : Int) ≤ 122; decide⟩))
  · exact .inr (.inr (.inl ⟨by show (97 : Int) ≤ ((97 : UInt8).toNat : Int); decide, by show ((97 : UInt8).toNat : Int) ≤ 122; decide⟩))
  · exact .inr (.inr (.inl ⟨by show (97 : Int) ≤ ((121 : UInt8).toNat : Int); decide, by show ((121 : UInt8).toNat : Int) ≤ 122; decide⟩))
theorem day_ne : ¬ (⟨#[100, 97, 121]⟩ : ByteArray) = ⟨#[]⟩ := by decide
/-- The parts do not hang on the depth at which they are told. -/
theorem ex_parts {w : World} : ∀ {n : Nat} {v : Value} {F : Tour}, ExAt w n v F → ∀ d e, (F d).map (fun x => x.1) = (F e).map (fun x => x.1)
  | 0, _, _, h => h.elim
  | n + 1, v, F, h => by
    obtain ⟨p, an, nn, nc, aa, ac, Fs, _, _, hl, rfl, hc⟩ := h
    intro d e
    have key : ∀ G ∈ Fs, ∀ d e, (G d).map (fun x => x.1) = (G e).map (fun x => x.1) := fun G hG => by
      obtain ⟨i, hi, rfl⟩ := List.getElem_of_mem hG
      obtain ⟨b, q, _, hx⟩ := hc (by omega)
      obtain ⟨x0, x1, x2, x3, _, _, _, _, hr⟩ := hx i hi
      exact ex_parts hr
    show p :: (flat Fs (d + 1)).map (fun x => x.1) = p :: (flat Fs (e + 1)).map (fun x => x.1)
    congr 1
    unfold flat
    rw [List.map_flatten, List.map_flatten, List.map_map, List.map_map]
    congr 1
    exact List.map_congr_left fun G hG => key G hG (d + 1) (e + 1)
theorem ex_len {w : World} {n : Nat} {v : Value} {F : Tour} (h : ExAt w n v F) (d e : Int) : (F d).length = (F e).length := by
  have := congrArg List.length (ex_parts h d e)
  simpa using this
/-- Somewhere there is a leaf. -/
theorem ex_leaf {w : World} : ∀ {n : Nat} {v : Value} {F : Tour}, ExAt w n v F → ∀ d, ∃ x ∈ F d, x.1.k = 0
  | 0, _, _, h => h.elim
  | n + 1, v, F, h => by
    obtain ⟨p, an, nn, nc, aa, ac, Fs, _, _, hl, rfl, hc⟩ := h
    intro d
    by_cases hk : p.k = 0
    · exact ⟨(p, d), List.mem_cons_self .., hk⟩
    · obtain ⟨b, q, _, hx⟩ := hc (by omega)
      obtain ⟨x0, x1, x2, x3, _, _, _, _, hr⟩ := hx 0 (by omega)
      obtain ⟨y, hy, hy0⟩ := ex_leaf hr (d + 1)
      refine ⟨y, List.mem_cons_of_mem _ ?_, hy0⟩
      unfold flat
      exact List.mem_flatten.2 ⟨_, List.mem_map.2 ⟨Fs[0]'(by omega), List.getElem_mem _, rfl⟩, hy⟩
theorem fit_leaf {p : Pt} (h : FitP p) (h0 : 0 ≤ p.op) (hk : p.k = 0) : p.op = 0 ∧ RName p.nm := by
  have a := h.args
  rw [hk] at a
  have o := h.op
  have b := (aN_bd p.op.toNat (by omega)).2.2 a.symm
  have e : p.op = 0 := by omega
  have n := h.name
  rw [if_pos e] at n
  exact ⟨e, n⟩
/-- All parts lie as parts do. -/
theorem ex_heads {w : World} : ∀ {n : Nat} {v : Value} {F : Tour}, ExAt w n v F → ∀ d, ∀ x ∈ F d, 0 ≤ x.1.op ∧ x.1.nm.size ≤ maxLen
  | 0, _, _, h => h.elim
  | n + 1, v, F, h => by
    obtain ⟨p, an, nn, nc, aa, ac, Fs, _, hh, hl, rfl, hc⟩ := h
    intro d x hx
    rcases List.mem_cons.1 hx with rfl | hx
    · exact ⟨hh.o1, hh.nmle⟩
    · unfold flat at hx
      obtain ⟨l, hl2, hx⟩ := List.mem_flatten.1 hx
      obtain ⟨G, hG, rfl⟩ := List.mem_map.1 hl2
      obtain ⟨i, hi, rfl⟩ := List.getElem_of_mem hG
      obtain ⟨b, q, _, hx2⟩ := hc (by omega)
      obtain ⟨x0, x1, x2, x3, _, _, _, _, hr⟩ := hx2 i hi
      exact ex_heads hr (d + 1) x hx
theorem cells25 : Tryz.prog.cellsOf 25 = 4 := by kernel_rfl
theorem cells2 : Tryz.prog.cellsOf 2 = 1 := by kernel_rfl
theorem cells5 : Tryz.prog.cellsOf 5 = 1 := by kernel_rfl
theorem cells9 : Tryz.prog.cellsOf 9 = 1 := by kernel_rfl
theorem cells22 : Tryz.prog.cellsOf 22 = 1 := by kernel_rfl
theorem cells23 : Tryz.prog.cellsOf 23 = 1 := by kernel_rfl
theorem bulk_one {H : Type} (d : DataW H) : 1 ≤ Rows.uptoBulk d := by
  cases d with
  | lit l => cases l <;> simp [Rows.uptoBulk]
  | nil => simp [Rows.uptoBulk]
  | ptr d => simp [Rows.uptoBulk]
  | slice elems spare => simp [Rows.uptoBulk]
  | agg parts => simp [Rows.uptoBulk]
  | iface t d => simp [Rows.uptoBulk]
  | map entries => simp [Rows.uptoBulk]
  | held h => simp [Rows.uptoBulk]
theorem bulk_part {H : Type} {d : DataW H} {l : List (DataW H)} (h : d ∈ l) : Rows.uptoBulk d ≤ Rows.uptoBulkAll l := by
  induction l with
  | nil => cases h
  | cons x r ih =>
    simp only [Rows.uptoBulkAll]
    rcases List.mem_cons.1 h with e | e
    · subst e; omega
    · have := ih e; omega
section
variable {H : Type} {enc : TypeId × Value → H} {w : World} {base : Nat} {spare : Nat → Bool} {held : Bool}
theorem spot_none {a : Addr} {k : Nat} {v : Value} (h : w.cell? (a.add k) = some v) (hk : k = 0) : ∃ b p, a = ⟨b, p, none⟩ := by
  subst hk
  obtain ⟨bl, ol, sp⟩ := a
  have := World.cell?_spot h
  have hs : sp = none := by simpa [Addr.add] using this
  exact ⟨bl, ol, by rw [hs]⟩
theorem add_off (b p k : Nat) : (Addr.add ⟨b, p, none⟩ k) = ⟨b, p + k, none⟩ := by
  simp only [Addr.add]; split <;> simp_all
theorem open_nums {fuel : Nat} {cs : List Value} {x : DataW H × List MemPlace} (h : DataW.trod enc Tryz.prog w base spare held fuel 22 cs = some x) : ∃ ao n c l, cs = [.slice ao n c] ∧ NAt w ao n c l := by
  rcases Go.Deep.open_slice1 Tryz.underlying22 cells2 h with ⟨rfl, _⟩ | ⟨a, len, cap, m, n, V, Dd, Pl, rfl, hb, hl, hm, hmm, rfl, hi⟩
  · exact ⟨none, 0, 0, [], rfl, ⟨rfl, Nat.le_refl _, Nat.zero_le _, fun _ => ⟨rfl, rfl⟩, fun h => absurd h (Nat.lt_irrefl _)⟩⟩
  · have hcap : cap ≤ 9223372036854775807 := by unfold maxLen at hm; omega
    have lm : 0 < len → len ≤ m := fun h0 => by rw [hmm]; split <;> omega
    have each : ∀ t : Nat, ∃ U : Int, t < len → w.cell? (a.add t) = some (.int .i64 U) ∧ -9223372036854775808 ≤ U ∧ U ≤ 9223372036854775807 := by
      intro t
      by_cases ht : t < len
      · obtain ⟨e1, e2⟩ := hi t (by have := lm (by omega); omega)
        obtain ⟨u, e3, _, hw⟩ := DataW.trod_int Tryz.underlying2 e2
        have e4 : V t = .int .i64 u := by simpa using e3
        rw [e4] at e1
        exact ⟨u, fun _ => ⟨e1, bounds_i64 hw⟩⟩
      · exact ⟨0, fun h => absurd h ht⟩
    obtain ⟨U, hU⟩ := Classical.axiomOfChoice each
    refine ⟨some a, len, cap, (List.range len).map U, rfl, ⟨by simp, hl, hcap, (fun e => by cases e), fun h0 => ?_⟩⟩
    obtain ⟨bl, ol, rfl⟩ := spot_none (hU 0 h0).1 rfl
    refine ⟨bl, ol, rfl, fun i hi => ?_⟩
    have hi' : i < len := by simpa using hi
    have e : ((List.range len).map U)[i] = U i := by simp
    rw [e]
    have := hU i hi'
    rw [add_off] at this
    exact this
theorem sum_len (D : Nat → DataW H) (G : Nat → Tour) (d : Int) : ∀ len : Nat, (∀ i, i < len → (G i d).length ≤ Rows.uptoBulk (D i)) → (flat ((List.range len).map G) d).length ≤ Rows.uptoBulkAll ((List.range len).map D)
  | 0, _ => Nat.zero_le _
  | k + 1, h => by
    have ih := sum_len D G d k (fun i hi => h i (by omega))
    have app : ∀ (a : List (DataW H)) (b : DataW H), Rows.uptoBulkAll (a ++ [b]) = Rows.uptoBulkAll a + Rows.uptoBulk b := fun a b => by
      induction a with
      | nil => simp [Rows.uptoBulkAll]
      | cons x r ih => simp only [List.cons_append, Rows.uptoBulkAll, ih]; omega
    rw [List.range_succ, List.map_append, List.map_append, List.map_singleton, List.map_singleton, flat_snoc, app, List.length_append]
    have := h k (by omega)
    omega
set_option maxRecDepth 20000 in
theorem open_expr : ∀ (k : Nat) (fuel : Nat) (cs : List Value) (x : DataW H × List MemPlace), Rows.uptoBulk x.1 ≤ k → DataW.trod enc Tryz.prog w base spare held fuel 25 cs = some x → ∃ (x0 x1 x2 x3 : Value) (F : Tour), cs = [x0, x1, x2, x3] ∧ ExAt w k (.agg #[x0, x1, x2, x3]) F ∧ ∀ d, (F d).length ≤ Rows.uptoBulk x.1
  | 0, fuel, cs, x, hk, _ => absurd (bulk_one x.1) (by omega)
  | k + 1, fuel, cs, x, hk, h => by
    obtain ⟨xs, n, rfl, rfl, hc, hx, hf⟩ := DataW.trod_struct Tryz.underlying25 h
    rw [cells25] at hc
    match xs, hx with
    | [x0, x1, x2, x3], _ =>
      have f0 : DataW.trod enc Tryz.prog w base spare held n 5 ((cs.drop 0).take (Tryz.prog.cellsOf 5)) = some x0 := hf 0 _ rfl
      have f1 : DataW.trod enc Tryz.prog w base spare held n 9 ((cs.drop 1).take (Tryz.prog.cellsOf 9)) = some x1 := hf 1 _ rfl
      have f2 : DataW.trod enc Tryz.prog w base spare held n 22 ((cs.drop 2).take (Tryz.prog.cellsOf 22)) = some x2 := hf 2 _ rfl
      have f3 : DataW.trod enc Tryz.prog w base spare held n 23 ((cs.drop 3).take (Tryz.prog.cellsOf 23)) = some x3 := hf 3 _ rfl
      rw [cells5] at f0
      rw [cells9] at f1
      rw [cells22] at f2
      rw [cells23] at f3
      obtain ⟨o, e0, _, w0⟩ := DataW.trod_int Tryz.underlying5 f0
      obtain ⟨s, e1, _, w1⟩ := DataW.trod_string Tryz.underlying9 f1
      obtain ⟨an, nn, nc, nums, e2, hn⟩ := open_nums f2
      have ob := bounds_u8 w0
      have hb3 : Rows.uptoBulk x3.1 + 2 ≤ Rows.uptoBulk (DataW.agg [x0.1, x1.1, x2.1, x3.1]) := by
        have a := bulk_one x0.1
        have b := bulk_one x1.1
        simp only [Rows.uptoBulk, Rows.uptoBulkAll]
        omega
      have hk' : Rows.uptoBulk (DataW.agg [x0.1, x1.1, x2.1, x3.1]) ≤ k + 1 := hk
      match cs, hc with
      | [c0, c1, c2, c3], _ =>
        simp at e0 e1 e2
        subst e0 e1 e2
        rcases Go.Deep.open_slice Tryz.underlying23 f3 with ⟨e3, _⟩ | ⟨a, len, cap, m, n3, Dd, Pl, e3, hb, hl, hm, hmm, hxx, hi⟩
        · have e3 : c3 = .slice none 0 0 := by simpa using e3
          subst e3
          refine ⟨_, _, _, _, fun d => ((⟨o, s, nums, 0⟩ : Pt), d) :: flat [] (d + 1), rfl, ⟨⟨o, s, nums, 0⟩, an, nn, nc, none, 0, [], rfl, ⟨ob.1, ob.2, w1, hn, Nat.le_refl _, Nat.zero_le _, fun _ => ⟨rfl, rfl⟩⟩, rfl, rfl, fun h => absurd h (Nat.lt_irrefl _)⟩, fun d => ?_⟩
          show 1 ≤ _
          exact bulk_one _
        · have e3 : c3 = .slice (some a) len cap := by simpa using e3
          subst e3
          have lm : 0 < len → len ≤ m := fun h0 => by rw [hmm]; split <;> omega
          have hbs : Rows.uptoBulkAll ((List.range len).map Dd) + 1 ≤ Rows.uptoBulk x3.1 := by
            rw [hxx]; simp only [Rows.uptoBulk]; omega
          have each : ∀ t : Nat, ∃ (c : Value × Value × Value × Value) (G : Tour), t < len → w.cell? (a.add (t * 4)) = some c.1 ∧ w.cell? (a.add (t * 4 + 1)) = some c.2.1 ∧ w.cell? (a.add (t * 4 + 2)) = some c.2.2.1 ∧ w.cell? (a.add (t * 4 + 3)) = some c.2.2.2 ∧ ExAt w k (.agg #[c.1, c.2.1, c.2.2.1, c.2.2.2]) G ∧ ∀ d, (G d).length ≤ Rows.uptoBulk (Dd t) := by
            intro t
            by_cases ht : t < len
            · obtain ⟨cs', hc', ht'⟩ := hi t (by have := lm (by omega); omega)
              rw [cells25] at hc'
              obtain ⟨_, _, hat⟩ := World.cells?_some hc'
              have hle : Rows.uptoBulk (Dd t) ≤ k := by
                have := bulk_part (List.mem_map.2 ⟨t, List.mem_range.2 ht, rfl⟩ : Dd t ∈ (List.range len).map Dd)
                omega
              obtain ⟨y0, y1, y2, y3, G, rfl, hG, hGl⟩ := open_expr k n3 cs' (Dd t, Pl t) hle ht'
              refine ⟨⟨y0, y1, y2, y3⟩, G, fun _ => ⟨?_, ?_, ?_, ?_, hG, hGl⟩⟩
              · have := hat 0 (by simp); rw [Go.Deep.add_add] at this; exact this
              · have := hat 1 (by simp); rw [Go.Deep.add_add] at this; exact this
              · have := hat 2 (by simp); rw [Go.Deep.add_add] at this; exact this
              · have := hat 3 (by simp); rw [Go.Deep.add_add] at this; exact this
            · exact ⟨⟨.bool true, .bool true, .bool true, .bool true⟩, fun _ => [], fun h => absurd h ht⟩
          obtain ⟨C, hC⟩ := Classical.axiomOfChoice each
          obtain ⟨G, hG⟩ := Classical.axiomOfChoice hC
          refine ⟨_, _, _, _, fun d => ((⟨o, s, nums, len⟩ : Pt), d) :: flat ((List.range len).map G) (d + 1), rfl, ⟨⟨o, s, nums, len⟩, an, nn, nc, some a, cap, (List.range len).map G, rfl, ⟨ob.1, ob.2, w1, hn, hl, by unfold maxLen at hm; omega, fun e => by cases e⟩, by simp, rfl, fun h0 => ?_⟩, fun d => ?_⟩
          · have h0 : 0 < len := h0
            obtain ⟨bl, ol, rfl⟩ := spot_none (hG 0 h0).1 (by omega)
            simp only [add_off] at hG
            refine ⟨bl, ol, rfl, fun i hi => ?_⟩
            have hi' : i < len := by simpa using hi
            have e : ((List.range len).map G)[i] = G i := by simp
            rw [e]
            obtain ⟨g0, g1, g2, g3, g4, _⟩ := hG i hi'
            exact ⟨_, _, _, _, g0, by rwa [← Nat.add_assoc] at g1, by rwa [← Nat.add_assoc] at g2, by rwa [← Nat.add_assoc] at g3, g4⟩
          · have := sum_len Dd G (d + 1) len (fun i hi => (hG i hi).2.2.2.2.2 (d + 1))
            show (flat ((List.range len).map G) (d + 1)).length + 1 ≤ Rows.uptoBulk (DataW.agg [x0.1, x1.1, x2.1, x3.1])
            omega
end
end Go.Proofs.YtimjendkpjojoaaGreatDoor
